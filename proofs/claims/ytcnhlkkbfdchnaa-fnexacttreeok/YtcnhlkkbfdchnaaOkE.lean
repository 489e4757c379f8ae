/- Contracts for trees that are ok: the signs between two; the table of kinds. -/
import Derived.Test.YtcnhlkkbfdchnaaMp
import Derived.Test.YtcnhlkkbfdchnaaOm
import Derived.Test.YtcnhlkkbfdchnaaOkA
namespace Go.Proofs.Ytcnhlkkbfdchnaa
open Go.RowKit
/-- the signs, with how much they bind -/
def binds : List (List UInt8 × Int) := [([124, 124], 1), ([38, 38], 2), ([61, 61], 3), ([33, 61], 3), ([60], 4), ([60, 61], 4), ([62], 4), ([62, 61], 4), ([43], 5), ([45], 5), ([42], 6), ([47], 6), ([37], 6)]
def bindsB : List (ByteArray × Int) := binds.map fun p => (⟨p.1.toArray⟩, p.2)
theorem binds_pos {s : ByteArray} : ∀ {L : List (List UInt8 × Int)}, (∀ p ∈ L, 0 < p.2) → decide (0 < seekV s (L.map fun p => (⟨p.1.toArray⟩, p.2))) = Qm.has (L.map (·.1)) s.toList := by
  intro L
  induction L with
  | nil => intro _; rfl
  | cons p t ih =>
    intro h
    show decide (0 < (if s == ⟨p.1.toArray⟩ then p.2 else seekV s (t.map fun p => (⟨p.1.toArray⟩, p.2)))) = ((s.toList == p.1) || Qm.has (t.map (·.1)) s.toList)
    rw [beq_list]
    have := ih (fun q hq => h q (List.mem_cons_of_mem _ hq))
    cases hs : (s.toList == p.1)
    · simpa using this
    · have := h p (by simp)
      simpa using this
theorem binds_has (s : ByteArray) : decide (0 < seekV s bindsB) = Qm.has Om.signs s.toList := by
  have := @binds_pos s binds (by decide)
  rw [show binds.map (·.1) = Om.signs from rfl] at this
  exact this
theorem zeroInt (w : World) : (zeroValue 3).run Try.prog w = .ok (.int .i64 0) w := by kernel_rfl

set_option maxHeartbeats 1000000 in
theorem has_any (b : Nat) (s : ByteArray) (w : World) (hb : IsMap w b bindsB) :
    Calls Try.prog 45 #[.map (some b), .string s] w fun e w' => e = .returned (.bool (Qm.has Om.signs s.toList)) ∧ w' = w := by
  have hrun := run_look (P := Try.prog) (s := s) Try.underlying69 Try.underlying9 (zeroInt w) hb
  have HB : Hid (decide (0 < seekV s bindsB) = Qm.has Om.signs s.toList) := binds_has s
  generalize seekV s bindsB = z at *
  go_enter Try.func45, Try.ntmps45
  go_wp2_with fail
  go_ret
  exact ⟨by rw [← HB.out]; rfl, rfl⟩

theorem ins_step {w : World} {b : Nat} {L : List (ByteArray × Int)} {s : ByteArray} {v : Int} (hb : IsMap w b L) (hf : seek s L 0 = none) :
    ∃ w', (Instr.mapUpdate 69 (.map (some b)) (.string s) (.int .i64 v)).run Try.prog w = .ok () w' ∧ IsMap w' b (L ++ [(s, v)]) ∧ w.grownBy w' (some b) := by
  have hlt := (Array.getElem?_eq_some_iff.1 hb).1
  refine ⟨_, run_insert_new Try.underlying69 Try.underlying9 hb hf, ?_, ⟨rfl, rfl, rfl, by simp, fun i _ hi => ?_⟩⟩
  · unfold IsMap
    simp [hlt]
  · have hne : b ≠ i := fun e => hi (by rw [e])
    simp [hne]
set_option maxRecDepth 100000 in
set_option maxHeartbeats 4000000 in
theorem signBindings_any (w : World) :
    Calls Try.prog 41 #[] w fun e w' => e = .returned (.map (some w.heap.size)) ∧ IsMap w' w.heap.size bindsB ∧ Below w.heap.size w w' := by
  have hmm := @run_makeMap Try.prog
  have hb0 : Below w.heap.size w (w.alloc (.map #[] 0)) := (Below.refl _ w).alloc (Nat.le_refl _) _
  have hm0 : IsMap (w.alloc (.map #[] 0)) w.heap.size [] := World.alloc_heap_new w _
  go_enter Try.func41, Try.ntmps41
  go_wp2_with fail
  obtain ⟨w1, hr, hm1, hg⟩ := ins_step (s := ⟨#[124, 124]⟩) (v := 1) hm0 (by decide +kernel)
  rw [hr]
  have hb1 := hb0.grown hg hb0.size (fun k e => by cases e; exact Nat.le_refl _)
  clear hr hg hm0 hb0
  go_wp2_with fail
  obtain ⟨w2, hr, hm2, hg⟩ := ins_step (s := ⟨#[38, 38]⟩) (v := 2) hm1 (by decide +kernel)
  rw [hr]
  have hb2 := hb1.grown hg hb1.size (fun k e => by cases e; exact Nat.le_refl _)
  clear hr hg hm1 hb1
  go_wp2_with fail
  obtain ⟨w3, hr, hm3, hg⟩ := ins_step (s := ⟨#[61, 61]⟩) (v := 3) hm2 (by decide +kernel)
  rw [hr]
  have hb3 := hb2.grown hg hb2.size (fun k e => by cases e; exact Nat.le_refl _)
  clear hr hg hm2 hb2
  go_wp2_with fail
  obtain ⟨w4, hr, hm4, hg⟩ := ins_step (s := ⟨#[33, 61]⟩) (v := 3) hm3 (by decide +kernel)
  rw [hr]
  have hb4 := hb3.grown hg hb3.size (fun k e => by cases e; exact Nat.le_refl _)
  clear hr hg hm3 hb3
  go_wp2_with fail
  obtain ⟨w5, hr, hm5, hg⟩ := ins_step (s := ⟨#[60]⟩) (v := 4) hm4 (by decide +kernel)
  rw [hr]
  have hb5 := hb4.grown hg hb4.size (fun k e => by cases e; exact Nat.le_refl _)
  clear hr hg hm4 hb4
  go_wp2_with fail
  obtain ⟨w6, hr, hm6, hg⟩ := ins_step (s := ⟨#[60, 61]⟩) (v := 4) hm5 (by decide +kernel)
  rw [hr]
  have hb6 := hb5.grown hg hb5.size (fun k e => by cases e; exact Nat.le_refl _)
  clear hr hg hm5 hb5
  go_wp2_with fail
  obtain ⟨w7, hr, hm7, hg⟩ := ins_step (s := ⟨#[62]⟩) (v := 4) hm6 (by decide +kernel)
  rw [hr]
  have hb7 := hb6.grown hg hb6.size (fun k e => by cases e; exact Nat.le_refl _)
  clear hr hg hm6 hb6
  go_wp2_with fail
  obtain ⟨w8, hr, hm8, hg⟩ := ins_step (s := ⟨#[62, 61]⟩) (v := 4) hm7 (by decide +kernel)
  rw [hr]
  have hb8 := hb7.grown hg hb7.size (fun k e => by cases e; exact Nat.le_refl _)
  clear hr hg hm7 hb7
  go_wp2_with fail
  obtain ⟨w9, hr, hm9, hg⟩ := ins_step (s := ⟨#[43]⟩) (v := 5) hm8 (by decide +kernel)
  rw [hr]
  have hb9 := hb8.grown hg hb8.size (fun k e => by cases e; exact Nat.le_refl _)
  clear hr hg hm8 hb8
  go_wp2_with fail
  obtain ⟨w10, hr, hm10, hg⟩ := ins_step (s := ⟨#[45]⟩) (v := 5) hm9 (by decide +kernel)
  rw [hr]
  have hb10 := hb9.grown hg hb9.size (fun k e => by cases e; exact Nat.le_refl _)
  clear hr hg hm9 hb9
  go_wp2_with fail
  obtain ⟨w11, hr, hm11, hg⟩ := ins_step (s := ⟨#[42]⟩) (v := 6) hm10 (by decide +kernel)
  rw [hr]
  have hb11 := hb10.grown hg hb10.size (fun k e => by cases e; exact Nat.le_refl _)
  clear hr hg hm10 hb10
  go_wp2_with fail
  obtain ⟨w12, hr, hm12, hg⟩ := ins_step (s := ⟨#[47]⟩) (v := 6) hm11 (by decide +kernel)
  rw [hr]
  have hb12 := hb11.grown hg hb11.size (fun k e => by cases e; exact Nat.le_refl _)
  clear hr hg hm11 hb11
  go_wp2_with fail
  obtain ⟨w13, hr, hm13, hg⟩ := ins_step (s := ⟨#[37]⟩) (v := 6) hm12 (by decide +kernel)
  rw [hr]
  have hb13 := hb12.grown hg hb12.size (fun k e => by cases e; exact Nat.le_refl _)
  clear hr hg hm12 hb12
  go_wp2_with fail
  go_ret
  exact ⟨rfl, hm13, hb13⟩
end Go.Proofs.Ytcnhlkkbfdchnaa
