/- Contracts for trees that are ok, of the specification: how many below, the texts, a field. -/
import Derived.Test.YtcnhlkkbfdchnaaOkA
import Derived.Deep.QuietTactic
import Derived.BigQuiet
namespace Go.Proofs.Ytcnhlkkbfdchnaa
open Go.RowKit
abbrev twoInts (a b : Int) : Ending := .returned (.tuple #[.int .i64 a, .int .i64 b])
set_option maxHeartbeats 1000000 in
theorem l3Count_any (k : Int) (w : World) :
    Calls Try.prog 35 #[.int .i64 k] w fun e w' => e = twoInts (Om.low k) (Om.high k) ∧ w' = w := by
  by_cases h10 : k = 10
  · subst h10
    go_enter Try.func35, Try.ntmps35
    go_wp2_with fail
    go_ret2
    exact ⟨rfl, rfl⟩
  by_cases h11 : k = 11
  · subst h11
    go_enter Try.func35, Try.ntmps35
    go_wp2_with fail
    go_ret2
    exact ⟨rfl, rfl⟩
  by_cases h12 : k = 12
  · subst h12
    go_enter Try.func35, Try.ntmps35
    go_wp2_with fail
    go_ret2
    exact ⟨rfl, rfl⟩
  by_cases h18 : k = 18
  · subst h18
    go_enter Try.func35, Try.ntmps35
    go_wp2_with fail
    go_ret2
    exact ⟨rfl, rfl⟩
  by_cases h13 : k = 13
  · subst h13
    go_enter Try.func35, Try.ntmps35
    go_wp2_with fail
    go_ret2
    exact ⟨rfl, rfl⟩
  by_cases h15 : k = 15
  · subst h15
    go_enter Try.func35, Try.ntmps35
    go_wp2_with fail
    go_ret2
    exact ⟨rfl, rfl⟩
  by_cases h19 : k = 19
  · subst h19
    go_enter Try.func35, Try.ntmps35
    go_wp2_with fail
    go_ret2
    exact ⟨rfl, rfl⟩
  by_cases h21 : k = 21
  · subst h21
    go_enter Try.func35, Try.ntmps35
    go_wp2_with fail
    go_ret2
    exact ⟨rfl, rfl⟩
  by_cases h14 : k = 14
  · subst h14
    go_enter Try.func35, Try.ntmps35
    go_wp2_with fail
    go_ret2
    exact ⟨rfl, rfl⟩
  by_cases h16 : k = 16
  · subst h16
    go_enter Try.func35, Try.ntmps35
    go_wp2_with fail
    go_ret2
    exact ⟨rfl, rfl⟩
  by_cases h17 : k = 17
  · subst h17
    go_enter Try.func35, Try.ntmps35
    go_wp2_with fail
    go_ret2
    exact ⟨rfl, rfl⟩
  by_cases h20 : k = 20
  · subst h20
    go_enter Try.func35, Try.ntmps35
    go_wp2_with fail
    go_ret2
    exact ⟨rfl, rfl⟩
  by_cases h22 : k = 22
  · subst h22
    go_enter Try.func35, Try.ntmps35
    go_wp2_with fail
    go_ret2
    exact ⟨rfl, rfl⟩
  by_cases h24 : k = 24
  · subst h24
    go_enter Try.func35, Try.ntmps35
    go_wp2_with fail
    go_ret2
    exact ⟨rfl, rfl⟩
  have HL : Hid (Om.low k = 0) := by unfold Hid Om.low; simp [h10, h11, h12, h18, h13, h15, h19, h21, h14, h16, h17]
  have HH : Hid (Om.high k = 0) := by unfold Hid Om.high; simp [h10, h11, h12, h18, h13, h15, h19, h21, h14, h16, h17, h20, h22, h24]
  rw [HL.out, HH.out]
  have g10 : (k == 10) = false := by simp [h10]
  have g11 : (k == 11) = false := by simp [h11]
  have g12 : (k == 12) = false := by simp [h12]
  have g18 : (k == 18) = false := by simp [h18]
  have g13 : (k == 13) = false := by simp [h13]
  have g15 : (k == 15) = false := by simp [h15]
  have g19 : (k == 19) = false := by simp [h19]
  have g21 : (k == 21) = false := by simp [h21]
  have g14 : (k == 14) = false := by simp [h14]
  have g16 : (k == 16) = false := by simp [h16]
  have g17 : (k == 17) = false := by simp [h17]
  have g20 : (k == 20) = false := by simp [h20]
  have g22 : (k == 22) = false := by simp [h22]
  have g24 : (k == 24) = false := by simp [h24]
  go_enter Try.func35, Try.ntmps35
  go_wp2_with fail
  go_ret2
  exact ⟨rfl, rfl⟩
/-- the signs lie there, row by row -/
def SgIn (b : Nat) (w : World) : Prop := w.cell? ⟨b + 6, 0, none⟩ = some (.slice (some ⟨b + 0, 0, none⟩) 1 1) ∧ w.cell? ⟨b + 6, 1, none⟩ = some (.slice (some ⟨b + 1, 0, none⟩) 1 1) ∧ w.cell? ⟨b + 6, 2, none⟩ = some (.slice (some ⟨b + 2, 0, none⟩) 2 2) ∧ w.cell? ⟨b + 6, 3, none⟩ = some (.slice (some ⟨b + 3, 0, none⟩) 4 4) ∧ w.cell? ⟨b + 6, 4, none⟩ = some (.slice (some ⟨b + 4, 0, none⟩) 2 2) ∧ w.cell? ⟨b + 6, 5, none⟩ = some (.slice (some ⟨b + 5, 0, none⟩) 3 3) ∧ w.cell? ⟨b + 0, 0, none⟩ = some (.string ⟨#[124, 124]⟩) ∧ w.cell? ⟨b + 1, 0, none⟩ = some (.string ⟨#[38, 38]⟩) ∧ w.cell? ⟨b + 2, 0, none⟩ = some (.string ⟨#[61, 61]⟩) ∧ w.cell? ⟨b + 2, 1, none⟩ = some (.string ⟨#[33, 61]⟩) ∧ w.cell? ⟨b + 3, 0, none⟩ = some (.string ⟨#[60]⟩) ∧ w.cell? ⟨b + 3, 1, none⟩ = some (.string ⟨#[60, 61]⟩) ∧ w.cell? ⟨b + 3, 2, none⟩ = some (.string ⟨#[62]⟩) ∧ w.cell? ⟨b + 3, 3, none⟩ = some (.string ⟨#[62, 61]⟩) ∧ w.cell? ⟨b + 4, 0, none⟩ = some (.string ⟨#[43]⟩) ∧ w.cell? ⟨b + 4, 1, none⟩ = some (.string ⟨#[45]⟩) ∧ w.cell? ⟨b + 5, 0, none⟩ = some (.string ⟨#[42]⟩) ∧ w.cell? ⟨b + 5, 1, none⟩ = some (.string ⟨#[47]⟩) ∧ w.cell? ⟨b + 5, 2, none⟩ = some (.string ⟨#[37]⟩)
theorem heapAt (w : World) (o : Obj) (i : Nat) : (w.alloc o).heap[i]? = if i = w.heap.size then some o else w.heap[i]? := by
  show (w.heap.push o)[i]? = _
  rw [Array.getElem?_push]
theorem cellAt {w : World} {b : Nat} {cs : Array Value} {t : TypeId} (h : w.heap[b]? = some (.cells cs t (0, 0))) (j : Nat) : w.cell? ⟨b, j, none⟩ = cs[j]? := by
  simp [World.cell?, h]
set_option maxHeartbeats 1000000 in
theorem l3Signs_any (w : World) :
    Calls Try.prog 91 #[] w fun e w' => e = .returned (.slice (some ⟨w.heap.size + 6, 0, none⟩) 6 6) ∧ SgIn w.heap.size w' ∧ Below w.heap.size w w' := by
  go_enter Try.func91, Try.ntmps91
  go_wp2_with fail
  go_ret
  refine ⟨rfl, ?_, ?_⟩
  · unfold SgIn
    generalize hW : World.alloc _ _ = W
    have k6 := cellAt (b := w.heap.size + 6) (cs := #[.slice (some ⟨w.heap.size + 0, 0, none⟩) 1 1, .slice (some ⟨w.heap.size + 1, 0, none⟩) 1 1, .slice (some ⟨w.heap.size + 2, 0, none⟩) 2 2, .slice (some ⟨w.heap.size + 3, 0, none⟩) 4 4, .slice (some ⟨w.heap.size + 4, 0, none⟩) 2 2, .slice (some ⟨w.heap.size + 5, 0, none⟩) 3 3]) (t := 94) (w := W) (by subst hW; rw [heapAt, if_pos (by simp only [World.size_alloc])]; rfl)
    have k0 := cellAt (b := w.heap.size + 0) (cs := #[.string ⟨#[124, 124]⟩]) (t := 9) (w := W) (by subst hW; rw [heapAt, if_neg (by simp only [World.size_alloc]; omega)]; rw [heapAt, if_neg (by simp only [World.size_alloc]; omega)]; rw [heapAt, if_neg (by simp only [World.size_alloc]; omega)]; rw [heapAt, if_neg (by simp only [World.size_alloc]; omega)]; rw [heapAt, if_neg (by simp only [World.size_alloc]; omega)]; rw [heapAt, if_neg (by simp only [World.size_alloc]; omega)]; rw [heapAt, if_pos (Nat.add_zero _)])
    have k1 := cellAt (b := w.heap.size + 1) (cs := #[.string ⟨#[38, 38]⟩]) (t := 9) (w := W) (by subst hW; rw [heapAt, if_neg (by simp only [World.size_alloc]; omega)]; rw [heapAt, if_neg (by simp only [World.size_alloc]; omega)]; rw [heapAt, if_neg (by simp only [World.size_alloc]; omega)]; rw [heapAt, if_neg (by simp only [World.size_alloc]; omega)]; rw [heapAt, if_neg (by simp only [World.size_alloc]; omega)]; rw [heapAt, if_pos (by simp only [World.size_alloc])])
    have k2 := cellAt (b := w.heap.size + 2) (cs := #[.string ⟨#[61, 61]⟩, .string ⟨#[33, 61]⟩]) (t := 9) (w := W) (by subst hW; rw [heapAt, if_neg (by simp only [World.size_alloc]; omega)]; rw [heapAt, if_neg (by simp only [World.size_alloc]; omega)]; rw [heapAt, if_neg (by simp only [World.size_alloc]; omega)]; rw [heapAt, if_neg (by simp only [World.size_alloc]; omega)]; rw [heapAt, if_pos (by simp only [World.size_alloc])])
    have k3 := cellAt (b := w.heap.size + 3) (cs := #[.string ⟨#[60]⟩, .string ⟨#[60, 61]⟩, .string ⟨#[62]⟩, .string ⟨#[62, 61]⟩]) (t := 9) (w := W) (by subst hW; rw [heapAt, if_neg (by simp only [World.size_alloc]; omega)]; rw [heapAt, if_neg (by simp only [World.size_alloc]; omega)]; rw [heapAt, if_neg (by simp only [World.size_alloc]; omega)]; rw [heapAt, if_pos (by simp only [World.size_alloc])])
    have k4 := cellAt (b := w.heap.size + 4) (cs := #[.string ⟨#[43]⟩, .string ⟨#[45]⟩]) (t := 9) (w := W) (by subst hW; rw [heapAt, if_neg (by simp only [World.size_alloc]; omega)]; rw [heapAt, if_neg (by simp only [World.size_alloc]; omega)]; rw [heapAt, if_pos (by simp only [World.size_alloc])])
    have k5 := cellAt (b := w.heap.size + 5) (cs := #[.string ⟨#[42]⟩, .string ⟨#[47]⟩, .string ⟨#[37]⟩]) (t := 9) (w := W) (by subst hW; rw [heapAt, if_neg (by simp only [World.size_alloc]; omega)]; rw [heapAt, if_pos (by simp only [World.size_alloc])])
    exact ⟨k6 0, k6 1, k6 2, k6 3, k6 4, k6 5, k0 0, k1 0, k2 0, k2 1, k3 0, k3 1, k3 2, k3 3, k4 0, k4 1, k5 0, k5 1, k5 2⟩
  · exact ((((((((Below.refl _ w)).alloc (Nat.le_refl _) _).alloc (by simp <;> omega) _).alloc (by simp <;> omega) _).alloc (by simp <;> omega) _).alloc (by simp <;> omega) _).alloc (by simp <;> omega) _).alloc (by simp <;> omega) _
/-- the rows of signs -/
def sgRow : Nat → List ByteArray
  | 0 => [⟨#[124, 124]⟩]
  | 1 => [⟨#[38, 38]⟩]
  | 2 => [⟨#[61, 61]⟩, ⟨#[33, 61]⟩]
  | 3 => [⟨#[60]⟩, ⟨#[60, 61]⟩, ⟨#[62]⟩, ⟨#[62, 61]⟩]
  | 4 => [⟨#[43]⟩, ⟨#[45]⟩]
  | 5 => [⟨#[42]⟩, ⟨#[47]⟩, ⟨#[37]⟩]
  | _ => []
def sgHas (i : Nat) (l : List UInt8) : Bool := Qm.has ((sgRow i).map ByteArray.toList) l
theorem SgIn.row {b : Nat} {w : World} (h : SgIn b w) (i : Nat) (hi : i < 6) : w.cell? ⟨b + 6, i, none⟩ = some (.slice (some ⟨b + i, 0, none⟩) (sgRow i).length (sgRow i).length) ∧ ∀ k (hk : k < (sgRow i).length), w.cell? ⟨b + i, k, none⟩ = some (.string (sgRow i)[k]) := by
  unfold SgIn at h
  obtain ⟨r0, r1, r2, r3, r4, r5, s00, s10, s20, s21, s30, s31, s32, s33, s40, s41, s50, s51, s52⟩ := h
  have : i = 0 ∨ i = 1 ∨ i = 2 ∨ i = 3 ∨ i = 4 ∨ i = 5 := by omega
  rcases this with rfl | rfl | rfl | rfl | rfl | rfl
  · exact ⟨r0, fun k hk => by have : k = 0 := by have : k < 1 := hk; omega
                              subst this; exact s00⟩
  · exact ⟨r1, fun k hk => by have : k = 0 := by have : k < 1 := hk; omega
                              subst this; exact s10⟩
  · exact ⟨r2, fun k hk => by have : k = 0 ∨ k = 1 := by have : k < 2 := hk; omega
                              rcases this with rfl | rfl
                              · exact s20
                              · exact s21⟩
  · exact ⟨r3, fun k hk => by have : k = 0 ∨ k = 1 ∨ k = 2 ∨ k = 3 := by have : k < 4 := hk; omega
                              rcases this with rfl | rfl | rfl | rfl
                              · exact s30
                              · exact s31
                              · exact s32
                              · exact s33⟩
  · exact ⟨r4, fun k hk => by have : k = 0 ∨ k = 1 := by have : k < 2 := hk; omega
                              rcases this with rfl | rfl
                              · exact s40
                              · exact s41⟩
  · exact ⟨r5, fun k hk => by have : k = 0 ∨ k = 1 ∨ k = 2 := by have : k < 3 := hk; omega
                              rcases this with rfl | rfl | rfl
                              · exact s50
                              · exact s51
                              · exact s52⟩
theorem signs_rows (l : List UInt8) : Qm.has Om.signs l = (sgHas 0 l || (sgHas 1 l || (sgHas 2 l || (sgHas 3 l || (sgHas 4 l || sgHas 5 l))))) := by
  have e : ∀ i, sgHas i l = Qm.has ((sgRow i).map ByteArray.toList) l := fun _ => rfl
  rw [e, e, e, e, e, e]
  rw [show (sgRow 0).map ByteArray.toList = [[124, 124]] by decide +kernel, show (sgRow 1).map ByteArray.toList = [[38, 38]] by decide +kernel, show (sgRow 2).map ByteArray.toList = [[61, 61], [33, 61]] by decide +kernel,
    show (sgRow 3).map ByteArray.toList = [[60], [60, 61], [62], [62, 61]] by decide +kernel, show (sgRow 4).map ByteArray.toList = [[43], [45]] by decide +kernel, show (sgRow 5).map ByteArray.toList = [[42], [47], [37]] by decide +kernel]
  simp only [Om.signs, Qm.has, Bool.or_false, Bool.or_assoc]
/-- no row up to this one has it -/
def sgNone (l : List UInt8) : Nat → Bool
  | 0 => true
  | i + 1 => sgNone l i && !sgHas i l
theorem sgNone_has {l : List UInt8} (h : sgNone l 6 = true) : Qm.has Om.signs l = false := by
  rw [signs_rows]
  simp [sgNone] at h
  simp [h]
theorem sgHas_has {l : List UInt8} {i : Nat} (hi : i < 6) (h : sgHas i l = true) : Qm.has Om.signs l = true := by
  rw [signs_rows]
  have : i = 0 ∨ i = 1 ∨ i = 2 ∨ i = 3 ∨ i = 4 ∨ i = 5 := by omega
  rcases this with rfl | rfl | rfl | rfl | rfl | rfl <;> simp [h]
theorem sgRow_len (i : Nat) : (sgRow i).length ≤ 4 := by
  match i with
  | 0 | 1 | 2 | 3 | 4 | 5 => decide
  | n + 6 => exact Nat.zero_le _
set_option maxHeartbeats 1000000 in
theorem l3Level_any (t : ByteArray) (w : World) :
    Calls Try.prog 65 #[.string t] w fun e w' => (∃ z : Int, e = .returned (.int .i64 z) ∧ decide (0 ≤ z) = Qm.has Om.signs t.toList) ∧ Below w.heap.size w w' := by
  go_enter Try.func65, Try.ntmps65
  go_wp2_with fail
  refine (l3Signs_any w).mono ?_
  rintro r W ⟨rfl, hS, hB⟩
  go_wp2_with fail
  go_loop [4] (fun i => ∃ k : Nat, k ≤ 6 ∧ i = .int .i64 k ∧ sgNone t.toList k = true) (fun i => 6 - (intOf i).toNat)
  case atStart => exact ⟨0, Nat.zero_le _, rfl, rfl⟩
  case round =>
    obtain ⟨k, hk, rfl, hn⟩ := hrel
    have HN : Hid (sgNone t.toList k = true) := hn
    clear hn
    by_cases hlt : k < 6
    · have hlt' : (k : Int) < 6 := by omega
      obtain ⟨hr, hcs⟩ := hS.row k hlt
      have hlen := sgRow_len k
      have HH := l2Has_any (w.heap.size + k) (sgRow k).length (sgRow k) t W rfl (by omega) hcs
      have HE : Hid (Qm.has ((sgRow k).map ByteArray.toList) t.toList = sgHas k t.toList) := rfl
      rw [HE.out] at HH
      clear hcs
      generalize (sgRow k).length = n at *
      cases hh : sgHas k t.toList
      · rw [hh] at HH
        have HS : Hid (sgNone t.toList (k + 1) = true) := by unfold Hid; show (sgNone t.toList k && !sgHas k t.toList) = true; rw [HN.out, hh]; rfl
        go_wp2_with fail
        refine HH.mono ?_
        rintro r w' ⟨rfl, hw⟩
        subst w'
        go_wp2_with fail
        go_round
        case rel => exact ⟨k + 1, by omega, by go_num, HS.out⟩
        case measure => simp [intOf]; omega
      · rw [hh] at HH
        have HS : Hid (Qm.has Om.signs t.toList = true) := sgHas_has hlt hh
        go_wp2_with fail
        refine HH.mono ?_
        rintro r w' ⟨rfl, hw⟩
        subst w'
        go_wp2_with fail
        go_ret
        exact ⟨⟨k, rfl, by rw [HS.out]; simp⟩, hB⟩
    · have e : k = 6 := by omega
      subst e
      have HS : Hid (Qm.has Om.signs t.toList = false) := sgNone_has HN.out
      go_wp2_with fail
      go_ret
      exact ⟨⟨-1, rfl, by rw [HS.out]; rfl⟩, hB⟩
end Go.Proofs.Ytcnhlkkbfdchnaa
