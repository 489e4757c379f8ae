/- Contracts over trees: the laws' own copy of a tree. -/
import Derived.Test.YtapdlnakbpociaaFoC
import Derived.Test.YtapdlnakbpociaaDecX
import Derived.Laws.MakeOwn
namespace Go.Proofs.Ytapdlnakbpociaa
open Go.RowKit
attribute [local go_sem] cell_alloc_is frozen_alloc_is
theorem nodeInfo : (Try.prog.info? 32).map (fun i => (i.zero, i.size, i.bytes)) = some (some (.agg #[.int .i64 0, .string ⟨#[]⟩, .int .i64 0, .int .i64 0, .slice none 0 0]), 5, 64) := by kernel_rfl
/-- the cells of so many new trees -/
def newCells (n : Nat) : Array Value := madeCells #[.int .i64 0, .string ⟨#[]⟩, .int .i64 0, .int .i64 0, .slice none 0 0] (n * 5)
theorem make_nodes (n : Nat) (hn : n ≤ 2000000) (w : World) : (Instr.makeSlice 30 (.int .i64 (n : Int)) (.int .i64 (n : Int))).run Try.prog w = .ok (.slice (some ⟨w.heap.size, 0, none⟩) n n) (w.alloc (.cells (newCells n) 32)) := by
  obtain ⟨i, hi, hzz⟩ := Option.map_eq_some_iff.1 nodeInfo
  simp only [Prod.mk.injEq] at hzz
  obtain ⟨hz, hs, hb⟩ := hzz
  have hr := run_make (P := Try.prog) w 30 32 i _ Try.underlying30 hi hz .i64 .i64 n n (by omega) (Int.le_refl _) (by rw [hb]; omega) (by omega)
  simp only [Int.toNat_natCast, hs] at hr
  exact hr
/-- block nb has cells for n trees, and they may be written -/
def Room (w : World) (nb n : Nat) : Prop := ∀ o, o < n * 5 → (∃ v, w.cell? ⟨nb, o, none⟩ = some v) ∧ w.frozen? ⟨nb, o, none⟩ = false
theorem room_new (w : World) (n : Nat) : Room (w.alloc (.cells (newCells n) 32)) w.heap.size n := by
  intro o ho
  have hs : (newCells n).size = n * 5 := size_madeCells _ _
  refine ⟨⟨(newCells n)[o]'(by omega), ?_⟩, by simp⟩
  rw [World.cell?_alloc_new]
  simp [show o < (newCells n).size by omega]
theorem Room.grow {w w' : World} {nb n : Nat} (h : Room w nb n) (hb : Below w.heap.size w w') : Room w' nb n := by
  intro o ho
  obtain ⟨⟨v, h1⟩, h2⟩ := h o ho
  have hl := World.block_lt_of_cell? w _ h1
  exact ⟨⟨v, (hb.cell (p := ⟨nb, o, none⟩) hl).trans h1⟩, (hb.frozen (p := ⟨nb, o, none⟩) hl).trans h2⟩
/-- a tree is written -/
def put5 (w : World) (nb o : Nat) (v0 v1 v2 v3 v4 : Value) : World := ((((w.setCell ⟨nb, o, none⟩ v0).setCell ⟨nb, o + 1, none⟩ v1).setCell ⟨nb, o + 2, none⟩ v2).setCell ⟨nb, o + 3, none⟩ v3).setCell ⟨nb, o + 4, none⟩ v4
theorem put5_other {w : World} {nb o b o' : Nat} {v0 v1 v2 v3 v4 : Value} (h : ¬ b = nb ∨ o' < o ∨ o + 5 ≤ o') : (put5 w nb o v0 v1 v2 v3 v4).cell? ⟨b, o', none⟩ = w.cell? ⟨b, o', none⟩ := by
  have ne : ∀ q, q < 5 → (⟨nb, o + q, none⟩ : Addr) ≠ ⟨b, o', none⟩ := by
    intro q hq e
    simp at e
    omega
  unfold put5
  rw [World.cell?_setCell_other _ _ _ _ (ne 4 (by omega)), World.cell?_setCell_other _ _ _ _ (ne 3 (by omega)), World.cell?_setCell_other _ _ _ _ (ne 2 (by omega)), World.cell?_setCell_other _ _ _ _ (ne 1 (by omega)), World.cell?_setCell_other _ _ _ _ (by simpa using ne 0 (by omega))]
theorem set_is {w : World} {b o o' : Nat} {v : Value} (h : ∃ u, w.cell? ⟨b, o', none⟩ = some u) : ∃ u, (w.setCell ⟨b, o, none⟩ v).cell? ⟨b, o', none⟩ = some u := by
  obtain ⟨u, hu⟩ := h
  exact cell?_setCell_some hu
theorem set_far {w : World} {b o o' : Nat} {v : Value} (h : o ≠ o') : (w.setCell ⟨b, o, none⟩ v).cell? ⟨b, o', none⟩ = w.cell? ⟨b, o', none⟩ := World.cell?_setCell_other _ _ _ _ (fun e => h (by simpa using congrArg Addr.off e))
theorem set_near {w : World} {b o : Nat} {v : Value} (h : ∃ u, w.cell? ⟨b, o, none⟩ = some u) : (w.setCell ⟨b, o, none⟩ v).cell? ⟨b, o, none⟩ = some v := by
  obtain ⟨u, hu⟩ := h
  exact World.cell?_setCell_same w _ v hu
theorem put5_cells {w : World} {nb o : Nat} {v0 v1 v2 v3 v4 : Value} (h : ∀ q, q < 5 → ∃ u, w.cell? ⟨nb, o + q, none⟩ = some u) :
    (put5 w nb o v0 v1 v2 v3 v4).cell? ⟨nb, o, none⟩ = some v0 ∧ (put5 w nb o v0 v1 v2 v3 v4).cell? ⟨nb, o + 1, none⟩ = some v1 ∧ (put5 w nb o v0 v1 v2 v3 v4).cell? ⟨nb, o + 2, none⟩ = some v2 ∧ (put5 w nb o v0 v1 v2 v3 v4).cell? ⟨nb, o + 3, none⟩ = some v3 ∧ (put5 w nb o v0 v1 v2 v3 v4).cell? ⟨nb, o + 4, none⟩ = some v4 := by
  have h0 := h 0 (by omega)
  have h1 := h 1 (by omega)
  have h2 := h 2 (by omega)
  have h3 := h 3 (by omega)
  have h4 := h 4 (by omega)
  unfold put5
  refine ⟨?_, ?_, ?_, ?_, ?_⟩
  · rw [set_far (by omega), set_far (by omega), set_far (by omega), set_far (by omega)]; exact set_near h0
  · rw [set_far (by omega), set_far (by omega), set_far (by omega)]; exact set_near (set_is h1)
  · rw [set_far (by omega), set_far (by omega)]; exact set_near (set_is (set_is h2))
  · rw [set_far (by omega)]; exact set_near (set_is (set_is (set_is h3)))
  · exact set_near (set_is (set_is (set_is (set_is h4))))
theorem put5_size (w : World) (nb o : Nat) (v0 v1 v2 v3 v4 : Value) : (put5 w nb o v0 v1 v2 v3 v4).heap.size = w.heap.size := by simp [put5, World.setCell]
theorem put5_below {B : Nat} {w0 w : World} {nb : Nat} (h : Below B w0 w) (hB : B ≤ nb) (o : Nat) (v0 v1 v2 v3 v4 : Value) : Below B w0 (put5 w nb o v0 v1 v2 v3 v4) :=
  ((((h.setCell (p := ⟨nb, o, none⟩) hB v0).setCell (p := ⟨nb, o + 1, none⟩) hB v1).setCell (p := ⟨nb, o + 2, none⟩) hB v2).setCell (p := ⟨nb, o + 3, none⟩) hB v3).setCell (p := ⟨nb, o + 4, none⟩) hB v4
theorem Room.put5 {w : World} {nb n : Nat} (h : Room w nb n) (o : Nat) (v0 v1 v2 v3 v4 : Value) : Room (put5 w nb o v0 v1 v2 v3 v4) nb n := by
  intro o' ho
  obtain ⟨h1, h2⟩ := h o' ho
  refine ⟨?_, by simpa [Go.Proofs.Ytapdlnakbpociaa.put5] using h2⟩
  unfold Go.Proofs.Ytapdlnakbpociaa.put5
  exact set_is (set_is (set_is (set_is (set_is h1))))

set_option maxHeartbeats 1000000 in
theorem toNodeS_step (N : Nat) (H : ∀ (k : Int) (t : ByteArray) (m e : Int) (a : Option Addr) (c : Nat) (F : Fo) (w : World), F.size < N → F.size ≤ 2000000 → F.In w a → F.len ≤ c → c ≤ maxLen → t.size ≤ maxLen →
      Calls Try.prog 10 #[nodeV k t m e a F.len c] w fun r w' => (∃ (nb : Nat) (F' : Fo), r = .returned (nodeV k t m e (some ⟨nb, 0, none⟩) F'.len F'.len) ∧ w.heap.size ≤ nb ∧ F'.alike F ∧ F'.Blk (fun b => w.heap.size ≤ b) ∧ F'.From w' nb 0) ∧ Below w.heap.size w w') :
    ∀ (a : Option Addr) (c : Nat) (F : Fo) (w : World), F.size ≤ N → F.size ≤ 2000000 → F.In w a → F.len ≤ c → c ≤ maxLen →
      Calls Try.prog 28 #[.slice a F.len c] w fun r w' => (∃ (nb : Nat) (F' : Fo), r = .returned (.slice (some ⟨nb, 0, none⟩) F'.len F'.len) ∧ w.heap.size ≤ nb ∧ F'.alike F ∧ F'.Blk (fun b => w.heap.size ≤ b) ∧ F'.From w' nb 0) ∧ Below w.heap.size w w' := by
  intro a c F w hF hF2 hin hl hc
  have hll := F.len_le
  have hmk := make_nodes F.len (by omega)
  unfold maxLen at hc
  go_enter Try.func28, Try.ntmps28
  go_wp2_with fail
  go_loopw [4] (fun i wr => ∃ (j : Nat) (G : Fo), i = .int .i64 j ∧ F.drop j = G ∧ j + G.len = F.len ∧ G.size ≤ F.size ∧ (G = .nil ∨ ∃ b o', a = some ⟨b, o', none⟩ ∧ G.From w b (o' + j * 5)) ∧ Room wr w.heap.size F.len ∧ Pre (fun b => w.heap.size < b) wr w.heap.size F 0 j ∧ w.heap.size < wr.heap.size ∧ Below w.heap.size w wr) (fun i _ => F.len - (intOf i).toNat)
  case atStart =>
    refine ⟨0, F, rfl, by cases F <;> rfl, by omega, Nat.le_refl _, ?_, room_new w F.len, by unfold Pre; trivial, by simp, (Below.refl _ _).alloc (Nat.le_refl _) _⟩
    rcases hin with h | ⟨b, o', e1, e2⟩
    · exact .inl h
    · exact .inr ⟨b, o', e1, by simpa using e2⟩
  case round =>
    obtain ⟨j, G, rfl, hd, hj, hs, hG, hR, hP, hsz, hb⟩ := hrel
    cases G with
    | nil =>
      have hj' : j = F.len := by simpa [Fo.len] using hj
      clear hj hs hG H hd
      have HP : Hid (Pre (fun b => w.heap.size < b) wr w.heap.size F 0 j) := hP
      clear hP
      subst hj'
      go_wp2_with fail
      go_ret
      obtain ⟨F', h1, h2, h3⟩ := Pre.done F 0 F.len (Nat.le_refl _) HP.out
      refine ⟨⟨w.heap.size, F', ?_, Nat.le_refl _, h1, h2.mono (fun b hb => Nat.le_of_lt hb), h3⟩, hb⟩
      rw [Fo.alike_len h1]; rfl
    | cons k' t' m' e' a' c' kids next =>
      rcases hG with hG | ⟨b, o', rfl, hfrom⟩
      · cases hG
      · obtain ⟨⟨h1, h2, h3, h4, h5⟩, hk, hc1, hc2, ht', hn⟩ := Fo.from_grow hb _ _ _ hfrom
        have hnw : next.From w b (o' + j * 5 + 5) := hfrom.2.2.2.2.2
        have hln : j + (next.len + 1) = F.len := hj
        have hlt : (j : Int) < (F.len : Int) := by omega
        have hjl : j < F.len := by omega
        have hss : kids.size + 1 + next.size ≤ F.size := hs
        have HD : Hid (F.drop j = .cons k' t' m' e' a' c' kids next) := hd
        have HP : Hid (Pre (fun b => w.heap.size < b) wr w.heap.size F 0 j) := hP
        have HN : Hid (next.From w b (o' + j * 5 + 5)) := hnw
        clear hj hin hs hd hP hnw hn hfrom
        go_wp2_with fail
        refine (H k' t' m' e' a' c' kids wr (by omega) (by omega) hk hc1 hc2 ht').mono ?_
        rintro r w1 ⟨⟨nb, F1, rfl, hnb, hA, hB, hF1⟩, hb1⟩
        have hR1 := hR.grow hb1
        have hz1 := hb1.size
        have HP1 : Hid (Pre (fun b => w.heap.size < b) w1 w.heap.size F 0 j) := Pre.agree (fun b o v _ hv => (hb1.cell (p := ⟨b, o, none⟩) (World.block_lt_of_cell? wr _ hv)).trans hv) F 0 j (fun o v _ hv => (hb1.cell (p := ⟨_, o, none⟩) (World.block_lt_of_cell? wr _ hv)).trans hv) HP.out
        have hb2 := hb.trans (hb1.mono hb.size)
        obtain ⟨⟨v0, c0⟩, f0⟩ := hR1 (j * 5) (by omega)
        obtain ⟨⟨v1, c1⟩, f1⟩ := hR1 (j * 5 + 1) (by omega)
        obtain ⟨⟨v2, c2⟩, f2⟩ := hR1 (j * 5 + 2) (by omega)
        obtain ⟨⟨v3, c3⟩, f3⟩ := hR1 (j * 5 + 3) (by omega)
        obtain ⟨⟨v4, c4⟩, f4⟩ := hR1 (j * 5 + 4) (by omega)
        clear h1 h2 h3 h4 h5 hk hR hb hb1 HP H
        have HF : Hid (F1.alike kids ∧ F1.Blk (fun b => wr.heap.size ≤ b) ∧ F1.From w1 nb 0) := ⟨hA, hB, hF1⟩
        clear hA hB hF1
        go_wp2_with fail
        go_round
        case rel =>
          obtain ⟨hA, hB, hF1⟩ := HF.out
          have hl1 := Fo.alike_len hA
          have hP2 : Pre (fun b => w.heap.size < b) (put5 w1 w.heap.size (j * 5) (.int .i64 k') (.string t') (.int .i64 m') (.int .i64 e') (.slice (some ⟨nb, 0, none⟩) F1.len F1.len)) w.heap.size F 0 j :=
            Pre.agree (fun b o v hb hv => (put5_other (.inl (by omega))).trans hv) F 0 j (fun o v ho hv => (put5_other (.inr (.inl (by omega)))).trans hv) HP1.out
          have hC : Cop (fun b => w.heap.size < b) (put5 w1 w.heap.size (j * 5) (.int .i64 k') (.string t') (.int .i64 m') (.int .i64 e') (.slice (some ⟨nb, 0, none⟩) F1.len F1.len)) w.heap.size (0 + 5 * j) k' t' m' e' kids := by
            rw [show 0 + 5 * j = j * 5 by omega]
            refine ⟨some ⟨nb, 0, none⟩, F1.len, F1, put5_cells (fun q hq => (hR1 (j * 5 + q) (by omega)).1), .inr ⟨nb, 0, rfl, by omega, ?_⟩, hB.mono (fun b hb => by omega), hA, Nat.le_refl _, by omega, ht'⟩
            exact Fo.from_agree (P := fun b => w.heap.size < b) (fun b o v hb hv => (put5_other (.inl (by omega))).trans hv) F1 nb 0 (by omega) (hB.mono (fun b hb => by omega)) hF1
          refine ⟨j + 1, next, by go_num, Fo.drop_next HD.out, by omega, by omega, .inr ⟨b, o', rfl, ?_⟩, hR1.put5 _ _ _ _ _ _, Pre.snoc HD.out hP2 hC, ?_, put5_below hb2 (Nat.le_refl _) _ _ _ _ _ _⟩
          · rw [show o' + (j + 1) * 5 = o' + j * 5 + 5 by omega]; exact HN.out
          · show w.heap.size < (put5 w1 w.heap.size (j * 5) _ _ _ _ _).heap.size
            rw [put5_size]; omega
        case measure => simp [intOf]; omega

/-- five cells of a block, that may be written -/
def Five (w : World) (b : Nat) (v0 v1 v2 v3 v4 : Value) : Prop := (w.cell? ⟨b, 0, none⟩ = some v0 ∧ w.cell? ⟨b, 1, none⟩ = some v1 ∧ w.cell? ⟨b, 2, none⟩ = some v2 ∧ w.cell? ⟨b, 3, none⟩ = some v3 ∧ w.cell? ⟨b, 4, none⟩ = some v4) ∧ (w.frozen? ⟨b, 0, none⟩ = false ∧ w.frozen? ⟨b, 1, none⟩ = false ∧ w.frozen? ⟨b, 2, none⟩ = false ∧ w.frozen? ⟨b, 3, none⟩ = false ∧ w.frozen? ⟨b, 4, none⟩ = false)
theorem Five.new (w : World) (v0 v1 v2 v3 v4 : Value) (T : TypeId) : Five (w.alloc (.cells #[v0, v1, v2, v3, v4] T)) w.heap.size v0 v1 v2 v3 v4 := by
  refine ⟨⟨?_, ?_, ?_, ?_, ?_⟩, ?_, ?_, ?_, ?_, ?_⟩ <;> simp
theorem Five.lt {w : World} {b : Nat} {v0 v1 v2 v3 v4 : Value} (h : Five w b v0 v1 v2 v3 v4) : b < w.heap.size := World.block_lt_of_cell? w _ h.1.1
theorem Five.below {B : Nat} {w w' : World} {b : Nat} {v0 v1 v2 v3 v4 : Value} (h : Five w b v0 v1 v2 v3 v4) (hb : Below B w w') (hB : b < B) : Five w' b v0 v1 v2 v3 v4 := by
  obtain ⟨⟨a0, a1, a2, a3, a4⟩, f0, f1, f2, f3, f4⟩ := h
  exact ⟨⟨(hb.cell (p := ⟨b, 0, none⟩) hB).trans a0, (hb.cell (p := ⟨b, 1, none⟩) hB).trans a1, (hb.cell (p := ⟨b, 2, none⟩) hB).trans a2, (hb.cell (p := ⟨b, 3, none⟩) hB).trans a3, (hb.cell (p := ⟨b, 4, none⟩) hB).trans a4⟩, (hb.frozen (p := ⟨b, 0, none⟩) hB).trans f0, (hb.frozen (p := ⟨b, 1, none⟩) hB).trans f1, (hb.frozen (p := ⟨b, 2, none⟩) hB).trans f2, (hb.frozen (p := ⟨b, 3, none⟩) hB).trans f3, (hb.frozen (p := ⟨b, 4, none⟩) hB).trans f4⟩

theorem Five.setOther {w : World} {b : Nat} {v0 v1 v2 v3 v4 : Value} (h : Five w b v0 v1 v2 v3 v4) {j : Nat} (hj : ¬ b = j) (o : Nat) (u : Value) : Five (w.setCell ⟨j, o, none⟩ u) b v0 v1 v2 v3 v4 := by
  obtain ⟨⟨a0, a1, a2, a3, a4⟩, f0, f1, f2, f3, f4⟩ := h
  have far : ∀ o', (w.setCell ⟨j, o, none⟩ u).cell? ⟨b, o', none⟩ = w.cell? ⟨b, o', none⟩ := fun o' => World.cell?_setCell_other _ _ _ _ (fun e => hj (by simpa using congrArg Addr.block e.symm))
  exact ⟨⟨(far 0).trans a0, (far 1).trans a1, (far 2).trans a2, (far 3).trans a3, (far 4).trans a4⟩, by simpa using f0, by simpa using f1, by simpa using f2, by simpa using f3, by simpa using f4⟩
theorem Five.setNum {w : World} {b : Nat} {v0 v1 v2 v3 v4 : Value} (h : Five w b v0 v1 v2 v3 v4) (u2 u3 : Value) : Five ((w.setCell ⟨b, 2, none⟩ u2).setCell ⟨b, 3, none⟩ u3) b v0 v1 u2 u3 v4 := by
  obtain ⟨⟨a0, a1, a2, a3, a4⟩, f0, f1, f2, f3, f4⟩ := h
  refine ⟨⟨?_, ?_, ?_, ?_, ?_⟩, by simpa using f0, by simpa using f1, by simpa using f2, by simpa using f3, by simpa using f4⟩
  · rw [set_far (by omega), set_far (by omega)]; exact a0
  · rw [set_far (by omega), set_far (by omega)]; exact a1
  · rw [set_far (by omega)]; exact set_near ⟨_, a2⟩
  · exact set_near (set_is ⟨_, a3⟩)
  · rw [set_far (by omega), set_far (by omega)]; exact a4

set_option maxHeartbeats 1000000 in
theorem toNode_step (N : Nat) (H : ∀ (a : Option Addr) (c : Nat) (F : Fo) (w : World), F.size ≤ N → F.size ≤ 2000000 → F.In w a → F.len ≤ c → c ≤ maxLen →
      Calls Try.prog 28 #[.slice a F.len c] w fun r w' => (∃ (nb : Nat) (F' : Fo), r = .returned (.slice (some ⟨nb, 0, none⟩) F'.len F'.len) ∧ w.heap.size ≤ nb ∧ F'.alike F ∧ F'.Blk (fun b => w.heap.size ≤ b) ∧ F'.From w' nb 0) ∧ Below w.heap.size w w') :
    ∀ (k : Int) (t : ByteArray) (m e : Int) (a : Option Addr) (c : Nat) (F : Fo) (w : World), F.size ≤ N → F.size ≤ 2000000 → F.In w a → F.len ≤ c → c ≤ maxLen →
      Calls Try.prog 10 #[nodeV k t m e a F.len c] w fun r w' => (∃ (nb : Nat) (F' : Fo), r = .returned (nodeV k t m e (some ⟨nb, 0, none⟩) F'.len F'.len) ∧ w.heap.size ≤ nb ∧ F'.alike F ∧ F'.Blk (fun b => w.heap.size ≤ b) ∧ F'.From w' nb 0) ∧ Below w.heap.size w w' := by
  intro k t m e a c F w hF hF2 hin hl hc
  obtain ⟨W0, hW0⟩ : ∃ W0, W0 = ((w.alloc (.cells #[.int .i64 k, .string t, .int .i64 m, .int .i64 e, .slice a F.len c] 26)).alloc (.cells #[.int .i64 0, .string ⟨#[]⟩, .int .i64 0, .int .i64 0, .slice none 0 0] 32)).alloc (.cells #[.int .i64 k, .string t, .int .i64 0, .int .i64 0, .slice none 0 0] 32) := ⟨_, rfl⟩
  have hB0 : Below w.heap.size w W0 := by subst hW0; exact (by (repeat' (first | assumption | exact Below.refl _ _ | refine Below.alloc ?_ ?_ _ | refine Below.setCell ?_ ?_ _ | refine Below.drew ?_ | refine below_drewN ?_ _)) <;> (first | omega | (simp <;> omega)))
  have hsz : W0.heap.size = w.heap.size + 1 + 1 + 1 := by subst hW0; simp
  have A0 : Five W0 w.heap.size (.int .i64 k) (.string t) (.int .i64 m) (.int .i64 e) (.slice a F.len c) := by
    subst hW0
    exact ((Five.new w _ _ _ _ _ _).below ((Below.refl _ _).alloc (Nat.le_refl _) _) (by simp)).below ((Below.refl _ _).alloc (Nat.le_refl _) _) (by simp; omega)
  have B0 : Five W0 (w.heap.size + 1) (.int .i64 0) (.string ⟨#[]⟩) (.int .i64 0) (.int .i64 0) (.slice none 0 0) := by
    subst hW0
    have := Five.new (w.alloc (.cells #[.int .i64 k, .string t, .int .i64 m, .int .i64 e, .slice a F.len c] 26)) (.int .i64 0) (.string ⟨#[]⟩) (.int .i64 0) (.int .i64 0) (.slice none 0 0) 32
    rw [World.size_alloc] at this
    exact this.below ((Below.refl _ _).alloc (Nat.le_refl _) _) (by simp)
  have C0 : Five W0 (w.heap.size + 1 + 1) (.int .i64 k) (.string t) (.int .i64 0) (.int .i64 0) (.slice none 0 0) := by
    subst hW0
    have := Five.new ((w.alloc (.cells #[.int .i64 k, .string t, .int .i64 m, .int .i64 e, .slice a F.len c] 26)).alloc (.cells #[.int .i64 0, .string ⟨#[]⟩, .int .i64 0, .int .i64 0, .slice none 0 0] 32)) (.int .i64 k) (.string t) (.int .i64 0) (.int .i64 0) (.slice none 0 0) 32
    rw [World.size_alloc, World.size_alloc] at this
    exact this
  have l1 : w.heap.size < W0.heap.size := by omega
  have l2 : w.heap.size + 1 < W0.heap.size := by omega
  have l3 : w.heap.size + 1 + 1 < W0.heap.size := by omega
  have HSZ : Hid (W0.heap.size = w.heap.size + 1 + 1 + 1) := hsz
  clear hsz
  go_enter Try.func10, Try.ntmps10
  go_wp2_with fail
  rw [← hW0]
  clear hW0
  refine (toDec_any _ _ _).mono ?_
  rintro r w1 ⟨rfl, hb1⟩
  have A1 := A0.below hb1 l1
  have B1 := B0.below hb1 l2
  have C1 := C0.below hb1 l3
  have hB1 := hB0.trans (hb1.mono (Nat.le_of_lt l1))
  have hz1 := hb1.size
  clear A0 B0 C0 hB0 hb1
  obtain ⟨⟨a0, a1, a2, a3, a4⟩, _, _, _, _, _⟩ := id A1
  obtain ⟨⟨c0, c1, c2, c3, c4⟩, g0, g1, g2, g3, g4⟩ := id C1
  go_wp2_with fail
  obtain ⟨W2, hW2⟩ : ∃ W2, W2 = (w1.setCell ⟨w.heap.size + 1 + 1, 2, none⟩ (.int .i64 m)).setCell ⟨w.heap.size + 1 + 1, 3, none⟩ (.int .i64 e) := ⟨_, rfl⟩
  have C2 : Five W2 (w.heap.size + 1 + 1) (.int .i64 k) (.string t) (.int .i64 m) (.int .i64 e) (.slice none 0 0) := by rw [hW2]; exact C1.setNum _ _
  have B2 : Five W2 (w.heap.size + 1) (.int .i64 0) (.string ⟨#[]⟩) (.int .i64 0) (.int .i64 0) (.slice none 0 0) := by rw [hW2]; exact (B1.setOther (by omega) _ _).setOther (by omega) _ _
  have hB2 : Below w.heap.size w W2 := by rw [hW2]; exact (hB1.setCell (p := ⟨w.heap.size + 1 + 1, 2, none⟩) (by show _ ≤ _ + 1 + 1; omega) _).setCell (p := ⟨w.heap.size + 1 + 1, 3, none⟩) (by show _ ≤ _ + 1 + 1; omega) _
  rw [← hW2]
  clear hW2 a0 a1 a2 a3 a4 c0 c1 c2 c3 c4 g0 g1 g2 g3 g4 A1 B1 C1 hB1
  refine (H a c F W2 hF hF2 (hin.grow hB2) hl hc).mono ?_
  rintro r w3 ⟨⟨nb, F', rfl, hnb, hA, hK, hFr⟩, hb3⟩
  have lC := C2.lt
  have C3 := C2.below hb3 lC
  have B3 := B2.below hb3 B2.lt
  have hB3 := hB2.trans (hb3.mono hB2.size)
  clear B2 C2 hB2 hb3 H hin
  have HF : Hid (F'.alike F ∧ F'.Blk (fun b => W2.heap.size ≤ b) ∧ F'.From w3 nb 0) := ⟨hA, hK, hFr⟩
  clear hA hK hFr
  obtain ⟨⟨b0, b1, b2, b3, b4⟩, e0, e1, e2, e3, e4⟩ := B3
  obtain ⟨⟨c0, c1, c2, c3, c4⟩, g0, g1, g2, g3, g4⟩ := C3
  go_wp2_with fail
  have hne : ∀ o : Nat, ((w3.setCell ⟨w.heap.size + 1 + 1, 4, none⟩ (.slice (some ⟨nb, 0, none⟩) F'.len F'.len)).cell? ⟨w.heap.size + 1, o, none⟩) = w3.cell? ⟨w.heap.size + 1, o, none⟩ := fun o => World.cell?_setCell_other _ _ _ _ (by simp)
  obtain ⟨p0, p1, p2, p3, p4⟩ := put5_cells (w := w3.setCell ⟨w.heap.size + 1 + 1, 4, none⟩ (.slice (some ⟨nb, 0, none⟩) F'.len F'.len)) (nb := w.heap.size + 1) (o := 0) (v0 := .int .i64 k) (v1 := .string t) (v2 := .int .i64 m) (v3 := .int .i64 e) (v4 := .slice (some ⟨nb, 0, none⟩) F'.len F'.len)
    (fun q hq => by
      rw [hne, Nat.zero_add]
      have : q = 0 ∨ q = 1 ∨ q = 2 ∨ q = 3 ∨ q = 4 := by omega
      rcases this with rfl | rfl | rfl | rfl | rfl
      · exact ⟨_, b0⟩
      · exact ⟨_, b1⟩
      · exact ⟨_, b2⟩
      · exact ⟨_, b3⟩
      · exact ⟨_, b4⟩)
  simp only [Nat.zero_add] at p0 p1 p2 p3 p4
  obtain ⟨W4, hW4⟩ : ∃ W4, W4 = put5 (w3.setCell ⟨w.heap.size + 1 + 1, 4, none⟩ (.slice (some ⟨nb, 0, none⟩) F'.len F'.len)) (w.heap.size + 1) 0 (.int .i64 k) (.string t) (.int .i64 m) (.int .i64 e) (.slice (some ⟨nb, 0, none⟩) F'.len F'.len) := ⟨_, rfl⟩
  have hB4 : Below w.heap.size w W4 := by rw [hW4]; exact put5_below (hB3.setCell (p := ⟨w.heap.size + 1 + 1, 4, none⟩) (by show _ ≤ _ + 1 + 1; omega) _) (by omega) _ _ _ _ _ _
  have hF4 : F'.From W4 nb 0 := by
    obtain ⟨hA, hK, hFr⟩ := HF.out
    refine Fo.from_agree (P := fun b => W2.heap.size ≤ b) (fun b o v hb hv => ?_) F' nb 0 hnb hK hFr
    rw [hW4, put5_other (.inl (by omega))]
    exact (World.cell?_setCell_other _ _ _ _ (fun e => by have : w.heap.size + 1 + 1 = b := by simpa using congrArg Addr.block e
                                                          omega)).trans hv
  rw [← hW4] at p0 p1 p2 p3 p4
  show bodyPost Try.prog Try.f10 _ Exit.ret _ (put5 (w3.setCell ⟨w.heap.size + 1 + 1, 4, none⟩ (.slice (some ⟨nb, 0, none⟩) F'.len F'.len)) (w.heap.size + 1) 0 (.int .i64 k) (.string t) (.int .i64 m) (.int .i64 e) (.slice (some ⟨nb, 0, none⟩) F'.len F'.len))
  rw [← hW4]
  obtain ⟨hA, hK, _⟩ := HF.out
  refine bodyPost_ret (v := nodeV k t m e (some ⟨nb, 0, none⟩) F'.len F'.len) (by simp [results, Try.results10, go_sem, p0, p1, p2, p3, p4]) rfl ⟨⟨nb, F', rfl, by omega, hA, hK.mono (fun b hb => by omega), hF4⟩, hB4⟩
theorem toNode_all (N : Nat) : ∀ (k : Int) (t : ByteArray) (m e : Int) (a : Option Addr) (c : Nat) (F : Fo) (w : World), F.size < N → F.size ≤ 2000000 → F.In w a → F.len ≤ c → c ≤ maxLen → t.size ≤ maxLen →
      Calls Try.prog 10 #[nodeV k t m e a F.len c] w fun r w' => (∃ (nb : Nat) (F' : Fo), r = .returned (nodeV k t m e (some ⟨nb, 0, none⟩) F'.len F'.len) ∧ w.heap.size ≤ nb ∧ F'.alike F ∧ F'.Blk (fun b => w.heap.size ≤ b) ∧ F'.From w' nb 0) ∧ Below w.heap.size w w' := by
  induction N with
  | zero => intro k t m e a c F w hF; omega
  | succ N ih => exact fun k t m e a c F w hF h2 h3 h4 h5 _ => toNode_step N (toNodeS_step N ih) k t m e a c F w (by omega) h2 h3 h4 h5
end Go.Proofs.Ytapdlnakbpociaa
