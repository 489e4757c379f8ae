/- Contracts over trees: the laws' own copy of a tree lies in cells that were never shared with a text (no part of a block is frozen). -/
import Derived.Test.YtapdlnakbpociaaFoD
namespace Go.Proofs.Ytapdlnakbpociaa
open Go.RowKit
attribute [local go_sem] cell_alloc_is frozen_alloc_is
/-- from a block on all blocks are cells, none of them frozen -/
def Clean (n : Nat) (w : World) : Prop := ∀ b o, n ≤ b → w.heap[b]? = some o → ∃ cs t, o = .cells cs t (0, 0)
theorem Clean.refl (w : World) : Clean w.heap.size w := fun b o h ho => absurd (Array.getElem?_eq_some_iff.1 ho).1 (by omega)
theorem Clean.alloc {n : Nat} {w : World} (h : Clean n w) (cs : Array Value) (t : TypeId) : Clean n (w.alloc (.cells cs t)) := by
  intro b o hb ho
  have e : (w.heap.push (.cells cs t))[b]? = some o := ho
  rw [Array.getElem?_push] at e
  split at e
  · cases e; exact ⟨cs, t, rfl⟩
  · exact h b o hb e
theorem Clean.setCell {n : Nat} {w : World} (h : Clean n w) (p : Addr) (v : Value) : Clean n (w.setCell p v) := by
  intro b o hb ho
  by_cases e : b = p.block
  · subst e
    unfold World.setCell at ho
    simp only [Array.getElem?_modify, if_true] at ho
    obtain ⟨o', h1, h2⟩ := Option.map_eq_some_iff.1 ho
    obtain ⟨cs, t, rfl⟩ := h _ o' hb h1
    exact ⟨_, _, h2.symm⟩
  · rw [Below.heap_setCell _ _ _ _ e] at ho
    exact h b o hb ho
theorem Clean.trans {n : Nat} {w w' : World} (h : Clean n w) (hb : Below w.heap.size w w') (h' : Clean w.heap.size w') : Clean n w' := by
  intro b o hn ho
  by_cases hlt : b < w.heap.size
  · rw [hb.block b hlt] at ho; exact h b o hn ho
  · exact h' b o (by omega) ho
theorem Clean.put5 {n : Nat} {w : World} (h : Clean n w) (nb o : Nat) (v0 v1 v2 v3 v4 : Value) : Clean n (put5 w nb o v0 v1 v2 v3 v4) := ((((h.setCell _ _).setCell _ _).setCell _ _).setCell _ _).setCell _ _
set_option maxHeartbeats 400000 in
theorem toDecC_any (m x : Int) (w : World) :
    Calls Try.prog 27 #[.agg #[.int .i64 m, .int .i64 x]] w fun e w' => e = .returned (.agg #[.int .i64 m, .int .i64 x]) ∧ Below w.heap.size w w' ∧ Clean w.heap.size w' := by
  go_enter Try.func27, Try.ntmps27
  go_wp2
  refine bodyPost_ret (v := .agg #[.int .i64 m, .int .i64 x]) (by simp [results, Try.results27, go_sem]) rfl ⟨rfl, (by (repeat' (first | assumption | exact Below.refl _ _ | refine Below.alloc ?_ ?_ _ | refine Below.setCell ?_ ?_ _ | refine Below.drew ?_ | refine below_drewN ?_ _)) <;> (first | omega | (simp <;> omega))), ?_⟩
  repeat' first | exact Clean.refl _ | refine Clean.alloc ?_ _ _ | refine Clean.setCell ?_ _ _
set_option maxHeartbeats 1000000 in
theorem toNodeSC_step (N : Nat) (H : ∀ (k : Int) (t : ByteArray) (m e : Int) (a : Option Addr) (c : Nat) (F : Fo) (w : World), F.size < N → F.size ≤ 2000000 → F.In w a → F.len ≤ c → c ≤ maxLen → t.size ≤ maxLen →
      Calls Try.prog 10 #[nodeV k t m e a F.len c] w fun r w' => (∃ (nb : Nat) (F' : Fo), r = .returned (nodeV k t m e (some ⟨nb, 0, none⟩) F'.len F'.len) ∧ w.heap.size ≤ nb ∧ F'.alike F ∧ F'.Blk (fun b => w.heap.size ≤ b) ∧ F'.From w' nb 0 ∧ Clean w.heap.size w') ∧ Below w.heap.size w w') :
    ∀ (a : Option Addr) (c : Nat) (F : Fo) (w : World), F.size ≤ N → F.size ≤ 2000000 → F.In w a → F.len ≤ c → c ≤ maxLen →
      Calls Try.prog 28 #[.slice a F.len c] w fun r w' => (∃ (nb : Nat) (F' : Fo), r = .returned (.slice (some ⟨nb, 0, none⟩) F'.len F'.len) ∧ w.heap.size ≤ nb ∧ F'.alike F ∧ F'.Blk (fun b => w.heap.size ≤ b) ∧ F'.From w' nb 0 ∧ Clean w.heap.size w') ∧ Below w.heap.size w w' := by
  intro a c F w hF hF2 hin hl hc
  have hll := F.len_le
  have hmk := make_nodes F.len (by omega)
  unfold maxLen at hc
  go_enter Try.func28, Try.ntmps28
  go_wp2_with fail
  go_loopw [4] (fun i wr => ∃ (j : Nat) (G : Fo), i = .int .i64 j ∧ F.drop j = G ∧ j + G.len = F.len ∧ G.size ≤ F.size ∧ (G = .nil ∨ ∃ b o', a = some ⟨b, o', none⟩ ∧ G.From w b (o' + j * 5)) ∧ Room wr w.heap.size F.len ∧ Pre (fun b => w.heap.size < b) wr w.heap.size F 0 j ∧ w.heap.size < wr.heap.size ∧ Clean w.heap.size wr ∧ Below w.heap.size w wr) (fun i _ => F.len - (intOf i).toNat)
  case atStart =>
    refine ⟨0, F, rfl, by cases F <;> rfl, by omega, Nat.le_refl _, ?_, room_new w F.len, by unfold Pre; trivial, by simp, (Clean.refl w).alloc _ _, (Below.refl _ _).alloc (Nat.le_refl _) _⟩
    rcases hin with h | ⟨b, o', e1, e2⟩
    · exact .inl h
    · exact .inr ⟨b, o', e1, by simpa using e2⟩
  case round =>
    obtain ⟨j, G, rfl, hd, hj, hs, hG, hR, hP, hsz, hcl, hb⟩ := hrel
    have HCl : Hid (Clean w.heap.size wr) := hcl
    clear hcl
    cases G with
    | nil =>
      have hj' : j = F.len := by simpa [Fo.len] using hj
      clear hj hs hG H hd
      have HP : Hid (Pre (fun b => w.heap.size < b) wr w.heap.size F 0 j) := hP
      clear hP
      subst hj'
      go_wp2_with fail
      go_ret
      obtain ⟨F', h1, h2, h3⟩ := Pre.done F 0 F.len (Nat.le_refl _) HP.out
      refine ⟨⟨w.heap.size, F', ?_, Nat.le_refl _, h1, h2.mono (fun b hb => Nat.le_of_lt hb), h3, HCl.out⟩, hb⟩
      rw [Fo.alike_len h1]; rfl
    | cons k' t' m' e' a' c' kids next =>
      rcases hG with hG | ⟨b, o', rfl, hfrom⟩
      · cases hG
      · obtain ⟨⟨h1, h2, h3, h4, h5⟩, hk, hc1, hc2, ht', hn⟩ := Fo.from_grow hb _ _ _ hfrom
        have hnw : next.From w b (o' + j * 5 + 5) := hfrom.2.2.2.2.2
        have hln : j + (next.len + 1) = F.len := hj
        have hlt : (j : Int) < (F.len : Int) := by omega
        have hjl : j < F.len := by omega
        have hss : kids.size + 1 + next.size ≤ F.size := hs
        have HD : Hid (F.drop j = .cons k' t' m' e' a' c' kids next) := hd
        have HP : Hid (Pre (fun b => w.heap.size < b) wr w.heap.size F 0 j) := hP
        have HN : Hid (next.From w b (o' + j * 5 + 5)) := hnw
        clear hj hin hs hd hP hnw hn hfrom
        go_wp2_with fail
        refine (H k' t' m' e' a' c' kids wr (by omega) (by omega) hk hc1 hc2 ht').mono ?_
        rintro r w1 ⟨⟨nb, F1, rfl, hnb, hA, hB, hF1, hcl1⟩, hb1⟩
        have HC1 : Hid (Clean w.heap.size w1) := HCl.out.trans hb1 hcl1
        clear hcl1 HCl
        have hR1 := hR.grow hb1
        have hz1 := hb1.size
        have HP1 : Hid (Pre (fun b => w.heap.size < b) w1 w.heap.size F 0 j) := Pre.agree (fun b o v _ hv => (hb1.cell (p := ⟨b, o, none⟩) (World.block_lt_of_cell? wr _ hv)).trans hv) F 0 j (fun o v _ hv => (hb1.cell (p := ⟨_, o, none⟩) (World.block_lt_of_cell? wr _ hv)).trans hv) HP.out
        have hb2 := hb.trans (hb1.mono hb.size)
        obtain ⟨⟨v0, c0⟩, f0⟩ := hR1 (j * 5) (by omega)
        obtain ⟨⟨v1, c1⟩, f1⟩ := hR1 (j * 5 + 1) (by omega)
        obtain ⟨⟨v2, c2⟩, f2⟩ := hR1 (j * 5 + 2) (by omega)
        obtain ⟨⟨v3, c3⟩, f3⟩ := hR1 (j * 5 + 3) (by omega)
        obtain ⟨⟨v4, c4⟩, f4⟩ := hR1 (j * 5 + 4) (by omega)
        clear h1 h2 h3 h4 h5 hk hR hb hb1 HP H
        have HF : Hid (F1.alike kids ∧ F1.Blk (fun b => wr.heap.size ≤ b) ∧ F1.From w1 nb 0) := ⟨hA, hB, hF1⟩
        clear hA hB hF1
        go_wp2_with fail
        go_round
        case rel =>
          obtain ⟨hA, hB, hF1⟩ := HF.out
          have hl1 := Fo.alike_len hA
          have hP2 : Pre (fun b => w.heap.size < b) (put5 w1 w.heap.size (j * 5) (.int .i64 k') (.string t') (.int .i64 m') (.int .i64 e') (.slice (some ⟨nb, 0, none⟩) F1.len F1.len)) w.heap.size F 0 j :=
            Pre.agree (fun b o v hb hv => (put5_other (.inl (by omega))).trans hv) F 0 j (fun o v ho hv => (put5_other (.inr (.inl (by omega)))).trans hv) HP1.out
          have hC : Cop (fun b => w.heap.size < b) (put5 w1 w.heap.size (j * 5) (.int .i64 k') (.string t') (.int .i64 m') (.int .i64 e') (.slice (some ⟨nb, 0, none⟩) F1.len F1.len)) w.heap.size (0 + 5 * j) k' t' m' e' kids := by
            rw [show 0 + 5 * j = j * 5 by omega]
            refine ⟨some ⟨nb, 0, none⟩, F1.len, F1, put5_cells (fun q hq => (hR1 (j * 5 + q) (by omega)).1), .inr ⟨nb, 0, rfl, by omega, ?_⟩, hB.mono (fun b hb => by omega), hA, Nat.le_refl _, by omega, ht'⟩
            exact Fo.from_agree (P := fun b => w.heap.size < b) (fun b o v hb hv => (put5_other (.inl (by omega))).trans hv) F1 nb 0 (by omega) (hB.mono (fun b hb => by omega)) hF1
          refine ⟨j + 1, next, by go_num, Fo.drop_next HD.out, by omega, by omega, .inr ⟨b, o', rfl, ?_⟩, hR1.put5 _ _ _ _ _ _, Pre.snoc HD.out hP2 hC, ?_, HC1.out.put5 _ _ _ _ _ _ _, put5_below hb2 (Nat.le_refl _) _ _ _ _ _ _⟩
          · rw [show o' + (j + 1) * 5 = o' + j * 5 + 5 by omega]; exact HN.out
          · show w.heap.size < (put5 w1 w.heap.size (j * 5) _ _ _ _ _).heap.size
            rw [put5_size]; omega
        case measure => simp [intOf]; omega

set_option maxHeartbeats 1000000 in
theorem toNodeC_step (N : Nat) (H : ∀ (a : Option Addr) (c : Nat) (F : Fo) (w : World), F.size ≤ N → F.size ≤ 2000000 → F.In w a → F.len ≤ c → c ≤ maxLen →
      Calls Try.prog 28 #[.slice a F.len c] w fun r w' => (∃ (nb : Nat) (F' : Fo), r = .returned (.slice (some ⟨nb, 0, none⟩) F'.len F'.len) ∧ w.heap.size ≤ nb ∧ F'.alike F ∧ F'.Blk (fun b => w.heap.size ≤ b) ∧ F'.From w' nb 0 ∧ Clean w.heap.size w') ∧ Below w.heap.size w w') :
    ∀ (k : Int) (t : ByteArray) (m e : Int) (a : Option Addr) (c : Nat) (F : Fo) (w : World), F.size ≤ N → F.size ≤ 2000000 → F.In w a → F.len ≤ c → c ≤ maxLen →
      Calls Try.prog 10 #[nodeV k t m e a F.len c] w fun r w' => (∃ (nb : Nat) (F' : Fo), r = .returned (nodeV k t m e (some ⟨nb, 0, none⟩) F'.len F'.len) ∧ w.heap.size ≤ nb ∧ F'.alike F ∧ F'.Blk (fun b => w.heap.size ≤ b) ∧ F'.From w' nb 0 ∧ Clean w.heap.size w') ∧ Below w.heap.size w w' := by
  intro k t m e a c F w hF hF2 hin hl hc
  obtain ⟨W0, hW0⟩ : ∃ W0, W0 = ((w.alloc (.cells #[.int .i64 k, .string t, .int .i64 m, .int .i64 e, .slice a F.len c] 26)).alloc (.cells #[.int .i64 0, .string ⟨#[]⟩, .int .i64 0, .int .i64 0, .slice none 0 0] 32)).alloc (.cells #[.int .i64 k, .string t, .int .i64 0, .int .i64 0, .slice none 0 0] 32) := ⟨_, rfl⟩
  have hB0 : Below w.heap.size w W0 := by subst hW0; exact (by (repeat' (first | assumption | exact Below.refl _ _ | refine Below.alloc ?_ ?_ _ | refine Below.setCell ?_ ?_ _ | refine Below.drew ?_ | refine below_drewN ?_ _)) <;> (first | omega | (simp <;> omega)))
  have HC0 : Hid (Clean w.heap.size W0) := by unfold Hid; subst hW0; exact (((Clean.refl w).alloc _ _).alloc _ _).alloc _ _
  have hsz : W0.heap.size = w.heap.size + 1 + 1 + 1 := by subst hW0; simp
  have A0 : Five W0 w.heap.size (.int .i64 k) (.string t) (.int .i64 m) (.int .i64 e) (.slice a F.len c) := by
    subst hW0
    exact ((Five.new w _ _ _ _ _ _).below ((Below.refl _ _).alloc (Nat.le_refl _) _) (by simp)).below ((Below.refl _ _).alloc (Nat.le_refl _) _) (by simp; omega)
  have B0 : Five W0 (w.heap.size + 1) (.int .i64 0) (.string ⟨#[]⟩) (.int .i64 0) (.int .i64 0) (.slice none 0 0) := by
    subst hW0
    have := Five.new (w.alloc (.cells #[.int .i64 k, .string t, .int .i64 m, .int .i64 e, .slice a F.len c] 26)) (.int .i64 0) (.string ⟨#[]⟩) (.int .i64 0) (.int .i64 0) (.slice none 0 0) 32
    rw [World.size_alloc] at this
    exact this.below ((Below.refl _ _).alloc (Nat.le_refl _) _) (by simp)
  have C0 : Five W0 (w.heap.size + 1 + 1) (.int .i64 k) (.string t) (.int .i64 0) (.int .i64 0) (.slice none 0 0) := by
    subst hW0
    have := Five.new ((w.alloc (.cells #[.int .i64 k, .string t, .int .i64 m, .int .i64 e, .slice a F.len c] 26)).alloc (.cells #[.int .i64 0, .string ⟨#[]⟩, .int .i64 0, .int .i64 0, .slice none 0 0] 32)) (.int .i64 k) (.string t) (.int .i64 0) (.int .i64 0) (.slice none 0 0) 32
    rw [World.size_alloc, World.size_alloc] at this
    exact this
  have l1 : w.heap.size < W0.heap.size := by omega
  have l2 : w.heap.size + 1 < W0.heap.size := by omega
  have l3 : w.heap.size + 1 + 1 < W0.heap.size := by omega
  have HSZ : Hid (W0.heap.size = w.heap.size + 1 + 1 + 1) := hsz
  clear hsz
  go_enter Try.func10, Try.ntmps10
  go_wp2_with fail
  rw [← hW0]
  clear hW0
  refine (toDecC_any _ _ _).mono ?_
  rintro r w1 ⟨rfl, hb1, hcl1⟩
  have HC1 : Hid (Clean w.heap.size w1) := HC0.out.trans hb1 hcl1
  clear HC0 hcl1
  have A1 := A0.below hb1 l1
  have B1 := B0.below hb1 l2
  have C1 := C0.below hb1 l3
  have hB1 := hB0.trans (hb1.mono (Nat.le_of_lt l1))
  have hz1 := hb1.size
  clear A0 B0 C0 hB0 hb1
  obtain ⟨⟨a0, a1, a2, a3, a4⟩, _, _, _, _, _⟩ := id A1
  obtain ⟨⟨c0, c1, c2, c3, c4⟩, g0, g1, g2, g3, g4⟩ := id C1
  go_wp2_with fail
  obtain ⟨W2, hW2⟩ : ∃ W2, W2 = (w1.setCell ⟨w.heap.size + 1 + 1, 2, none⟩ (.int .i64 m)).setCell ⟨w.heap.size + 1 + 1, 3, none⟩ (.int .i64 e) := ⟨_, rfl⟩
  have C2 : Five W2 (w.heap.size + 1 + 1) (.int .i64 k) (.string t) (.int .i64 m) (.int .i64 e) (.slice none 0 0) := by rw [hW2]; exact C1.setNum _ _
  have B2 : Five W2 (w.heap.size + 1) (.int .i64 0) (.string ⟨#[]⟩) (.int .i64 0) (.int .i64 0) (.slice none 0 0) := by rw [hW2]; exact (B1.setOther (by omega) _ _).setOther (by omega) _ _
  have hB2 : Below w.heap.size w W2 := by rw [hW2]; exact (hB1.setCell (p := ⟨w.heap.size + 1 + 1, 2, none⟩) (by show _ ≤ _ + 1 + 1; omega) _).setCell (p := ⟨w.heap.size + 1 + 1, 3, none⟩) (by show _ ≤ _ + 1 + 1; omega) _
  have HC2 : Hid (Clean w.heap.size W2) := by unfold Hid; rw [hW2]; exact (HC1.out.setCell _ _).setCell _ _
  rw [← hW2]
  clear HC1
  clear hW2 a0 a1 a2 a3 a4 c0 c1 c2 c3 c4 g0 g1 g2 g3 g4 A1 B1 C1 hB1
  refine (H a c F W2 hF hF2 (hin.grow hB2) hl hc).mono ?_
  rintro r w3 ⟨⟨nb, F', rfl, hnb, hA, hK, hFr, hcl3⟩, hb3⟩
  have HC3 : Hid (Clean w.heap.size w3) := HC2.out.trans hb3 hcl3
  clear HC2 hcl3
  have lC := C2.lt
  have C3 := C2.below hb3 lC
  have B3 := B2.below hb3 B2.lt
  have hB3 := hB2.trans (hb3.mono hB2.size)
  clear B2 C2 hB2 hb3 H hin
  have HF : Hid (F'.alike F ∧ F'.Blk (fun b => W2.heap.size ≤ b) ∧ F'.From w3 nb 0) := ⟨hA, hK, hFr⟩
  clear hA hK hFr
  obtain ⟨⟨b0, b1, b2, b3, b4⟩, e0, e1, e2, e3, e4⟩ := B3
  obtain ⟨⟨c0, c1, c2, c3, c4⟩, g0, g1, g2, g3, g4⟩ := C3
  go_wp2_with fail
  have hne : ∀ o : Nat, ((w3.setCell ⟨w.heap.size + 1 + 1, 4, none⟩ (.slice (some ⟨nb, 0, none⟩) F'.len F'.len)).cell? ⟨w.heap.size + 1, o, none⟩) = w3.cell? ⟨w.heap.size + 1, o, none⟩ := fun o => World.cell?_setCell_other _ _ _ _ (by simp)
  obtain ⟨p0, p1, p2, p3, p4⟩ := put5_cells (w := w3.setCell ⟨w.heap.size + 1 + 1, 4, none⟩ (.slice (some ⟨nb, 0, none⟩) F'.len F'.len)) (nb := w.heap.size + 1) (o := 0) (v0 := .int .i64 k) (v1 := .string t) (v2 := .int .i64 m) (v3 := .int .i64 e) (v4 := .slice (some ⟨nb, 0, none⟩) F'.len F'.len)
    (fun q hq => by
      rw [hne, Nat.zero_add]
      have : q = 0 ∨ q = 1 ∨ q = 2 ∨ q = 3 ∨ q = 4 := by omega
      rcases this with rfl | rfl | rfl | rfl | rfl
      · exact ⟨_, b0⟩
      · exact ⟨_, b1⟩
      · exact ⟨_, b2⟩
      · exact ⟨_, b3⟩
      · exact ⟨_, b4⟩)
  simp only [Nat.zero_add] at p0 p1 p2 p3 p4
  obtain ⟨W4, hW4⟩ : ∃ W4, W4 = put5 (w3.setCell ⟨w.heap.size + 1 + 1, 4, none⟩ (.slice (some ⟨nb, 0, none⟩) F'.len F'.len)) (w.heap.size + 1) 0 (.int .i64 k) (.string t) (.int .i64 m) (.int .i64 e) (.slice (some ⟨nb, 0, none⟩) F'.len F'.len) := ⟨_, rfl⟩
  have hB4 : Below w.heap.size w W4 := by rw [hW4]; exact put5_below (hB3.setCell (p := ⟨w.heap.size + 1 + 1, 4, none⟩) (by show _ ≤ _ + 1 + 1; omega) _) (by omega) _ _ _ _ _ _
  have HC4 : Hid (Clean w.heap.size W4) := by unfold Hid; rw [hW4]; exact (HC3.out.setCell _ _).put5 _ _ _ _ _ _ _
  have hF4 : F'.From W4 nb 0 := by
    obtain ⟨hA, hK, hFr⟩ := HF.out
    refine Fo.from_agree (P := fun b => W2.heap.size ≤ b) (fun b o v hb hv => ?_) F' nb 0 hnb hK hFr
    rw [hW4, put5_other (.inl (by omega))]
    exact (World.cell?_setCell_other _ _ _ _ (fun e => by have : w.heap.size + 1 + 1 = b := by simpa using congrArg Addr.block e
                                                          omega)).trans hv
  rw [← hW4] at p0 p1 p2 p3 p4
  show bodyPost Try.prog Try.f10 _ Exit.ret _ (put5 (w3.setCell ⟨w.heap.size + 1 + 1, 4, none⟩ (.slice (some ⟨nb, 0, none⟩) F'.len F'.len)) (w.heap.size + 1) 0 (.int .i64 k) (.string t) (.int .i64 m) (.int .i64 e) (.slice (some ⟨nb, 0, none⟩) F'.len F'.len))
  rw [← hW4]
  obtain ⟨hA, hK, _⟩ := HF.out
  refine bodyPost_ret (v := nodeV k t m e (some ⟨nb, 0, none⟩) F'.len F'.len) (by simp [results, Try.results10, go_sem, p0, p1, p2, p3, p4]) rfl ⟨⟨nb, F', rfl, by omega, hA, hK.mono (fun b hb => by omega), hF4, HC4.out⟩, hB4⟩
theorem toNodeC_all (N : Nat) : ∀ (k : Int) (t : ByteArray) (m e : Int) (a : Option Addr) (c : Nat) (F : Fo) (w : World), F.size < N → F.size ≤ 2000000 → F.In w a → F.len ≤ c → c ≤ maxLen → t.size ≤ maxLen →
      Calls Try.prog 10 #[nodeV k t m e a F.len c] w fun r w' => (∃ (nb : Nat) (F' : Fo), r = .returned (nodeV k t m e (some ⟨nb, 0, none⟩) F'.len F'.len) ∧ w.heap.size ≤ nb ∧ F'.alike F ∧ F'.Blk (fun b => w.heap.size ≤ b) ∧ F'.From w' nb 0 ∧ Clean w.heap.size w') ∧ Below w.heap.size w w' := by
  induction N with
  | zero => intro k t m e a c F w hF; omega
  | succ N ih => exact fun k t m e a c F w hF h2 h3 h4 h5 _ => toNodeC_step N (toNodeSC_step N ih) k t m e a c F w (by omega) h2 h3 h4 h5
end Go.Proofs.Ytapdlnakbpociaa
