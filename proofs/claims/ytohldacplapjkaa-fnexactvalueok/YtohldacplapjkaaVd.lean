/- Contracts over values: the laws' own copy of a value, in cells that were never shared with a text. -/
import Derived.Test.YtohldacplapjkaaVb
namespace Go.Proofs.Ytohldacplapjkaa
open Go.RowKit
attribute [local go_sem] cell_alloc_is frozen_alloc_is
theorem valInfo : (Try.prog.info? 33).map (fun i => (i.zero, i.size, i.bytes)) = some (some (.agg #[.int .i64 0, .int .i64 0, .int .i64 0, .string ⟨#[]⟩, .slice none 0 0, .slice none 0 0]), 6, 88) := by kernel_rfl
/-- the cells of so many new values -/
def newVals (n : Nat) : Array Value := madeCells #[.int .i64 0, .int .i64 0, .int .i64 0, .string ⟨#[]⟩, .slice none 0 0, .slice none 0 0] (n * 6)
theorem make_vals (n : Nat) (hn : n ≤ 1100000) (w : World) : (Instr.makeSlice 31 (.int .i64 (n : Int)) (.int .i64 (n : Int))).run Try.prog w = .ok (.slice (some ⟨w.heap.size, 0, none⟩) n n) (w.alloc (.cells (newVals n) 33)) := by
  obtain ⟨i, hi, hzz⟩ := Option.map_eq_some_iff.1 valInfo
  simp only [Prod.mk.injEq] at hzz
  obtain ⟨hz, hs, hb⟩ := hzz
  have hr := run_make (P := Try.prog) w 31 33 i _ Try.underlying31 hi hz .i64 .i64 n n (by omega) (Int.le_refl _) (by rw [hb]; omega) (by omega)
  simp only [Int.toNat_natCast, hs] at hr
  exact hr
theorem roomV_new (w : World) (n : Nat) : RoomN (w.alloc (.cells (newVals n) 33)) w.heap.size (n * 6) := by
  have h := roomN_new w (newVals n) 33
  rw [show (newVals n).size = n * 6 from size_madeCells _ _] at h
  exact h
/-- a value is written -/
def put6 (w : World) (nb o : Nat) (v0 v1 v2 v3 v4 v5 : Value) : World := (((((w.setCell ⟨nb, o, none⟩ v0).setCell ⟨nb, o + 1, none⟩ v1).setCell ⟨nb, o + 2, none⟩ v2).setCell ⟨nb, o + 3, none⟩ v3).setCell ⟨nb, o + 4, none⟩ v4).setCell ⟨nb, o + 5, none⟩ v5
theorem put6_eq (w : World) (nb o : Nat) (v0 v1 v2 v3 v4 v5 : Value) : put6 w nb o v0 v1 v2 v3 v4 v5 = putN w nb o [v0, v1, v2, v3, v4, v5] := rfl
theorem put6_other {w : World} {nb o b o' : Nat} {v0 v1 v2 v3 v4 v5 : Value} (h : ¬ b = nb ∨ o' < o ∨ o + 6 ≤ o') : (put6 w nb o v0 v1 v2 v3 v4 v5).cell? ⟨b, o', none⟩ = w.cell? ⟨b, o', none⟩ := by
  rw [put6_eq]; exact putN_other h
theorem put6_cell {w : World} {nb o : Nat} {v0 v1 v2 v3 v4 v5 : Value} (h : ∀ q, q < 6 → ∃ u, w.cell? ⟨nb, o + q, none⟩ = some u) {i : Nat} {v : Value} (hi : ([v0, v1, v2, v3, v4, v5] : List Value)[i]? = some v) : (put6 w nb o v0 v1 v2 v3 v4 v5).cell? ⟨nb, o + i, none⟩ = some v := by
  rw [put6_eq]; exact putN_cell h hi
theorem put6_size {w : World} {nb o : Nat} {v0 v1 v2 v3 v4 v5 : Value} : (put6 w nb o v0 v1 v2 v3 v4 v5).heap.size = w.heap.size := by rw [put6_eq]; exact putN_size
theorem put6_below {B nb o : Nat} {a w : World} (h : Below B a w) (hb : B ≤ nb) (v0 v1 v2 v3 v4 v5 : Value) : Below B a (put6 w nb o v0 v1 v2 v3 v4 v5) := by rw [put6_eq]; exact putN_below hb h
theorem Clean.put6 {n : Nat} {w : World} (h : Clean n w) (nb o : Nat) (v0 v1 v2 v3 v4 v5 : Value) : Clean n (put6 w nb o v0 v1 v2 v3 v4 v5) := (((((h.setCell _ _).setCell _ _).setCell _ _).setCell _ _).setCell _ _).setCell _ _
theorem RoomN.put6 {w : World} {nb n : Nat} (h : RoomN w nb n) (b o : Nat) (v0 v1 v2 v3 v4 v5 : Value) : RoomN (put6 w b o v0 v1 v2 v3 v4 v5) nb n := by rw [put6_eq]; exact h.putN
/-- a value's names in another place -/
def Hd.to (h : Hd) (b : Nat) : Hd := ⟨h.k, h.m, h.e, h.t, some ⟨b, 0, none⟩, h.ns.length, h.ns⟩
theorem Hd.to_same (h : Hd) (b : Nat) : (h.to b).same h := ⟨⟨rfl, rfl, rfl, rfl⟩, rfl⟩
/-- a copy of a value, in new memory -/
def CopV (w w' : World) (h : Hd) (F : Vo) (r : Ending) : Prop :=
  ∃ (nb n2 : Nat) (F' : Vo), r = .returned (valV (h.to n2) (some ⟨nb, 0, none⟩) F'.len F'.len) ∧ (w.heap.size ≤ nb ∧ w.heap.size ≤ n2) ∧ F'.alike F ∧ F'.Blk (fun b => w.heap.size ≤ b) ∧ F'.From w' nb 0 ∧ SFrom w' h.ns n2 0 ∧ Clean w.heap.size w'
set_option maxHeartbeats 1000000 in
theorem toValueS_step (N : Nat) (H : ∀ (h : Hd) (a : Option Addr) (c : Nat) (F : Vo) (w : World), F.size < N → F.size ≤ 1100000 → F.few 1100000 → h.ns.length ≤ 1100000 → F.In w a → F.len ≤ c → c ≤ maxLen → h.In w →
      Calls Try.prog 8 #[valV h a F.len c] w fun r w' => CopV w w' h F r ∧ Below w.heap.size w w') :
    ∀ (a : Option Addr) (c : Nat) (F : Vo) (w : World), F.size ≤ N → F.size ≤ 1100000 → F.few 1100000 → F.In w a → F.len ≤ c → c ≤ maxLen →
      Calls Try.prog 20 #[.slice a F.len c] w fun r w' => (∃ (nb : Nat) (F' : Vo), r = .returned (.slice (some ⟨nb, 0, none⟩) F'.len F'.len) ∧ w.heap.size ≤ nb ∧ F'.alike F ∧ F'.Blk (fun b => w.heap.size ≤ b) ∧ F'.From w' nb 0 ∧ Clean w.heap.size w') ∧ Below w.heap.size w w' := by
  intro a c F w hF hF2 hfw hin hl hc
  have hll := F.len_le
  have hmk := make_vals F.len (by omega)
  unfold maxLen at hc
  go_enter Try.func20, Try.ntmps20
  go_wp2_with fail
  go_loopw [4] (fun i wr => ∃ (j : Nat) (G : Vo), i = .int .i64 j ∧ F.drop j = G ∧ j + G.len = F.len ∧ (G.size ≤ F.size ∧ G.few 1100000) ∧ (G = .nil ∨ ∃ b o', a = some ⟨b, o', none⟩ ∧ G.From w b (o' + j * 6)) ∧ RoomN wr w.heap.size (F.len * 6) ∧ VPre (fun b => w.heap.size < b) wr w.heap.size F 0 j ∧ w.heap.size < wr.heap.size ∧ Clean w.heap.size wr ∧ Below w.heap.size w wr) (fun i _ => F.len - (intOf i).toNat)
  case atStart =>
    refine ⟨0, F, rfl, by cases F <;> rfl, by omega, ⟨Nat.le_refl _, hfw⟩, ?_, roomV_new w F.len, by unfold VPre; trivial, by simp, (Clean.refl w).alloc _ _, (Below.refl _ _).alloc (Nat.le_refl _) _⟩
    rcases hin with h | ⟨b, o', e1, e2⟩
    · exact .inl h
    · exact .inr ⟨b, o', e1, by simpa using e2⟩
  case round =>
    obtain ⟨j, G, rfl, hd, hj, ⟨hs, hfG⟩, hG, hR, hP, hsz, hcl, hb⟩ := hrel
    have HCl : Hid (Clean w.heap.size wr) := hcl
    clear hcl
    cases G with
    | nil =>
      have hj' : j = F.len := by simpa [Vo.len] using hj
      clear hj hs hG H hd
      have HP : Hid (VPre (fun b => w.heap.size < b) wr w.heap.size F 0 j) := hP
      clear hP
      subst hj'
      go_wp2_with fail
      go_ret
      obtain ⟨F', h1, h2, h3⟩ := VPre.done F 0 F.len (Nat.le_refl _) HP.out
      refine ⟨⟨w.heap.size, F', ?_, Nat.le_refl _, h1, h2.mono (fun b hb => Nat.le_of_lt hb), h3, HCl.out⟩, hb⟩
      rw [Vo.alike_len h1]; rfl
    | cons h a' c' kids next =>
      rcases hG with hG | ⟨b, o', rfl, hfrom⟩
      · cases hG
      · obtain ⟨⟨h1, h2, h3, h4, h5, h6⟩, hk, ⟨hc1, hc2⟩, hh, hn⟩ := Vo.from_grow hb _ _ _ hfrom
        have hnw : next.From w b (o' + j * 6 + 6) := hfrom.2.2.2.2
        have hln : j + (next.len + 1) = F.len := hj
        have hlt : (j : Int) < (F.len : Int) := by omega
        have hjl : j < F.len := by omega
        have hss : kids.size + 1 + next.size ≤ F.size := hs
        obtain ⟨hf1, hf2, hf3⟩ := hfG
        have HD : Hid (F.drop j = .cons h a' c' kids next) := hd
        have HP : Hid (VPre (fun b => w.heap.size < b) wr w.heap.size F 0 j) := hP
        have HN : Hid (next.From w b (o' + j * 6 + 6) ∧ next.few 1100000) := ⟨hnw, hf3⟩
        clear hj hin hs hd hP hnw hn hfrom hf3
        go_wp2_with fail
        refine (H h a' c' kids wr (by omega) (by omega) hf2 hf1 hk hc1 hc2 hh).mono ?_
        rintro r w1 ⟨⟨nb, n2, F1, rfl, ⟨hnb, hn2⟩, hA, hB, hF1, hS1, hcl1⟩, hb1⟩
        have HC1 : Hid (Clean w.heap.size w1) := HCl.out.trans hb1 hcl1
        clear hcl1 HCl
        have hR1 := hR.grow hb1
        have hz1 := hb1.size
        have HP1 : Hid (VPre (fun b => w.heap.size < b) w1 w.heap.size F 0 j) := VPre.agree (fun b o v _ hv => (hb1.cell (p := ⟨b, o, none⟩) (World.block_lt_of_cell? wr _ hv)).trans hv) F 0 j (fun o v _ hv => (hb1.cell (p := ⟨_, o, none⟩) (World.block_lt_of_cell? wr _ hv)).trans hv) HP.out
        have hb2 := hb.trans (hb1.mono hb.size)
        obtain ⟨⟨v0, c0⟩, f0⟩ := hR1 (j * 6) (by omega)
        obtain ⟨⟨v1, c1⟩, f1⟩ := hR1 (j * 6 + 1) (by omega)
        obtain ⟨⟨v2, c2⟩, f2⟩ := hR1 (j * 6 + 2) (by omega)
        obtain ⟨⟨v3, c3⟩, f3⟩ := hR1 (j * 6 + 3) (by omega)
        obtain ⟨⟨v4, c4⟩, f4⟩ := hR1 (j * 6 + 4) (by omega)
        obtain ⟨⟨v5, c5⟩, f5⟩ := hR1 (j * 6 + 5) (by omega)
        have HHt : Hid ((h.ns.length ≤ maxLen) ∧ h.t.size ≤ maxLen) := ⟨Nat.le_trans hh.2.1.1 hh.2.1.2, hh.2.2⟩
        clear h1 h2 h3 h4 h5 h6 hk hR hb hb1 HP H hh
        have HF : Hid ((F1.alike kids ∧ F1.Blk (fun b => wr.heap.size ≤ b) ∧ F1.From w1 nb 0) ∧ SFrom w1 h.ns n2 0) := ⟨⟨hA, hB, hF1⟩, hS1⟩
        have hkl : kids.len ≤ kids.size := kids.len_le
        clear hA hB hF1 hS1
        go_wp2_with fail
        go_round
        case rel =>
          obtain ⟨⟨hA, hB, hF1⟩, hS1⟩ := HF.out
          have hl1 := Vo.alike_len hA
          have hP2 : VPre (fun b => w.heap.size < b) (put6 w1 w.heap.size (j * 6) (.int .i64 h.k) (.int .i64 h.m) (.int .i64 h.e) (.string h.t) (.slice (some ⟨nb, 0, none⟩) F1.len F1.len) (.slice (some ⟨n2, 0, none⟩) h.ns.length h.ns.length)) w.heap.size F 0 j :=
            VPre.agree (fun b o v hb hv => (put6_other (.inl (by omega))).trans hv) F 0 j (fun o v ho hv => (put6_other (.inr (.inl (by omega)))).trans hv) HP1.out
          have hcs : ∀ q, q < 6 → ∃ u, w1.cell? ⟨w.heap.size, j * 6 + q, none⟩ = some u := fun q hq => (hR1 (j * 6 + q) (by omega)).1
          have hC : VCop (fun b => w.heap.size < b) (put6 w1 w.heap.size (j * 6) (.int .i64 h.k) (.int .i64 h.m) (.int .i64 h.e) (.string h.t) (.slice (some ⟨nb, 0, none⟩) F1.len F1.len) (.slice (some ⟨n2, 0, none⟩) h.ns.length h.ns.length)) w.heap.size (0 + 6 * j) h kids := by
            rw [show 0 + 6 * j = j * 6 by omega]
            refine ⟨h.to n2, some ⟨nb, 0, none⟩, F1.len, F1, ⟨put6_cell hcs (i := 0) rfl, put6_cell hcs (i := 1) rfl, put6_cell hcs (i := 2) rfl, put6_cell hcs (i := 3) rfl, put6_cell hcs (i := 4) rfl, put6_cell hcs (i := 5) rfl⟩, .inr ⟨nb, 0, rfl, by omega, ?_⟩, hB.mono (fun b hb => by omega), hA, ⟨Nat.le_refl _, by rw [hl1]; unfold maxLen at *; omega⟩, ⟨.inr ⟨n2, 0, rfl, hS1.agree (P := fun b => w.heap.size < b) (fun b o v hb hv => (put6_other (.inl (by omega))).trans hv) (by omega)⟩, ⟨Nat.le_refl _, HHt.out.1⟩, HHt.out.2⟩, .inr ⟨n2, 0, rfl, by omega⟩, h.to_same n2⟩
            exact Vo.from_agree (P := fun b => w.heap.size < b) (fun b o v hb hv => (put6_other (.inl (by omega))).trans hv) F1 nb 0 (by omega) (hB.mono (fun b hb => by omega)) hF1
          refine ⟨j + 1, next, by go_num, Vo.drop_next HD.out, by omega, ⟨by omega, HN.out.2⟩, .inr ⟨b, o', rfl, ?_⟩, hR1.put6 _ _ _ _ _ _ _ _, VPre.snoc HD.out hP2 hC, ?_, HC1.out.put6 _ _ _ _ _ _ _ _, put6_below hb2 (Nat.le_refl _) _ _ _ _ _ _⟩
          · rw [show o' + (j + 1) * 6 = o' + j * 6 + 6 by omega]; exact HN.out.1
          · show w.heap.size < (put6 w1 w.heap.size (j * 6) _ _ _ _ _ _).heap.size
            rw [put6_size]; omega
        case measure => simp [intOf]; omega
end Go.Proofs.Ytohldacplapjkaa
