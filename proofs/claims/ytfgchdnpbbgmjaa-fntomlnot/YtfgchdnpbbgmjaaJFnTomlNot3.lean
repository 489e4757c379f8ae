/- My own texts, joined: Bld BldT BldH TxtD. -/
import Derived.Shelf.Strings.BuilderK
import Derived.Lib.SmallJoins
import Derived.Test.YtfgchdnpbbgmjaaRows
import Derived.RangeFuncFrom
import Derived.Test.YtfgchdnpbbgmjaaJFnTomlNot2
/- The library's contracts on strings.Builder at this dump: WriteByte, WriteString, String. -/
namespace Go.Proofs.Ytfgchdnpbbgmjaa
open Go.Shelf Go.RowKit
def ren167 : Ren := ⟨fun | 167 => 115 | 240 => 124 | 276 => 135 | n => n, fun | 0 => 0 | 4 => 4 | 5 => 5 | 9 => 9 | 20 => 20 | 37 => 22 | 70 => 70 | 72 => 72 | 75 => 102 | 164 => 164 | 80 => 81 | n => n, fun | n => n⟩
theorem lays167 : Lays.n167 Try.prog ren167 := {
  mixed := by kernel_rfl
  f167 := Try.func115.trans (congrArg some (by kernel_rfl))
  f240 := Try.func124.trans (congrArg some (by kernel_rfl))
  f276 := Try.func135.trans (congrArg some (by kernel_rfl))
  t0 := Try.underlying0
  a0 := Try.isAgg0
  z0 := Try.sizeOf0
  v0 := Try.zeroValue0
  t4 := Try.underlying4
  a4 := Try.isAgg4
  z4 := Try.sizeOf4
  v4 := Try.zeroValue4
  t5 := Try.underlying5
  a5 := Try.isAgg5
  z5 := Try.sizeOf5
  v5 := Try.zeroValue5
  t9 := Try.underlying9
  a9 := Try.isAgg9
  z9 := Try.sizeOf9
  v9 := Try.zeroValue9
  t20 := Try.underlying20
  a20 := Try.isAgg20
  z20 := Try.sizeOf20
  v20 := Try.zeroValue20
  t37 := Try.underlying22
  a37 := Try.isAgg22
  z37 := Try.sizeOf22
  v37 := Try.zeroValue22
  t70 := Try.underlying70
  a70 := Try.isAgg70
  z70 := Try.sizeOf70
  v70 := Try.zeroValue70
  t72 := Try.underlying72
  a72 := Try.isAgg72
  z72 := Try.sizeOf72
  v72 := Try.zeroValue72
  t75 := Try.underlying102
  a75 := Try.isAgg102
  z75 := Try.sizeOf102
  v75 := Try.zeroValue102
  t164 := Try.underlying164
  a164 := Try.isAgg164
  z164 := Try.sizeOf164
  v164 := Try.zeroValue164 }
theorem extra167 : Builder.Extra Try.prog ren167 := {
  sizeBuilder := by kernel_rfl
  liesBuilder := by kernel_rfl
  t5 := Try.underlying5
  a5 := Try.isAgg5
  z5 := Try.sizeOf5
  v5 := Try.zeroValue5
  infoByte := by kernel_rfl
  cellsByte := by kernel_rfl
  sizeByte := by kernel_rfl
  neB5 := by decide }
def ren166 : Ren := ⟨fun | 166 => 130 | 240 => 124 | 276 => 135 | n => n, fun | 0 => 0 | 3 => 3 | 4 => 4 | 9 => 9 | 20 => 20 | 37 => 22 | 70 => 70 | 72 => 72 | 75 => 102 | 164 => 164 | 80 => 81 | 5 => 5 | n => n, fun | n => n⟩
theorem lays166 : Lays.n166 Try.prog ren166 := {
  mixed := by kernel_rfl
  f166 := Try.func130.trans (congrArg some (by kernel_rfl))
  f240 := Try.func124.trans (congrArg some (by kernel_rfl))
  f276 := Try.func135.trans (congrArg some (by kernel_rfl))
  t0 := Try.underlying0
  a0 := Try.isAgg0
  z0 := Try.sizeOf0
  v0 := Try.zeroValue0
  t3 := Try.underlying3
  a3 := Try.isAgg3
  z3 := Try.sizeOf3
  v3 := Try.zeroValue3
  t4 := Try.underlying4
  a4 := Try.isAgg4
  z4 := Try.sizeOf4
  v4 := Try.zeroValue4
  t9 := Try.underlying9
  a9 := Try.isAgg9
  z9 := Try.sizeOf9
  v9 := Try.zeroValue9
  t20 := Try.underlying20
  a20 := Try.isAgg20
  z20 := Try.sizeOf20
  v20 := Try.zeroValue20
  t37 := Try.underlying22
  a37 := Try.isAgg22
  z37 := Try.sizeOf22
  v37 := Try.zeroValue22
  t70 := Try.underlying70
  a70 := Try.isAgg70
  z70 := Try.sizeOf70
  v70 := Try.zeroValue70
  t72 := Try.underlying72
  a72 := Try.isAgg72
  z72 := Try.sizeOf72
  v72 := Try.zeroValue72
  t75 := Try.underlying102
  a75 := Try.isAgg102
  z75 := Try.sizeOf102
  v75 := Try.zeroValue102
  t164 := Try.underlying164
  a164 := Try.isAgg164
  z164 := Try.sizeOf164
  v164 := Try.zeroValue164 }
theorem extra166 : Builder.Extra Try.prog ren166 := {
  sizeBuilder := by kernel_rfl
  liesBuilder := by kernel_rfl
  t5 := Try.underlying5
  a5 := Try.isAgg5
  z5 := Try.sizeOf5
  v5 := Try.zeroValue5
  infoByte := by kernel_rfl
  cellsByte := by kernel_rfl
  sizeByte := by kernel_rfl
  neB5 := by decide }
def ren169 : Ren := ⟨fun | 169 => 53 | n => n, fun | 0 => 0 | 3 => 3 | 9 => 9 | 37 => 22 | 70 => 70 | 72 => 72 | 127 => 105 | 5 => 5 | n => n, fun | n => n⟩
theorem lays169 : Lays.n169 Try.prog ren169 := {
  mixed := by kernel_rfl
  f169 := Try.func53.trans (congrArg some (by kernel_rfl))
  t0 := Try.underlying0
  a0 := Try.isAgg0
  z0 := Try.sizeOf0
  v0 := Try.zeroValue0
  t3 := Try.underlying3
  a3 := Try.isAgg3
  z3 := Try.sizeOf3
  v3 := Try.zeroValue3
  t9 := Try.underlying9
  a9 := Try.isAgg9
  z9 := Try.sizeOf9
  v9 := Try.zeroValue9
  t37 := Try.underlying22
  a37 := Try.isAgg22
  z37 := Try.sizeOf22
  v37 := Try.zeroValue22
  t70 := Try.underlying70
  a70 := Try.isAgg70
  z70 := Try.sizeOf70
  v70 := Try.zeroValue70
  t72 := Try.underlying72
  a72 := Try.isAgg72
  z72 := Try.sizeOf72
  v72 := Try.zeroValue72
  t127 := Try.underlying105
  a127 := Try.isAgg105
  z127 := Try.sizeOf105
  v127 := Try.zeroValue105 }
theorem extra169 : Builder.Extra Try.prog ren169 := {
  sizeBuilder := by kernel_rfl
  liesBuilder := by kernel_rfl
  t5 := Try.underlying5
  a5 := Try.isAgg5
  z5 := Try.sizeOf5
  v5 := Try.zeroValue5
  infoByte := by kernel_rfl
  cellsByte := by kernel_rfl
  sizeByte := by kernel_rfl
  neB5 := by decide }
theorem bWriteByte (B b : Nat) (bs : List Value) (c : Int) (w : World) (h : Lib.IsBuilderF 72 5 B b bs w) (hlen : bs.length + 1 ≤ 140737488355328) (hBw : B ≤ w.heap.size) :
    Calls Try.prog 115 #[.pointer (some ⟨b, 0, none⟩), .int .u8 c] w fun e w' => e = .returned .nilIface ∧ Lib.IsBuilderF 72 5 B b (bs ++ [.int .u8 c]) w' ∧ Below B w w' ∧ Lib.OthersKept 5 (some b) w w' :=
  (Any.Builder_WriteByte_k lays167 extra167 B b bs c w h hlen hBw).mono fun _ _ ⟨e, h1, h2, h3⟩ => ⟨e, Or.inr h1, h2, h3⟩
theorem bWriteString (B b : Nat) (bs : List Value) (s : ByteArray) (w : World) (h : Lib.IsBuilderF 72 5 B b bs w) (hlen : bs.length + s.size ≤ 140737488355328) (hBw : B ≤ w.heap.size) :
    Calls Try.prog 130 #[.pointer (some ⟨b, 0, none⟩), .string s] w fun e w' => e = .returned (.tuple #[.int .i64 s.size, .nilIface]) ∧ Lib.IsBuilderF 72 5 B b (bs ++ Lib.strCells s) w' ∧ Below B w w' ∧ Lib.OthersKept 5 (some b) w w' :=
  (Any.Builder_WriteString_k lays166 extra166 B b bs s w h hlen hBw).mono fun _ _ ⟨e, h1, h2, h3⟩ => ⟨e, Or.inr h1, h2, h3⟩
theorem bString (B b : Nat) (l : List UInt8) (w : World) (h : Lib.IsBuilderF 72 5 B b (Lib.byteCells l) w) (hBw : B ≤ w.heap.size) :
    Calls Try.prog 53 #[.pointer (some ⟨b, 0, none⟩)] w fun e w' => e = .returned (.string ⟨l.toArray⟩) ∧ Lib.IsBuilderF 72 5 B b (Lib.byteCells l) w' ∧ Below B w w' ∧ Lib.OthersKept 5 (some b) w w' :=
  Any.Builder_String_any_k lays169 extra169 B b l w h hBw
end Go.Proofs.Ytfgchdnpbbgmjaa
/- The library's contracts on strings.Builder: in one text (what a dump has not is left out there). -/
namespace Go.Proofs.Ytfgchdnpbbgmjaa
end Go.Proofs.Ytfgchdnpbbgmjaa
/- A builder that holds bytes: WriteByte. -/
namespace Go.Proofs.Ytfgchdnpbbgmjaa
open Go.RowKit

/-- the builder in block k holds these bytes -/
abbrev THolds (B k : Nat) (acc : List UInt8) (w : World) : Prop := Lib.IsBuilderF 72 5 B k (Lib.byteCells acc) w
theorem tByte (B k : Nat) (acc : List UInt8) (c : UInt8) (n : Int) (hn : n = c.toNat) (w : World) (h : THolds B k acc w) (hlen : acc.length ≤ 100000000) (hBw : B ≤ w.heap.size) :
    Calls Try.prog 115 #[.pointer (some ⟨k, 0, none⟩), .int .u8 n] w fun e w' => e = .returned .nilIface ∧ THolds B k (acc ++ [c]) w' ∧ Below B w w' ∧ Lib.OthersKept 5 (some k) w w' := by
  refine (bWriteByte B k _ n w h (by rw [Lib.byteCells_length]; omega) hBw).mono fun _ _ ⟨e, h1, h2, h3⟩ => ⟨e, ?_, h2, h3⟩
  subst hn
  unfold THolds
  rw [Lib.byteCells_append]; exact h1
theorem tHolds_own {B k : Nat} {acc : List UInt8} {W W' : World} {row : Option Nat} (h : THolds B k acc W) (hg : W.grownBy W' row) (hr : ∀ r, row = some r → ∃ o : Obj, W.heap[r]? = some o ∧ o.isCells = false) : THolds B k acc W' := by
  have stay : ∀ (j : Nat) (c : Array Value) (T : TypeId) (fz : Nat × Nat), W.heap[j]? = some (.cells c T fz) → W'.heap[j]? = some (.cells c T fz) := by
    intro j c T fz hj
    rw [hg.block j (Array.getElem?_eq_some_iff.1 hj).1 ?_]
    · exact hj
    · intro e
      obtain ⟨o, ho, hc⟩ := hr j e.symm
      rw [hj] at ho
      cases ho
      simp [Obj.isCells] at hc
  have key : ∀ p, Lib.BuilderAtF 72 5 B k p (Lib.byteCells acc) W → Lib.BuilderAtF 72 5 B k p (Lib.byteCells acc) W' := by
    rintro p ⟨h1, v, h2, ⟨h3, h4⟩, h5⟩
    refine ⟨h1, v, stay _ _ _ _ h2, ⟨h3, ?_⟩, h5⟩
    rcases h4 with h4 | ⟨g, cap, cur, fz, e1, e2, e3, e4⟩
    · exact .inl h4
    · exact .inr ⟨g, cap, cur, fz, e1, e2, stay _ _ _ _ e3, e4⟩
  rcases h with h | h
  · exact .inl (key _ h)
  · exact .inr (key _ h)
end Go.Proofs.Ytfgchdnpbbgmjaa
/- Contract: DecText of the program. -/
namespace Go.Proofs.Ytfgchdnpbbgmjaa
open Go.RowKit Go.Shelf
attribute [local go_sem] Oper.semAt_some cell_alloc_is frozen_alloc_is

theorem builder_block {B k : Nat} {acc : List UInt8} {W : World} (h : THolds B k acc W) : ∃ od : Obj, W.heap[k]? = some od ∧ od.isCells = true := by
  rcases h with ⟨_, v, h, _⟩ | ⟨_, v, h, _⟩
  · exact ⟨_, h, rfl⟩
  · exact ⟨_, h, rfl⟩
theorem keeps_of_others {B k : Nat} {acc : List UInt8} {W W' : World} (hH : THolds B k acc W) (hz : W.heap.size ≤ W'.heap.size) (h : Lib.OthersKept 5 (some k) W W') : KeepsOthers W W' := by
  obtain ⟨od, hk, hc⟩ := builder_block hH
  exact ⟨hz, fun j o ho hcc => h j o ho (by intro e; cases e; rw [hk] at ho; cases ho; rw [hc] at hcc; cases hcc) (by intro c fz e; subst e; simp [Obj.isCells] at hcc)⟩
theorem dec_stays {k Bd : Nat} {m x : Int} {W W' : World} (h : W.heap[Bd]? = some (.cells #[.int .i64 m, .int .i64 x] 24)) (hne : Bd ≠ k) (hk : Lib.OthersKept 5 (some k) W W') : W'.heap[Bd]? = some (.cells #[.int .i64 m, .int .i64 x] 24) :=
  hk Bd _ h (by intro e; cases e; exact hne rfl) (by intro c fz e; cases e)

set_option maxRecDepth 100000 in
set_option maxHeartbeats 4000000 in
theorem iDecText_neg (m x : Int) (w : World) (ho : Dm.ok m x = true) (hneg : m < 0) :
    Calls Try.prog 96 #[.agg #[.int .i64 m, .int .i64 x]] w fun e w' => e = .returned (.string ⟨(Tm.text m x).toArray⟩) ∧ Below w.heap.size w w' := by
  obtain ⟨m1, m2, x1, x2⟩ := Dm.ok_bd ho
  have HT : Hid (Tm.text m x = [45] ++ Tm.txt8 (Tm.fl8 m.natAbs x (Tm.hi m.natAbs x) (Tm.hi m.natAbs x - Tm.lo x + 1).toNat)) := by unfold Hid; rw [Tm.text, if_pos hneg, Tm.txt8_eq, Tm.txt_body]
  refine (callsIn_wide (n := 5)).1 ?_
  refine callsIn_of_wp_marks Try.func96 rfl trivial ?_ rfl
  simp only [Try.ntmps96, List.size_toArray, List.length_cons, List.length_nil, Nat.reduceAdd, Nat.reduceSub, Array.replicate_succ, Array.replicate_zero, List.push_toArray, List.append_toArray, List.nil_append, List.cons_append]
  gi_wp2_with (refine ⟨trivial, ?_⟩; gi_at_call 114; refine (callsIn_wide.2 (iDecOk_any m x _)).mono ?_; rintro e w1 ⟨rfl, hb1⟩; have hcc := (Two.new w m x 24).below hb1 (by simp); obtain ⟨c0, c1, f0, f1⟩ := hcc; have hB1 : Below w.heap.size w w1 := (((Below.refl _ w).alloc (Nat.le_refl _) _).trans (hb1.mono (by simp))))
  have hz1 : w.heap.size < w1.heap.size := by have := hb1.size; simp at this; omega
  clear hb1
  have hI0 : THolds w1.heap.size w1.heap.size [] (w1.alloc (.cells #[.pointer none, .slice none 0 0] 72)) := Lib.IsBuilderF.of (Lib.fresh_isBuilder 72 5 w1)
  have hcc2 := Two.alloc ⟨c0, c1, f0, f1⟩ hz1 (.cells #[.pointer none, .slice none 0 0] 72)
  have hB2 : Below w.heap.size w (w1.alloc (.cells #[.pointer none, .slice none 0 0] 72)) := hB1.alloc (by omega) _
  refine ⟨trivial, (callsIn_wide.2 (tByte w1.heap.size w1.heap.size [] 45 45 rfl _ hI0 (by simp) (by simp))).mono ?_⟩
  rintro e w2 ⟨rfl, h2, b2, k2⟩
  clear c0 c1 f0 f1
  obtain ⟨c0, c1, f0, f1⟩ := hcc2.below b2 hz1
  have hB3 : Below w.heap.size w w2 := hB2.trans (b2.mono (by omega))
  have hz2 : w1.heap.size < w2.heap.size := by have := b2.size; simp at this; omega
  clear hcc2 hI0 hB1 hB2 b2 k2
  gi_wp2_with fail
  refine ⟨trivial, (callsIn_wide.2 (figures_any m x _)).mono ?_⟩
  rintro e w3 ⟨rfl, hw⟩
  subst w3
  gi_wp2_with fail
  have hcd := Two.new w2 m x 24
  have hod : (w2.alloc (.cells #[.int .i64 m, .int .i64 x] 24)).heap[w2.heap.size]? = some (.cells #[.int .i64 m, .int .i64 x] 24) := World.alloc_heap_new w2 _
  refine wpIn_rangeFunc_ownF rfl (by omega) (gf := 125) (lb := #[.pointer (some ⟨w2.heap.size, 0, none⟩)]) rfl trivial (enters_of Try.func125 (by kernel_rfl) rfl)
    (figures_stops 4 (by omega) w2.heap.size m x _ _ (w2.alloc (.cells #[.int .i64 m, .int .i64 x] 24)) rfl rfl m1 m2 x1 x2 (by simp) hcd.1 hcd.2.1)
    (fun h k => ⟨Nat.le_trans h.1 k.1, k.2.trans h.2⟩)
    (fun W l o o' hl h _ _ => ⟨(grownBy_putObj' W l o').size, (grownBy_putObj' W l o').block w2.heap.size (by have := (Array.getElem?_eq_some_iff.1 h).1; simp at hl; omega) (by intro e; cases e; simp at hl; omega)⟩)
    (Below.refl _ _) (fun _ => rfl)
    (fun pre W => (THolds w1.heap.size w1.heap.size ([45] ++ Tm.txt8 pre) W ∧ W.heap[w2.heap.size]? = some (.cells #[.int .i64 m, .int .i64 x] 24)) ∧ Below w.heap.size w W)
    (fun _ _ _ => False)
    (OwnFrom.and (fun s W W' row hs hg hr => ⟨tHolds_own hs.1 hg (fun r e => (hr r e).2), (hg.block w2.heap.size (Array.getElem?_eq_some_iff.1 hs.2).1 (by intro e; have := (hr _ e.symm).1; simp at this; omega)).trans hs.2⟩) (ownFrom_below (Nat.le_refl _) (by simp; omega)))
    (fun _ _ _ _ _ hs _ _ => hs)
    ⟨⟨by simpa [Tm.txt8] using h2.alloc _, hod⟩, hB3.alloc (by omega) _⟩
    (fun y => { tmps := #[.agg #[.int .i64 m, .int .i64 x], .pointer (some ⟨w.heap.size, 0, none⟩), .string ⟨#[]⟩, .pointer (some ⟨w1.heap.size, 0, none⟩), .int .i64 y.1, .int .u8 y.2.toNat, .agg #[.int .i64 m, .int .i64 x], .bool true, .bool false, .pointer (some ⟨w.heap.size, 0, none⟩), .int .i64 m, .bool true, .nilIface, .agg #[.int .i64 m, .int .i64 x], .func (.func 125) #[] #[.pointer (some ⟨w2.heap.size, 0, none⟩)], .int .i64 y.1, .int .u8 y.2.toNat, undef, undef, undef, undef, undef, undef], defers := [] }) ?assign ?body ?done ?stop
  case assign =>
    intro l y W K hK
    gi_wp2
    exact hK
  case body =>
    rintro l pre ⟨py, c⟩ W ⟨⟨hH, hD⟩, hB⟩ hlen
    have hsz := hB.size
    have hlt2 := (Array.getElem?_eq_some_iff.1 hD).1
    have htl := Tm.txt8_len pre
    by_cases hy : py = -1
    · subst hy
      have HS : Hid (Tm.txt8 (pre ++ [((-1 : Int), c)]) = Tm.txt8 pre ++ [46, c]) := by unfold Hid; rw [Tm.txt8_snoc]; rfl
      gi_wp2_with fail
      refine ⟨trivial, (CallsIn.inRound l (callsIn_wide.2 (tByte w1.heap.size w1.heap.size _ 46 46 rfl _ hH (by simp; omega) (by omega)))).mono ?_⟩
      rintro e W1 ⟨rfl, g1, b1, k1⟩
      have hz3 := b1.size
      have hD1 := dec_stays hD (by omega) k1
      gi_wp2_with fail
      refine ⟨trivial, (CallsIn.inRound l (callsIn_wide.2 (tByte w1.heap.size w1.heap.size _ c _ rfl _ g1 (by simp; omega) (by omega)))).mono ?_⟩
      rintro e W2 ⟨rfl, g2, b2, k2⟩
      have hz4 := b2.size
      have hD2 := dec_stays hD1 (by omega) k2
      gi_wp2_with fail
      exact ⟨(keeps_of_others hH hz3 k1).trans (keeps_of_others g1 hz4 k2), ⟨by omega, hD2.trans hD.symm⟩, ⟨by rw [HS.out]; simpa using g2, hD2⟩, hB.trans ((b1.trans b2).mono (by omega))⟩
    · have hy' : (py == -1) = false := by simp [hy]
      have HS : Hid (Tm.txt8 (pre ++ [(py, c)]) = Tm.txt8 pre ++ [c]) := by unfold Hid; rw [Tm.txt8_snoc, Tm.one8, if_neg hy]; rfl
      gi_wp2_with fail
      refine ⟨trivial, (CallsIn.inRound l (callsIn_wide.2 (tByte w1.heap.size w1.heap.size _ c _ rfl _ hH (by simp; omega) (by omega)))).mono ?_⟩
      rintro e W2 ⟨rfl, g2, b2, k2⟩
      have hz4 := b2.size
      have hD2 := dec_stays hD (by omega) k2
      gi_wp2_with fail
      exact ⟨keeps_of_others hH hz4 k2, ⟨hz4, hD2.trans hD.symm⟩, ⟨by rw [HS.out]; simpa using g2, hD2⟩, hB.trans (b2.mono (by omega))⟩
  case done =>
    rintro D ys W hD rfl ⟨⟨hH, hd⟩, hB⟩ hK
    have hlt2 := (Array.getElem?_eq_some_iff.1 hd).1
    simp at hD
    gi_wp2_with fail
    refine ⟨trivial, (callsIn_wide.2 (bString w1.heap.size w1.heap.size _ _ hH (by omega))).mono ?_⟩
    rintro e w5 ⟨rfl, g5, b5, k5⟩
    have hK5 : w5.heap[D]? = some (.deferred (some [])) := k5 D _ hK (by intro e; cases e; omega) (by intro c fz e; cases e)
    have hB5 := hB.trans (b5.mono (by omega))
    gi_wp2_with fail
    refine ⟨by simp, .inl ⟨_, _, rfl, run_takeDeferred hK5, ?_⟩⟩
    exact ⟨_, results_tmp rfl _ _ _, by rw [HT.out]; rfl, hB5.trans (belowK_b (w := w) (Nat.le_refl _) w5 D _ _ (by omega) hK5 rfl rfl)⟩
  case stop =>
    rintro D c pre W _ _ h _
    exact h.elim

set_option maxRecDepth 100000 in
set_option maxHeartbeats 4000000 in
theorem iDecText_pos (m x : Int) (w : World) (ho : Dm.ok m x = true) (hneg : ¬ m < 0) :
    Calls Try.prog 96 #[.agg #[.int .i64 m, .int .i64 x]] w fun e w' => e = .returned (.string ⟨(Tm.text m x).toArray⟩) ∧ Below w.heap.size w w' := by
  obtain ⟨m1, m2, x1, x2⟩ := Dm.ok_bd ho
  have HT : Hid (Tm.text m x = [] ++ Tm.txt8 (Tm.fl8 m.natAbs x (Tm.hi m.natAbs x) (Tm.hi m.natAbs x - Tm.lo x + 1).toNat)) := by unfold Hid; rw [Tm.text, if_neg hneg, Tm.txt8_eq, Tm.txt_body]
  refine (callsIn_wide (n := 5)).1 ?_
  refine callsIn_of_wp_marks Try.func96 rfl trivial ?_ rfl
  simp only [Try.ntmps96, List.size_toArray, List.length_cons, List.length_nil, Nat.reduceAdd, Nat.reduceSub, Array.replicate_succ, Array.replicate_zero, List.push_toArray, List.append_toArray, List.nil_append, List.cons_append]
  gi_wp2_with (refine ⟨trivial, ?_⟩; gi_at_call 114; refine (callsIn_wide.2 (iDecOk_any m x _)).mono ?_; rintro e w1 ⟨rfl, hb1⟩; have hcc := (Two.new w m x 24).below hb1 (by simp); obtain ⟨c0, c1, f0, f1⟩ := hcc; have hB1 : Below w.heap.size w w1 := (((Below.refl _ w).alloc (Nat.le_refl _) _).trans (hb1.mono (by simp))))
  have hz1 : w.heap.size < w1.heap.size := by have := hb1.size; simp at this; omega
  clear hb1
  have hI0 : THolds w1.heap.size w1.heap.size [] (w1.alloc (.cells #[.pointer none, .slice none 0 0] 72)) := Lib.IsBuilderF.of (Lib.fresh_isBuilder 72 5 w1)
  have hcc2 := Two.alloc ⟨c0, c1, f0, f1⟩ hz1 (.cells #[.pointer none, .slice none 0 0] 72)
  have hB2 : Below w.heap.size w (w1.alloc (.cells #[.pointer none, .slice none 0 0] 72)) := hB1.alloc (by omega) _
  obtain ⟨w2, hw2⟩ : ∃ w2, w2 = w1.alloc (.cells #[.pointer none, .slice none 0 0] 72) := ⟨_, rfl⟩
  rw [← hw2] at hI0 hcc2 hB2 ⊢
  have hz2 : w1.heap.size < w2.heap.size := by rw [hw2]; simp
  have h2 := hI0
  have hB3 := hB2
  clear hw2 c0 c1 f0 f1 hB1 hI0 hB2
  obtain ⟨c0, c1, f0, f1⟩ := hcc2
  refine ⟨trivial, (callsIn_wide.2 (figures_any m x _)).mono ?_⟩
  rintro e w3 ⟨rfl, hw⟩
  subst w3
  gi_wp2_with fail
  have hcd := Two.new w2 m x 24
  have hod : (w2.alloc (.cells #[.int .i64 m, .int .i64 x] 24)).heap[w2.heap.size]? = some (.cells #[.int .i64 m, .int .i64 x] 24) := World.alloc_heap_new w2 _
  refine wpIn_rangeFunc_ownF rfl (by omega) (gf := 125) (lb := #[.pointer (some ⟨w2.heap.size, 0, none⟩)]) rfl trivial (enters_of Try.func125 (by kernel_rfl) rfl)
    (figures_stops 4 (by omega) w2.heap.size m x _ _ (w2.alloc (.cells #[.int .i64 m, .int .i64 x] 24)) rfl rfl m1 m2 x1 x2 (by simp) hcd.1 hcd.2.1)
    (fun h k => ⟨Nat.le_trans h.1 k.1, k.2.trans h.2⟩)
    (fun W l o o' hl h _ _ => ⟨(grownBy_putObj' W l o').size, (grownBy_putObj' W l o').block w2.heap.size (by have := (Array.getElem?_eq_some_iff.1 h).1; simp at hl; omega) (by intro e; cases e; simp at hl; omega)⟩)
    (Below.refl _ _) (fun _ => rfl)
    (fun pre W => (THolds w1.heap.size w1.heap.size ([] ++ Tm.txt8 pre) W ∧ W.heap[w2.heap.size]? = some (.cells #[.int .i64 m, .int .i64 x] 24)) ∧ Below w.heap.size w W)
    (fun _ _ _ => False)
    (OwnFrom.and (fun s W W' row hs hg hr => ⟨tHolds_own hs.1 hg (fun r e => (hr r e).2), (hg.block w2.heap.size (Array.getElem?_eq_some_iff.1 hs.2).1 (by intro e; have := (hr _ e.symm).1; simp at this; omega)).trans hs.2⟩) (ownFrom_below (Nat.le_refl _) (by simp; omega)))
    (fun _ _ _ _ _ hs _ _ => hs)
    ⟨⟨by simpa [Tm.txt8] using h2.alloc _, hod⟩, hB3.alloc (by omega) _⟩
    (fun y => { tmps := #[.agg #[.int .i64 m, .int .i64 x], .pointer (some ⟨w.heap.size, 0, none⟩), .string ⟨#[]⟩, .pointer (some ⟨w1.heap.size, 0, none⟩), .int .i64 y.1, .int .u8 y.2.toNat, .agg #[.int .i64 m, .int .i64 x], .bool true, .bool false, .pointer (some ⟨w.heap.size, 0, none⟩), .int .i64 m, .bool (decide (m < 0)), undef, .agg #[.int .i64 m, .int .i64 x], .func (.func 125) #[] #[.pointer (some ⟨w2.heap.size, 0, none⟩)], .int .i64 y.1, .int .u8 y.2.toNat, undef, undef, undef, undef, undef, undef], defers := [] }) ?assign ?body ?done ?stop
  case assign =>
    intro l y W K hK
    gi_wp2
    exact hK
  case body =>
    rintro l pre ⟨py, c⟩ W ⟨⟨hH, hD⟩, hB⟩ hlen
    have hsz := hB.size
    have hlt2 := (Array.getElem?_eq_some_iff.1 hD).1
    have htl := Tm.txt8_len pre
    by_cases hy : py = -1
    · subst hy
      have HS : Hid (Tm.txt8 (pre ++ [((-1 : Int), c)]) = Tm.txt8 pre ++ [46, c]) := by unfold Hid; rw [Tm.txt8_snoc]; rfl
      gi_wp2_with fail
      refine ⟨trivial, (CallsIn.inRound l (callsIn_wide.2 (tByte w1.heap.size w1.heap.size _ 46 46 rfl _ hH (by simp; omega) (by omega)))).mono ?_⟩
      rintro e W1 ⟨rfl, g1, b1, k1⟩
      have hz3 := b1.size
      have hD1 := dec_stays hD (by omega) k1
      gi_wp2_with fail
      refine ⟨trivial, (CallsIn.inRound l (callsIn_wide.2 (tByte w1.heap.size w1.heap.size _ c _ rfl _ g1 (by simp; omega) (by omega)))).mono ?_⟩
      rintro e W2 ⟨rfl, g2, b2, k2⟩
      have hz4 := b2.size
      have hD2 := dec_stays hD1 (by omega) k2
      gi_wp2_with fail
      exact ⟨(keeps_of_others hH hz3 k1).trans (keeps_of_others g1 hz4 k2), ⟨by omega, hD2.trans hD.symm⟩, ⟨by rw [HS.out]; simpa using g2, hD2⟩, hB.trans ((b1.trans b2).mono (by omega))⟩
    · have hy' : (py == -1) = false := by simp [hy]
      have HS : Hid (Tm.txt8 (pre ++ [(py, c)]) = Tm.txt8 pre ++ [c]) := by unfold Hid; rw [Tm.txt8_snoc, Tm.one8, if_neg hy]; rfl
      gi_wp2_with fail
      refine ⟨trivial, (CallsIn.inRound l (callsIn_wide.2 (tByte w1.heap.size w1.heap.size _ c _ rfl _ hH (by simp; omega) (by omega)))).mono ?_⟩
      rintro e W2 ⟨rfl, g2, b2, k2⟩
      have hz4 := b2.size
      have hD2 := dec_stays hD (by omega) k2
      gi_wp2_with fail
      exact ⟨keeps_of_others hH hz4 k2, ⟨hz4, hD2.trans hD.symm⟩, ⟨by rw [HS.out]; simpa using g2, hD2⟩, hB.trans (b2.mono (by omega))⟩
  case done =>
    rintro D ys W hD rfl ⟨⟨hH, hd⟩, hB⟩ hK
    have hlt2 := (Array.getElem?_eq_some_iff.1 hd).1
    simp at hD
    gi_wp2_with fail
    refine ⟨trivial, (callsIn_wide.2 (bString w1.heap.size w1.heap.size _ _ hH (by omega))).mono ?_⟩
    rintro e w5 ⟨rfl, g5, b5, k5⟩
    have hK5 : w5.heap[D]? = some (.deferred (some [])) := k5 D _ hK (by intro e; cases e; omega) (by intro c fz e; cases e)
    have hB5 := hB.trans (b5.mono (by omega))
    gi_wp2_with fail
    refine ⟨by simp, .inl ⟨_, _, rfl, run_takeDeferred hK5, ?_⟩⟩
    exact ⟨_, results_tmp rfl _ _ _, by rw [HT.out]; rfl, hB5.trans (belowK_b (w := w) (Nat.le_refl _) w5 D _ _ (by omega) hK5 rfl rfl)⟩
  case stop =>
    rintro D c pre W _ _ h _
    exact h.elim

set_option maxHeartbeats 1000000 in
theorem iDecText_any (m x : Int) (w : World) :
    Calls Try.prog 96 #[.agg #[.int .i64 m, .int .i64 x]] w fun e w' => e = .returned (.string ⟨(textOf m x).toArray⟩) ∧ Below w.heap.size w w' := by
  cases ho : Dm.ok m x
  · have HT : Hid (textOf m x = []) := by unfold Hid textOf; rw [ho]; rfl
    rw [HT.out]
    clear HT
    refine (callsIn_wide (n := 5)).1 ?_
    refine callsIn_of_wp_marks Try.func96 rfl trivial ?_ rfl
    simp only [Try.ntmps96, List.size_toArray, List.length_cons, List.length_nil, Nat.reduceAdd, Nat.reduceSub, Array.replicate_succ, Array.replicate_zero, List.push_toArray, List.append_toArray, List.nil_append, List.cons_append]
    gi_wp2_with (refine ⟨trivial, ?_⟩; gi_at_call 114; refine (callsIn_wide.2 (iDecOk_any m x _)).mono ?_; rintro e w1 ⟨rfl, hb1⟩; have hB1 : Below w.heap.size w w1 := (((Below.refl _ w).alloc (Nat.le_refl _) _).trans (hb1.mono (by simp))))
    exact ⟨_, results_tmp rfl _ _ _, rfl, hB1⟩
  · have e : textOf m x = Tm.text m x := by unfold textOf; rw [ho]; rfl
    rw [e]
    by_cases h : m < 0
    · exact iDecText_neg m x w ho h
    · exact iDecText_pos m x w ho h
end Go.Proofs.Ytfgchdnpbbgmjaa
