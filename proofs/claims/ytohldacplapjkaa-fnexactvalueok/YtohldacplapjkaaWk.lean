/- Two values that are the same: ValueSame of the program, and copies that can be held against each other. -/
import Derived.Test.YtohldacplapjkaaWf
import Derived.Test.YtohldacplapjkaaVf
import Derived.Test.YtohldacplapjkaaVc
namespace Go.Proofs.Ytohldacplapjkaa
open Go.RowKit
theorem Vo.Cl.below {w w' : World} (hb : Below w.heap.size w w') : ∀ {F : Vo}, F.Cl w → F.Cl w' := by
  intro F
  induction F with
  | nil => intro _; trivial
  | cons h a c kids next ih1 ih2 => rintro ⟨h1, h2, h3⟩; exact ⟨h1.below hb, ih1 h2, ih2 h3⟩
theorem ItV.Good.below {w w' : World} {x : ItV} (h : x.Good w) (hb : Below w.heap.size w w') : x.Good w' := ⟨h.1.below hb, h.2.below hb⟩
/-- a copy of a value, in new memory that is not frozen -/
def CopiedV (w' : World) (h : Hd) (F : Vo) (r : Ending) : Prop :=
  ∃ (nb n2 : Nat) (F' : Vo), r = .returned (valV (h.to n2) (some ⟨nb, 0, none⟩) F'.len F'.len) ∧ F'.alike F ∧ F'.From w' nb 0 ∧ (h.to n2).In w' ∧ ItV.Good w' ⟨h.to n2, some ⟨nb, 0, none⟩, F', F'.len⟩
theorem toValue_any (h : Hd) (a : Option Addr) (c : Nat) (F : Vo) (w : World) (h0 : F.wt ≤ 1048576) (h0n : h.ns.length ≤ 1048576) (h1 : F.In w a) (h2 : F.len ≤ c) (h3 : c ≤ maxLen) (h4 : h.In w) :
      Calls Try.prog 8 #[valV h a F.len c] w fun r w' => CopiedV w' h F r ∧ Below w.heap.size w w' := by
  have hsw := F.size_wt
  refine (toValue_all (F.size + 1) h a c F w (by omega) (by omega) (F.few_wt 1100000 (by omega)) (by omega) h1 h2 h3 h4).mono ?_
  rintro r w' ⟨⟨nb, n2, F', hr, ⟨hn, hn2⟩, ha, hk, hF, hS, hc⟩, hb⟩
  exact ⟨⟨nb, n2, F', hr, ha, hF, ⟨.inr ⟨n2, 0, rfl, hS⟩, ⟨Nat.le_refl _, Nat.le_trans h4.2.1.1 h4.2.1.2⟩, h4.2.2⟩, plOk_ofV hc hn hF, Vo.cl_of hc F' _ _ hF hk⟩, hb⟩
/-- copies are the same just if what they were made of is -/
theorem same2_copyV {h g : Hd} {m n : Nat} {a a2 b b2 : Option Addr} {F G F1 G1 : Vo} {c c2 d d2 : Nat} (h1 : F1.alike F) (h2 : G1.alike G) :
    same2V (⟨h.to m, a, F1, c⟩, ⟨g.to n, a2, G1, c2⟩) ↔ same2V (⟨h, b, F, d⟩, ⟨g, b2, G, d2⟩) := by
  constructor
  · rintro ⟨hh, h3⟩; exact ⟨hh, Vo.alike_trans (Vo.alike_sym h1) (Vo.alike_trans h3 h2)⟩
  · rintro ⟨hh, h3⟩; exact ⟨hh, Vo.alike_trans h1 (Vo.alike_trans h3 (Vo.alike_sym h2))⟩
set_option maxRecDepth 100000 in
set_option maxHeartbeats 1000000 in
theorem iValueSame_any (x y : ItV) (w : World) (hx : x.F.In w x.a) (hy : y.F.In w y.a) (hs : x.F.size ≤ 1100000) (hgx : x.Good w) (hgy : y.Good w) (hhx : x.h.In w) (hhy : y.h.In w) :
    Calls Try.prog 12 #[valV x.h x.a x.F.len x.c, valV y.h y.a y.F.len y.c] w fun r w' => SaysT (same2V (x, y)) r ∧ Below w.heap.size w w' := by
  have hB0 := ((Below.refl _ w).alloc (Nat.le_refl _) (.cells #[.int .i64 x.h.k, .int .i64 x.h.m, .int .i64 x.h.e, .string x.h.t, .slice x.a x.F.len x.c, .slice x.h.na x.h.ns.length x.h.nc] 33)).alloc (by simp) (.cells #[.int .i64 y.h.k, .int .i64 y.h.m, .int .i64 y.h.e, .string y.h.t, .slice y.a y.F.len y.c, .slice y.h.na y.h.ns.length y.h.nc] 33)
  go_enter Try.func12, Try.ntmps12
  go_wp2_with fail
  refine (sameAllV_any x y _ (hx.grow hB0) (hy.grow hB0) hs (hgx.below hB0) (hgy.below hB0) (hhx.grow hB0) (hhy.grow hB0)).mono ?_
  rintro r w1 ⟨⟨q, rfl, hq⟩, hb1⟩
  have HQ : Hid (q = true ↔ same2V (x, y)) := hq
  clear hq
  have hB1 := hB0.trans (hb1.mono hB0.size)
  go_wp2_with fail
  go_ret
  exact ⟨⟨q, rfl, HQ.out⟩, hB1⟩
/-- a value in its box -/
abbrev BxV (b : Nat) (h : Hd) (s : Value) (w : World) : Prop := w.cell? ⟨b, 0, none⟩ = some (.int .i64 h.k) ∧ w.cell? ⟨b, 1, none⟩ = some (.int .i64 h.m) ∧ w.cell? ⟨b, 2, none⟩ = some (.int .i64 h.e) ∧ w.cell? ⟨b, 3, none⟩ = some (.string h.t) ∧ w.cell? ⟨b, 4, none⟩ = some s ∧ w.cell? ⟨b, 5, none⟩ = some (.slice h.na h.ns.length h.nc)
theorem BxV.below {b : Nat} {h : Hd} {s : Value} {w w' : World} (x : BxV b h s w) (hb : Below w.heap.size w w') : BxV b h s w' := by
  have hl : b < w.heap.size := World.block_lt_of_cell? _ _ x.1
  obtain ⟨h0, h1, h2, h3, h4, h5⟩ := x
  exact ⟨(hb.cell (p := ⟨b, 0, none⟩) hl).trans h0, (hb.cell (p := ⟨b, 1, none⟩) hl).trans h1, (hb.cell (p := ⟨b, 2, none⟩) hl).trans h2, (hb.cell (p := ⟨b, 3, none⟩) hl).trans h3, (hb.cell (p := ⟨b, 4, none⟩) hl).trans h4, (hb.cell (p := ⟨b, 5, none⟩) hl).trans h5⟩
theorem BxV.new (w : World) (h : Hd) (s : Value) (T : TypeId) : BxV w.heap.size h s (w.alloc (.cells #[.int .i64 h.k, .int .i64 h.m, .int .i64 h.e, .string h.t, s, .slice h.na h.ns.length h.nc] T)) := by
  refine ⟨?_, ?_, ?_, ?_, ?_, ?_⟩ <;> simp
end Go.Proofs.Ytohldacplapjkaa
