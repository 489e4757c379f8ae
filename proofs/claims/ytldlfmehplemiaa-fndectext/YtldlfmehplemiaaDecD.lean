/- Contracts: DecMul of both sides. -/
import Derived.Test.YtldlfmehplemiaaDecC
namespace Go.Proofs.Ytldlfmehplemiaa
open Go.RowKit

/-- two decimals that came in, and the one that goes out, in three blocks in a row -/
def Three (w : World) (b : Nat) (m x n y p q : Int) : Prop := Two w b m x ∧ Two w (b + 1) n y ∧ Two w (b + 2) p q ∧ b + 2 < w.heap.size
theorem Three.new (w : World) (m x n y p q : Int) (T U V : TypeId) : Three (((w.alloc (.cells #[.int .i64 m, .int .i64 x] T)).alloc (.cells #[.int .i64 n, .int .i64 y] U)).alloc (.cells #[.int .i64 p, .int .i64 q] V)) w.heap.size m x n y p q := by
  have h1 := Two.new w m x T
  have h2 := Two.new (w.alloc (.cells #[.int .i64 m, .int .i64 x] T)) n y U
  have h3 := Two.new ((w.alloc (.cells #[.int .i64 m, .int .i64 x] T)).alloc (.cells #[.int .i64 n, .int .i64 y] U)) p q V
  rw [World.size_alloc] at h2 h3
  rw [World.size_alloc] at h3
  exact ⟨(h1.alloc (by simp) _).alloc (by simp; omega) _, h2.alloc (by simp) _, h3, by simp⟩
theorem Three.below {w w' : World} {b : Nat} {m x n y p q : Int} (h : Three w b m x n y p q) (hb : Below w.heap.size w w') : Three w' b m x n y p q := by
  obtain ⟨h1, h2, h3, h4⟩ := h
  have := hb.size
  exact ⟨h1.below hb (by omega), h2.below hb (by omega), h3.below hb (by omega), by omega⟩
theorem below3 (w : World) (a b c : Obj) : Below w.heap.size w (((w.alloc a).alloc b).alloc c) := (by (repeat' (first | assumption | exact Below.refl _ _ | refine Below.alloc ?_ ?_ _ | refine Below.setCell ?_ ?_ _ | refine Below.drew ?_ | refine below_drewN ?_ _)) <;> (first | omega | (simp <;> omega)))

set_option maxHeartbeats 400000 in
theorem iDecMul_any (m x n y : Int) (w : World) :
    Calls Try.prog 18 #[.agg #[.int .i64 m, .int .i64 x], .agg #[.int .i64 n, .int .i64 y]] w fun e w' => e = dec3 (Dm.mul m x n y) ∧ Below w.heap.size w w' := by
  go_enter Try.func18, Try.ntmps18
  go_wp2_with fail
  refine (iDecOk_any _ _ _).mono ?_
  rintro e w1 ⟨rfl, hb1⟩
  have T1 := (Three.new w m x n y 0 0 _ _ _).below hb1
  have hB1 := (below3 w _ _ _).trans (hb1.mono (by simp; omega))
  clear hb1
  obtain ⟨⟨a0, a1, a2, a3⟩, ⟨b0, b1, b2, b3⟩, ⟨r0, r1, r2, r3⟩, hz⟩ := id T1
  cases ho : Dm.ok m x
  · have HF : Hid (Dm.mul m x n y = (0, 0, false)) := by unfold Hid; simp [Dm.mul, ho]
    go_wp2_with fail
    exact bodyPost_ret (v := .tuple #[.agg #[.int .i64 0, .int .i64 0], .bool false]) (by simp [results, Try.results18, go_sem, r0, r1]) rfl ⟨by rw [HF.out], (by (repeat' (first | assumption | exact Below.refl _ _ | refine Below.alloc ?_ ?_ _ | refine Below.setCell ?_ ?_ _ | refine Below.drew ?_ | refine below_drewN ?_ _)) <;> (first | omega | (simp <;> omega)))⟩
  · go_wp2_with fail
    refine (iDecOk_any _ _ _).mono ?_
    rintro e w2 ⟨rfl, hb2⟩
    have T2 := T1.below hb2
    have hB2 := hB1.trans (hb2.mono (by omega))
    clear hb2 hB1 T1 a0 a1 a2 a3 b0 b1 b2 b3 r0 r1 r2 r3
    obtain ⟨⟨a0, a1, a2, a3⟩, ⟨b0, b1, b2, b3⟩, ⟨r0, r1, r2, r3⟩, hz2⟩ := id T2
    cases hp : Dm.ok n y
    · have HF : Hid (Dm.mul m x n y = (0, 0, false)) := by unfold Hid; simp [Dm.mul, hp]
      go_wp2_with fail
      exact bodyPost_ret (v := .tuple #[.agg #[.int .i64 0, .int .i64 0], .bool false]) (by simp [results, Try.results18, go_sem, r0, r1]) rfl ⟨by rw [HF.out], (by (repeat' (first | assumption | exact Below.refl _ _ | refine Below.alloc ?_ ?_ _ | refine Below.setCell ?_ ?_ _ | refine Below.drew ?_ | refine below_drewN ?_ _)) <;> (first | omega | (simp <;> omega)))⟩
    · obtain ⟨hm1, hm2, hx1, hx2⟩ := Dm.ok_bd ho
      obtain ⟨hn1, hn2, hy1, hy2⟩ := Dm.ok_bd hp
      have hmn := Dm.mul_bd 99999999 99999999 (by omega) hm1 hm2 hn1 hn2
      obtain ⟨hmn1, hmn2⟩ := hmn
      have HF : Hid (Dm.mul m x n y = Dm.new (m * n) (x + y)) := by unfold Hid; rw [Dm.new, if_pos (by omega)]; simp [Dm.mul, ho, hp]
      go_wp2_with fail
      refine (iDecNew_any _ _ _).mono ?_
      rintro e w3 ⟨rfl, hb3⟩
      have T3 := T2.below hb3
      have hB3 := hB2.trans (hb3.mono (by omega))
      clear hb3 hB2 T2 a0 a1 a2 a3 b0 b1 b2 b3 r0 r1 r2 r3
      obtain ⟨-, -, ⟨r0, r1, r2, r3⟩, hz3⟩ := id T3
      go_wp2_with fail
      exact bodyPost_ret (v := .tuple #[.agg #[.int .i64 (Dm.new (m * n) (x + y)).1, .int .i64 (Dm.new (m * n) (x + y)).2.1], .bool (Dm.new (m * n) (x + y)).2.2]) (by simp [results, Try.results18, go_sem, r0, r1]) rfl ⟨by rw [HF.out], (by (repeat' (first | assumption | exact Below.refl _ _ | refine Below.alloc ?_ ?_ _ | refine Below.setCell ?_ ?_ _ | refine Below.drew ?_ | refine below_drewN ?_ _)) <;> (first | omega | (simp <;> omega)))⟩
end Go.Proofs.Ytldlfmehplemiaa
