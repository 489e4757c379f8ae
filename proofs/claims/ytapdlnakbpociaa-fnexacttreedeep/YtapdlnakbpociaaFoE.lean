/- Contracts over trees: the laws' own comparison, of two trees that are alike. -/
import Derived.Test.YtapdlnakbpociaaFoD
import Derived.Deep.RegionHeld3
import Derived.Deep.DeepCutAuto
namespace Go.Proofs.Ytapdlnakbpociaa
open Go.RowKit
attribute [local go_sem] cell_alloc_is frozen_alloc_is

/-- five cells from o on -/
def Cells5 (w : World) (b o : Nat) (k : Int) (t : ByteArray) (m e : Int) (v : Value) : Prop := w.cell? ⟨b, o, none⟩ = some (.int .i64 k) ∧ w.cell? ⟨b, o + 1, none⟩ = some (.string t) ∧ w.cell? ⟨b, o + 2, none⟩ = some (.int .i64 m) ∧ w.cell? ⟨b, o + 3, none⟩ = some (.int .i64 e) ∧ w.cell? ⟨b, o + 4, none⟩ = some v
theorem Cells5.grow {w w' : World} {b o : Nat} {k : Int} {t : ByteArray} {m e : Int} {v : Value} (h : Cells5 w b o k t m e v) (hb : Below w.heap.size w w') : Cells5 w' b o k t m e v := by
  obtain ⟨h1, h2, h3, h4, h5⟩ := h
  have hl := World.block_lt_of_cell? w _ h1
  exact ⟨(hb.cell (p := ⟨b, o, none⟩) hl).trans h1, (hb.cell (p := ⟨b, o + 1, none⟩) hl).trans h2, (hb.cell (p := ⟨b, o + 2, none⟩) hl).trans h3, (hb.cell (p := ⟨b, o + 3, none⟩) hl).trans h4, (hb.cell (p := ⟨b, o + 4, none⟩) hl).trans h5⟩
/-- two trees' cells, and nothing that was there has turned -/
abbrev Held2 (W0 : World) (b o b2 o2 : Nat) (k : Int) (t : ByteArray) (m e : Int) (v v2 : Value) (w : World) : Prop :=
  (w.cell? ⟨b, o, none⟩ = some (.int .i64 k) ∧ w.cell? ⟨b, o + 1, none⟩ = some (.string t) ∧ w.cell? ⟨b, o + 2, none⟩ = some (.int .i64 m) ∧ w.cell? ⟨b, o + 3, none⟩ = some (.int .i64 e) ∧ w.cell? ⟨b, o + 4, none⟩ = some v) ∧
  (w.cell? ⟨b2, o2, none⟩ = some (.int .i64 k) ∧ w.cell? ⟨b2, o2 + 1, none⟩ = some (.string t) ∧ w.cell? ⟨b2, o2 + 2, none⟩ = some (.int .i64 m) ∧ w.cell? ⟨b2, o2 + 3, none⟩ = some (.int .i64 e) ∧ w.cell? ⟨b2, o2 + 4, none⟩ = some v2) ∧ Below W0.heap.size W0 w
theorem Held2.grow {W0 w w' : World} {b o b2 o2 : Nat} {k : Int} {t : ByteArray} {m e : Int} {v v2 : Value} (h : Held2 W0 b o b2 o2 k t m e v v2 w) (hb : Below w.heap.size w w') : Held2 W0 b o b2 o2 k t m e v v2 w' :=
  ⟨Cells5.grow h.1 hb, Cells5.grow h.2.1 hb, h.2.2.trans (hb.mono h.2.2.size)⟩
theorem Held2.drew {W0 w : World} {b o b2 o2 : Nat} {k : Int} {t : ByteArray} {m e : Int} {v v2 : Value} (h : Held2 W0 b o b2 o2 k t m e v v2 w) : Held2 W0 b o b2 o2 k t m e v v2 w.drew := h.grow ((Below.refl _ _).drew)

set_option maxHeartbeats 1000000 in
theorem eqNodeS_step (N : Nat) (H : ∀ (k : Int) (t : ByteArray) (m e : Int) (a a2 : Option Addr) (c c2 : Nat) (F G : Fo) (w : World), F.size < N → F.alike G → F.In w a → G.In w a2 → F.len ≤ c → c ≤ maxLen → G.len ≤ c2 → c2 ≤ maxLen →
      Calls Try.prog 12 #[nodeV k t m e a F.len c, nodeV k t m e a2 G.len c2] w fun r w' => r = .returned (.bool true) ∧ Below w.heap.size w w') :
    ∀ (a a2 : Option Addr) (c c2 : Nat) (F G : Fo) (w : World), F.size ≤ N → F.alike G → F.In w a → G.In w a2 → F.len ≤ c → c ≤ maxLen → G.len ≤ c2 → c2 ≤ maxLen →
      Calls Try.prog 31 #[.slice a F.len c, .slice a2 G.len c2] w fun r w' => r = .returned (.bool true) ∧ Below w.heap.size w w' := by
  intro a a2 c c2 F G w hF hA hin hin2 hl hc hl2 hc2
  have hgl := Fo.alike_len hA
  have hll := F.len_le
  unfold maxLen at hc hc2
  obtain ⟨n, hn⟩ : ∃ n, n = F.len := ⟨_, rfl⟩
  rw [← hgl, ← hn]
  rw [← hgl, ← hn] at hl2
  rw [← hn] at hl hll
  have hnF : Hid (n = F.len) := hn
  have hnG : Hid (n = G.len) := hn.trans hgl
  clear hn hgl
  go_enter Try.func31, Try.ntmps31
  go_wp2_with fail
  go_loopw [5] (fun i wr => ∃ (j : Nat) (A B : Fo), i = .int .i64 j ∧ j + A.len = n ∧ A.size ≤ F.size ∧ A.alike B ∧ (A = .nil ∨ ∃ b o', a = some ⟨b, o', none⟩ ∧ A.From wr b (o' + j * 5)) ∧ (B = .nil ∨ ∃ b o', a2 = some ⟨b, o', none⟩ ∧ B.From wr b (o' + j * 5)) ∧ Below w.heap.size w wr) (fun i _ => n - (intOf i).toNat)
  case atStart =>
    refine ⟨0, F, G, rfl, by have := hnF.out; omega, Nat.le_refl _, hA, ?_, ?_, Below.refl _ _⟩
    · rcases hin with h | ⟨b, o', e1, e2⟩
      · exact .inl h
      · exact .inr ⟨b, o', e1, by simpa using e2⟩
    · rcases hin2 with h | ⟨b, o', e1, e2⟩
      · exact .inl h
      · exact .inr ⟨b, o', e1, by simpa using e2⟩
  case round =>
    obtain ⟨j, A, B, rfl, hj, hs, hAB, hGA, hGB, hb⟩ := hrel
    cases B with
    | nil =>
      have e := Fo.alike_nil hAB
      subst e
      have hj' : j = n := by simpa [Fo.len] using hj
      subst hj'
      clear hj hs hGA hGB H hAB hin hin2 hA
      go_wp2_with fail
      go_ret
      exact ⟨rfl, hb⟩
    | cons k' t' m' e' a' c' kids next =>
      obtain ⟨a1, c1, kids1, next1, rfl, hk1, hn1⟩ := Fo.alike_cons hAB
      rcases hGA with hG | ⟨b, o', rfl, ⟨x1, x2, x3, x4, x5⟩, xk, xc1, xc2, _, xn⟩
      · cases hG
      rcases hGB with hG | ⟨b2, o2, rfl, ⟨y1, y2, y3, y4, y5⟩, yk, yc1, yc2, _, yn⟩
      · cases hG
      have hln : j + (next1.len + 1) = n := hj
      have hlt : (j : Int) < (n : Int) := by omega
      have hjl : j < n := by omega
      have hss : kids1.size + 1 + next1.size ≤ F.size := hs
      clear hj hs hAB hin hin2 hA
      have hS0 : Held2 wr b (o' + j * 5) b2 (o2 + j * 5) k' t' m' e' (.slice a1 kids1.len c1) (.slice a' kids.len c') wr := ⟨⟨x1, x2, x3, x4, x5⟩, ⟨y1, y2, y3, y4, y5⟩, Below.refl _ _⟩
      have HX : Hid (next1.From wr b (o' + j * 5 + 5) ∧ next.From wr b2 (o2 + j * 5 + 5) ∧ next1.alike next) := ⟨xn, yn, hn1⟩
      have HK : Hid (kids1.In wr a1 ∧ kids.In wr a' ∧ kids1.alike kids) := ⟨xk, yk, hk1⟩
      clear xn yn xk yk hk1 hn1
      go_wp2_with fail
      (go_region_held3 (fun w' => (w'.cell? ⟨b, o' + j * 5, none⟩ = some (.int .i64 k') ∧ w'.cell? ⟨b, o' + j * 5 + 1, none⟩ = some (.string t') ∧ w'.cell? ⟨b, o' + j * 5 + 2, none⟩ = some (.int .i64 m') ∧ w'.cell? ⟨b, o' + j * 5 + 3, none⟩ = some (.int .i64 e') ∧ w'.cell? ⟨b, o' + j * 5 + 4, none⟩ = some (.slice a1 kids1.len c1)) ∧ (w'.cell? ⟨b2, o2 + j * 5, none⟩ = some (.int .i64 k') ∧ w'.cell? ⟨b2, o2 + j * 5 + 1, none⟩ = some (.string t') ∧ w'.cell? ⟨b2, o2 + j * 5 + 2, none⟩ = some (.int .i64 m') ∧ w'.cell? ⟨b2, o2 + j * 5 + 3, none⟩ = some (.int .i64 e') ∧ w'.cell? ⟨b2, o2 + j * 5 + 4, none⟩ = some (.slice a' kids.len c')) ∧ Below wr.heap.size wr w') (first | exact hS0.drew | exact hS0 | assumption) ((go_at_call 12; refine (H k' t' m' e' a1 a' c1 c' kids1 kids _ (by omega) HK.out.2.2 (HK.out.1.grow (by assumption : Held2 wr b (o' + j * 5) b2 (o2 + j * 5) k' t' m' e' (.slice a1 kids1.len c1) (.slice a' kids.len c') _).2.2) (HK.out.2.1.grow (by assumption : Held2 wr b (o' + j * 5) b2 (o2 + j * 5) k' t' m' e' (.slice a1 kids1.len c1) (.slice a' kids.len c') _).2.2) xc1 xc2 yc1 yc2).mono ?_; rintro r w1 ⟨rfl, hb1⟩; have hS : Held2 wr b (o' + j * 5) b2 (o2 + j * 5) k' t' m' e' (.slice a1 kids1.len c1) (.slice a' kids.len c') w1 := Held2.grow (by assumption) hb1)))
      have hB1 : Below wr.heap.size wr w1 := hS.2.2
      have hb2 := hb.trans (hB1.mono hb.size)
      clear hS0 hS hb1 x1 x2 x3 x4 x5 y1 y2 y3 y4 y5 H HK
      rename_i _ hHeld0
      clear hHeld0
      go_wp2_with fail
      go_round
      case rel =>
        obtain ⟨q1, q2, q3⟩ := HX.out
        refine ⟨j + 1, next1, next, by go_num, by omega, by omega, q3, .inr ⟨b, o', rfl, ?_⟩, .inr ⟨b2, o2, rfl, ?_⟩, hb2⟩
        · rw [show o' + (j + 1) * 5 = o' + j * 5 + 5 by omega]; exact Fo.from_grow hB1 _ _ _ q1
        · rw [show o2 + (j + 1) * 5 = o2 + j * 5 + 5 by omega]; exact Fo.from_grow hB1 _ _ _ q2
      case measure => simp [intOf]; omega

set_option maxHeartbeats 1000000 in
theorem eqNode_step (N : Nat) (H : ∀ (a a2 : Option Addr) (c c2 : Nat) (F G : Fo) (w : World), F.size ≤ N → F.alike G → F.In w a → G.In w a2 → F.len ≤ c → c ≤ maxLen → G.len ≤ c2 → c2 ≤ maxLen →
      Calls Try.prog 31 #[.slice a F.len c, .slice a2 G.len c2] w fun r w' => r = .returned (.bool true) ∧ Below w.heap.size w w') :
    ∀ (k : Int) (t : ByteArray) (m e : Int) (a a2 : Option Addr) (c c2 : Nat) (F G : Fo) (w : World), F.size ≤ N → F.alike G → F.In w a → G.In w a2 → F.len ≤ c → c ≤ maxLen → G.len ≤ c2 → c2 ≤ maxLen →
      Calls Try.prog 12 #[nodeV k t m e a F.len c, nodeV k t m e a2 G.len c2] w fun r w' => r = .returned (.bool true) ∧ Below w.heap.size w w' := by
  intro k t m e a a2 c c2 F G w hF hA hin hin2 hl hc hl2 hc2
  have htt : (t.toList != t.toList) = false := by simp
  go_enter Try.func12, Try.ntmps12
  go_wp2_with fail
  obtain ⟨W0, hW0⟩ : ∃ W0, W0 = (w.alloc (.cells #[.int .i64 k, .string t, .int .i64 m, .int .i64 e, .slice a F.len c] 32)).alloc (.cells #[.int .i64 k, .string t, .int .i64 m, .int .i64 e, .slice a2 G.len c2] 32) := ⟨_, rfl⟩
  have hB0 : Below w.heap.size w W0 := by subst hW0; exact (by (repeat' (first | assumption | exact Below.refl _ _ | refine Below.alloc ?_ ?_ _ | refine Below.setCell ?_ ?_ _ | refine Below.drew ?_ | refine below_drewN ?_ _)) <;> (first | omega | (simp <;> omega)))
  have A0 : W0.cell? ⟨w.heap.size, 4, none⟩ = some (.slice a F.len c) := by
    subst hW0
    exact ((Five.new w _ _ _ _ _ _).below ((Below.refl _ _).alloc (Nat.le_refl _) _) (by simp)).1.2.2.2.2
  have C0 : W0.cell? ⟨w.heap.size + 1, 4, none⟩ = some (.slice a2 G.len c2) := by
    subst hW0
    have := Five.new (w.alloc (.cells #[.int .i64 k, .string t, .int .i64 m, .int .i64 e, .slice a F.len c] 32)) (.int .i64 k) (.string t) (.int .i64 m) (.int .i64 e) (.slice a2 G.len c2) 32
    rw [World.size_alloc] at this
    exact this.1.2.2.2.2
  rw [← hW0]
  clear hW0
  refine (eqDec_any _ _ _ _ _).mono ?_
  rintro r w1 ⟨rfl, hb1⟩
  have A1 := (hb1.cell (p := ⟨w.heap.size, 4, none⟩) (World.block_lt_of_cell? W0 _ A0)).trans A0
  have C1 := (hb1.cell (p := ⟨w.heap.size + 1, 4, none⟩) (World.block_lt_of_cell? W0 _ C0)).trans C0
  have hB1 := hB0.trans (hb1.mono hB0.size)
  have hq : (decide (m = m) && decide (e = e)) = true := by simp
  clear A0 C0 hB0 hb1
  have HK : Hid (F.In w1 a ∧ G.In w1 a2) := ⟨hin.grow hB1, hin2.grow hB1⟩
  clear hin hin2
  go_wp2_with fail
  refine (H a a2 c c2 F G w1 hF hA HK.out.1 HK.out.2 hl hc hl2 hc2).mono ?_
  rintro r w2 ⟨rfl, hb2⟩
  have hB2 := hB1.trans (hb2.mono hB1.size)
  clear H HK hb2 hB1 A1 C1 hA
  go_wp2_with fail
  go_ret
  exact ⟨rfl, hB2⟩
theorem eqNode_all (N : Nat) : ∀ (k : Int) (t : ByteArray) (m e : Int) (a a2 : Option Addr) (c c2 : Nat) (F G : Fo) (w : World), F.size < N → F.alike G → F.In w a → G.In w a2 → F.len ≤ c → c ≤ maxLen → G.len ≤ c2 → c2 ≤ maxLen →
      Calls Try.prog 12 #[nodeV k t m e a F.len c, nodeV k t m e a2 G.len c2] w fun r w' => r = .returned (.bool true) ∧ Below w.heap.size w w' := by
  induction N with
  | zero => intro k t m e a a2 c c2 F G w hF; omega
  | succ N ih => exact fun k t m e a a2 c c2 F G w hF => eqNode_step N (eqNodeS_step N ih) k t m e a a2 c c2 F G w (by omega)
end Go.Proofs.Ytapdlnakbpociaa
