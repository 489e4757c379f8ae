/- My own texts, joined: FoB FoE FoO OkS Lg Lr Ls Lt Lc Eb Ld Ec. -/
import Derived.Test.YtbbbmmemfndnlaaJScopeCheck0
import Derived.Deep.RegionHeld3
import Derived.Deep.DeepCutAuto
import Derived.Deep.Slices
import Derived.OpenShut
import Derived.Test.YtbbbmmemfndnlaaJScopeCheck3
import Derived.Test.YtbbbmmemfndnlaaJScopeCheck1
import Derived.Shelf.Spec.SearchS
import Derived.Shelf.Spec.SlicesInsertGrow
import Derived.Test.YtbbbmmemfndnlaaProg
import Derived.Lib.LazyBuf
import Derived.Deep.OwnRows
import Derived.Shelf.Pu.Clone
/- Contracts over trees: the laws' own measure. -/
namespace Go.Proofs.Ytbbbmmemfndnlaa
open Go.RowKit

set_option maxHeartbeats 1000000 in
theorem szNodeS_step (N : Nat) (H : ∀ (k : Int) (t : ByteArray) (m e : Int) (a : Option Addr) (c : Nat) (F : Fo) (w : World) (l : Nat), F.size < N → F.In w a → F.len ≤ c → c ≤ maxLen → t.size ≤ maxLen → l ≤ 1048576 →
      Calls Try.prog 7 #[nodeV k t m e a F.len c, .int .i64 l] w fun e w' => e = .returned (.int .i64 (leftOf (t.size + F.wt) l)) ∧ Below w.heap.size w w') :
    ∀ (a : Option Addr) (c : Nat) (F : Fo) (w : World) (l : Nat), F.size ≤ N → F.In w a → F.len ≤ c → c ≤ maxLen → l ≤ 1048576 →
      Calls Try.prog 23 #[.slice a F.len c, .int .i64 l] w fun e w' => e = .returned (.int .i64 (leftOf F.wt l)) ∧ Below w.heap.size w w' := by
  intro a c F w l hF hin hl hc hl2
  unfold maxLen at hc
  have hlw := F.len_wt
  by_cases h0 : F.len ≤ l
  · have h0' : ¬ (l : Int) - (F.len : Int) < 0 := by omega
    go_enter Try.func23, Try.ntmps23
    go_wp2_with fail
    go_loopw [1, 5] (fun o i wr => ∃ (j d : Nat) (G : Fo), i = .int .i64 j ∧ o = .int .i64 d ∧ j + G.len = F.len ∧ d + F.wt + G.len = l + G.wt ∧ d ≤ l ∧ G.size ≤ F.size ∧ (G = .nil ∨ ∃ b o', a = some ⟨b, o', none⟩ ∧ G.From wr b (o' + j * 5)) ∧ Below w.heap.size w wr) (fun _ i _ => F.len - (intOf i).toNat)
    case atStart =>
      refine ⟨0, l - F.len, F, rfl, by congr 1; omega, by omega, by omega, by omega, Nat.le_refl _, ?_, Below.refl _ _⟩
      rcases hin with h | ⟨b, o', e1, e2⟩
      · exact .inl h
      · exact .inr ⟨b, o', e1, by simpa using e2⟩
    case round =>
      obtain ⟨j, d, G, rfl, rfl, hj, hs, hs1, hs2, hG, hb⟩ := hrel
      cases G with
      | nil =>
        have hj' : j = F.len := by simpa [Fo.len] using hj
        have hs' : d + F.wt = l := by simpa [Fo.len, Fo.wt] using hs
        have HL : Hid (leftOf F.wt l = (d : Int)) := by unfold Hid leftOf; rw [if_pos (by omega)]; congr 1; omega
        subst hj'
        clear hG hj hs hs' H
        go_wp2_with fail
        go_ret
        exact ⟨by rw [HL.out]; rfl, hb⟩
      | cons k' t' m' e' a' c' kids next =>
        rcases hG with hG | ⟨b, o', rfl, ⟨h1, h2, h3, h4, h5⟩, hk, hc1, hc2, ht', hn⟩
        · cases hG
        · have hln : j + (next.len + 1) = F.len := hj
          have hlt : (j : Int) < (F.len : Int) := by omega
          have hjl : j < F.len := by omega
          have hsz : kids.size + 1 + next.size ≤ F.size := hs2
          have hwt : d + F.wt + (next.len + 1) = l + (t'.size + kids.wt + 1 + next.wt) := hs
          have hnw := next.len_wt
          clear hj hs hin hs2
          go_wp2_with fail
          refine (H k' t' m' e' a' c' kids wr d (by omega) hk hc1 hc2 ht' (by omega)).mono ?_
          rintro e w1 ⟨rfl, hb1⟩
          have hn1 := Fo.from_grow hb1 next b _ hn
          have hb2 := hb.trans (hb1.mono hb.size)
          clear h1 h2 h3 h4 h5 hk hn hb1 hb H
          by_cases hd : t'.size + kids.wt ≤ d
          · have HL : Hid (leftOf (t'.size + kids.wt) d = ((d - (t'.size + kids.wt) : Nat) : Int)) := by unfold Hid leftOf; rw [if_pos hd]
            rw [HL.out]
            obtain ⟨d', hd'⟩ : ∃ d', d' = d - (t'.size + kids.wt) := ⟨_, rfl⟩
            rw [← hd']
            have hd2 : d' + (t'.size + kids.wt) = d := by omega
            clear hd' HL hd
            have hd0 : ¬ (d' : Int) < 0 := by omega
            go_wp2_with fail
            go_round
            case rel =>
              refine ⟨j + 1, d', next, by go_num, rfl, by omega, by omega, by omega, by omega, .inr ⟨b, o', rfl, ?_⟩, hb2⟩
              rw [show o' + (j + 1) * 5 = o' + j * 5 + 5 by omega]; exact hn1
            case measure => simp [intOf]; omega
          · have HL : Hid (leftOf (t'.size + kids.wt) d = -1) := by unfold Hid leftOf; rw [if_neg hd]
            have HR : Hid (leftOf F.wt l = -1) := by unfold Hid leftOf; rw [if_neg (by omega)]
            rw [HL.out]
            clear HL hd
            go_wp2_with fail
            go_ret
            exact ⟨by rw [HR.out]; rfl, hb2⟩
  · have h0' : (l : Int) - (F.len : Int) < 0 := by omega
    have HL : Hid (leftOf F.wt l = -1) := by unfold Hid leftOf; rw [if_neg (by omega)]
    rw [HL.out]
    clear H
    go_enter Try.func23, Try.ntmps23
    go_wp2_with fail
    go_ret
    exact ⟨rfl, Below.refl _ _⟩

set_option maxHeartbeats 1000000 in
theorem szNode_step (N : Nat) (H : ∀ (a : Option Addr) (c : Nat) (F : Fo) (w : World) (l : Nat), F.size ≤ N → F.In w a → F.len ≤ c → c ≤ maxLen → l ≤ 1048576 →
      Calls Try.prog 23 #[.slice a F.len c, .int .i64 l] w fun e w' => e = .returned (.int .i64 (leftOf F.wt l)) ∧ Below w.heap.size w w') :
    ∀ (k : Int) (t : ByteArray) (m e : Int) (a : Option Addr) (c : Nat) (F : Fo) (w : World) (l : Nat), F.size ≤ N → F.In w a → F.len ≤ c → c ≤ maxLen → t.size ≤ maxLen → l ≤ 1048576 →
      Calls Try.prog 7 #[nodeV k t m e a F.len c, .int .i64 l] w fun e w' => e = .returned (.int .i64 (leftOf (t.size + F.wt) l)) ∧ Below w.heap.size w w' := by
  intro k t m e a c F w l hF hin hl hc ht hl2
  have hcc := hc
  unfold maxLen at hc ht
  by_cases h0 : t.size ≤ l
  · have h0' : ¬ (l : Int) - (t.size : Int) < 0 := by omega
    go_enter Try.func7, Try.ntmps7
    go_wp2_with fail
    rw [show (l : Int) - (t.size : Int) = ((l - t.size : Nat) : Int) by omega]
    have hb0 : Below w.heap.size w (w.alloc (.cells #[.int .i64 k, .string t, .int .i64 m, .int .i64 e, .slice a F.len c] 26)) := (Below.refl _ w).alloc (Nat.le_refl _) _
    refine (H a c F _ (l - t.size) hF (hin.grow hb0) hl hcc (by omega)).mono ?_
    rintro e w1 ⟨rfl, hb1⟩
    have hb2 : Below w.heap.size w w1 := hb0.trans (hb1.mono (by simp))
    clear hb0 hb1 H hin
    by_cases hd : t.size + F.wt ≤ l
    · have HL : Hid (leftOf F.wt (l - t.size) = ((l - (t.size + F.wt) : Nat) : Int)) := by unfold Hid leftOf; rw [if_pos (by omega)]; congr 1; omega
      have HR : Hid (leftOf (t.size + F.wt) l = ((l - (t.size + F.wt) : Nat) : Int)) := by unfold Hid leftOf; rw [if_pos hd]
      rw [HL.out]
      obtain ⟨d', hd'⟩ : ∃ d', d' = l - (t.size + F.wt) := ⟨_, rfl⟩
      rw [← hd'] at HR ⊢
      have hd0 : ¬ (d' : Int) < 0 := by omega
      clear HL hd hd'
      go_wp2_with fail
      go_ret
      exact ⟨by rw [HR.out]; rfl, hb2⟩
    · have HL : Hid (leftOf F.wt (l - t.size) = -1) := by unfold Hid leftOf; rw [if_neg (by omega)]
      have HR : Hid (leftOf (t.size + F.wt) l = -1) := by unfold Hid leftOf; rw [if_neg hd]
      rw [HL.out]
      clear HL hd
      go_wp2_with fail
      go_ret
      exact ⟨by rw [HR.out]; rfl, hb2⟩
  · have h0' : (l : Int) - (t.size : Int) < 0 := by omega
    have HL : Hid (leftOf (t.size + F.wt) l = -1) := by unfold Hid leftOf; rw [if_neg (by omega)]
    rw [HL.out]
    clear H
    go_enter Try.func7, Try.ntmps7
    go_wp2_with fail
    go_ret
    exact ⟨rfl, (Below.refl _ _).alloc (Nat.le_refl _) _⟩

theorem szNode_all (N : Nat) : ∀ (k : Int) (t : ByteArray) (m e : Int) (a : Option Addr) (c : Nat) (F : Fo) (w : World) (l : Nat), F.size < N → F.In w a → F.len ≤ c → c ≤ maxLen → t.size ≤ maxLen → l ≤ 1048576 →
      Calls Try.prog 7 #[nodeV k t m e a F.len c, .int .i64 l] w fun e w' => e = .returned (.int .i64 (leftOf (t.size + F.wt) l)) ∧ Below w.heap.size w w' := by
  induction N with
  | zero => intro k t m e a c F w l hF; omega
  | succ N ih => exact fun k t m e a c F w l hF => szNode_step N (szNodeS_step N ih) k t m e a c F w l (by omega)
/-- the laws' measure of a tree -/
theorem szNode_any (k : Int) (t : ByteArray) (m e : Int) (a : Option Addr) (c : Nat) (F : Fo) (w : World) (l : Nat) (h1 : F.In w a) (h2 : F.len ≤ c) (h3 : c ≤ maxLen) (h4 : t.size ≤ maxLen) (h5 : l ≤ 1048576) :
      Calls Try.prog 7 #[nodeV k t m e a F.len c, .int .i64 l] w fun e w' => e = .returned (.int .i64 (leftOf (t.size + F.wt) l)) ∧ Below w.heap.size w w' :=
  szNode_all (F.size + 1) k t m e a c F w l (by omega) h1 h2 h3 h4 h5
end Go.Proofs.Ytbbbmmemfndnlaa
/- Contracts over trees: the laws' own comparison, of two trees that are alike. -/
namespace Go.Proofs.Ytbbbmmemfndnlaa
open Go.RowKit
attribute [local go_sem] cell_alloc_is frozen_alloc_is

/-- five cells from o on -/
def Cells5 (w : World) (b o : Nat) (k : Int) (t : ByteArray) (m e : Int) (v : Value) : Prop := w.cell? ⟨b, o, none⟩ = some (.int .i64 k) ∧ w.cell? ⟨b, o + 1, none⟩ = some (.string t) ∧ w.cell? ⟨b, o + 2, none⟩ = some (.int .i64 m) ∧ w.cell? ⟨b, o + 3, none⟩ = some (.int .i64 e) ∧ w.cell? ⟨b, o + 4, none⟩ = some v
theorem Cells5.grow {w w' : World} {b o : Nat} {k : Int} {t : ByteArray} {m e : Int} {v : Value} (h : Cells5 w b o k t m e v) (hb : Below w.heap.size w w') : Cells5 w' b o k t m e v := by
  obtain ⟨h1, h2, h3, h4, h5⟩ := h
  have hl := World.block_lt_of_cell? w _ h1
  exact ⟨(hb.cell (p := ⟨b, o, none⟩) hl).trans h1, (hb.cell (p := ⟨b, o + 1, none⟩) hl).trans h2, (hb.cell (p := ⟨b, o + 2, none⟩) hl).trans h3, (hb.cell (p := ⟨b, o + 3, none⟩) hl).trans h4, (hb.cell (p := ⟨b, o + 4, none⟩) hl).trans h5⟩
/-- two trees' cells, and nothing that was there has turned -/
abbrev Held2 (W0 : World) (b o b2 o2 : Nat) (k : Int) (t : ByteArray) (m e : Int) (v v2 : Value) (w : World) : Prop :=
  (w.cell? ⟨b, o, none⟩ = some (.int .i64 k) ∧ w.cell? ⟨b, o + 1, none⟩ = some (.string t) ∧ w.cell? ⟨b, o + 2, none⟩ = some (.int .i64 m) ∧ w.cell? ⟨b, o + 3, none⟩ = some (.int .i64 e) ∧ w.cell? ⟨b, o + 4, none⟩ = some v) ∧
  (w.cell? ⟨b2, o2, none⟩ = some (.int .i64 k) ∧ w.cell? ⟨b2, o2 + 1, none⟩ = some (.string t) ∧ w.cell? ⟨b2, o2 + 2, none⟩ = some (.int .i64 m) ∧ w.cell? ⟨b2, o2 + 3, none⟩ = some (.int .i64 e) ∧ w.cell? ⟨b2, o2 + 4, none⟩ = some v2) ∧ Below W0.heap.size W0 w
theorem Held2.grow {W0 w w' : World} {b o b2 o2 : Nat} {k : Int} {t : ByteArray} {m e : Int} {v v2 : Value} (h : Held2 W0 b o b2 o2 k t m e v v2 w) (hb : Below w.heap.size w w') : Held2 W0 b o b2 o2 k t m e v v2 w' :=
  ⟨Cells5.grow h.1 hb, Cells5.grow h.2.1 hb, h.2.2.trans (hb.mono h.2.2.size)⟩
theorem Held2.drew {W0 w : World} {b o b2 o2 : Nat} {k : Int} {t : ByteArray} {m e : Int} {v v2 : Value} (h : Held2 W0 b o b2 o2 k t m e v v2 w) : Held2 W0 b o b2 o2 k t m e v v2 w.drew := h.grow ((Below.refl _ _).drew)

set_option maxHeartbeats 1000000 in
theorem eqNodeS_step (N : Nat) (H : ∀ (k : Int) (t : ByteArray) (m e : Int) (a a2 : Option Addr) (c c2 : Nat) (F G : Fo) (w : World), F.size < N → F.alike G → F.In w a → G.In w a2 → F.len ≤ c → c ≤ maxLen → G.len ≤ c2 → c2 ≤ maxLen →
      Calls Try.prog 12 #[nodeV k t m e a F.len c, nodeV k t m e a2 G.len c2] w fun r w' => r = .returned (.bool true) ∧ Below w.heap.size w w') :
    ∀ (a a2 : Option Addr) (c c2 : Nat) (F G : Fo) (w : World), F.size ≤ N → F.alike G → F.In w a → G.In w a2 → F.len ≤ c → c ≤ maxLen → G.len ≤ c2 → c2 ≤ maxLen →
      Calls Try.prog 31 #[.slice a F.len c, .slice a2 G.len c2] w fun r w' => r = .returned (.bool true) ∧ Below w.heap.size w w' := by
  intro a a2 c c2 F G w hF hA hin hin2 hl hc hl2 hc2
  have hgl := Fo.alike_len hA
  have hll := F.len_le
  unfold maxLen at hc hc2
  obtain ⟨n, hn⟩ : ∃ n, n = F.len := ⟨_, rfl⟩
  rw [← hgl, ← hn]
  rw [← hgl, ← hn] at hl2
  rw [← hn] at hl hll
  have hnF : Hid (n = F.len) := hn
  have hnG : Hid (n = G.len) := hn.trans hgl
  clear hn hgl
  go_enter Try.func31, Try.ntmps31
  go_wp2_with fail
  go_loopw [5] (fun i wr => ∃ (j : Nat) (A B : Fo), i = .int .i64 j ∧ j + A.len = n ∧ A.size ≤ F.size ∧ A.alike B ∧ (A = .nil ∨ ∃ b o', a = some ⟨b, o', none⟩ ∧ A.From wr b (o' + j * 5)) ∧ (B = .nil ∨ ∃ b o', a2 = some ⟨b, o', none⟩ ∧ B.From wr b (o' + j * 5)) ∧ Below w.heap.size w wr) (fun i _ => n - (intOf i).toNat)
  case atStart =>
    refine ⟨0, F, G, rfl, by have := hnF.out; omega, Nat.le_refl _, hA, ?_, ?_, Below.refl _ _⟩
    · rcases hin with h | ⟨b, o', e1, e2⟩
      · exact .inl h
      · exact .inr ⟨b, o', e1, by simpa using e2⟩
    · rcases hin2 with h | ⟨b, o', e1, e2⟩
      · exact .inl h
      · exact .inr ⟨b, o', e1, by simpa using e2⟩
  case round =>
    obtain ⟨j, A, B, rfl, hj, hs, hAB, hGA, hGB, hb⟩ := hrel
    cases B with
    | nil =>
      have e := Fo.alike_nil hAB
      subst e
      have hj' : j = n := by simpa [Fo.len] using hj
      subst hj'
      clear hj hs hGA hGB H hAB hin hin2 hA
      go_wp2_with fail
      go_ret
      exact ⟨rfl, hb⟩
    | cons k' t' m' e' a' c' kids next =>
      obtain ⟨a1, c1, kids1, next1, rfl, hk1, hn1⟩ := Fo.alike_cons hAB
      rcases hGA with hG | ⟨b, o', rfl, ⟨x1, x2, x3, x4, x5⟩, xk, xc1, xc2, _, xn⟩
      · cases hG
      rcases hGB with hG | ⟨b2, o2, rfl, ⟨y1, y2, y3, y4, y5⟩, yk, yc1, yc2, _, yn⟩
      · cases hG
      have hln : j + (next1.len + 1) = n := hj
      have hlt : (j : Int) < (n : Int) := by omega
      have hjl : j < n := by omega
      have hss : kids1.size + 1 + next1.size ≤ F.size := hs
      clear hj hs hAB hin hin2 hA
      have hS0 : Held2 wr b (o' + j * 5) b2 (o2 + j * 5) k' t' m' e' (.slice a1 kids1.len c1) (.slice a' kids.len c') wr := ⟨⟨x1, x2, x3, x4, x5⟩, ⟨y1, y2, y3, y4, y5⟩, Below.refl _ _⟩
      have HX : Hid (next1.From wr b (o' + j * 5 + 5) ∧ next.From wr b2 (o2 + j * 5 + 5) ∧ next1.alike next) := ⟨xn, yn, hn1⟩
      have HK : Hid (kids1.In wr a1 ∧ kids.In wr a' ∧ kids1.alike kids) := ⟨xk, yk, hk1⟩
      clear xn yn xk yk hk1 hn1
      go_wp2_with fail
      (go_region_held3 (fun w' => (w'.cell? ⟨b, o' + j * 5, none⟩ = some (.int .i64 k') ∧ w'.cell? ⟨b, o' + j * 5 + 1, none⟩ = some (.string t') ∧ w'.cell? ⟨b, o' + j * 5 + 2, none⟩ = some (.int .i64 m') ∧ w'.cell? ⟨b, o' + j * 5 + 3, none⟩ = some (.int .i64 e') ∧ w'.cell? ⟨b, o' + j * 5 + 4, none⟩ = some (.slice a1 kids1.len c1)) ∧ (w'.cell? ⟨b2, o2 + j * 5, none⟩ = some (.int .i64 k') ∧ w'.cell? ⟨b2, o2 + j * 5 + 1, none⟩ = some (.string t') ∧ w'.cell? ⟨b2, o2 + j * 5 + 2, none⟩ = some (.int .i64 m') ∧ w'.cell? ⟨b2, o2 + j * 5 + 3, none⟩ = some (.int .i64 e') ∧ w'.cell? ⟨b2, o2 + j * 5 + 4, none⟩ = some (.slice a' kids.len c')) ∧ Below wr.heap.size wr w') (first | exact hS0.drew | exact hS0 | assumption) ((go_at_call 12; refine (H k' t' m' e' a1 a' c1 c' kids1 kids _ (by omega) HK.out.2.2 (HK.out.1.grow (by assumption : Held2 wr b (o' + j * 5) b2 (o2 + j * 5) k' t' m' e' (.slice a1 kids1.len c1) (.slice a' kids.len c') _).2.2) (HK.out.2.1.grow (by assumption : Held2 wr b (o' + j * 5) b2 (o2 + j * 5) k' t' m' e' (.slice a1 kids1.len c1) (.slice a' kids.len c') _).2.2) xc1 xc2 yc1 yc2).mono ?_; rintro r w1 ⟨rfl, hb1⟩; have hS : Held2 wr b (o' + j * 5) b2 (o2 + j * 5) k' t' m' e' (.slice a1 kids1.len c1) (.slice a' kids.len c') w1 := Held2.grow (by assumption) hb1)))
      have hB1 : Below wr.heap.size wr w1 := hS.2.2
      have hb2 := hb.trans (hB1.mono hb.size)
      clear hS0 hS hb1 x1 x2 x3 x4 x5 y1 y2 y3 y4 y5 H HK
      rename_i _ hHeld0
      clear hHeld0
      go_wp2_with fail
      go_round
      case rel =>
        obtain ⟨q1, q2, q3⟩ := HX.out
        refine ⟨j + 1, next1, next, by go_num, by omega, by omega, q3, .inr ⟨b, o', rfl, ?_⟩, .inr ⟨b2, o2, rfl, ?_⟩, hb2⟩
        · rw [show o' + (j + 1) * 5 = o' + j * 5 + 5 by omega]; exact Fo.from_grow hB1 _ _ _ q1
        · rw [show o2 + (j + 1) * 5 = o2 + j * 5 + 5 by omega]; exact Fo.from_grow hB1 _ _ _ q2
      case measure => simp [intOf]; omega

set_option maxHeartbeats 1000000 in
theorem eqNode_step (N : Nat) (H : ∀ (a a2 : Option Addr) (c c2 : Nat) (F G : Fo) (w : World), F.size ≤ N → F.alike G → F.In w a → G.In w a2 → F.len ≤ c → c ≤ maxLen → G.len ≤ c2 → c2 ≤ maxLen →
      Calls Try.prog 31 #[.slice a F.len c, .slice a2 G.len c2] w fun r w' => r = .returned (.bool true) ∧ Below w.heap.size w w') :
    ∀ (k : Int) (t : ByteArray) (m e : Int) (a a2 : Option Addr) (c c2 : Nat) (F G : Fo) (w : World), F.size ≤ N → F.alike G → F.In w a → G.In w a2 → F.len ≤ c → c ≤ maxLen → G.len ≤ c2 → c2 ≤ maxLen →
      Calls Try.prog 12 #[nodeV k t m e a F.len c, nodeV k t m e a2 G.len c2] w fun r w' => r = .returned (.bool true) ∧ Below w.heap.size w w' := by
  intro k t m e a a2 c c2 F G w hF hA hin hin2 hl hc hl2 hc2
  have htt : (t.toList != t.toList) = false := by simp
  go_enter Try.func12, Try.ntmps12
  go_wp2_with fail
  obtain ⟨W0, hW0⟩ : ∃ W0, W0 = (w.alloc (.cells #[.int .i64 k, .string t, .int .i64 m, .int .i64 e, .slice a F.len c] 33)).alloc (.cells #[.int .i64 k, .string t, .int .i64 m, .int .i64 e, .slice a2 G.len c2] 33) := ⟨_, rfl⟩
  have hB0 : Below w.heap.size w W0 := by subst hW0; exact (by (repeat' (first | assumption | exact Below.refl _ _ | refine Below.alloc ?_ ?_ _ | refine Below.setCell ?_ ?_ _ | refine Below.drew ?_ | refine below_drewN ?_ _)) <;> (first | omega | (simp <;> omega)))
  have A0 : W0.cell? ⟨w.heap.size, 4, none⟩ = some (.slice a F.len c) := by
    subst hW0
    exact ((Five.new w _ _ _ _ _ _).below ((Below.refl _ _).alloc (Nat.le_refl _) _) (by simp)).1.2.2.2.2
  have C0 : W0.cell? ⟨w.heap.size + 1, 4, none⟩ = some (.slice a2 G.len c2) := by
    subst hW0
    have := Five.new (w.alloc (.cells #[.int .i64 k, .string t, .int .i64 m, .int .i64 e, .slice a F.len c] 33)) (.int .i64 k) (.string t) (.int .i64 m) (.int .i64 e) (.slice a2 G.len c2) 33
    rw [World.size_alloc] at this
    exact this.1.2.2.2.2
  rw [← hW0]
  clear hW0
  refine (eqDec_any _ _ _ _ _).mono ?_
  rintro r w1 ⟨rfl, hb1⟩
  have A1 := (hb1.cell (p := ⟨w.heap.size, 4, none⟩) (World.block_lt_of_cell? W0 _ A0)).trans A0
  have C1 := (hb1.cell (p := ⟨w.heap.size + 1, 4, none⟩) (World.block_lt_of_cell? W0 _ C0)).trans C0
  have hB1 := hB0.trans (hb1.mono hB0.size)
  have hq : (decide (m = m) && decide (e = e)) = true := by simp
  clear A0 C0 hB0 hb1
  have HK : Hid (F.In w1 a ∧ G.In w1 a2) := ⟨hin.grow hB1, hin2.grow hB1⟩
  clear hin hin2
  go_wp2_with fail
  refine (H a a2 c c2 F G w1 hF hA HK.out.1 HK.out.2 hl hc hl2 hc2).mono ?_
  rintro r w2 ⟨rfl, hb2⟩
  have hB2 := hB1.trans (hb2.mono hB1.size)
  clear H HK hb2 hB1 A1 C1 hA
  go_wp2_with fail
  go_ret
  exact ⟨rfl, hB2⟩
theorem eqNode_all (N : Nat) : ∀ (k : Int) (t : ByteArray) (m e : Int) (a a2 : Option Addr) (c c2 : Nat) (F G : Fo) (w : World), F.size < N → F.alike G → F.In w a → G.In w a2 → F.len ≤ c → c ≤ maxLen → G.len ≤ c2 → c2 ≤ maxLen →
      Calls Try.prog 12 #[nodeV k t m e a F.len c, nodeV k t m e a2 G.len c2] w fun r w' => r = .returned (.bool true) ∧ Below w.heap.size w w' := by
  induction N with
  | zero => intro k t m e a a2 c c2 F G w hF; omega
  | succ N ih => exact fun k t m e a a2 c c2 F G w hF => eqNode_step N (eqNodeS_step N ih) k t m e a a2 c c2 F G w (by omega)
end Go.Proofs.Ytbbbmmemfndnlaa
/- Trees: what is read as a tree, or as a list of trees, is one: the argument of a law opened. -/
namespace Go.Proofs.Ytbbbmmemfndnlaa
open Go.RowKit Go.Deep Go.ChangeShapes Go.WideShapes
/-- all heads in it are such -/
def Fo.All (P : Int → ByteArray → Int → Int → Prop) : Fo → Prop
  | .nil => True
  | .cons k t m e _ _ kids next => P k t m e ∧ kids.All P ∧ next.All P
abbrev I64 (n : Int) : Prop := (Lit.int .i64 n).wf = true
/-- numbers that are numbers, texts that are no longer than texts can be -/
abbrev HeadOk (k : Int) (t : ByteArray) (m e : Int) : Prop := I64 k ∧ t.size ≤ maxLen ∧ I64 m ∧ I64 e
section
variable {H : Type} {enc : TypeId × Value → H} {W : World} {base : Nat} {spare : Nat → Bool} {held : Bool}
theorem cellsN : Try.prog.cellsOf 26 = 5 := by kernel_rfl
theorem cellsDec : Try.prog.cellsOf 23 = 2 := by kernel_rfl
theorem cellsInt : Try.prog.cellsOf 3 = 1 := by kernel_rfl
theorem cellsStr : Try.prog.cellsOf 9 = 1 := by kernel_rfl
theorem cellsNs : Try.prog.cellsOf 24 = 1 := by kernel_rfl
theorem list5 {α : Type} {cs : List α} (h : cs.length = 5) : ∃ c0 c1 c2 c3 c4, cs = [c0, c1, c2, c3, c4] := by
  match cs, h with
  | [c0, c1, c2, c3, c4], _ => exact ⟨c0, c1, c2, c3, c4, rfl⟩
theorem list4 {α : Type} {cs : List α} (h : cs.length = 4) : ∃ c0 c1 c2 c3, cs = [c0, c1, c2, c3] := by
  match cs, h with
  | [c0, c1, c2, c3], _ => exact ⟨c0, c1, c2, c3, rfl⟩
theorem list2 {α : Type} {cs : List α} (h : cs.length = 2) : ∃ c0 c1, cs = [c0, c1] := by
  match cs, h with
  | [c0, c1], _ => exact ⟨c0, c1, rfl⟩
theorem open_dec {fuel : Nat} {cs : List Value} {x : DataW H × List MemPlace} (h : DataW.trod enc Try.prog W base spare held fuel 23 cs = some x) :
    ∃ (m e : Int), cs = [.int .i64 m, .int .i64 e] ∧ I64 m ∧ I64 e := by
  obtain ⟨xs, n, rfl, _, hl, hxs, hf⟩ := DataW.trod_struct Try.underlying23 h
  rw [cellsDec] at hl
  obtain ⟨c0, c1, rfl⟩ := list2 hl
  obtain ⟨y0, y1, rfl⟩ := list2 (show xs.length = 2 from hxs)
  have h0 := hf 0 _ rfl
  have h1 := hf 1 _ rfl
  simp [cellsInt] at h0 h1
  obtain ⟨m, e0, _, w0⟩ := DataW.trod_int Try.underlying3 h0
  obtain ⟨e, e1, _, w1⟩ := DataW.trod_int Try.underlying3 h1
  simp at e0 e1
  subst e0 e1
  exact ⟨m, e, rfl, w0, w1⟩
theorem open_node {fuel : Nat} {cs : List Value} {x : DataW H × List MemPlace} (h : DataW.trod enc Try.prog W base spare held fuel 26 cs = some x) :
    ∃ (k : Int) (t : ByteArray) (m e : Int) (v : Value) (y : DataW H × List MemPlace) (n : Nat), fuel = n + 1 ∧ cs = [.int .i64 k, .string t, .int .i64 m, .int .i64 e, v] ∧ HeadOk k t m e ∧
      DataW.trod enc Try.prog W base spare held n 24 [v] = some y := by
  obtain ⟨xs, n, rfl, _, hl, hxs, hf⟩ := DataW.trod_struct Try.underlying26 h
  rw [cellsN] at hl
  obtain ⟨c0, c1, c2, c3, c4, rfl⟩ := list5 hl
  obtain ⟨y0, y1, y2, y3, rfl⟩ := list4 (show xs.length = 4 from hxs)
  have h0 := hf 0 _ rfl
  have h1 := hf 1 _ rfl
  have h2 := hf 2 _ rfl
  have h3 := hf 3 _ rfl
  simp [cellsInt, cellsStr, cellsDec, cellsNs] at h0 h1 h2 h3
  obtain ⟨k, e0, _, w0⟩ := DataW.trod_int Try.underlying3 h0
  obtain ⟨t, e1, _, w1⟩ := DataW.trod_string Try.underlying9 h1
  obtain ⟨m, e, e2, w2, w3⟩ := open_dec h2
  simp at e0 e1 e2
  obtain ⟨rfl, rfl⟩ := e2
  subst e0 e1
  exact ⟨k, t, m, e, c4, y3, n, rfl, rfl, ⟨w0, w1, w2, w3⟩, h3⟩
theorem add_none (b o i : Nat) : Addr.add ⟨b, o, none⟩ i = ⟨b, o + i, none⟩ := by
  by_cases hi0 : i = 0
  · subst hi0; simp [Addr.add]
  · simp [Addr.add, hi0]
theorem open_nodes : ∀ (fuel : Nat) (cs : List Value) (x : DataW H × List MemPlace), DataW.trod enc Try.prog W base spare held fuel 24 cs = some x →
    ∃ (a : Option Addr) (F : Fo) (cap : Nat), cs = [.slice a F.len cap] ∧ F.In W a ∧ F.len ≤ cap ∧ cap ≤ maxLen ∧ F.All HeadOk := by
  intro fuel
  induction fuel using Nat.strongRecOn with
  | _ fuel ih =>
    intro cs x h
    rcases DataW.trod_slice Try.underlying24 h with ⟨rfl, _⟩ | ⟨a, len, cap, elems, rest, n, rfl, rfl, _, _, hl, hm, hlen, hel, _⟩
    · exact ⟨none, .nil, 0, rfl, .inl rfl, Nat.le_refl _, by unfold maxLen; omega, trivial⟩
    rw [cellsN] at hel
    have key : ∀ i, i < len → ∃ (k : Int) (t : ByteArray) (m e : Int) (a' : Option Addr) (F' : Fo) (c' : Nat), HeadOk k t m e ∧ F'.In W a' ∧ F'.len ≤ c' ∧ c' ≤ maxLen ∧ F'.All HeadOk ∧
        (∀ j, j < 5 → W.cell? (a.add (i * 5 + j)) = ([.int .i64 k, .string t, .int .i64 m, .int .i64 e, .slice a' F'.len c'] : List Value)[j]?) := by
      intro i hi
      have he := hel i hi
      rw [List.getElem?_eq_getElem (by omega)] at he
      obtain ⟨cs', h1, h2⟩ := Option.bind_eq_some_iff.1 he
      obtain ⟨k, t, m, e, v, y, n', rfl, rfl, hh, h3⟩ := open_node h2
      obtain ⟨a', F', c', hv, hin, hc1, hc2, hA⟩ := ih n' (by omega) _ _ h3
      simp at hv
      subst hv
      obtain ⟨_, _, hc⟩ := World.cells?_some h1
      refine ⟨k, t, m, e, a', F', c', hh, hin, hc1, hc2, hA, fun j hj => ?_⟩
      rw [← add_add]
      exact hc j hj
    by_cases h0 : len = 0
    · subst h0
      exact ⟨some a, .nil, cap, rfl, .inl rfl, Nat.zero_le _, hm, trivial⟩
    obtain ⟨b, o, spot⟩ := a
    have hspot : spot = none := by
      obtain ⟨k, t, m, e, a', F', c', _, _, _, _, _, hc⟩ := key 0 (by omega)
      have := World.cell?_spot (hc 0 (by omega))
      simpa [Addr.add] using this
    subst hspot
    have all : ∀ d i, i + d = len → ∃ G : Fo, G.len = d ∧ G.From W b (o + i * 5) ∧ G.All HeadOk := by
      intro d
      induction d with
      | zero => intro i _; exact ⟨.nil, rfl, trivial, trivial⟩
      | succ d ihd =>
        intro i hi
        obtain ⟨k, t, m, e, a', F', c', hh, hin, hc1, hc2, hA, hc⟩ := key i (by omega)
        obtain ⟨G, hG1, hG2, hG3⟩ := ihd (i + 1) (by omega)
        have c0 := hc 0 (by omega)
        have c1 := hc 1 (by omega)
        have c2 := hc 2 (by omega)
        have c3 := hc 3 (by omega)
        have c4 := hc 4 (by omega)
        simp only [add_none] at c0 c1 c2 c3 c4
        refine ⟨.cons k t m e a' c' F' G, by show G.len + 1 = d + 1; omega, ⟨⟨c0, c1, c2, c3, c4⟩, hin, hc1, hc2, hh.2.1, ?_⟩, hh, hA, hG3⟩
        rw [show o + i * 5 + 5 = o + (i + 1) * 5 by omega]; exact hG2
    obtain ⟨F, hF1, hF2, hF3⟩ := all len 0 (by omega)
    subst hF1
    refine ⟨some ⟨b, o, none⟩, F, cap, rfl, .inr ⟨b, o, rfl, by simpa using hF2⟩, hl, hm, hF3⟩
set_option maxRecDepth 100000 in
/-- a tree that comes in, opened -/
theorem open_tree {r : Reach} {b0 : Nat} {v : Value} {d : DataW H} {p : List MemPlace} (hv : Value.okWide Try.prog W r b0 26 v) (h : DataW.Trod enc Try.prog W base spare held 26 v d p) :
    ∃ (k : Int) (t : ByteArray) (m e : Int) (a : Option Addr) (F : Fo) (c : Nat), v = nodeV k t m e a F.len c ∧ HeadOk k t m e ∧ F.In W a ∧ F.len ≤ c ∧ c ≤ maxLen ∧ F.All HeadOk := by
  obtain ⟨cs, rfl, _⟩ := okWide_struct Try.underlying26 hv
  obtain ⟨fuel, hf⟩ := h
  obtain ⟨k, t, m, e, v, y, n, rfl, hc, hh, h3⟩ := open_node hf
  obtain ⟨a, F, c, hv, hin, hc1, hc2, hA⟩ := open_nodes n _ _ h3
  simp at hv
  subst hv
  have : cs = #[.int .i64 k, .string t, .int .i64 m, .int .i64 e, .slice a F.len c] := by
    cases cs
    simpa [Value.cells] using hc
  subst this
  exact ⟨k, t, m, e, a, F, c, rfl, hh, hin, hc1, hc2, hA⟩
end
end Go.Proofs.Ytbbbmmemfndnlaa
/- TreeOk of the specification; the law FnExactTreeOk walked. -/
namespace Go.Proofs.Ytbbbmmemfndnlaa
open Go.RowKit
set_option maxRecDepth 100000 in
set_option maxHeartbeats 2000000 in
theorem sTreeOk_any (k : Int) (t : ByteArray) (m e : Int) (a : Option Addr) (c : Nat) (F : Fo) (w : World) (hF : F.size ≤ 1900000) (hin : F.In w a) (hl : F.len ≤ c) (hc : c ≤ maxLen) (ht : t.size ≤ maxLen) :
    Calls Try.prog 24 #[nodeV k t m e a F.len c] w fun r w' => Says (¬ k = 23 ∧ TreeGood k t m e F) r ∧ Below w.heap.size w w' := by
  have HG : Hid (¬ k = 23 ∧ TreeGood k t m e F ↔ (F.size + 1 ≤ 200 ∧ F.deep + 1 ≤ 20) ∧ okOne k t m e F = true) := by
    unfold Hid
    rw [good_iff, ok_iff (F.size + 1) k t m e F (by omega)]
    exact ⟨fun h => ⟨h.2.1, h.1, h.2.2⟩, fun h => ⟨h.2.1, h.1, h.2.2⟩⟩
  have hdd := F.deep_le
  have HS := fun W hW => sTreeSize_any (F.size + 1) k t m e a c F W (by omega) (by omega) hW hl hc
  have HD := fun W hW => sTreeDeep_any (F.size + 1) k t m e a c F W (by omega) (by omega) hW hl hc
  have HO := fun W hW => l3Ok_all (F.size + 1) k t m e a c F W (by omega) hW hl hc ht
  have HI : Hid (∀ W, Below w.heap.size w W → F.In W a) := fun W h => hin.grow h
  clear hin
  generalize F.size = sz at *
  generalize F.deep = dp at *
  generalize okOne k t m e F = ok at *
  go_enter Try.func24, Try.ntmps24
  have hB0 := (Below.refl _ w).alloc (Nat.le_refl _) (.cells #[.int .i64 k, .string t, .int .i64 m, .int .i64 e, .slice a F.len c] 33)
  have hf0 := Five.new w (.int .i64 k) (.string t) (.int .i64 m) (.int .i64 e) (.slice a F.len c) 33
  have hlt0 := hf0.lt
  go_wp2_with fail
  refine (HS _ (HI.out _ hB0)).mono ?_
  rintro r w1 ⟨rfl, hb1⟩
  have hB1 := hB0.trans (hb1.mono hB0.size)
  have hf1 := hf0.below hb1 hlt0
  have hlt1 := hf1.lt
  obtain ⟨⟨x0, x1, x2, x3, x4⟩, _⟩ := hf1
  clear hf0 hb1 hB0 HS
  by_cases h1 : sz + 1 ≤ 200
  · have h1' : ((sz + 1 : Nat) : Int) ≤ 200 := by omega
    go_wp2_with fail
    refine (HD _ (HI.out _ hB1)).mono ?_
    rintro r w2 ⟨rfl, hb2⟩
    have hB2 := hB1.trans (hb2.mono hB1.size)
    have y0 := (hb2.cell (p := ⟨w.heap.size, 0, none⟩) hlt1).trans x0
    have y1 := (hb2.cell (p := ⟨w.heap.size, 1, none⟩) hlt1).trans x1
    have y2 := (hb2.cell (p := ⟨w.heap.size, 2, none⟩) hlt1).trans x2
    have y3 := (hb2.cell (p := ⟨w.heap.size, 3, none⟩) hlt1).trans x3
    have y4 := (hb2.cell (p := ⟨w.heap.size, 4, none⟩) hlt1).trans x4
    clear x0 x1 x2 x3 x4 hb2 hB1 HD
    by_cases h2 : dp + 1 ≤ 20
    · have h2' : ((dp + 1 : Nat) : Int) ≤ 20 := by omega
      go_wp2_with fail
      refine (HO _ (HI.out _ hB2)).mono ?_
      rintro r w3 ⟨rfl, hb3⟩
      have hB3 := hB2.trans (hb3.mono hB2.size)
      go_wp2_with fail
      go_ret
      exact ⟨⟨ok, rfl, by rw [HG.out]; exact ⟨fun h => ⟨⟨h1, h2⟩, h⟩, fun h => h.2⟩⟩, hB3⟩
    · have h2' : ¬ ((dp + 1 : Nat) : Int) ≤ 20 := by omega
      go_wp2_with fail
      go_ret
      exact ⟨⟨false, rfl, by rw [HG.out]; exact ⟨fun h => (by cases h), fun h => absurd h.1.2 h2⟩⟩, hB2⟩
  · have h1' : ¬ ((sz + 1 : Nat) : Int) ≤ 200 := by omega
    go_wp2_with fail
    go_ret
    exact ⟨⟨false, rfl, by rw [HG.out]; exact ⟨fun h => (by cases h), fun h => absurd h.1.1 h1⟩⟩, hB1⟩
theorem Fo.alike_at : ∀ {G F : Fo}, F.alike G → ∀ i, F.kindAt i = G.kindAt i ∧ F.textAt i = G.textAt i := by
  intro G
  induction G with
  | nil => intro F h i; rw [Fo.alike_nil h]; exact ⟨rfl, rfl⟩
  | cons k t m e a c kids next _ ih =>
    intro F h i
    obtain ⟨a', c', kids', next', rfl, h1, h2⟩ := Fo.alike_cons h
    cases i with
    | zero => exact ⟨rfl, rfl⟩
    | succ i => exact ih h2 i
theorem Fo.alike_cnt {G F : Fo} (h : F.alike G) (q : Int) (n : Nat) : F.cnt q n = G.cnt q n := by
  induction n with
  | zero => rfl
  | succ n ih => show F.cnt q n + _ = G.cnt q n + _; rw [ih, (Fo.alike_at h n).1]
theorem Fo.alike_new {G F : Fo} (h : F.alike G) (i n : Nat) : F.newAt i n = G.newAt i n := by
  induction n with
  | zero => rfl
  | succ n ih => show (F.newAt i n && !((F.textAt i).toList == (F.textAt n).toList)) = (G.newAt i n && !((G.textAt i).toList == (G.textAt n).toList)); rw [ih, (Fo.alike_at h n).2, (Fo.alike_at h i).2]
theorem Fo.alike_dist {G F : Fo} (h : F.alike G) (n : Nat) : F.dist n = G.dist n := by
  induction n with
  | zero => rfl
  | succ n ih => show (F.dist n && F.newAt n n) = (G.dist n && G.newAt n n); rw [ih, Fo.alike_new h]
theorem Fo.alike_fit {G F : Fo} (h : F.alike G) (k : Int) (t : ByteArray) (m e : Int) : Om.fit k t m e F = Om.fit k t m e G := by
  unfold Om.fit Om.below
  rw [Fo.alike_len h, Fo.alike_cnt h, Fo.alike_cnt h, Fo.alike_dist h, Fo.alike_dist h]
theorem Fo.alike_allFit : ∀ {G F : Fo}, F.alike G → F.allFit = G.allFit := by
  intro G
  induction G with
  | nil => intro F h; rw [Fo.alike_nil h]
  | cons k t m e a c kids next ih1 ih2 =>
    intro F h
    obtain ⟨a', c', kids', next', rfl, h1, h2⟩ := Fo.alike_cons h
    show (Om.fit k t m e kids' && (kids'.allFit && next'.allFit)) = (Om.fit k t m e kids && (kids.allFit && next.allFit))
    rw [Fo.alike_fit h1, ih1 h1, ih2 h2]
theorem alike_good {G F : Fo} (h : F.alike G) (k : Int) (t : ByteArray) (m e : Int) : (¬ k = 23 ∧ TreeGood k t m e F) ↔ (¬ k = 23 ∧ TreeGood k t m e G) := by
  rw [good_iff, good_iff, Fo.alike_fit h, Fo.alike_allFit h, Fo.alike_size h, Fo.alike_deep h]
end Go.Proofs.Ytbbbmmemfndnlaa
/- All papers that a tree takes in, by the specification: l6Imports, Imports. -/
namespace Go.Proofs.Ytbbbmmemfndnlaa
open Go.RowKit
attribute [local go_sem] cell_alloc_is frozen_alloc_is
end Go.Proofs.Ytbbbmmemfndnlaa
/- Contracts over trees: the names that a tree binds in what stands below it. -/
namespace Go.Proofs.Ytbbbmmemfndnlaa
open Go.RowKit
attribute [local go_sem] cell_alloc_is frozen_alloc_is
/-- the texts of a list of trees -/
def Fo.txts : Fo → List ByteArray
  | .nil => []
  | .cons _ t _ _ _ _ _ next => t :: next.txts
theorem Fo.txts_len (F : Fo) : F.txts.length = F.len := by
  induction F with
  | nil => rfl
  | cons k t m e a c kids next ih1 ih2 => show next.txts.length + 1 = next.len + 1; rw [ih2]
/-- what a tree binds in its tree below at a place -/
def bnd (k : Int) (t : ByteArray) (F : Fo) (i : Nat) : List ByteArray :=
  if k = 15 ∨ (k = 21 ∧ i = 1) then [t] else if k = 16 then F.txts.take (F.len - 1) else []
theorem texts_snoc (L : List ByteArray) (s : ByteArray) : texts (L ++ [s]) = texts L ++ [Value.string s] := by
  unfold texts; simp
theorem txts_at : ∀ {F : Fo} {j : Nat} {k : Int} {t : ByteArray} {m e : Int} {a : Option Addr} {c : Nat} {kids next : Fo}, F.drop j = .cons k t m e a c kids next → F.txts[j]? = some t := by
  intro F
  induction F with
  | nil => intro j k t m e a c kids next h; cases j <;> cases h
  | cons k0 t0 m0 e0 a0 c0 kids0 next0 _ ih =>
    intro j k t m e a c kids next h
    cases j with
    | zero => cases h; rfl
    | succ j => exact ih h
set_option maxRecDepth 100000 in
set_option maxHeartbeats 1000000 in
theorem l6Bound_any (k : Int) (t : ByteArray) (m e : Int) (a : Option Addr) (c i : Nat) (F : Fo) (w : World) (hin : F.In w a) (hl : F.len ≤ c) (hc : c ≤ maxLen) (ht : t.size ≤ maxLen) (hts : ∀ s ∈ F.txts, s.size ≤ maxLen) (hF : F.size ≤ 1060000) (hib : i ≤ 1060000) :
    Calls Try.prog 53 #[nodeV k t m e a F.len c, .int .i64 (i : Nat)] w fun r w' => (∃ a' c', r = .returned (.slice a' (bnd k t F i).length c') ∧ SIn w' (bnd k t F i) a' ∧ ((bnd k t F i).length ≤ c' ∧ c' ≤ maxLen)) ∧ Below w.heap.size w w' := by
  obtain ⟨i0, hi, hz0, hz1, hz2⟩ := info_parts textInfo
  have hb0 : Below w.heap.size w (w.alloc (.cells #[.int .i64 k, .string t, .int .i64 m, .int .i64 e, .slice a F.len c] 33)) := (Below.refl _ _).alloc (Nat.le_refl _) _
  have f0 := Five.new w (.int .i64 k) (.string t) (.int .i64 m) (.int .i64 e) (.slice a F.len c) 33
  have hb1 := hb0.alloc hb0.size (.cells #[] 9)
  have f1 := f0.below ((Below.refl _ _).alloc (Nat.le_refl _) (.cells #[] 9)) f0.lt
  have own0 := own_nothing (w.alloc (.cells #[.int .i64 k, .string t, .int .i64 m, .int .i64 e, .slice a F.len c] 33)) (w.heap.size + 1) 1 9 (by simp)
  have hll := F.len_le
  unfold maxLen at hc
  have HI : Hid (F.In w a) := hin
  clear hin
  have hone := cell_one_new ((w.alloc (.cells #[.int .i64 k, .string t, .int .i64 m, .int .i64 e, .slice a F.len c] 33)).alloc (.cells #[] 9)) (.string t) 9
  simp only [World.size_alloc] at own0 hone
  have HF : ∀ (L : List ByteArray) (v : Value) (W : World), (∀ s ∈ L, s.size ≤ maxLen) → W.ownsRow (w.heap.size + 1) 9 1 v L.length (texts L) → ∃ a' c', v = .slice a' L.length c' ∧ SIn W L a' ∧ (L.length ≤ c' ∧ c' ≤ maxLen) := fun L v W hs ho => by
    obtain ⟨a', c', e1, e2, e3, -⟩ := own_lies ho
    exact ⟨a', c', e1, e2.sin hs, e3⟩
  have hbw : Below (w.heap.size + 1) (w.alloc (.cells #[.int .i64 k, .string t, .int .i64 m, .int .i64 e, .slice a F.len c] 33)) ((w.alloc (.cells #[.int .i64 k, .string t, .int .i64 m, .int .i64 e, .slice a F.len c] 33)).alloc (.cells #[] 9)) := (Below.refl _ _).alloc (by simp) _
  clear f1
  by_cases hA : k = 15 ∨ (k = 21 ∧ i = 1)
  · have HE : Hid (bnd k t F i = [t]) := if_pos hA
    have hib2 : k = 21 → (i : Int) = 1 := fun h => by omega
    have hsh : w.heap.size + 1 ≤ ((w.alloc (.cells #[.int .i64 k, .string t, .int .i64 m, .int .i64 e, .slice a F.len c] 33)).alloc (.cells #[] 9)).heap.size := by simp
    rcases hA with rfl | ⟨rfl, rfl⟩
    all_goals
      go_enter Try.func53, Try.ntmps53
      go_wp2_with (at_builtin; refine wpList_append_own _ rfl _ _ 28 rfl (w.heap.size + 1) 9 i0 (.string ⟨#[]⟩) 1 16 Try.underlying28 hi hz0 hz1 hz2 rfl (by decide) _ _ _ rfl (own0.alloc _) ⟨w.heap.size + 1 + 1, 0, none⟩ 1 1 [.string t] rfl rfl hone (fun x hx => by simp at hx; subst hx; rfl) (by unfold maxLen; omega) (by omega) (by simp <;> omega) ?_; intro v' w3 hown3 hgrow3 hnil3)
      have hB3 := hb0.trans ((below_grown (hbw.alloc (by simp) (.cells #[.string t] 9)) (own0.alloc _) hgrow3 (by simp)).mono (by omega))
      have HR := HF [t] v' w3 (fun s hs => by simp at hs; subst hs; exact ht) hown3
      clear hgrow3 hnil3 hown3
      go_ret
      rw [HE.out]
      obtain ⟨a', c', rfl, h2, h3⟩ := HR
      exact ⟨⟨a', c', rfl, h2, h3⟩, hB3⟩
  · by_cases h16 : k = 16
    · subst h16
      have HE : Hid (bnd 16 t F i = F.txts.take (F.len - 1)) := by unfold Hid bnd; rw [if_neg hA, if_pos rfl]
      have HT : Hid (∀ s ∈ F.txts, s.size ≤ maxLen) := hts
      clear hA hone
      go_enter Try.func53, Try.ntmps53
      go_wp2_with fail
      go_loopw [5, 6] (fun v i wr => ∃ (j : Nat) (G : Fo), i = .int .i64 j ∧ F.drop j = G ∧ j + G.len = F.len ∧ (j = 0 ∨ j + 1 ≤ F.len) ∧ (G = .nil ∨ ∃ b o', a = some ⟨b, o', none⟩ ∧ G.From w b (o' + j * 5)) ∧ wr.ownsRow (w.heap.size + 1) 9 1 v j (texts (F.txts.take j)) ∧ Below (w.heap.size + 1) (w.alloc (.cells #[.int .i64 16, .string t, .int .i64 m, .int .i64 e, .slice a F.len c] 33)) wr) (fun _ i _ => F.len - (intOf i).toNat)
      case atStart =>
        refine ⟨0, F, rfl, by cases F <;> rfl, by omega, .inl rfl, ?_, own0, hbw⟩
        rcases HI.out with h | ⟨b, o', e1, e2⟩
        · exact .inl h
        · exact .inr ⟨b, o', e1, by simpa using e2⟩
      case round =>
        obtain ⟨j, G, rfl, hd, hj, hj1, hG, hown, hbw3⟩ := hrel
        have hb := hb0.trans (hbw3.mono (by omega))
        have hzz : w.heap.size + 1 ≤ wr.heap.size := by have := hbw3.size; simp at this; omega
        have hf := f0.below hbw3 (Nat.lt_succ_self _)
        obtain ⟨⟨x0, x1, x2, x3, x4⟩, _⟩ := id hf
        by_cases hlt : j + 1 < F.len
        · have hlt' : (j : Int) + 1 < (F.len : Int) := by omega
          cases G with
          | nil => simp [Fo.len] at hj; omega
          | cons k' t' m' e' a' c' kids next =>
            rcases hG with hG | ⟨b, o', rfl, hfrom⟩
            · cases hG
            · obtain ⟨⟨h1, h2, h3, h4, h5⟩, hk, hc1, hc2, ht', hn⟩ := Fo.from_grow hb _ _ _ hfrom
              have hnw : next.From w b (o' + j * 5 + 5) := hfrom.2.2.2.2.2
              have hln : j + (next.len + 1) = F.len := hj
              have hjl : j < F.len := by omega
              have hone := cell_one_new wr (.string t') 9
              have HD : Hid (F.drop j = .cons k' t' m' e' a' c' kids next ∧ next.From w b (o' + j * 5 + 5)) := ⟨hd, hnw⟩
              have HX : Hid (j = 0 ∨ j + 1 ≤ F.len) := hj1
              clear hj hd hfrom hn hk hj1 h1 h3 h4 h5 hnw
              go_wp2_with (at_builtin; refine wpList_append_own _ rfl _ _ 28 rfl (w.heap.size + 1) 9 i0 (.string ⟨#[]⟩) 1 16 Try.underlying28 hi hz0 hz1 hz2 rfl (by decide) _ _ _ rfl (hown.alloc _) ⟨wr.heap.size, 0, none⟩ 1 1 [.string t'] rfl rfl hone (fun x hx => by simp at hx; subst hx; rfl) (by unfold maxLen; omega) (by omega) (by simp <;> omega) ?_; intro v' w3 hown3 hgrow3 hnil3)
              have hB3 := below_grown (hbw3.alloc hzz (.cells #[.string t'] 9)) (hown.alloc _) hgrow3 (by simp <;> omega)
              clear hgrow3 hnil3 hbw3 hb hf x0 x1 x2 x3 x4 h2 hone
              refine ⟨⟨j + 1, next, by go_num, Fo.drop_next HD.out.1, by omega, .inr (by omega), .inr ⟨b, o', rfl, ?_⟩, ?_, hB3⟩, ?_⟩
              · rw [show o' + (j + 1) * 5 = o' + j * 5 + 5 by omega]; exact HD.out.2
              · have ha := txts_at HD.out.1
                rw [List.take_add_one, ha, Option.toList_some, texts_snoc]
                exact hown3
              · simp [intOf]; omega
        · have hlt' : ¬ (j : Int) + 1 < (F.len : Int) := by omega
          have hjj : j = F.len - 1 := by omega
          have HR := HF (F.txts.take j) _ wr (fun s hs => HT.out s (List.mem_of_mem_take hs)) (by rw [List.length_take, Fo.txts_len, Nat.min_eq_left (by omega)]; exact hown)
          obtain ⟨a', c', rfl, h2, h3⟩ := HR
          have HZ : Hid (SIn wr (F.txts.take (F.len - 1)) a' ∧ ((F.txts.take (F.len - 1)).length ≤ c' ∧ c' ≤ maxLen)) := by rw [hjj] at h2 h3; exact ⟨h2, h3⟩
          clear h2 h3 hown hG hd hj hj1
          rw [hjj]
          clear hjj
          go_wp2_with fail
          go_ret
          rw [HE.out]
          exact ⟨⟨a', c', by rw [List.length_take]; rfl, HZ.out⟩, hb⟩
    · have HE : Hid (bnd k t F i = []) := by unfold Hid bnd; rw [if_neg hA, if_neg h16]
      have h15 : ¬ k = 15 := fun h => hA (.inl h)
      have h21 : ¬ k = 21 ∨ ¬ (i : Int) = 1 := by
        by_cases h : k = 21
        · exact .inr fun h2 => hA (.inr ⟨h, by omega⟩)
        · exact .inl h
      have HR := HF [] _ _ (fun s hs => by cases hs) own0
      clear hA hone HF HI hbw f0 hb0
      rcases h21 with h21 | h21
      · go_enter Try.func53, Try.ntmps53
        go_wp2_with fail
        go_ret
        rw [HE.out]
        obtain ⟨a', c', e1, h2, h3⟩ := HR
        exact ⟨⟨a', c', by rw [← e1]; rfl, h2, h3⟩, hb1⟩
      · by_cases h : k = 21
        · subst h
          go_enter Try.func53, Try.ntmps53
          go_wp2_with fail
          go_ret
          rw [HE.out]
          obtain ⟨a', c', e1, h2, h3⟩ := HR
          exact ⟨⟨a', c', by rw [← e1]; rfl, h2, h3⟩, hb1⟩
        · go_enter Try.func53, Try.ntmps53
          go_wp2_with fail
          go_ret
          rw [HE.out]
          obtain ⟨a', c', e1, h2, h3⟩ := HR
          exact ⟨⟨a', c', by rw [← e1]; rfl, h2, h3⟩, hb1⟩
end Go.Proofs.Ytbbbmmemfndnlaa
/- Names from outside, by the specification: plain mathematics, and where what is bound begins. -/
namespace Go.Proofs.Ytbbbmmemfndnlaa
open Go.RowKit
attribute [local go_sem] cell_alloc_is frozen_alloc_is
/-- the first place below a tree that is an expression -/
def fromP (k : Int) (F : Fo) : Nat := if k = 16 then F.len - 1 else 0
/-- the names from outside of a list of trees below (pk, pt, pF), from its place i on, put among others -/
def Fo.frs : Fo → Int → ByteArray → Fo → List ByteArray → Nat → List ByteArray → List ByteArray
  | .nil, _, _, _, _, _, ns => ns
  | .cons k t _ _ _ _ kids next, pk, pt, pF, bound, i, ns =>
    next.frs pk pt pF bound (i + 1) (if i < fromP pk pF then ns else if k = 6 ∧ hasT t (bound ++ bnd pk pt pF i) = false then put1 t ns else kids.frs k t kids (bound ++ bnd pk pt pF i) 0 ns)
/-- the same of one tree -/
def frs1 (k : Int) (t : ByteArray) (F : Fo) (bound ns : List ByteArray) : List ByteArray := if k = 6 ∧ hasT t bound = false then put1 t ns else F.frs k t F bound 0 ns
theorem frs_len (F : Fo) : ∀ (pk : Int) (pt : ByteArray) (pF : Fo) (bound : List ByteArray) (i : Nat) (ns : List ByteArray), (F.frs pk pt pF bound i ns).length ≤ ns.length + F.size := by
  induction F with
  | nil => intro pk pt pF bound i ns; exact Nat.le_refl _
  | cons k t m e a c kids next ih1 ih2 =>
    intro pk pt pF bound i ns
    have e2 : (Fo.cons k t m e a c kids next).size = kids.size + 1 + next.size := rfl
    obtain ⟨x, hx, hl⟩ : ∃ x, (if i < fromP pk pF then ns else if k = 6 ∧ hasT t (bound ++ bnd pk pt pF i) = false then put1 t ns else kids.frs k t kids (bound ++ bnd pk pt pF i) 0 ns) = x ∧ x.length ≤ ns.length + kids.size + 1 := by
      refine ⟨_, rfl, ?_⟩
      have h1 := ih1 k t kids (bound ++ bnd pk pt pF i) 0 ns
      have h2 := put1_len t ns
      split
      · omega
      · split <;> omega
    have h3 := ih2 pk pt pF bound (i + 1) x
    show (next.frs pk pt pF bound (i + 1) (if i < fromP pk pF then ns else if k = 6 ∧ hasT t (bound ++ bnd pk pt pF i) = false then put1 t ns else kids.frs k t kids (bound ++ bnd pk pt pF i) 0 ns)).length ≤ _
    rw [hx, e2]
    omega
theorem alike_txts : ∀ {F G : Fo}, F.alike G → F.txts = G.txts := by
  intro F G
  induction G generalizing F with
  | nil => intro h; rw [Fo.alike_nil h]
  | cons k t m e a c kids next ih1 ih2 =>
    intro h
    obtain ⟨a', c', kids', next', rfl, h1, h2⟩ := Fo.alike_cons h
    show t :: next'.txts = t :: next.txts
    rw [ih2 h2]
theorem alike_bnd {F G : Fo} (h : F.alike G) (k : Int) (t : ByteArray) (i : Nat) : bnd k t F i = bnd k t G i := by
  unfold bnd; rw [alike_txts h, Fo.alike_len h]
theorem alike_fromP {F G : Fo} (h : F.alike G) (k : Int) : fromP k F = fromP k G := by
  unfold fromP; rw [Fo.alike_len h]
theorem alike_frs : ∀ {F G : Fo}, F.alike G → ∀ (pk : Int) (pt : ByteArray) (pF pG : Fo) (bound : List ByteArray) (i : Nat) (ns : List ByteArray), pF.alike pG → F.frs pk pt pF bound i ns = G.frs pk pt pG bound i ns := by
  intro F G
  induction G generalizing F with
  | nil => intro h pk pt pF pG bound i ns hp; rw [Fo.alike_nil h]; rfl
  | cons k t m e a c kids next ih1 ih2 =>
    intro h pk pt pF pG bound i ns hp
    obtain ⟨a', c', kids', next', rfl, h1, h2⟩ := Fo.alike_cons h
    show next'.frs pk pt pF bound (i + 1) (if i < fromP pk pF then ns else if k = 6 ∧ hasT t (bound ++ bnd pk pt pF i) = false then put1 t ns else kids'.frs k t kids' (bound ++ bnd pk pt pF i) 0 ns) = next.frs pk pt pG bound (i + 1) (if i < fromP pk pG then ns else if k = 6 ∧ hasT t (bound ++ bnd pk pt pG i) = false then put1 t ns else kids.frs k t kids (bound ++ bnd pk pt pG i) 0 ns)
    rw [alike_bnd hp, alike_fromP hp, ih1 h1 k t kids' kids _ 0 ns h1, ih2 h2 pk pt pF pG _ _ _ hp]
set_option maxHeartbeats 400000 in
theorem l6From_any (k : Int) (t : ByteArray) (m e : Int) (a : Option Addr) (c : Nat) (F : Fo) (w : World) (hf : k = 16 → 0 < F.len) (hl : F.len ≤ maxLen) :
    Calls Try.prog 52 #[nodeV k t m e a F.len c] w fun r w' => r = .returned (.int .i64 (fromP k F : Nat)) ∧ Below w.heap.size w w' := by
  have hb0 : Below w.heap.size w (w.alloc (.cells #[.int .i64 k, .string t, .int .i64 m, .int .i64 e, .slice a F.len c] 33)) := (Below.refl _ _).alloc (Nat.le_refl _) _
  unfold maxLen at hl
  by_cases h : k = 16
  · subst h
    have h0 := hf rfl
    have HE : Hid ((fromP 16 F : Int) = (F.len : Int) - 1) := by unfold Hid fromP; rw [if_pos rfl]; omega
    go_enter Try.func52, Try.ntmps52
    go_wp2_with fail
    go_ret
    exact ⟨by rw [HE.out]; rfl, hb0⟩
  · have HE : Hid ((fromP k F : Int) = 0) := by unfold Hid fromP; rw [if_neg h]; rfl
    go_enter Try.func52, Try.ntmps52
    go_wp2_with fail
    go_ret
    exact ⟨by rw [HE.out]; rfl, hb0⟩
end Go.Proofs.Ytbbbmmemfndnlaa
/- Trees that are ok: a function has something below, a 'for' has two. -/
namespace Go.Proofs.Ytbbbmmemfndnlaa
open Go.RowKit
def lamOk (k : Int) (F : Fo) : Prop := (k = 16 → 0 < F.len) ∧ (k = 21 → F.len = 2)
/-- so all below -/
def Fo.Lam : Fo → Prop
  | .nil => True
  | .cons k _ _ _ _ _ kids next => lamOk k kids ∧ kids.Lam ∧ next.Lam
theorem lam_of_fit {k : Int} {t : ByteArray} {m e : Int} {F : Fo} (h : Om.fit k t m e F = true) : lamOk k F := by
  unfold Om.fit at h
  simp only [Bool.and_eq_true, decide_eq_true_eq] at h
  obtain ⟨⟨-, ⟨h1, h2⟩, -⟩, -⟩ := h
  refine ⟨fun hk => ?_, fun hk => ?_⟩
  · subst hk
    have : Om.low' 16 = 1 := by decide
    omega
  · subst hk
    have e1 : Om.low' 21 = 2 := by decide
    have e2 : Om.high' 21 = 2 := by decide
    omega
theorem lam_flat : ∀ {F : Fo} {d : Nat}, (∀ x ∈ F.flat d, Om.fit x.2.1 x.2.2.1 x.2.2.2.1 x.2.2.2.2.1 x.2.2.2.2.2 = true) → F.Lam := by
  intro F
  induction F with
  | nil => intros; trivial
  | cons k t m e a c kids next ih1 ih2 =>
    intro d h
    exact ⟨lam_of_fit (h (d, k, t, m, e, kids) (by unfold Fo.flat; simp)), ih1 (d := d + 1) (fun x hx => h x (by unfold Fo.flat; simp [hx])), ih2 (d := d) (fun x hx => h x (by unfold Fo.flat; simp [hx]))⟩
/-- of a good tree -/
theorem good_lam {k : Int} {t : ByteArray} {m e : Int} {F : Fo} (h : TreeGood k t m e F) : lamOk k F ∧ F.Lam ∧ F.size ≤ 199 :=
  ⟨lam_of_fit (h.2 (1, k, t, m, e, F) (by simp)).2, lam_flat (d := 2) (fun x hx => (h.2 x (by simp [hx])).2), by
    have := h.1
    rw [List.length_cons, Fo.flat_len] at this
    omega⟩
end Go.Proofs.Ytbbbmmemfndnlaa
/- Ascending texts: where one belongs, by halves, and what is there then: the mathematics. -/
namespace Go.Proofs.Ytbbbmmemfndnlaa
open Go.RowKit
theorem bl_tr : ∀ {a b c : List UInt8}, Op.bytesLess a b = true → Op.bytesLess b c = true → Op.bytesLess a c = true := by
  intro a
  induction a with
  | nil => intro b c h1 h2; cases b with
    | nil => exact h2
    | cons y t => cases c with
      | nil => simp [Op.bytesLess] at h2
      | cons z u => simp [Op.bytesLess]
  | cons x s ih =>
    intro b c h1 h2
    cases b with
    | nil => simp [Op.bytesLess] at h1
    | cons y t =>
      cases c with
      | nil => simp [Op.bytesLess] at h2
      | cons z u =>
        simp only [Op.bytesLess] at h1 h2 ⊢
        rw [Bool.or_eq_true, decide_eq_true_iff, Bool.and_eq_true, beq_iff_eq] at h1 h2 ⊢
        rcases h1 with h1 | ⟨rfl, h1⟩
        · rcases h2 with h2 | ⟨rfl, h2⟩
          · exact .inl (UInt8.lt_trans h1 h2)
          · exact .inl h1
        · rcases h2 with h2 | ⟨rfl, h2⟩
          · exact .inl h2
          · exact .inr ⟨rfl, ih h1 h2⟩
theorem bl_irr : ∀ a : List UInt8, Op.bytesLess a a = false := by
  intro a
  induction a with
  | nil => rfl
  | cons x s ih => simp [Op.bytesLess, ih]
theorem bl_tri : ∀ {a b : List UInt8}, Op.bytesLess a b = false → a ≠ b → Op.bytesLess b a = true := by
  intro a
  induction a with
  | nil => intro b h hne; cases b with
    | nil => exact absurd rfl hne
    | cons y t => simp [Op.bytesLess] at h
  | cons x s ih =>
    intro b h hne
    cases b with
    | nil => simp [Op.bytesLess]
    | cons y t =>
      simp only [Op.bytesLess, Bool.or_eq_false_iff, decide_eq_false_iff_not, Bool.and_eq_false_iff, beq_eq_false_iff_ne] at h
      simp only [Op.bytesLess, Bool.or_eq_true, decide_eq_true_iff, Bool.and_eq_true, beq_iff_eq]
      obtain ⟨h1, h2⟩ := h
      by_cases e : x = y
      · subst e
        exact .inr ⟨rfl, ih (by rcases h2 with h2 | h2; exact absurd rfl h2; exact h2) (fun e => hne (by rw [e]))⟩
      · refine .inl ?_
        rcases UInt8.lt_or_lt_of_ne e with h3 | h3
        · exact absurd h3 h1
        · exact h3
/-- ascending -/
def ascT : List ByteArray → Prop
  | [] => True
  | x :: t => (∀ y ∈ t, Op.bytesLess x.toList y.toList = true) ∧ ascT t
theorem asc_plc : ∀ {ns : List ByteArray} {s : ByteArray}, ascT ns → (∀ t x, t < plc s ns → ns[t]? = some x → Op.bytesLess x.toList s.toList = true) ∧ (∀ t x, plc s ns ≤ t → ns[t]? = some x → Op.bytesLess x.toList s.toList = false) := by
  intro ns
  induction ns with
  | nil => intro s _; exact ⟨fun t x _ h => by simp at h, fun t x _ h => by simp at h⟩
  | cons a l ih =>
    rintro s ⟨h1, h2⟩
    obtain ⟨i1, i2⟩ := ih (s := s) h2
    cases hq : Op.bytesLess a.toList s.toList
    · have e : plc s (a :: l) = 0 := by unfold plc; rw [hq]; rfl
      rw [e]
      refine ⟨fun t x h => absurd h (Nat.not_lt_zero _), fun t x _ h => ?_⟩
      cases t with
      | zero => simp at h; subst h; exact hq
      | succ t =>
        simp at h
        cases hz : Op.bytesLess x.toList s.toList
        · rfl
        · have := bl_tr (h1 x (List.mem_of_getElem? h)) hz
          rw [hq] at this; exact this.symm
    · have e : plc s (a :: l) = plc s l + 1 := by show (if Op.bytesLess a.toList s.toList then plc s l + 1 else 0) = plc s l + 1; rw [hq]; rfl
      rw [e]
      refine ⟨fun t x h1 h => ?_, fun t x h1 h => ?_⟩
      · cases t with
        | zero => simp at h; subst h; exact hq
        | succ t => exact i1 t x (by omega) (by simpa using h)
      · cases t with
        | zero => omega
        | succ t => exact i2 t x (by omega) (by simpa using h)
theorem asc_bs {ns : List ByteArray} {s : ByteArray} (h : ascT ns) : Lib.bsGo (fun t => Op.bytesLess (ns.getD t s).toList s.toList) ns.length 0 ns.length = plc s ns := by
  obtain ⟨h1, h2⟩ := asc_plc (s := s) h
  have hle := plc_le s ns
  refine Lib.bsGo_spec _ _ (fun t ht => ?_) (fun t ht => ?_) _ _ _ (by omega) (Nat.zero_le _) hle
  · have hl : t < ns.length := by omega
    have e := List.getElem?_eq_getElem hl
    rw [List.getD_eq_getElem?_getD, e]
    exact h1 t _ ht e
  · by_cases hl : t < ns.length
    · have e := List.getElem?_eq_getElem hl
      rw [List.getD_eq_getElem?_getD, e]
      exact h2 t _ ht e
    · rw [List.getD_eq_getElem?_getD, List.getElem?_eq_none (by omega)]
      exact bl_irr _
theorem asc_mem_le {ns : List ByteArray} {s : ByteArray} (h : ascT ns) : ∀ x ∈ ns.take (plc s ns), Op.bytesLess x.toList s.toList = true := by
  intro x hx
  obtain ⟨t, ht, e⟩ := List.getElem_of_mem hx
  rw [List.length_take] at ht
  rw [List.getElem_take] at e
  exact (asc_plc h).1 t x (by omega) (by rw [← e]; exact List.getElem?_eq_getElem (by omega))
theorem ascT_app : ∀ {a b : List ByteArray}, ascT (a ++ b) ↔ ascT a ∧ ascT b ∧ ∀ x ∈ a, ∀ y ∈ b, Op.bytesLess x.toList y.toList = true := by
  intro a
  induction a with
  | nil => intro b; exact ⟨fun h => ⟨trivial, h, fun x hx => by cases hx⟩, fun h => h.2.1⟩
  | cons c l ih =>
    intro b
    show ((∀ y ∈ l ++ b, Op.bytesLess c.toList y.toList = true) ∧ ascT (l ++ b)) ↔ ((∀ y ∈ l, Op.bytesLess c.toList y.toList = true) ∧ ascT l) ∧ ascT b ∧ ∀ x ∈ c :: l, ∀ y ∈ b, Op.bytesLess x.toList y.toList = true
    rw [ih]
    constructor
    · rintro ⟨h1, h2, h3, h4⟩
      refine ⟨⟨fun y hy => h1 y (List.mem_append_left _ hy), h2⟩, h3, fun x hx y hy => ?_⟩
      rcases List.mem_cons.1 hx with rfl | hx
      · exact h1 y (List.mem_append_right _ hy)
      · exact h4 x hx y hy
    · rintro ⟨⟨h1, h2⟩, h3, h4⟩
      refine ⟨fun y hy => ?_, h2, h3, fun x hx y hy => h4 x (List.mem_cons_of_mem _ hx) y hy⟩
      rcases List.mem_append.1 hy with hy | hy
      · exact h1 y hy
      · exact h4 c (List.mem_cons_self ..) y hy
theorem asc_put1 {ns : List ByteArray} {s : ByteArray} (h : ascT ns) : ascT (put1 s ns) := by
  unfold put1
  split
  · exact h
  · rename_i hx
    have hno : ∀ x, ns[plc s ns]? = some x → (x.toList == s.toList) = false := fun x e => by
      rw [hasAt_some e] at hx
      cases hq : (x.toList == s.toList)
      · rfl
      · exact absurd hq hx
    obtain ⟨h1, h2⟩ := asc_plc (s := s) h
    have hs : ascT (ns.take (plc s ns) ++ ns.drop (plc s ns)) := by rw [List.take_append_drop]; exact h
    obtain ⟨a1, a2, a3⟩ := ascT_app.1 hs
    have hd : ∀ y ∈ ns.drop (plc s ns), Op.bytesLess s.toList y.toList = true := by
      intro y hy
      obtain ⟨t, ht, e⟩ := List.getElem_of_mem hy
      rw [List.length_drop] at ht
      rw [List.getElem_drop] at e
      have e2 : ns[plc s ns + t]? = some y := by rw [← e]; exact List.getElem?_eq_getElem (by omega)
      have hf := h2 (plc s ns + t) y (by omega) e2
      refine bl_tri hf fun e3 => ?_
      cases t with
      | zero =>
        have := hno y e2
        rw [e3] at this
        simp at this
      | succ t =>
        have e0 : ns[plc s ns]? = some ns[plc s ns] := List.getElem?_eq_getElem (by omega)
        have hlt : Op.bytesLess (ns[plc s ns]'(by omega)).toList y.toList = true := by
          have : ns.drop (plc s ns) = ns[plc s ns]'(by omega) :: ns.drop (plc s ns + 1) := List.drop_eq_getElem_cons (by omega)
          rw [this] at a2
          refine a2.1 y (List.mem_of_getElem? (i := t) ?_)
          rw [List.getElem?_drop, show plc s ns + 1 + t = plc s ns + (t + 1) by omega]
          exact e2
        rw [e3] at hlt
        have h0 := h2 (plc s ns) _ (Nat.le_refl _) e0
        rw [h0] at hlt
        cases hlt
    exact ascT_app.2 ⟨a1, ⟨hd, a2⟩, fun x hx y hy => by
      rcases List.mem_cons.1 hy with rfl | hy
      · exact asc_mem_le h x hx
      · exact a3 x hx y hy⟩
end Go.Proofs.Ytbbbmmemfndnlaa
/- The library's contracts on slices.BinarySearch and slices.Insert of texts at this dump. -/
namespace Go.Proofs.Ytbbbmmemfndnlaa
open Go.Shelf Go.RowKit
def renS26 : Ren := ⟨fun | 26 => 69 | 33 => 92 | 34 => 93 | 38 => 103 | n => n, fun | 0 => 0 | 3 => 3 | 4 => 4 | 9 => 9 | 24 => 28 | 40 => 102 | n => n, fun | n => n⟩
theorem laysS26 : Lays2.n26 Try.prog renS26 := {
  mixed := by kernel_rfl
  f26 := Try.func69.trans (congrArg some (by kernel_rfl))
  f33 := Try.func92.trans (congrArg some (by kernel_rfl))
  f34 := Try.func93.trans (congrArg some (by kernel_rfl))
  f38 := Try.func103.trans (congrArg some (by kernel_rfl))
  t0 := Try.underlying0
  a0 := Try.isAgg0
  z0 := Try.sizeOf0
  v0 := Try.zeroValue0
  t3 := Try.underlying3
  a3 := Try.isAgg3
  z3 := Try.sizeOf3
  v3 := Try.zeroValue3
  t4 := Try.underlying4
  a4 := Try.isAgg4
  z4 := Try.sizeOf4
  v4 := Try.zeroValue4
  t9 := Try.underlying9
  a9 := Try.isAgg9
  z9 := Try.sizeOf9
  v9 := Try.zeroValue9
  t24 := Try.underlying28
  a24 := Try.isAgg28
  z24 := Try.sizeOf28
  v24 := Try.zeroValue28
  t40 := Try.underlying102
  a40 := Try.isAgg102
  z40 := Try.sizeOf102
  v40 := Try.zeroValue102 }
def renS22 : Ren := ⟨fun | 17 => 107 | 22 => 70 | 29 => 94 | 30 => 95 | 36 => 104 | n => n, fun | 0 => 0 | 3 => 3 | 4 => 4 | 9 => 9 | 24 => 28 | n => n, fun | n => n⟩
theorem laysS22 : Lays2.n22 Try.prog renS22 := {
  mixed := by kernel_rfl
  f17 := Try.func107.trans (congrArg some (by kernel_rfl))
  f22 := Try.func70.trans (congrArg some (by kernel_rfl))
  f29 := Try.func94.trans (congrArg some (by kernel_rfl))
  f30 := Try.func95.trans (congrArg some (by kernel_rfl))
  f36 := Try.func104.trans (congrArg some (by kernel_rfl))
  t0 := Try.underlying0
  a0 := Try.isAgg0
  z0 := Try.sizeOf0
  v0 := Try.zeroValue0
  t3 := Try.underlying3
  a3 := Try.isAgg3
  z3 := Try.sizeOf3
  v3 := Try.zeroValue3
  t4 := Try.underlying4
  a4 := Try.isAgg4
  z4 := Try.sizeOf4
  v4 := Try.zeroValue4
  t9 := Try.underlying9
  a9 := Try.isAgg9
  z9 := Try.sizeOf9
  v9 := Try.zeroValue9
  t24 := Try.underlying28
  a24 := Try.isAgg28
  z24 := Try.sizeOf28
  v24 := Try.zeroValue28
  i9 := by kernel_rfl }
end Go.Proofs.Ytbbbmmemfndnlaa
/- A text put into a list that is owned, by the library: slices.Insert. -/
namespace Go.Proofs.Ytbbbmmemfndnlaa
open Go.RowKit
attribute [local go_sem] cell_alloc_is frozen_alloc_is
/-- texts in a block of their own, with room behind them -/
def OwnT (B : Nat) (w : World) (a : Option Addr) (c : Nat) (ns : List ByteArray) : Prop :=
  (a = none ∧ c = 0 ∧ ns = []) ∨ ∃ g f, a = some ⟨g, 0, none⟩ ∧ B ≤ g ∧ (ns.length ≤ c ∧ c ≤ maxLen) ∧ w.rowIs g 9 c f ∧ ∀ i x, ns[i]? = some x → f i = .string x
theorem OwnT.of_block {B : Nat} {w w' : World} {a : Option Addr} {c : Nat} {ns : List ByteArray} (h : OwnT B w a c ns) (hb : ∀ g, a = some ⟨g, 0, none⟩ → w'.heap[g]? = w.heap[g]?) : OwnT B w' a c ns := by
  rcases h with h | ⟨g, f, rfl, h1, h2, h3, h4⟩
  · exact .inl h
  · exact .inr ⟨g, f, rfl, h1, h2, h3.of_block (hb g rfl), h4⟩
theorem OwnT.cell {B : Nat} {w : World} {a : Option Addr} {c : Nat} {ns : List ByteArray} (h : OwnT B w a c ns) {g : Nat} (ha : a = some ⟨g, 0, none⟩) {i : Nat} {x : ByteArray} (hx : ns[i]? = some x) : w.cell? ⟨g, i, none⟩ = some (.string x) := by
  rcases h with ⟨h, _⟩ | ⟨g', f, e, h1, h2, h3, h4⟩
  · rw [h] at ha; cases ha
  · rw [e] at ha; cases ha
    rw [h3.cell (i := i) (by have := (List.getElem?_eq_some_iff.1 hx).1; omega), h4 i x hx]
theorem OwnT.lt {B : Nat} {w : World} {a : Option Addr} {c : Nat} {ns : List ByteArray} (h : OwnT B w a c ns) {g : Nat} (ha : a = some ⟨g, 0, none⟩) : B ≤ g ∧ g < w.heap.size := by
  rcases h with ⟨h, _⟩ | ⟨g', f, e, h1, h2, h3, h4⟩
  · rw [h] at ha; cases ha
  · rw [e] at ha; cases ha
    exact ⟨h1, h3.lt⟩
theorem shape_row {w : World} {b : Nat} {t : TypeId} {n : Nat} {f : Nat → Value} (h : w.rowIs b t n f) : w.shape? b = some (t, n) := by
  obtain ⟨c, h1, h2, _⟩ := h
  unfold World.shape?
  rw [h1, ← h2]
theorem getElem_ins {α : Type} {ns : List α} {s x : α} {k i : Nat} (hk : k ≤ ns.length) (h : (ns.take k ++ s :: ns.drop k)[i]? = some x) : (i < k ∧ ns[i]? = some x) ∨ (i = k ∧ x = s) ∨ (k < i ∧ ns[i - 1]? = some x) := by
  have hl : (ns.take k).length = k := by rw [List.length_take]; omega
  by_cases h1 : i < k
  · rw [List.getElem?_append_left (by omega), List.getElem?_take, if_pos h1] at h
    exact .inl ⟨h1, h⟩
  · rw [List.getElem?_append_right (by omega), hl] at h
    by_cases h2 : i = k
    · subst h2; simp at h; exact .inr (.inl ⟨rfl, h.symm⟩)
    · obtain ⟨j, hj⟩ : ∃ j, i - k = j + 1 := ⟨i - k - 1, by omega⟩
      rw [hj, List.getElem?_cons_succ, List.getElem?_drop] at h
      exact .inr (.inr ⟨by omega, by rw [show i - 1 = k + j by omega]; exact h⟩)
/-- what putting one in does -/
def InsC (B : Nat) (w : World) (a : Option Addr) (ns' : List ByteArray) (e : Ending) (w' : World) : Prop :=
  ∃ a' c', e = .returned (.slice a' ns'.length c') ∧ OwnT B w' a' c' ns' ∧ (Below B w w' ∧ ∀ x, x < w.heap.size → some x ≠ a.map (·.block) → w'.heap[x]? = w.heap[x]?) ∧ (a'.map (·.block) = a.map (·.block) ∨ ∃ g, a'.map (·.block) = some g ∧ w.heap.size ≤ g)
theorem texts_at {ns : List ByteArray} {j : Nat} {v : Value} (h : (texts ns)[j]? = some v) : ∃ x, ns[j]? = some x ∧ v = .string x := by
  unfold texts at h
  rw [List.getElem?_map] at h
  cases e : ns[j]? with
  | none => rw [e] at h; cases h
  | some x => rw [e] at h; exact ⟨x, rfl, (Option.some.inj h).symm⟩
theorem heap_setCellsO {g x : Nat} (h : ¬ x = g) : ∀ {vs : List Value} {o : Nat} {w : World}, (w.setCells g o vs).heap[x]? = w.heap[x]?
  | [], _, _ => rfl
  | _ :: r, o, _ => (heap_setCellsO h (vs := r) (o := o + 1)).trans (Go.Deep.blk_setCell_other _ _ _ _ h)
theorem zs_size (n : Nat) : (Builtin.zeroCells (Value.string ⟨#[]⟩).cells n).size = n := by
  rw [size_zeroCells]; show n * 1 = n; omega
theorem texts_get {ns : List ByteArray} {i : Nat} {x : ByteArray} (h : ns[i]? = some x) : (texts ns)[i]? = some (.string x) := by
  unfold texts; rw [List.getElem?_map, h]; rfl
/-- a new row out of an array -/
theorem row_of (w : World) (A : Array Value) (n : Nat) (hn : A.size = n) : (w.alloc (.cells A 9)).rowIs w.heap.size 9 n (fun i => A[i]?.getD (.string ⟨#[]⟩)) := by
  subst hn
  exact World.rowIs_alloc w A _ _ (fun i hi => by rw [Array.getElem?_eq_getElem hi]; rfl)
theorem app_get {L : List Value} {Z : Array Value} {i : Nat} {v : Value} (h : L[i]? = some v) : (L.toArray ++ Z)[i]? = some v := by
  have hi := (List.getElem?_eq_some_iff.1 h).1
  rw [Array.getElem?_append, if_pos (by simpa using hi)]
  simpa using h
theorem row_drew {w : World} {b : Nat} {t : TypeId} {n : Nat} {f : Nat → Value} (h : w.rowIs b t n f) : w.drew.rowIs b t n f := h
set_option maxHeartbeats 1000000 in
theorem insert_any {B : Nat} {w : World} {a : Option Addr} {c k vb : Nat} {ns : List ByteArray} {s : ByteArray} (h : OwnT B w a c ns) (hB : B ≤ w.heap.size) (hk : k ≤ ns.length) (hv : w.rowIs vb 9 1 (fun _ => .string s)) (hva : a.map (·.block) ≠ some vb) (hn : ns.length ≤ 1100000) :
    Calls Try.prog 70 #[.slice a ns.length c, .int .i64 (k : Nat), .slice (some ⟨vb, 0, none⟩) 1 1] w fun e w' => InsC B w a (ns.take k ++ s :: ns.drop k) e w' := by
  have hlen : (ns.take k ++ s :: ns.drop k).length = ns.length + 1 := by simp; omega
  have hvs : ∀ j v, ([Value.string s] : List Value)[j]? = some v → w.cell? ⟨vb, 0 + j, none⟩ = some v := by
    intro j v hj
    cases j with
    | zero => simp at hj; subst hj; exact hv.cell (by omega)
    | succ j => simp at hj
  have h1v : ∀ v ∈ ([Value.string s] : List Value), v.oneCell' = true := fun v hv => by simp at hv; subst hv; rfl
  have h1c : ∀ v ∈ texts ns, v.oneCell' = true := texts_one
  have hcl : (texts ns).length = ns.length := texts_length ns
  rcases h with ⟨rfl, rfl, rfl⟩ | ⟨g, f, rfl, hg, ⟨hc1, hc2⟩, hrow, hf⟩
  · obtain rfl : k = 0 := Nat.le_zero.1 hk
    refine (Any2.slices_Insert_string_end_grow laysS22 none 0 0 vb 0 1 1 [] [.string s] w (by omega) (Nat.le_refl _) (by omega) (by omega) rfl rfl (fun _ => rfl) (fun a e => nomatch e) hvs h1v).mono ?_
    rintro e w' ⟨rfl, rfl⟩
    have hge := grownCap_ge w (0 + 1) 0 9
    refine ⟨some ⟨w.heap.size, 0, none⟩, grownCap w (0 + 1) 0 9, rfl, .inr ⟨w.heap.size, _, rfl, hB, ⟨hge, grownCap_le_maxLen _ _ _ _ (by unfold maxLen; omega)⟩, row_of w.drew _ _ ?_, ?_⟩, ⟨((Below.refl _ _).drew).alloc hB _, fun x hx _ => heap_alloc_old _ _ hx⟩, .inr ⟨_, rfl, Nat.le_refl _⟩⟩
    · rw [Array.size_append]
      show 1 + (Builtin.zeroCells (Value.string ⟨#[]⟩).cells (grownCap w (0 + 1) 0 9 - (0 + 1))).size = _
      rw [zs_size]; omega
    · intro i x hx
      have hx2 : ([s] : List ByteArray)[i]? = some x := hx
      show (([Value.string s].toArray ++ _)[i]?).getD _ = _
      rw [app_get (L := [Value.string s]) (texts_get hx2)]; rfl
  · have hcs : ∀ j v, (texts ns)[j]? = some v → w.cell? ⟨g, 0 + j, none⟩ = some v := fun j v hj => by
      obtain ⟨x, hx, rfl⟩ := texts_at hj
      have := (List.getElem?_eq_some_iff.1 hx).1
      rw [Nat.zero_add, hrow.cell (by omega), hf j x hx]
    have hvg : ¬ vb = g := fun e => hva (by rw [e]; rfl)
    have hsp : ∀ j, j < c → (w.cell? ⟨g, 0 + j, none⟩).isSome = true := fun j hj => by rw [Nat.zero_add, hrow.cell hj]; rfl
    have hfz : ∀ j, w.frozen? ⟨g, j, none⟩ = false := fun j => hrow.frozen j
    have hsa := shape_row hv
    have hsb := shape_row hrow
    unfold maxLen at hc2
    by_cases hkn : k < ns.length
    · by_cases hroom : ns.length + 1 ≤ c
      · refine (Any2.slices_Insert_string_shift laysS22 g 0 ns.length c k vb 0 1 1 (texts ns) [.string s] w hkn (by omega) hroom (by omega) hvg hcl rfl hcs (fun j hj => hsp j (by omega)) (fun j _ => hfz _) hvs h1c h1v _ _ _ _ hsa hsb (by omega) (hv.frozen 0) (hv.frozen 1)).mono ?_
        rintro e w' ⟨rfl, rfl⟩
        have r1 := rowIs_setCells ((texts ns).drop k) (0 + (k + 1)) w.drew _ (row_drew hrow)
        have r2 := rowIs_setCells [Value.string s] (0 + k) _ _ r1
        refine ⟨some ⟨g, 0, none⟩, c, by rw [hlen], .inr ⟨g, _, rfl, hg, ⟨by rw [hlen]; exact hroom, hc2⟩, r2, ?_⟩, ⟨below_setCells hg _ _ _ (below_setCells hg _ _ _ (Below.refl _ _).drew), fun x hx hne => ?_⟩, .inl rfl⟩
        · intro i x hx
          rcases getElem_ins hk hx with ⟨h1, h2⟩ | ⟨h1, h2⟩ | ⟨h1, h2⟩
          · rw [if_neg (by simp; omega), if_neg (by omega)]; exact hf i x h2
          · subst h1; subst h2
            rw [if_pos (by simp)]; simp
          · have h3 := (List.getElem?_eq_some_iff.1 h2).1
            rw [if_neg (by simp; omega), if_pos (by rw [List.length_drop, hcl]; omega), List.getElem?_drop, show k + (i - (0 + (k + 1))) = i - 1 by omega, texts_get h2]; rfl
        · have hxg : ¬ x = g := fun e => hne (by rw [e]; rfl)
          rw [heap_setCellsO hxg, heap_setCellsO hxg]; rfl
      · have hce : c = ns.length := by omega
        refine (Any2.slices_Insert_string_grow laysS22 g 0 ns.length c k vb 0 1 1 (texts ns) [.string s] w hkn (by omega) hc1 (by omega) (by omega) hcl rfl hcs hvs h1c h1v).mono ?_
        rintro e w' ⟨rfl, rfl⟩
        have hge := grownCap_ge w (ns.length + 1) c 9
        have r0 := row_of w (((texts ns).take k).toArray ++ Builtin.zeroCells (Value.string ⟨#[]⟩).cells (ns.length + 1 - k) ++ Builtin.zeroCells (Value.string ⟨#[]⟩).cells (grownCap w (ns.length + 1) c 9 - (ns.length + 1))) (grownCap w (ns.length + 1) c 9) (by
          rw [Array.size_append, Array.size_append, zs_size, zs_size]
          simp only [List.size_toArray, List.length_take, hcl]
          omega)
        have r1 := rowIs_setCells [Value.string s] k _ _ (row_drew r0)
        have r2 := rowIs_setCells ((texts ns).drop k) (k + 1) _ _ (row_drew r1)
        refine ⟨some ⟨w.heap.size, 0, none⟩, grownCap w (ns.length + 1) c 9, by rw [hlen]; rfl, .inr ⟨w.heap.size, _, rfl, hB, ⟨by rw [hlen]; exact hge, grownCap_le_maxLen _ _ _ _ (by unfold maxLen; omega)⟩, r2, ?_⟩, ⟨below_setCells hB _ _ _ ((below_setCells hB _ _ _ ((Below.refl _ _).alloc hB _).drew).drew), fun x hx hne => ?_⟩, .inr ⟨_, rfl, Nat.le_refl _⟩⟩
        · intro i x hx
          rcases getElem_ins hk hx with ⟨h1, h2⟩ | ⟨h1, h2⟩ | ⟨h1, h2⟩
          · rw [if_neg (by omega), if_neg (by simp; omega), Array.append_assoc, app_get (v := .string x) (by rw [List.getElem?_take, if_pos h1]; exact texts_get h2)]; rfl
          · subst h1; subst h2
            rw [if_neg (by omega), if_pos (by simp)]; simp
          · have h3 := (List.getElem?_eq_some_iff.1 h2).1
            rw [if_pos (by rw [List.length_drop, hcl]; omega), List.getElem?_drop, show k + (i - (k + 1)) = i - 1 by omega, texts_get h2]; rfl
        · have hxw : ¬ x = w.heap.size := by omega
          rw [heap_setCellsO hxw]
          show ((w.alloc _).drew.setCells w.heap.size k [Value.string s]).heap[x]? = _
          rw [heap_setCellsO hxw]
          exact heap_alloc_old _ _ hx
    · obtain rfl : k = ns.length := by omega
      have e2 : ns.take ns.length ++ s :: ns.drop ns.length = ns ++ [s] := by rw [List.take_length, List.drop_length]
      rw [e2] at hlen ⊢
      by_cases hroom : ns.length + 1 ≤ c
      · refine (Any2.slices_Insert_string_end_room laysS22 g 0 ns.length c vb 0 1 1 [.string s] w (by omega) hroom (by omega) rfl (fun j hj => by have := hsp (ns.length + j) (by omega); rw [Nat.zero_add] at this; simpa using this) (fun j _ => hfz _) hvs h1v).mono ?_
        rintro e w' ⟨rfl, rfl⟩
        have r2 := rowIs_setCells [Value.string s] (0 + ns.length) w _ hrow
        refine ⟨some ⟨g, 0, none⟩, c, by rw [hlen], .inr ⟨g, _, rfl, hg, ⟨by rw [hlen]; exact hroom, hc2⟩, r2, ?_⟩, ⟨below_setCells hg _ _ _ (Below.refl _ _), fun x hx hne => heap_setCellsO (fun e => hne (by rw [e]; rfl))⟩, .inl rfl⟩
        intro i x hx
        rw [← e2] at hx
        rcases getElem_ins (Nat.le_refl _) hx with ⟨h1, h2⟩ | ⟨h1, h2⟩ | ⟨h1, h2⟩
        · rw [if_neg (by omega)]; exact hf i x h2
        · subst h1; subst h2
          rw [if_pos (by simp)]; simp
        · have h3 := (List.getElem?_eq_some_iff.1 h2).1
          omega
      · have hce : c = ns.length := by omega
        refine (Any2.slices_Insert_string_end_grow laysS22 (some ⟨g, 0, none⟩) ns.length c vb 0 1 1 (texts ns) [.string s] w (by omega) hc1 (by omega) (by omega) hcl rfl (fun e => by cases e) (fun a e j v hj => by cases e; rw [addr_add]; exact hcs j v hj) hvs h1v).mono ?_
        rintro e w' ⟨rfl, rfl⟩
        have hge := grownCap_ge w (ns.length + 1) c 9
        refine ⟨some ⟨w.heap.size, 0, none⟩, grownCap w (ns.length + 1) c 9, by rw [hlen]; rfl, .inr ⟨w.heap.size, _, rfl, hB, ⟨by rw [hlen]; exact hge, grownCap_le_maxLen _ _ _ _ (by unfold maxLen; omega)⟩, row_of w.drew _ _ ?_, ?_⟩, ⟨((Below.refl _ _).drew).alloc hB _, fun x hx _ => heap_alloc_old _ _ hx⟩, .inr ⟨_, rfl, Nat.le_refl _⟩⟩
        · rw [Array.size_append]
          show (texts ns ++ [Value.string s]).toArray.size + (Builtin.zeroCells (Value.string ⟨#[]⟩).cells (grownCap w (ns.length + 1) c 9 - (ns.length + 1))).size = _
          rw [zs_size, List.size_toArray, List.length_append, hcl]
          simp only [List.length_cons, List.length_nil]
          omega
        · intro i x hx
          have hx2 : (texts ns ++ [Value.string s])[i]? = some (.string x) := by
            have := texts_get hx
            unfold texts at this ⊢
            rw [List.map_append] at this
            exact this
          show (((texts ns ++ [Value.string s]).toArray ++ _)[i]?).getD _ = _
          rw [app_get hx2]; rfl
end Go.Proofs.Ytbbbmmemfndnlaa
/- The library's contract on strings.Clone at this dump. -/
namespace Go.Proofs.Ytbbbmmemfndnlaa
open Go.Shelf Go.RowKit
def renC25 : Ren := ⟨fun | 25 => 89 | n => n, fun | 0 => 0 | 3 => 3 | 4 => 4 | 5 => 5 | 9 => 9 | 37 => 77 | 47 => 106 | n => n, fun | n => n⟩
theorem laysC25 : LaysPu.n25 Try.prog renC25 := {
  mixed := by kernel_rfl
  f25 := Try.func89.trans (congrArg some (by kernel_rfl))
  t0 := Try.underlying0
  a0 := Try.isAgg0
  z0 := Try.sizeOf0
  v0 := Try.zeroValue0
  i0 := by kernel_rfl
  t3 := Try.underlying3
  a3 := Try.isAgg3
  z3 := Try.sizeOf3
  v3 := Try.zeroValue3
  i3 := by kernel_rfl
  t4 := Try.underlying4
  a4 := Try.isAgg4
  z4 := Try.sizeOf4
  v4 := Try.zeroValue4
  i4 := by kernel_rfl
  t5 := Try.underlying5
  a5 := Try.isAgg5
  z5 := Try.sizeOf5
  v5 := Try.zeroValue5
  i5 := by kernel_rfl
  t9 := Try.underlying9
  a9 := Try.isAgg9
  z9 := Try.sizeOf9
  v9 := Try.zeroValue9
  i9 := by kernel_rfl
  t37 := Try.underlying77
  a37 := Try.isAgg77
  z37 := Try.sizeOf77
  v37 := Try.zeroValue77
  i37 := by kernel_rfl
  t47 := Try.underlying106
  a47 := Try.isAgg106
  z47 := Try.sizeOf106
  v47 := Try.zeroValue106
  i47 := by kernel_rfl }
theorem stringsClone_any (s : ByteArray) (w : World) (hs : s.size ≤ 281474976710656) :
    Calls Try.prog 67 #[.string s] w fun e w' => e = .returned (.string s) ∧ Below w.heap.size w w' := by
  go_enter Try.func67, Try.ntmps67
  go_wp2_with fail
  refine (AnyPu.stringslite_Clone laysC25 s w hs).mono ?_
  rintro e w1 ⟨rfl, hb1⟩
  go_wp2_with fail
  go_ret
  exact ⟨rfl, hb1⟩
end Go.Proofs.Ytbbbmmemfndnlaa
