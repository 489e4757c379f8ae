/- My own texts, joined: Uk Ul Uy Uz Um. -/
import Derived.Test.YtalncebnahlmdaaJFnValueCmp11
import Derived.Test.YtalncebnahlmdaaJFnValueCmp13
import Derived.Test.YtalncebnahlmdaaJFnValueCmp5
import Derived.Test.YtalncebnahlmdaaJFnValueCmp6
import Derived.Deep.RegionHeld3
/- Drawn values: l14AnyValue, and the draws of one value. -/
namespace Go.Proofs.Ytalncebnahlmdaa
open Go.RowKit
attribute [local go_sem] cell_alloc_is frozen_alloc_is
/-- any drawn value: it lies there, in new cells that are not frozen, and is small -/
def AnyS (B0 M : Nat) (w : World) (h : Hd) (a : Option Addr) (c : Nat) (F : Vo) : Prop :=
  ((oneV h a c F).Kin w ∧ (oneV h a c F).Cl w) ∧ (oneV h a c F).Blk (fun x => B0 ≤ x ∧ x < w.heap.size) ∧ (F.size ≤ M ∧ F.wt ≤ 60 * M ∧ fw h F) ∧ h.ns.length ≤ 4 ∧ h.t.size ≤ 7 ∧ ∀ s ∈ h.ns, s.size ≤ 10
theorem ValS.any {B0 L M : Nat} {w : World} {h : Hd} {a : Option Addr} {c : Nat} {F : Vo} (x : ValS B0 L M w h a c F) (hL : L ≤ 4) : AnyS B0 M w h a c F := by
  have h1 := x.one
  have h2 := x.oneCl
  have h3 := x.blk
  obtain ⟨⟨⟨l1, l2, l3, l4⟩, l5, l6, l7⟩, _⟩ := x
  exact ⟨⟨h1, h2⟩, h3, ⟨l2, by omega, l4⟩, by omega, l6, l7⟩
theorem AnyS.otr {B0 M b : Nat} {r : Option Nat} {W w' : World} {h : Hd} {a : Option Addr} {c : Nat} {F : Vo} (x : AnyS B0 M W h a c F) (k : Otr b r W w') (hb : b < B0) (hr : ∀ g, r = some g → g < B0) : AnyS B0 M w' h a c F := by
  obtain ⟨⟨h1, h2⟩, h3, h4⟩ := x
  have hB : (oneV h a c F).Blk (fun x => ¬ x = b ∧ some x ≠ r) := h3.mono fun x hx => ⟨by omega, fun e => by have := hr x e.symm; omega⟩
  exact ⟨⟨k.kin hB h1, k.cl hB h2⟩, h3.mono fun x hx => ⟨hx.1, Nat.lt_of_lt_of_le hx.2 k.1⟩, h4⟩
theorem AnyS.below {B0 M : Nat} {W w' : World} {h : Hd} {a : Option Addr} {c : Nat} {F : Vo} (x : AnyS B0 M W h a c F) (k : Below W.heap.size W w') : AnyS B0 M w' h a c F := by
  obtain ⟨⟨h1, h2⟩, h3, h4⟩ := x
  exact ⟨⟨Vo.kin_grow k h1, h2.below k⟩, h3.mono fun x hx => ⟨hx.1, Nat.lt_of_lt_of_le hx.2 k.size⟩, h4⟩
theorem AnyS.mono {B0 B1 M M' : Nat} {W : World} {h : Hd} {a : Option Addr} {c : Nat} {F : Vo} (x : AnyS B0 M W h a c F) (hB : B1 ≤ B0) (hM : M ≤ M') : AnyS B1 M' W h a c F := by
  obtain ⟨h1, h3, ⟨l1, l2, l3⟩, h4⟩ := x
  exact ⟨h1, h3.mono fun x hx => ⟨by omega, hx.2⟩, ⟨by omega, by omega, l3⟩, h4⟩
/-- another kind, number, text -/
theorem AnyS.head {B0 M : Nat} {w : World} {h : Hd} {a : Option Addr} {c : Nat} {F : Vo} (x : AnyS B0 M w h a c F) (k m e : Int) (t : ByteArray) (ht : t.size ≤ 7) (hk6 : k = h.k ∨ ¬ k = 6) : AnyS B0 M w ⟨k, m, e, t, h.na, h.nc, h.ns⟩ a c F := by
  obtain ⟨⟨⟨k1, k2, k3, k4⟩, h2⟩, h3, ⟨h4a, h4b, h4c, h4d, h4e⟩, h5, h6, h7⟩ := x
  have h4 : F.size ≤ M ∧ F.wt ≤ 60 * M ∧ fw ⟨k, m, e, t, h.na, h.nc, h.ns⟩ F := ⟨h4a, h4b, h4c, fun e => h4d (by rcases hk6 with hk6 | hk6; (exact hk6 ▸ e); (exact absurd e hk6)), h4e⟩
  exact ⟨⟨⟨k1, k2, ⟨k3.1, k3.2.1, by show t.size ≤ maxLen; unfold maxLen; omega⟩, k4⟩, h2⟩, h3, h4, h5, ht, h7⟩
theorem own_ne {w : World} {B B' n n' s s' : Nat} {e e' : TypeId} {v v' : Value} {xs xs' : List Value} (h : w.ownsRow B e s v n xs) (h' : w.ownsRow B' e' s' v' n' xs') (hne : e ≠ e') {g : Nat} (hg : v.ownBlock = some g) : v'.ownBlock ≠ some g := by
  intro hg'
  rcases h.2 with ⟨rfl, _⟩ | ⟨g1, _, _, rfl, _, h1, _⟩
  · cases hg
  · rcases h'.2 with ⟨rfl, _⟩ | ⟨g2, _, _, rfl, _, h2, _⟩
    · cases hg'
    · cases hg; cases hg'
      rw [h1] at h2
      cases h2
      exact hne rfl
theorem ValS.name {B0 L M b vb : Nat} {w ws : World} {h : Hd} {a na : Option Addr} {c nc : Nat} {F : Vo} {s : ByteArray} (hv : ValS B0 L M w h a c F) (hbB : b < B0) (hF : (oneV h a c F).Blk (fun x => x < vb)) (hob : blkOf na = blkOf h.na ∨ ∃ g, blkOf na = some g ∧ vb < g) (hnv : ∀ x, blkOf h.na = some x → ¬ x = vb) (hL : L ≤ 3) (hs : s.size ≤ 10)
    (hO : Otr b (blkOf h.na) w ws) (hown : ws.ownsRow B0 9 1 (.slice na (h.ns.length + 1) nc) (h.ns.length + 1) (texts (h.ns ++ [s]))) :
    AnyS B0 M ws ⟨h.k, h.m, h.e, h.t, na, nc, h.ns ++ [s]⟩ a c F ∧ (oneV ⟨h.k, h.m, h.e, h.t, na, nc, h.ns ++ [s]⟩ a c F).Blk (fun x => ¬ x = vb) := by
  obtain ⟨⟨⟨l1, l2, l3, l4⟩, l5, l6, l7⟩, h6, h1, hk, hB⟩ := hv
  have h6' : ws.ownsRow B0 28 6 (.slice a F.len c) F.len F.cells := hO.own h6 hbB (fun g hg => by rw [← ownBlock_blkOf (n := h.ns.length) (c := h.nc)]; exact fun e => own_ne h6 h1 (by decide) hg e.symm)
  have hb4 : F.Blk (fun x => ¬ x = b ∧ some x ≠ blkOf h.na) := hB.mono fun x hx => ⟨by omega, hx.2.2⟩
  have hs7 : ∀ x ∈ h.ns ++ [s], x.size ≤ 10 := fun x hx => by
    rcases List.mem_append.1 hx with hx | hx
    · exact l7 x hx
    · simp at hx; subst hx; exact hs
  have hlen : (h.ns ++ [s]).length = h.ns.length + 1 := by simp
  have k0 := hO.kin hb4 hk.1
  have c0 := hO.cl hb4 hk.2
  obtain ⟨a', c', e6, hl6, hc6, h06⟩ := own_lies h6'
  cases e6
  have hone : (oneV ⟨h.k, h.m, h.e, h.t, na, nc, h.ns ++ [s]⟩ a c F).Kin ws := Vo.kin_one.2 ⟨hl6.in k0, hc6, hin_of (h := ⟨h.k, h.m, h.e, h.t, na, nc, h.ns ++ [s]⟩) (by rw [show (Hd.mk h.k h.m h.e h.t na nc (h.ns ++ [s])).ns.length = h.ns.length + 1 from hlen]; exact hown) l6 hs7⟩
  have hcl : (oneV ⟨h.k, h.m, h.e, h.t, na, nc, h.ns ++ [s]⟩ a c F).Cl ws := ⟨own_pl h6', c0, trivial⟩
  have hblk : (oneV ⟨h.k, h.m, h.e, h.t, na, nc, h.ns ++ [s]⟩ a c F).Blk (fun x => B0 ≤ x ∧ x < ws.heap.size) := by
    refine ⟨?_, ?_, hB.mono (fun x hx => ⟨hx.1.1, Nat.lt_of_lt_of_le hx.1.2 hO.1⟩), trivial⟩
    · obtain ⟨a2, c2, e2, _, _, h0⟩ := own_lies hown
      cases e2
      rcases h0 with h0 | ⟨x, e1, e2, e3⟩
      · omega
      · exact .inr ⟨x, 0, e1, e3, (hown.lt x e2).2⟩
    · rcases h06 with h0 | ⟨x, e1, e2, e3⟩
      · left
        cases F with
        | nil => rfl
        | cons h0' a0 c0 k0 n0 => exact absurd h0 (Nat.succ_ne_zero _)
      · exact .inr ⟨x, 0, e1, e3, (h6'.lt x e2).2⟩
  refine ⟨⟨⟨hone, hcl⟩, hblk, ⟨l2, by omega, ⟨l4.1, fun e => (by show F.len ≤ (h.ns ++ [s]).length; rw [hlen]; have := l4.2.1 e; omega), l4.2.2⟩⟩, by show (h.ns ++ [s]).length ≤ 4; rw [hlen]; omega, l6, hs7⟩, ?_⟩
  obtain ⟨f1, f2, f3, f4⟩ := hF
  refine ⟨?_, ?_, f3.mono fun x hx => by omega, trivial⟩
  · obtain ⟨a2, c2, e2, _, _, h0⟩ := own_lies hown
    cases e2
    rcases h0 with h0 | ⟨x, e1, e2, e3⟩
    · omega
    · refine .inr ⟨x, 0, e1, ?_⟩
      rw [ownBlock_blkOf] at e2
      rcases hob with hob | ⟨g, hob, hg⟩
      · rw [hob] at e2
        exact hnv x e2
      · rw [hob] at e2; cases e2; omega
  · rcases f2 with f2 | ⟨x, o, e1, e2⟩
    · exact .inl f2
    · exact .inr ⟨x, o, e1, by omega⟩
theorem AnyS.otr2 {B0 M b : Nat} {r : Option Nat} {W w' : World} {h : Hd} {a : Option Addr} {c : Nat} {F : Vo} (x : AnyS B0 M W h a c F) (k : Otr b r W w') (hb : b < B0) (hr : (oneV h a c F).Blk (fun x => some x ≠ r)) : AnyS B0 M w' h a c F := by
  obtain ⟨⟨h1, h2⟩, h3, h4⟩ := x
  have hB : (oneV h a c F).Blk (fun x => ¬ x = b ∧ some x ≠ r) := (h3.and hr).mono fun x hx => ⟨by have := hx.1.1; omega, hx.2⟩
  exact ⟨⟨k.kin hB h1, k.cl hB h2⟩, h3.mono fun x hx => ⟨hx.1, Nat.lt_of_lt_of_le hx.2 k.1⟩, h4⟩
/-- a value alone in an array -/
theorem AnyS.wrap {B0 M nb : Nat} {w ws : World} {h : Hd} {a : Option Addr} {c : Nat} {F : Vo} (x : AnyS B0 M w h a c F) (hb : Below w.heap.size w ws) (hnb : B0 ≤ nb) (T : TypeId) (hcs : ws.heap[nb]? = some (.cells (six h a F.len c).toArray T (0, 0))) : AnyS B0 (M + 1) ws (hdK 5) (some ⟨nb, 0, none⟩) 1 (oneV h a c F) := by
  obtain ⟨⟨h1, h2⟩, h3, ⟨l1, l2, l3⟩, l4, l5, l6⟩ := x
  have hsw := sWt_le l6
  have hlt : nb < ws.heap.size := (Array.getElem?_eq_some_iff.1 hcs).1
  have hlie : Lies ws (some ⟨nb, 0, none⟩) (oneV h a c F).cells := by
    rw [Vo.cells_oneV]
    refine .inr ⟨nb, 0, rfl, fun i v hv => ?_⟩
    rw [Nat.zero_add]
    unfold World.cell?
    rw [hcs]
    simpa using hv
  refine ⟨⟨Vo.kin_one.2 ⟨hlie.in (Vo.kin_grow hb h1), ⟨Nat.le_refl _, by unfold maxLen; omega⟩, .inl rfl, ⟨Nat.le_refl _, Nat.zero_le _⟩, by show (ByteArray.mk #[]).size ≤ maxLen; exact Nat.zero_le _⟩, ⟨.inr ⟨⟨nb, 0, none⟩, _, T, rfl, hcs⟩, h2.below hb, trivial⟩⟩, ⟨.inl rfl, .inr ⟨nb, 0, rfl, hnb, hlt⟩, h3.mono fun x hx => ⟨hx.1, Nat.lt_of_lt_of_le hx.2 hb.size⟩, trivial⟩, ⟨?_, ?_, ?_⟩, Nat.zero_le _, Nat.zero_le _, fun s hs => by cases hs⟩
  · show F.size + 1 + 0 ≤ M + 1; omega
  · show h.t.size + F.wt + sWt h.ns + 1 + 0 ≤ 60 * (M + 1); omega
  · exact ⟨⟨l4, l3.1, trivial⟩, fun e => absurd e (by decide), ⟨⟨l3.2.1, l5, l6⟩, l3.2.2, trivial⟩⟩
end Go.Proofs.Ytalncebnahlmdaa
/- Drawn values: l14AnyValue, and the draws of one value. -/
namespace Go.Proofs.Ytalncebnahlmdaa
open Go.RowKit
attribute [local go_sem] cell_alloc_is frozen_alloc_is
theorem small_d {n : Nat} (h : n < 3) : pkD (n + 1) ≤ 1356 ∧ szD (n + 1) ≤ 39 := by
  have : n = 0 ∨ n = 1 ∨ n = 2 := by omega
  rcases this with rfl | rfl | rfl <;> decide
theorem blk_ne {F : Vo} {vb : Nat} (h : F.Blk (fun x => ¬ x = vb)) : F.Blk (fun x => some x ≠ some vb) := h.mono fun _ hx e => hx (Option.some.inj e)
theorem AnyS.put {B0 M b vb o : Nat} {w : World} {h : Hd} {a : Option Addr} {c : Nat} {F : Vo} (x : AnyS B0 M w h a c F) (hb : b < B0) (hf : (oneV h a c F).Blk (fun x => ¬ x = vb)) (u : Value) : AnyS B0 M (w.setCell ⟨vb, o, none⟩ u) h a c F :=
  x.otr2 (Otr.setCell b w u) hb (blk_ne hf)

set_option maxRecDepth 100000 in
set_option maxHeartbeats 2000000 in
theorem l14AnyValue_any {w0 : World} {B b : Nat} {a : Option Addr} {len cap : Nat} (p : Int) (W : World) (hR : Rd w0 B b a len cap p W) (hp : p ≤ 70000) :
    Calls Try.prog 22 #[.pointer (some ⟨b, 0, none⟩)] W fun e w' => ∃ hV F av c p', e = .returned (valV hV av F.len c) ∧ AnyS W.heap.size 60 w' hV av c F ∧ p' ≤ p + 2000 ∧ Rd w0 B b a len cap p' w' ∧ Otb b W w' := by
  have hlt := hR.lt
  have hne : ¬ W.heap.size = b := by omega
  have Z0 : Row (W.alloc (.cells #[.int .i64 0, .int .i64 0, .int .i64 0, .string ⟨#[]⟩, .slice none 0 0, .slice none 0 0] 28)) W.heap.size zero6 := Row.new W zero6 28
  have R0 := hR.below ((Below.refl _ W).alloc (Nat.le_refl _) (.cells #[.int .i64 0, .int .i64 0, .int .i64 0, .string ⟨#[]⟩, .slice none 0 0, .slice none 0 0] 28))
  have O0 := (Otb.refl b W).alloc (.cells #[.int .i64 0, .int .i64 0, .int .i64 0, .string ⟨#[]⟩, .slice none 0 0, .slice none 0 0] 28)
  have hz0 : W.heap.size < (W.alloc (.cells #[.int .i64 0, .int .i64 0, .int .i64 0, .string ⟨#[]⟩, .slice none 0 0, .slice none 0 0] 28)).heap.size := by simp
  clear hR
  go_enter Try.func22, Try.ntmps22
  go_wp2_with fail
  generalize W.alloc (.cells #[.int .i64 0, .int .i64 0, .int .i64 0, .string ⟨#[]⟩, .slice none 0 0, .slice none 0 0] 28) = W1 at *
  refine (pick_any 3 R0 (by omega) (by omega) (by omega)).mono ?_
  rintro r w1 ⟨⟨v0, rfl, v00, v01⟩, s1⟩
  have R1 := R0.step s1
  have Z1 : Row w1 W.heap.size zero6 := Row.otb ((Otb.refl b W1).stepped s1) hne Z0
  have O1 := O0.stepped s1
  have hz1 : W.heap.size < w1.heap.size := by rw [s1.other.2.2]; exact hz0
  clear Z0 R0 O0 hz0 s1
  obtain ⟨n, rfl⟩ := Int.eq_ofNat_of_zero_le v00
  obtain ⟨pk, sz⟩ := small_d (n := n) (by omega)
  have e1 : (1 : Int) + (n : Int) = ((n + 1 : Nat) : Int) := by omega
  have hl14 := l14Value_any (w0 := w0) (B := B) (b := b) (a := a) (len := len) (cap := cap) (n + 1) (by omega) (p + 1) w1 R1 (by omega)
  rw [← e1] at hl14
  have HL : Hid (Calls Try.prog 43 #[.pointer (some ⟨b, 0, none⟩), .int .i64 (1 + (n : Int))] w1 _) := hl14
  clear hl14 e1
  go_wp2_with fail
  refine HL.out.mono ?_
  rintro r w2 ⟨hV, F, av, c, p2, rfl, hval, hp2, R2, O12⟩
  have Z2 : Row w2 W.heap.size zero6 := Row.otb O12 hne Z1
  have O2 := O1.trans O12
  have hz2 : W.heap.size < w2.heap.size := Nat.lt_of_lt_of_le hz1 O12.1
  have hb1 : b < w1.heap.size := R1.lt
  have hnvb : ∀ x, blkOf hV.na = some x → W.heap.size < x ∧ x < w2.heap.size := fun x hx => by
    have h5 := hval.2.2.1.lt x (by rw [ownBlock_blkOf]; exact hx)
    omega
  have hfar : (oneV hV av c F).Blk (fun x => x < w2.heap.size) := hval.blk.mono fun x hx => hx.2
  have hval1 := hval.mono (B1 := W.heap.size + 1) (L' := 3) (M' := 39) (by omega) (Nat.le_refl _) sz
  have hp3 : p2 ≤ p + 1 + 1356 := by omega
  clear HL Z1 R1 O1 O12 hz1 hval hp2 pk sz
  have hbW : Below w2.heap.size w2 (w2.alloc (.cells #[.int .i64 hV.k, .int .i64 hV.m, .int .i64 hV.e, .string hV.t, .slice av F.len c, .slice hV.na hV.ns.length hV.nc] 28)) := (Below.refl _ _).alloc (Nat.le_refl _) _
  have V3 : Row (w2.alloc (.cells #[.int .i64 hV.k, .int .i64 hV.m, .int .i64 hV.e, .string hV.t, .slice av F.len c, .slice hV.na hV.ns.length hV.nc] 28)) w2.heap.size (six hV av F.len c) := Row.new w2 _ _
  have Z3 := Z2.below hbW hz2
  have R3 := R2.below hbW
  have O3 := O2.alloc (.cells #[.int .i64 hV.k, .int .i64 hV.m, .int .i64 hV.e, .string hV.t, .slice av F.len c, .slice hV.na hV.ns.length hV.nc] 28)
  have S3 := hval1.below hbW
  have hsz : w2.heap.size < (w2.alloc (.cells #[.int .i64 hV.k, .int .i64 hV.m, .int .i64 hV.e, .string hV.t, .slice av F.len c, .slice hV.na hV.ns.length hV.nc] 28)).heap.size := by simp
  have HNv : Hid (∀ x, blkOf hV.na = some x → W.heap.size < x ∧ x < w2.heap.size) := hnvb
  have HFar : Hid ((oneV hV av c F).Blk (fun x => x < w2.heap.size)) := hfar
  have HZ2 : Hid (W.heap.size < w2.heap.size) := hz2
  clear hnvb hfar hval1 Z2 R2 O2 hbW hz2
  go_wp2_with fail
  obtain ⟨vb, hvb⟩ : ∃ vb, w2.heap.size = vb := ⟨_, rfl⟩
  rw [hvb] at V3 hsz HFar HNv HZ2 ⊢
  generalize w2.alloc (.cells #[.int .i64 hV.k, .int .i64 hV.m, .int .i64 hV.e, .string hV.t, .slice av F.len c, .slice hV.na hV.ns.length hV.nc] 28) = W3 at *
  clear hvb
  refine (pick_any 20 R3 (by omega) (by omega) (by omega)).mono ?_
  rintro r w4 ⟨⟨v, rfl, v0, v1⟩, s4⟩
  have hvb2 : ¬ vb = b := by have := HZ2.out; omega
  have R4 := R3.step s4
  have V4 : Row w4 vb (six hV av F.len c) := Row.otb ((Otb.refl b W3).stepped s4) hvb2 V3
  have Z4 : Row w4 W.heap.size zero6 := Row.otb ((Otb.refl b W3).stepped s4) hne Z3
  have O4 := O3.stepped s4
  have S4 : ValS (W.heap.size + 1) 3 39 w4 hV av c F := S3.otr (((Otb.refl b W3).stepped s4).otr none) (by omega) (fun g hg => by cases hg)
  have hz4 : vb < w4.heap.size := by rw [s4.other.2.2]; exact hsz
  have hbB : b < W.heap.size + 1 := by omega
  have HFn : Hid ((oneV hV av c F).Blk (fun x => ¬ x = vb)) := HFar.out.mono fun x hx => by omega
  clear V3 Z3 R3 O3 S3 s4 hsz
  have hv : v = 0 ∨ v = 1 ∨ v = 2 ∨ v = 3 ∨ v = 4 ∨ 5 ≤ v := by omega
  rcases hv with rfl | rfl | rfl | rfl | rfl | hv
  · have hb : Below w4.heap.size w4 (w4.alloc (.cells #[.int .i64 (-1), .int .i64 7, .int .i64 5] 3)) := (Below.refl _ _).alloc (Nat.le_refl _) _
    have R5 := R4.below hb
    go_wp2_with fail
    refine (one_any R5 (by omega) w4.heap.size 3 [-1, 7, 5] (by have := HZ2.out; omega) rfl (by omega) (by omega) (cells_list w4 [-1, 7, 5] 3)).mono ?_
    rintro r w5 ⟨⟨z, rfl, hz6⟩, s5⟩
    have HZ6 : Hid (¬ z = 6) := (by unfold Hid; simp at hz6; rcases hz6 with rfl | rfl | rfl <;> decide)
    clear hz6
    have R6 := R5.step s5
    have O45 : Otb b w4 w5 := ((Otb.refl b w4).alloc (.cells #[.int .i64 (-1), .int .i64 7, .int .i64 5] 3)).stepped s5
    have V5 := Row.otb O45 hvb2 V4
    have Z5 := Row.otb O45 hne Z4
    have O5 := O4.trans O45
    have S5 := (S4.any (by omega)).otr (O45.otr none) hbB (fun g hg => by cases hg)
    clear R4 R5 V4 Z4 O4 S4 O45 hb s5
    obtain ⟨t0, f0⟩ := V5 0 _ rfl
    obtain ⟨t1, f1⟩ := V5 1 _ rfl
    obtain ⟨t2, f2⟩ := V5 2 _ rfl
    obtain ⟨t3, f3⟩ := V5 3 _ rfl
    obtain ⟨t4, f4⟩ := V5 4 _ rfl
    obtain ⟨t5, f5⟩ := V5 5 _ rfl
    have V9 := V5.set (i := 0) (by show 0 < 6; omega) (.int .i64 z)
    have Z9 := Z5.setOther (j := vb) (by have := HZ2.out; omega) 0 (.int .i64 z)
    have hb6 := R6.base_leU
    have R9 := R6.set (j := vb) (o := 0) (by have := HZ2.out; omega) (by omega) (.int .i64 z)
    have O9 := O5.set (j := vb) (o := 0) (by have := HZ2.out; omega) (.int .i64 z)
    have S9 := (S5.put (o := 0) hbB HFn.out (.int .i64 z)).head z hV.m hV.e hV.t S5.2.2.2.2.1 (.inr HZ6.out)
    have y00 := (V9 0 _ rfl).1
    clear V5 Z5 O5 S5 R6 V9 y00
    obtain ⟨r0, g0⟩ := Z9 0 _ rfl
    obtain ⟨r1, g1⟩ := Z9 1 _ rfl
    obtain ⟨r2, g2⟩ := Z9 2 _ rfl
    obtain ⟨r3, g3⟩ := Z9 3 _ rfl
    obtain ⟨r4, g4⟩ := Z9 4 _ rfl
    obtain ⟨r5, g5⟩ := Z9 5 _ rfl
    have HP6 := Row.put6 (v0 := .int .i64 ((Hd.mk z hV.m hV.e hV.t hV.na hV.nc hV.ns)).k) (v1 := .int .i64 ((Hd.mk z hV.m hV.e hV.t hV.na hV.nc hV.ns)).m) (v2 := .int .i64 ((Hd.mk z hV.m hV.e hV.t hV.na hV.nc hV.ns)).e) (v3 := .string ((Hd.mk z hV.m hV.e hV.t hV.na hV.nc hV.ns)).t) (v4 := .slice av (F).len c) (v5 := .slice ((Hd.mk z hV.m hV.e hV.t hV.na hV.nc hV.ns)).na ((Hd.mk z hV.m hV.e hV.t hV.na hV.nc hV.ns)).ns.length ((Hd.mk z hV.m hV.e hV.t hV.na hV.nc hV.ns)).nc) Z9
    have HO6 := Otr.put6 b (j := W.heap.size) (o := 0) (w5.setCell ⟨vb, 0, none⟩ (.int .i64 z)) (.int .i64 ((Hd.mk z hV.m hV.e hV.t hV.na hV.nc hV.ns)).k) (.int .i64 ((Hd.mk z hV.m hV.e hV.t hV.na hV.nc hV.ns)).m) (.int .i64 ((Hd.mk z hV.m hV.e hV.t hV.na hV.nc hV.ns)).e) (.string ((Hd.mk z hV.m hV.e hV.t hV.na hV.nc hV.ns)).t) (.slice av (F).len c) (.slice ((Hd.mk z hV.m hV.e hV.t hV.na hV.nc hV.ns)).na ((Hd.mk z hV.m hV.e hV.t hV.na hV.nc hV.ns)).ns.length ((Hd.mk z hV.m hV.e hV.t hV.na hV.nc hV.ns)).nc)
    have hb9 := R9.base_leU
    have S10 := (S9.otr HO6 hbB (fun g hg => by cases hg; omega)).mono (B1 := W.heap.size) (M' := 60) (by omega) (by omega)
    have R10 := R9.uptoU (put6_below (B := W.heap.size) (nb := W.heap.size) (o := 0) (Below.refl _ (w5.setCell ⟨vb, 0, none⟩ (.int .i64 z))) (Nat.le_refl _) (.int .i64 ((Hd.mk z hV.m hV.e hV.t hV.na hV.nc hV.ns)).k) (.int .i64 ((Hd.mk z hV.m hV.e hV.t hV.na hV.nc hV.ns)).m) (.int .i64 ((Hd.mk z hV.m hV.e hV.t hV.na hV.nc hV.ns)).e) (.string ((Hd.mk z hV.m hV.e hV.t hV.na hV.nc hV.ns)).t) (.slice av (F).len c) (.slice ((Hd.mk z hV.m hV.e hV.t hV.na hV.nc hV.ns)).na ((Hd.mk z hV.m hV.e hV.t hV.na hV.nc hV.ns)).ns.length ((Hd.mk z hV.m hV.e hV.t hV.na hV.nc hV.ns)).nc)) hlt (by omega)
    have O10 := O9.upto (put6_below (B := W.heap.size) (nb := W.heap.size) (o := 0) (Below.refl _ (w5.setCell ⟨vb, 0, none⟩ (.int .i64 z))) (Nat.le_refl _) (.int .i64 ((Hd.mk z hV.m hV.e hV.t hV.na hV.nc hV.ns)).k) (.int .i64 ((Hd.mk z hV.m hV.e hV.t hV.na hV.nc hV.ns)).m) (.int .i64 ((Hd.mk z hV.m hV.e hV.t hV.na hV.nc hV.ns)).e) (.string ((Hd.mk z hV.m hV.e hV.t hV.na hV.nc hV.ns)).t) (.slice av (F).len c) (.slice ((Hd.mk z hV.m hV.e hV.t hV.na hV.nc hV.ns)).na ((Hd.mk z hV.m hV.e hV.t hV.na hV.nc hV.ns)).ns.length ((Hd.mk z hV.m hV.e hV.t hV.na hV.nc hV.ns)).nc))
    have HS10 : Hid (AnyS W.heap.size 60 (put6 (w5.setCell ⟨vb, 0, none⟩ (.int .i64 z)) W.heap.size 0 (.int .i64 ((Hd.mk z hV.m hV.e hV.t hV.na hV.nc hV.ns)).k) (.int .i64 ((Hd.mk z hV.m hV.e hV.t hV.na hV.nc hV.ns)).m) (.int .i64 ((Hd.mk z hV.m hV.e hV.t hV.na hV.nc hV.ns)).e) (.string ((Hd.mk z hV.m hV.e hV.t hV.na hV.nc hV.ns)).t) (.slice av (F).len c) (.slice ((Hd.mk z hV.m hV.e hV.t hV.na hV.nc hV.ns)).na ((Hd.mk z hV.m hV.e hV.t hV.na hV.nc hV.ns)).ns.length ((Hd.mk z hV.m hV.e hV.t hV.na hV.nc hV.ns)).nc)) ((Hd.mk z hV.m hV.e hV.t hV.na hV.nc hV.ns)) av c F ∧ Rd w0 B b a len cap _ (put6 (w5.setCell ⟨vb, 0, none⟩ (.int .i64 z)) W.heap.size 0 (.int .i64 ((Hd.mk z hV.m hV.e hV.t hV.na hV.nc hV.ns)).k) (.int .i64 ((Hd.mk z hV.m hV.e hV.t hV.na hV.nc hV.ns)).m) (.int .i64 ((Hd.mk z hV.m hV.e hV.t hV.na hV.nc hV.ns)).e) (.string ((Hd.mk z hV.m hV.e hV.t hV.na hV.nc hV.ns)).t) (.slice av (F).len c) (.slice ((Hd.mk z hV.m hV.e hV.t hV.na hV.nc hV.ns)).na ((Hd.mk z hV.m hV.e hV.t hV.na hV.nc hV.ns)).ns.length ((Hd.mk z hV.m hV.e hV.t hV.na hV.nc hV.ns)).nc)) ∧ Otb b W (put6 (w5.setCell ⟨vb, 0, none⟩ (.int .i64 z)) W.heap.size 0 (.int .i64 ((Hd.mk z hV.m hV.e hV.t hV.na hV.nc hV.ns)).k) (.int .i64 ((Hd.mk z hV.m hV.e hV.t hV.na hV.nc hV.ns)).m) (.int .i64 ((Hd.mk z hV.m hV.e hV.t hV.na hV.nc hV.ns)).e) (.string ((Hd.mk z hV.m hV.e hV.t hV.na hV.nc hV.ns)).t) (.slice av (F).len c) (.slice ((Hd.mk z hV.m hV.e hV.t hV.na hV.nc hV.ns)).na ((Hd.mk z hV.m hV.e hV.t hV.na hV.nc hV.ns)).ns.length ((Hd.mk z hV.m hV.e hV.t hV.na hV.nc hV.ns)).nc))) := ⟨S10, R10, O10⟩
    clear Z9 S9 R9 O9 HO6 S10 R10 O10
    go_wp2_with fail
    show bodyPost Try.prog Try.f22 _ Exit.ret _ (put6 (w5.setCell ⟨vb, 0, none⟩ (.int .i64 z)) W.heap.size 0 (.int .i64 ((Hd.mk z hV.m hV.e hV.t hV.na hV.nc hV.ns)).k) (.int .i64 ((Hd.mk z hV.m hV.e hV.t hV.na hV.nc hV.ns)).m) (.int .i64 ((Hd.mk z hV.m hV.e hV.t hV.na hV.nc hV.ns)).e) (.string ((Hd.mk z hV.m hV.e hV.t hV.na hV.nc hV.ns)).t) (.slice av (F).len c) (.slice ((Hd.mk z hV.m hV.e hV.t hV.na hV.nc hV.ns)).na ((Hd.mk z hV.m hV.e hV.t hV.na hV.nc hV.ns)).ns.length ((Hd.mk z hV.m hV.e hV.t hV.na hV.nc hV.ns)).nc))
    generalize put6 (w5.setCell ⟨vb, 0, none⟩ (.int .i64 z)) W.heap.size 0 (.int .i64 ((Hd.mk z hV.m hV.e hV.t hV.na hV.nc hV.ns)).k) (.int .i64 ((Hd.mk z hV.m hV.e hV.t hV.na hV.nc hV.ns)).m) (.int .i64 ((Hd.mk z hV.m hV.e hV.t hV.na hV.nc hV.ns)).e) (.string ((Hd.mk z hV.m hV.e hV.t hV.na hV.nc hV.ns)).t) (.slice av (F).len c) (.slice ((Hd.mk z hV.m hV.e hV.t hV.na hV.nc hV.ns)).na ((Hd.mk z hV.m hV.e hV.t hV.na hV.nc hV.ns)).ns.length ((Hd.mk z hV.m hV.e hV.t hV.na hV.nc hV.ns)).nc) = W6 at *
    have y0 := (HP6 0 _ rfl).1
    have y1 := (HP6 1 _ rfl).1
    have y2 := (HP6 2 _ rfl).1
    have y3 := (HP6 3 _ rfl).1
    have y4 := (HP6 4 _ rfl).1
    have y5 := (HP6 5 _ rfl).1
    obtain ⟨z1, z2, z3⟩ := HS10.out
    refine bodyPost_ret (v := valV ((Hd.mk z hV.m hV.e hV.t hV.na hV.nc hV.ns)) av (F).len c) (by simp [results, Try.results22, go_sem, y0, y1, y2, y3, y4, y5]) rfl (by first | exact ⟨(Hd.mk z hV.m hV.e hV.t hV.na hV.nc hV.ns), F, av, c, _, rfl, z1, by omega, z2, z3⟩ | exact ⟨(Hd.mk z hV.m hV.e hV.t hV.na hV.nc hV.ns), F, av, c, rfl, z1, _, by omega, z2, z3⟩)
  · obtain ⟨i0, hi, hy0, hy1, hy2⟩ := info_parts textInfo
    obtain ⟨t0, f0⟩ := V4 0 _ rfl
    obtain ⟨t1, f1⟩ := V4 1 _ rfl
    obtain ⟨t2, f2⟩ := V4 2 _ rfl
    obtain ⟨t3, f3⟩ := V4 3 _ rfl
    obtain ⟨t4, f4⟩ := V4 4 _ rfl
    obtain ⟨t5, f5⟩ := V4 5 _ rfl
    have hnl : hV.ns.length ≤ 3 := S4.1.2.1
    have hown := S4.2.2.1
    have hWw : W.heap.size + 1 ≤ w4.heap.size := by have := HZ2.out; omega
    go_wp2_with (
    at_builtin
    refine wpList_append_lies _ rfl _ _ 26 rfl (W.heap.size + 1) 9 i0 (.string ⟨#[]⟩) 1 16 Try.underlying26 hi hy0 hy1 hy2 rfl (by decide) (.slice hV.na hV.ns.length hV.nc) hV.ns.length (texts hV.ns) rfl (hown.alloc _) ⟨w4.heap.size, 0, none⟩ 1 1 [.string ⟨#[97]⟩] rfl rfl (cell_one_new _ _ _) (fun x hx => by simp at hx; subst hx; rfl) (by omega) (by unfold maxLen; omega) (by omega) (by simp; omega) _ rfl ?_
    intro g cc w5 hown5 hgr5 hat5 hlt5
    rw [ownBlock_blkOf] at hgr5 hat5
    have O45 : Otr b (blkOf hV.na) w4 w5 := ((Otr.refl b _ w4).below ((Below.refl _ _).alloc (Nat.le_refl _) _)).grown hgr5
    have hnvb2 : some vb ≠ blkOf hV.na := fun e => by have := (HNv.out vb e.symm).2; omega
    have hnrb2 : some W.heap.size ≠ blkOf hV.na := fun e => by have := (HNv.out _ e.symm).1; omega
    have V5 := O45.row hvb2 hnvb2 V4
    have Z5 := O45.row hne hnrb2 Z4
    have hown6 : w5.ownsRow (W.heap.size + 1) 9 1 (.slice (some ⟨g, 0, none⟩) (hV.ns.length + 1) cc) (hV.ns.length + 1) (texts (hV.ns ++ [⟨#[97]⟩])) := by unfold texts; rw [List.map_append]; exact hown5
    have hob5 : blkOf (some (⟨g, 0, none⟩ : Addr)) = blkOf hV.na ∨ ∃ g', blkOf (some (⟨g, 0, none⟩ : Addr)) = some g' ∧ vb < g' := by
      rcases hat5 with e | e
      · exact .inl e.symm
      · exact .inr ⟨g, rfl, by simp at e; omega⟩
    obtain ⟨S5, hF5⟩ := S4.name (b := b) (vb := vb) hbB HFar.out hob5 (fun x hx => by have := (HNv.out x hx).2; omega) (Nat.le_refl _) (by decide) O45 hown6
    have R5 : Rd w0 B b a len cap (p2 + 1) w5 := R4.uptoU (B' := W.heap.size) ((((Below.refl _ w4).alloc (by omega) _)).grown hgr5 (by simp; omega) (fun k hk => by have := (HNv.out k hk).1; omega)) hlt (by have := R4.base_leU; omega)
    have O5 : Otb b W w5 := ⟨Nat.le_trans O4.1 O45.1, fun x h1 h2 => (O45.2 x (Nat.lt_of_lt_of_le h1 O4.1) h2 (fun e => by have := (HNv.out x e.symm).1; omega)).trans (O4.2 x h1 h2)⟩
    obtain ⟨u5, e5⟩ := V5 5 _ rfl
    obtain ⟨u0, _⟩ := V5 0 _ rfl
    obtain ⟨u1, _⟩ := V5 1 _ rfl
    obtain ⟨u2, _⟩ := V5 2 _ rfl
    obtain ⟨u3, _⟩ := V5 3 _ rfl
    obtain ⟨u4, _⟩ := V5 4 _ rfl
    have Z9 := Z5.setOther (j := vb) (by have := HZ2.out; omega) 5 (.slice (some ⟨g, 0, none⟩) (hV.ns.length + 1) cc)
    have R9 := R5.set (j := vb) (o := 5) (by have := HZ2.out; have := R4.base_leU; omega) (by omega) (.slice (some ⟨g, 0, none⟩) (hV.ns.length + 1) cc)
    have O9 := O5.set (j := vb) (o := 5) (by have := HZ2.out; omega) (.slice (some ⟨g, 0, none⟩) (hV.ns.length + 1) cc)
    have S9 := S5.put (o := 5) hbB hF5 (.slice (some ⟨g, 0, none⟩) (hV.ns.length + 1) cc)
    have hlen : (hV.ns ++ [(⟨#[97]⟩ : ByteArray)]).length = hV.ns.length + 1 := by simp
    clear V5 Z5 O5 R5 S5 hown6 hown5 hgr5 hat5 hob5 V4 Z4 O4 R4 S4 O45 hnvb2 hnrb2 t0 t1 t2 t3 t4 t5 f0 f1 f2 f3 f4 f5 hown hF5
    obtain ⟨r0, g0⟩ := Z9 0 _ rfl
    obtain ⟨r1, g1⟩ := Z9 1 _ rfl
    obtain ⟨r2, g2⟩ := Z9 2 _ rfl
    obtain ⟨r3, g3⟩ := Z9 3 _ rfl
    obtain ⟨r4, g4⟩ := Z9 4 _ rfl
    obtain ⟨r5, g5⟩ := Z9 5 _ rfl
    have HP6 := Row.put6 (v0 := .int .i64 ((Hd.mk hV.k hV.m hV.e hV.t (some ⟨g, 0, none⟩) cc (hV.ns ++ [⟨#[97]⟩]))).k) (v1 := .int .i64 ((Hd.mk hV.k hV.m hV.e hV.t (some ⟨g, 0, none⟩) cc (hV.ns ++ [⟨#[97]⟩]))).m) (v2 := .int .i64 ((Hd.mk hV.k hV.m hV.e hV.t (some ⟨g, 0, none⟩) cc (hV.ns ++ [⟨#[97]⟩]))).e) (v3 := .string ((Hd.mk hV.k hV.m hV.e hV.t (some ⟨g, 0, none⟩) cc (hV.ns ++ [⟨#[97]⟩]))).t) (v4 := .slice av (F).len c) (v5 := .slice ((Hd.mk hV.k hV.m hV.e hV.t (some ⟨g, 0, none⟩) cc (hV.ns ++ [⟨#[97]⟩]))).na (hV.ns.length + 1) ((Hd.mk hV.k hV.m hV.e hV.t (some ⟨g, 0, none⟩) cc (hV.ns ++ [⟨#[97]⟩]))).nc) Z9
    have HO6 := Otr.put6 b (j := W.heap.size) (o := 0) (w5.setCell ⟨vb, 5, none⟩ (.slice (some ⟨g, 0, none⟩) (hV.ns.length + 1) cc)) (.int .i64 ((Hd.mk hV.k hV.m hV.e hV.t (some ⟨g, 0, none⟩) cc (hV.ns ++ [⟨#[97]⟩]))).k) (.int .i64 ((Hd.mk hV.k hV.m hV.e hV.t (some ⟨g, 0, none⟩) cc (hV.ns ++ [⟨#[97]⟩]))).m) (.int .i64 ((Hd.mk hV.k hV.m hV.e hV.t (some ⟨g, 0, none⟩) cc (hV.ns ++ [⟨#[97]⟩]))).e) (.string ((Hd.mk hV.k hV.m hV.e hV.t (some ⟨g, 0, none⟩) cc (hV.ns ++ [⟨#[97]⟩]))).t) (.slice av (F).len c) (.slice ((Hd.mk hV.k hV.m hV.e hV.t (some ⟨g, 0, none⟩) cc (hV.ns ++ [⟨#[97]⟩]))).na (hV.ns.length + 1) ((Hd.mk hV.k hV.m hV.e hV.t (some ⟨g, 0, none⟩) cc (hV.ns ++ [⟨#[97]⟩]))).nc)
    have hb9 := R9.base_leU
    have S10 := (S9.otr HO6 hbB (fun g hg => by cases hg; omega)).mono (B1 := W.heap.size) (M' := 60) (by omega) (by omega)
    have R10 := R9.uptoU (put6_below (B := W.heap.size) (nb := W.heap.size) (o := 0) (Below.refl _ (w5.setCell ⟨vb, 5, none⟩ (.slice (some ⟨g, 0, none⟩) (hV.ns.length + 1) cc))) (Nat.le_refl _) (.int .i64 ((Hd.mk hV.k hV.m hV.e hV.t (some ⟨g, 0, none⟩) cc (hV.ns ++ [⟨#[97]⟩]))).k) (.int .i64 ((Hd.mk hV.k hV.m hV.e hV.t (some ⟨g, 0, none⟩) cc (hV.ns ++ [⟨#[97]⟩]))).m) (.int .i64 ((Hd.mk hV.k hV.m hV.e hV.t (some ⟨g, 0, none⟩) cc (hV.ns ++ [⟨#[97]⟩]))).e) (.string ((Hd.mk hV.k hV.m hV.e hV.t (some ⟨g, 0, none⟩) cc (hV.ns ++ [⟨#[97]⟩]))).t) (.slice av (F).len c) (.slice ((Hd.mk hV.k hV.m hV.e hV.t (some ⟨g, 0, none⟩) cc (hV.ns ++ [⟨#[97]⟩]))).na (hV.ns.length + 1) ((Hd.mk hV.k hV.m hV.e hV.t (some ⟨g, 0, none⟩) cc (hV.ns ++ [⟨#[97]⟩]))).nc)) hlt (by omega)
    have O10 := O9.upto (put6_below (B := W.heap.size) (nb := W.heap.size) (o := 0) (Below.refl _ (w5.setCell ⟨vb, 5, none⟩ (.slice (some ⟨g, 0, none⟩) (hV.ns.length + 1) cc))) (Nat.le_refl _) (.int .i64 ((Hd.mk hV.k hV.m hV.e hV.t (some ⟨g, 0, none⟩) cc (hV.ns ++ [⟨#[97]⟩]))).k) (.int .i64 ((Hd.mk hV.k hV.m hV.e hV.t (some ⟨g, 0, none⟩) cc (hV.ns ++ [⟨#[97]⟩]))).m) (.int .i64 ((Hd.mk hV.k hV.m hV.e hV.t (some ⟨g, 0, none⟩) cc (hV.ns ++ [⟨#[97]⟩]))).e) (.string ((Hd.mk hV.k hV.m hV.e hV.t (some ⟨g, 0, none⟩) cc (hV.ns ++ [⟨#[97]⟩]))).t) (.slice av (F).len c) (.slice ((Hd.mk hV.k hV.m hV.e hV.t (some ⟨g, 0, none⟩) cc (hV.ns ++ [⟨#[97]⟩]))).na (hV.ns.length + 1) ((Hd.mk hV.k hV.m hV.e hV.t (some ⟨g, 0, none⟩) cc (hV.ns ++ [⟨#[97]⟩]))).nc))
    have HS10 : Hid (AnyS W.heap.size 60 (put6 (w5.setCell ⟨vb, 5, none⟩ (.slice (some ⟨g, 0, none⟩) (hV.ns.length + 1) cc)) W.heap.size 0 (.int .i64 ((Hd.mk hV.k hV.m hV.e hV.t (some ⟨g, 0, none⟩) cc (hV.ns ++ [⟨#[97]⟩]))).k) (.int .i64 ((Hd.mk hV.k hV.m hV.e hV.t (some ⟨g, 0, none⟩) cc (hV.ns ++ [⟨#[97]⟩]))).m) (.int .i64 ((Hd.mk hV.k hV.m hV.e hV.t (some ⟨g, 0, none⟩) cc (hV.ns ++ [⟨#[97]⟩]))).e) (.string ((Hd.mk hV.k hV.m hV.e hV.t (some ⟨g, 0, none⟩) cc (hV.ns ++ [⟨#[97]⟩]))).t) (.slice av (F).len c) (.slice ((Hd.mk hV.k hV.m hV.e hV.t (some ⟨g, 0, none⟩) cc (hV.ns ++ [⟨#[97]⟩]))).na (hV.ns.length + 1) ((Hd.mk hV.k hV.m hV.e hV.t (some ⟨g, 0, none⟩) cc (hV.ns ++ [⟨#[97]⟩]))).nc)) ((Hd.mk hV.k hV.m hV.e hV.t (some ⟨g, 0, none⟩) cc (hV.ns ++ [⟨#[97]⟩]))) av c F ∧ Rd w0 B b a len cap _ (put6 (w5.setCell ⟨vb, 5, none⟩ (.slice (some ⟨g, 0, none⟩) (hV.ns.length + 1) cc)) W.heap.size 0 (.int .i64 ((Hd.mk hV.k hV.m hV.e hV.t (some ⟨g, 0, none⟩) cc (hV.ns ++ [⟨#[97]⟩]))).k) (.int .i64 ((Hd.mk hV.k hV.m hV.e hV.t (some ⟨g, 0, none⟩) cc (hV.ns ++ [⟨#[97]⟩]))).m) (.int .i64 ((Hd.mk hV.k hV.m hV.e hV.t (some ⟨g, 0, none⟩) cc (hV.ns ++ [⟨#[97]⟩]))).e) (.string ((Hd.mk hV.k hV.m hV.e hV.t (some ⟨g, 0, none⟩) cc (hV.ns ++ [⟨#[97]⟩]))).t) (.slice av (F).len c) (.slice ((Hd.mk hV.k hV.m hV.e hV.t (some ⟨g, 0, none⟩) cc (hV.ns ++ [⟨#[97]⟩]))).na (hV.ns.length + 1) ((Hd.mk hV.k hV.m hV.e hV.t (some ⟨g, 0, none⟩) cc (hV.ns ++ [⟨#[97]⟩]))).nc)) ∧ Otb b W (put6 (w5.setCell ⟨vb, 5, none⟩ (.slice (some ⟨g, 0, none⟩) (hV.ns.length + 1) cc)) W.heap.size 0 (.int .i64 ((Hd.mk hV.k hV.m hV.e hV.t (some ⟨g, 0, none⟩) cc (hV.ns ++ [⟨#[97]⟩]))).k) (.int .i64 ((Hd.mk hV.k hV.m hV.e hV.t (some ⟨g, 0, none⟩) cc (hV.ns ++ [⟨#[97]⟩]))).m) (.int .i64 ((Hd.mk hV.k hV.m hV.e hV.t (some ⟨g, 0, none⟩) cc (hV.ns ++ [⟨#[97]⟩]))).e) (.string ((Hd.mk hV.k hV.m hV.e hV.t (some ⟨g, 0, none⟩) cc (hV.ns ++ [⟨#[97]⟩]))).t) (.slice av (F).len c) (.slice ((Hd.mk hV.k hV.m hV.e hV.t (some ⟨g, 0, none⟩) cc (hV.ns ++ [⟨#[97]⟩]))).na (hV.ns.length + 1) ((Hd.mk hV.k hV.m hV.e hV.t (some ⟨g, 0, none⟩) cc (hV.ns ++ [⟨#[97]⟩]))).nc))) := ⟨S10, R10, O10⟩
    clear Z9 S9 R9 O9 HO6 S10 R10 O10
    )
    show bodyPost Try.prog Try.f22 _ Exit.ret _ (put6 (w5.setCell ⟨vb, 5, none⟩ (.slice (some ⟨g, 0, none⟩) (hV.ns.length + 1) cc)) W.heap.size 0 (.int .i64 ((Hd.mk hV.k hV.m hV.e hV.t (some ⟨g, 0, none⟩) cc (hV.ns ++ [⟨#[97]⟩]))).k) (.int .i64 ((Hd.mk hV.k hV.m hV.e hV.t (some ⟨g, 0, none⟩) cc (hV.ns ++ [⟨#[97]⟩]))).m) (.int .i64 ((Hd.mk hV.k hV.m hV.e hV.t (some ⟨g, 0, none⟩) cc (hV.ns ++ [⟨#[97]⟩]))).e) (.string ((Hd.mk hV.k hV.m hV.e hV.t (some ⟨g, 0, none⟩) cc (hV.ns ++ [⟨#[97]⟩]))).t) (.slice av (F).len c) (.slice ((Hd.mk hV.k hV.m hV.e hV.t (some ⟨g, 0, none⟩) cc (hV.ns ++ [⟨#[97]⟩]))).na (hV.ns.length + 1) ((Hd.mk hV.k hV.m hV.e hV.t (some ⟨g, 0, none⟩) cc (hV.ns ++ [⟨#[97]⟩]))).nc))
    generalize put6 (w5.setCell ⟨vb, 5, none⟩ (.slice (some ⟨g, 0, none⟩) (hV.ns.length + 1) cc)) W.heap.size 0 (.int .i64 ((Hd.mk hV.k hV.m hV.e hV.t (some ⟨g, 0, none⟩) cc (hV.ns ++ [⟨#[97]⟩]))).k) (.int .i64 ((Hd.mk hV.k hV.m hV.e hV.t (some ⟨g, 0, none⟩) cc (hV.ns ++ [⟨#[97]⟩]))).m) (.int .i64 ((Hd.mk hV.k hV.m hV.e hV.t (some ⟨g, 0, none⟩) cc (hV.ns ++ [⟨#[97]⟩]))).e) (.string ((Hd.mk hV.k hV.m hV.e hV.t (some ⟨g, 0, none⟩) cc (hV.ns ++ [⟨#[97]⟩]))).t) (.slice av (F).len c) (.slice ((Hd.mk hV.k hV.m hV.e hV.t (some ⟨g, 0, none⟩) cc (hV.ns ++ [⟨#[97]⟩]))).na (hV.ns.length + 1) ((Hd.mk hV.k hV.m hV.e hV.t (some ⟨g, 0, none⟩) cc (hV.ns ++ [⟨#[97]⟩]))).nc) = W6 at *
    have y0 := (HP6 0 _ rfl).1
    have y1 := (HP6 1 _ rfl).1
    have y2 := (HP6 2 _ rfl).1
    have y3 := (HP6 3 _ rfl).1
    have y4 := (HP6 4 _ rfl).1
    have y5 := (HP6 5 _ rfl).1
    obtain ⟨z1, z2, z3⟩ := HS10.out
    refine bodyPost_ret (v := valV ((Hd.mk hV.k hV.m hV.e hV.t (some ⟨g, 0, none⟩) cc (hV.ns ++ [⟨#[97]⟩]))) av (F).len c) (by simp [results, Try.results22, go_sem, y0, y1, y2, y3, y4, y5]) rfl (by first | exact ⟨(Hd.mk hV.k hV.m hV.e hV.t (some ⟨g, 0, none⟩) cc (hV.ns ++ [⟨#[97]⟩])), F, av, c, _, rfl, z1, by omega, z2, z3⟩ | exact ⟨(Hd.mk hV.k hV.m hV.e hV.t (some ⟨g, 0, none⟩) cc (hV.ns ++ [⟨#[97]⟩])), F, av, c, rfl, z1, _, by omega, z2, z3⟩)
  · skip
    obtain ⟨t0, f0⟩ := V4 0 _ rfl
    obtain ⟨t1, f1⟩ := V4 1 _ rfl
    obtain ⟨t2, f2⟩ := V4 2 _ rfl
    obtain ⟨t3, f3⟩ := V4 3 _ rfl
    obtain ⟨t4, f4⟩ := V4 4 _ rfl
    obtain ⟨t5, f5⟩ := V4 5 _ rfl
    have Z9 := ((Z4).setOther (j := vb) (by have := HZ2.out; omega) 1 (.int .i64 10)).setOther (j := vb) (by have := HZ2.out; omega) 2 (.int .i64 0)
    have R9 := ((R4).set (j := vb) (o := 1) (by have := HZ2.out; have := R4.base_leU; omega) (by omega) (.int .i64 10)).set (j := vb) (o := 2) (by have := HZ2.out; have := R4.base_leU; omega) (by omega) (.int .i64 0)
    have O9 := ((O4).set (j := vb) (o := 1) (by have := HZ2.out; omega) (.int .i64 10)).set (j := vb) (o := 2) (by have := HZ2.out; omega) (.int .i64 0)
    have S9 := (((S4.any (by omega)).put (o := 1) hbB HFn.out (.int .i64 10)).put (o := 2) hbB HFn.out (.int .i64 0)).head hV.k 10 0 hV.t S4.1.2.2.1 (.inl rfl)
    clear V4 Z4 O4 S4 R4
    obtain ⟨r0, g0⟩ := Z9 0 _ rfl
    obtain ⟨r1, g1⟩ := Z9 1 _ rfl
    obtain ⟨r2, g2⟩ := Z9 2 _ rfl
    obtain ⟨r3, g3⟩ := Z9 3 _ rfl
    obtain ⟨r4, g4⟩ := Z9 4 _ rfl
    obtain ⟨r5, g5⟩ := Z9 5 _ rfl
    have HP6 := Row.put6 (v0 := .int .i64 ((Hd.mk hV.k 10 0 hV.t hV.na hV.nc hV.ns)).k) (v1 := .int .i64 ((Hd.mk hV.k 10 0 hV.t hV.na hV.nc hV.ns)).m) (v2 := .int .i64 ((Hd.mk hV.k 10 0 hV.t hV.na hV.nc hV.ns)).e) (v3 := .string ((Hd.mk hV.k 10 0 hV.t hV.na hV.nc hV.ns)).t) (v4 := .slice av (F).len c) (v5 := .slice ((Hd.mk hV.k 10 0 hV.t hV.na hV.nc hV.ns)).na ((Hd.mk hV.k 10 0 hV.t hV.na hV.nc hV.ns)).ns.length ((Hd.mk hV.k 10 0 hV.t hV.na hV.nc hV.ns)).nc) Z9
    have HO6 := Otr.put6 b (j := W.heap.size) (o := 0) ((w4.setCell ⟨vb, 1, none⟩ (.int .i64 10)).setCell ⟨vb, 2, none⟩ (.int .i64 0)) (.int .i64 ((Hd.mk hV.k 10 0 hV.t hV.na hV.nc hV.ns)).k) (.int .i64 ((Hd.mk hV.k 10 0 hV.t hV.na hV.nc hV.ns)).m) (.int .i64 ((Hd.mk hV.k 10 0 hV.t hV.na hV.nc hV.ns)).e) (.string ((Hd.mk hV.k 10 0 hV.t hV.na hV.nc hV.ns)).t) (.slice av (F).len c) (.slice ((Hd.mk hV.k 10 0 hV.t hV.na hV.nc hV.ns)).na ((Hd.mk hV.k 10 0 hV.t hV.na hV.nc hV.ns)).ns.length ((Hd.mk hV.k 10 0 hV.t hV.na hV.nc hV.ns)).nc)
    have hb9 := R9.base_leU
    have S10 := (S9.otr HO6 hbB (fun g hg => by cases hg; omega)).mono (B1 := W.heap.size) (M' := 60) (by omega) (by omega)
    have R10 := R9.uptoU (put6_below (B := W.heap.size) (nb := W.heap.size) (o := 0) (Below.refl _ ((w4.setCell ⟨vb, 1, none⟩ (.int .i64 10)).setCell ⟨vb, 2, none⟩ (.int .i64 0))) (Nat.le_refl _) (.int .i64 ((Hd.mk hV.k 10 0 hV.t hV.na hV.nc hV.ns)).k) (.int .i64 ((Hd.mk hV.k 10 0 hV.t hV.na hV.nc hV.ns)).m) (.int .i64 ((Hd.mk hV.k 10 0 hV.t hV.na hV.nc hV.ns)).e) (.string ((Hd.mk hV.k 10 0 hV.t hV.na hV.nc hV.ns)).t) (.slice av (F).len c) (.slice ((Hd.mk hV.k 10 0 hV.t hV.na hV.nc hV.ns)).na ((Hd.mk hV.k 10 0 hV.t hV.na hV.nc hV.ns)).ns.length ((Hd.mk hV.k 10 0 hV.t hV.na hV.nc hV.ns)).nc)) hlt (by omega)
    have O10 := O9.upto (put6_below (B := W.heap.size) (nb := W.heap.size) (o := 0) (Below.refl _ ((w4.setCell ⟨vb, 1, none⟩ (.int .i64 10)).setCell ⟨vb, 2, none⟩ (.int .i64 0))) (Nat.le_refl _) (.int .i64 ((Hd.mk hV.k 10 0 hV.t hV.na hV.nc hV.ns)).k) (.int .i64 ((Hd.mk hV.k 10 0 hV.t hV.na hV.nc hV.ns)).m) (.int .i64 ((Hd.mk hV.k 10 0 hV.t hV.na hV.nc hV.ns)).e) (.string ((Hd.mk hV.k 10 0 hV.t hV.na hV.nc hV.ns)).t) (.slice av (F).len c) (.slice ((Hd.mk hV.k 10 0 hV.t hV.na hV.nc hV.ns)).na ((Hd.mk hV.k 10 0 hV.t hV.na hV.nc hV.ns)).ns.length ((Hd.mk hV.k 10 0 hV.t hV.na hV.nc hV.ns)).nc))
    have HS10 : Hid (AnyS W.heap.size 60 (put6 ((w4.setCell ⟨vb, 1, none⟩ (.int .i64 10)).setCell ⟨vb, 2, none⟩ (.int .i64 0)) W.heap.size 0 (.int .i64 ((Hd.mk hV.k 10 0 hV.t hV.na hV.nc hV.ns)).k) (.int .i64 ((Hd.mk hV.k 10 0 hV.t hV.na hV.nc hV.ns)).m) (.int .i64 ((Hd.mk hV.k 10 0 hV.t hV.na hV.nc hV.ns)).e) (.string ((Hd.mk hV.k 10 0 hV.t hV.na hV.nc hV.ns)).t) (.slice av (F).len c) (.slice ((Hd.mk hV.k 10 0 hV.t hV.na hV.nc hV.ns)).na ((Hd.mk hV.k 10 0 hV.t hV.na hV.nc hV.ns)).ns.length ((Hd.mk hV.k 10 0 hV.t hV.na hV.nc hV.ns)).nc)) ((Hd.mk hV.k 10 0 hV.t hV.na hV.nc hV.ns)) av c F ∧ Rd w0 B b a len cap _ (put6 ((w4.setCell ⟨vb, 1, none⟩ (.int .i64 10)).setCell ⟨vb, 2, none⟩ (.int .i64 0)) W.heap.size 0 (.int .i64 ((Hd.mk hV.k 10 0 hV.t hV.na hV.nc hV.ns)).k) (.int .i64 ((Hd.mk hV.k 10 0 hV.t hV.na hV.nc hV.ns)).m) (.int .i64 ((Hd.mk hV.k 10 0 hV.t hV.na hV.nc hV.ns)).e) (.string ((Hd.mk hV.k 10 0 hV.t hV.na hV.nc hV.ns)).t) (.slice av (F).len c) (.slice ((Hd.mk hV.k 10 0 hV.t hV.na hV.nc hV.ns)).na ((Hd.mk hV.k 10 0 hV.t hV.na hV.nc hV.ns)).ns.length ((Hd.mk hV.k 10 0 hV.t hV.na hV.nc hV.ns)).nc)) ∧ Otb b W (put6 ((w4.setCell ⟨vb, 1, none⟩ (.int .i64 10)).setCell ⟨vb, 2, none⟩ (.int .i64 0)) W.heap.size 0 (.int .i64 ((Hd.mk hV.k 10 0 hV.t hV.na hV.nc hV.ns)).k) (.int .i64 ((Hd.mk hV.k 10 0 hV.t hV.na hV.nc hV.ns)).m) (.int .i64 ((Hd.mk hV.k 10 0 hV.t hV.na hV.nc hV.ns)).e) (.string ((Hd.mk hV.k 10 0 hV.t hV.na hV.nc hV.ns)).t) (.slice av (F).len c) (.slice ((Hd.mk hV.k 10 0 hV.t hV.na hV.nc hV.ns)).na ((Hd.mk hV.k 10 0 hV.t hV.na hV.nc hV.ns)).ns.length ((Hd.mk hV.k 10 0 hV.t hV.na hV.nc hV.ns)).nc))) := ⟨S10, R10, O10⟩
    clear Z9 S9 R9 O9 HO6 S10 R10 O10
    go_wp2_with fail
    show bodyPost Try.prog Try.f22 _ Exit.ret _ (put6 ((w4.setCell ⟨vb, 1, none⟩ (.int .i64 10)).setCell ⟨vb, 2, none⟩ (.int .i64 0)) W.heap.size 0 (.int .i64 ((Hd.mk hV.k 10 0 hV.t hV.na hV.nc hV.ns)).k) (.int .i64 ((Hd.mk hV.k 10 0 hV.t hV.na hV.nc hV.ns)).m) (.int .i64 ((Hd.mk hV.k 10 0 hV.t hV.na hV.nc hV.ns)).e) (.string ((Hd.mk hV.k 10 0 hV.t hV.na hV.nc hV.ns)).t) (.slice av (F).len c) (.slice ((Hd.mk hV.k 10 0 hV.t hV.na hV.nc hV.ns)).na ((Hd.mk hV.k 10 0 hV.t hV.na hV.nc hV.ns)).ns.length ((Hd.mk hV.k 10 0 hV.t hV.na hV.nc hV.ns)).nc))
    generalize put6 ((w4.setCell ⟨vb, 1, none⟩ (.int .i64 10)).setCell ⟨vb, 2, none⟩ (.int .i64 0)) W.heap.size 0 (.int .i64 ((Hd.mk hV.k 10 0 hV.t hV.na hV.nc hV.ns)).k) (.int .i64 ((Hd.mk hV.k 10 0 hV.t hV.na hV.nc hV.ns)).m) (.int .i64 ((Hd.mk hV.k 10 0 hV.t hV.na hV.nc hV.ns)).e) (.string ((Hd.mk hV.k 10 0 hV.t hV.na hV.nc hV.ns)).t) (.slice av (F).len c) (.slice ((Hd.mk hV.k 10 0 hV.t hV.na hV.nc hV.ns)).na ((Hd.mk hV.k 10 0 hV.t hV.na hV.nc hV.ns)).ns.length ((Hd.mk hV.k 10 0 hV.t hV.na hV.nc hV.ns)).nc) = W6 at *
    have y0 := (HP6 0 _ rfl).1
    have y1 := (HP6 1 _ rfl).1
    have y2 := (HP6 2 _ rfl).1
    have y3 := (HP6 3 _ rfl).1
    have y4 := (HP6 4 _ rfl).1
    have y5 := (HP6 5 _ rfl).1
    obtain ⟨z1, z2, z3⟩ := HS10.out
    refine bodyPost_ret (v := valV ((Hd.mk hV.k 10 0 hV.t hV.na hV.nc hV.ns)) av (F).len c) (by simp [results, Try.results22, go_sem, y0, y1, y2, y3, y4, y5]) rfl (by first | exact ⟨(Hd.mk hV.k 10 0 hV.t hV.na hV.nc hV.ns), F, av, c, _, rfl, z1, by omega, z2, z3⟩ | exact ⟨(Hd.mk hV.k 10 0 hV.t hV.na hV.nc hV.ns), F, av, c, rfl, z1, _, by omega, z2, z3⟩)
  · skip
    obtain ⟨t0, f0⟩ := V4 0 _ rfl
    obtain ⟨t1, f1⟩ := V4 1 _ rfl
    obtain ⟨t2, f2⟩ := V4 2 _ rfl
    obtain ⟨t3, f3⟩ := V4 3 _ rfl
    obtain ⟨t4, f4⟩ := V4 4 _ rfl
    obtain ⟨t5, f5⟩ := V4 5 _ rfl
    have Z9 := (Z4).setOther (j := vb) (by have := HZ2.out; omega) 3 (.string ⟨#[120]⟩)
    have R9 := (R4).set (j := vb) (o := 3) (by have := HZ2.out; have := R4.base_leU; omega) (by omega) (.string ⟨#[120]⟩)
    have O9 := (O4).set (j := vb) (o := 3) (by have := HZ2.out; omega) (.string ⟨#[120]⟩)
    have S9 := ((S4.any (by omega)).put (o := 3) hbB HFn.out (.string ⟨#[120]⟩)).head hV.k hV.m hV.e ⟨#[120]⟩ (by decide) (.inl rfl)
    clear V4 Z4 O4 S4 R4
    obtain ⟨r0, g0⟩ := Z9 0 _ rfl
    obtain ⟨r1, g1⟩ := Z9 1 _ rfl
    obtain ⟨r2, g2⟩ := Z9 2 _ rfl
    obtain ⟨r3, g3⟩ := Z9 3 _ rfl
    obtain ⟨r4, g4⟩ := Z9 4 _ rfl
    obtain ⟨r5, g5⟩ := Z9 5 _ rfl
    have HP6 := Row.put6 (v0 := .int .i64 ((Hd.mk hV.k hV.m hV.e ⟨#[120]⟩ hV.na hV.nc hV.ns)).k) (v1 := .int .i64 ((Hd.mk hV.k hV.m hV.e ⟨#[120]⟩ hV.na hV.nc hV.ns)).m) (v2 := .int .i64 ((Hd.mk hV.k hV.m hV.e ⟨#[120]⟩ hV.na hV.nc hV.ns)).e) (v3 := .string ((Hd.mk hV.k hV.m hV.e ⟨#[120]⟩ hV.na hV.nc hV.ns)).t) (v4 := .slice av (F).len c) (v5 := .slice ((Hd.mk hV.k hV.m hV.e ⟨#[120]⟩ hV.na hV.nc hV.ns)).na ((Hd.mk hV.k hV.m hV.e ⟨#[120]⟩ hV.na hV.nc hV.ns)).ns.length ((Hd.mk hV.k hV.m hV.e ⟨#[120]⟩ hV.na hV.nc hV.ns)).nc) Z9
    have HO6 := Otr.put6 b (j := W.heap.size) (o := 0) (w4.setCell ⟨vb, 3, none⟩ (.string ⟨#[120]⟩)) (.int .i64 ((Hd.mk hV.k hV.m hV.e ⟨#[120]⟩ hV.na hV.nc hV.ns)).k) (.int .i64 ((Hd.mk hV.k hV.m hV.e ⟨#[120]⟩ hV.na hV.nc hV.ns)).m) (.int .i64 ((Hd.mk hV.k hV.m hV.e ⟨#[120]⟩ hV.na hV.nc hV.ns)).e) (.string ((Hd.mk hV.k hV.m hV.e ⟨#[120]⟩ hV.na hV.nc hV.ns)).t) (.slice av (F).len c) (.slice ((Hd.mk hV.k hV.m hV.e ⟨#[120]⟩ hV.na hV.nc hV.ns)).na ((Hd.mk hV.k hV.m hV.e ⟨#[120]⟩ hV.na hV.nc hV.ns)).ns.length ((Hd.mk hV.k hV.m hV.e ⟨#[120]⟩ hV.na hV.nc hV.ns)).nc)
    have hb9 := R9.base_leU
    have S10 := (S9.otr HO6 hbB (fun g hg => by cases hg; omega)).mono (B1 := W.heap.size) (M' := 60) (by omega) (by omega)
    have R10 := R9.uptoU (put6_below (B := W.heap.size) (nb := W.heap.size) (o := 0) (Below.refl _ (w4.setCell ⟨vb, 3, none⟩ (.string ⟨#[120]⟩))) (Nat.le_refl _) (.int .i64 ((Hd.mk hV.k hV.m hV.e ⟨#[120]⟩ hV.na hV.nc hV.ns)).k) (.int .i64 ((Hd.mk hV.k hV.m hV.e ⟨#[120]⟩ hV.na hV.nc hV.ns)).m) (.int .i64 ((Hd.mk hV.k hV.m hV.e ⟨#[120]⟩ hV.na hV.nc hV.ns)).e) (.string ((Hd.mk hV.k hV.m hV.e ⟨#[120]⟩ hV.na hV.nc hV.ns)).t) (.slice av (F).len c) (.slice ((Hd.mk hV.k hV.m hV.e ⟨#[120]⟩ hV.na hV.nc hV.ns)).na ((Hd.mk hV.k hV.m hV.e ⟨#[120]⟩ hV.na hV.nc hV.ns)).ns.length ((Hd.mk hV.k hV.m hV.e ⟨#[120]⟩ hV.na hV.nc hV.ns)).nc)) hlt (by omega)
    have O10 := O9.upto (put6_below (B := W.heap.size) (nb := W.heap.size) (o := 0) (Below.refl _ (w4.setCell ⟨vb, 3, none⟩ (.string ⟨#[120]⟩))) (Nat.le_refl _) (.int .i64 ((Hd.mk hV.k hV.m hV.e ⟨#[120]⟩ hV.na hV.nc hV.ns)).k) (.int .i64 ((Hd.mk hV.k hV.m hV.e ⟨#[120]⟩ hV.na hV.nc hV.ns)).m) (.int .i64 ((Hd.mk hV.k hV.m hV.e ⟨#[120]⟩ hV.na hV.nc hV.ns)).e) (.string ((Hd.mk hV.k hV.m hV.e ⟨#[120]⟩ hV.na hV.nc hV.ns)).t) (.slice av (F).len c) (.slice ((Hd.mk hV.k hV.m hV.e ⟨#[120]⟩ hV.na hV.nc hV.ns)).na ((Hd.mk hV.k hV.m hV.e ⟨#[120]⟩ hV.na hV.nc hV.ns)).ns.length ((Hd.mk hV.k hV.m hV.e ⟨#[120]⟩ hV.na hV.nc hV.ns)).nc))
    have HS10 : Hid (AnyS W.heap.size 60 (put6 (w4.setCell ⟨vb, 3, none⟩ (.string ⟨#[120]⟩)) W.heap.size 0 (.int .i64 ((Hd.mk hV.k hV.m hV.e ⟨#[120]⟩ hV.na hV.nc hV.ns)).k) (.int .i64 ((Hd.mk hV.k hV.m hV.e ⟨#[120]⟩ hV.na hV.nc hV.ns)).m) (.int .i64 ((Hd.mk hV.k hV.m hV.e ⟨#[120]⟩ hV.na hV.nc hV.ns)).e) (.string ((Hd.mk hV.k hV.m hV.e ⟨#[120]⟩ hV.na hV.nc hV.ns)).t) (.slice av (F).len c) (.slice ((Hd.mk hV.k hV.m hV.e ⟨#[120]⟩ hV.na hV.nc hV.ns)).na ((Hd.mk hV.k hV.m hV.e ⟨#[120]⟩ hV.na hV.nc hV.ns)).ns.length ((Hd.mk hV.k hV.m hV.e ⟨#[120]⟩ hV.na hV.nc hV.ns)).nc)) ((Hd.mk hV.k hV.m hV.e ⟨#[120]⟩ hV.na hV.nc hV.ns)) av c F ∧ Rd w0 B b a len cap _ (put6 (w4.setCell ⟨vb, 3, none⟩ (.string ⟨#[120]⟩)) W.heap.size 0 (.int .i64 ((Hd.mk hV.k hV.m hV.e ⟨#[120]⟩ hV.na hV.nc hV.ns)).k) (.int .i64 ((Hd.mk hV.k hV.m hV.e ⟨#[120]⟩ hV.na hV.nc hV.ns)).m) (.int .i64 ((Hd.mk hV.k hV.m hV.e ⟨#[120]⟩ hV.na hV.nc hV.ns)).e) (.string ((Hd.mk hV.k hV.m hV.e ⟨#[120]⟩ hV.na hV.nc hV.ns)).t) (.slice av (F).len c) (.slice ((Hd.mk hV.k hV.m hV.e ⟨#[120]⟩ hV.na hV.nc hV.ns)).na ((Hd.mk hV.k hV.m hV.e ⟨#[120]⟩ hV.na hV.nc hV.ns)).ns.length ((Hd.mk hV.k hV.m hV.e ⟨#[120]⟩ hV.na hV.nc hV.ns)).nc)) ∧ Otb b W (put6 (w4.setCell ⟨vb, 3, none⟩ (.string ⟨#[120]⟩)) W.heap.size 0 (.int .i64 ((Hd.mk hV.k hV.m hV.e ⟨#[120]⟩ hV.na hV.nc hV.ns)).k) (.int .i64 ((Hd.mk hV.k hV.m hV.e ⟨#[120]⟩ hV.na hV.nc hV.ns)).m) (.int .i64 ((Hd.mk hV.k hV.m hV.e ⟨#[120]⟩ hV.na hV.nc hV.ns)).e) (.string ((Hd.mk hV.k hV.m hV.e ⟨#[120]⟩ hV.na hV.nc hV.ns)).t) (.slice av (F).len c) (.slice ((Hd.mk hV.k hV.m hV.e ⟨#[120]⟩ hV.na hV.nc hV.ns)).na ((Hd.mk hV.k hV.m hV.e ⟨#[120]⟩ hV.na hV.nc hV.ns)).ns.length ((Hd.mk hV.k hV.m hV.e ⟨#[120]⟩ hV.na hV.nc hV.ns)).nc))) := ⟨S10, R10, O10⟩
    clear Z9 S9 R9 O9 HO6 S10 R10 O10
    go_wp2_with fail
    show bodyPost Try.prog Try.f22 _ Exit.ret _ (put6 (w4.setCell ⟨vb, 3, none⟩ (.string ⟨#[120]⟩)) W.heap.size 0 (.int .i64 ((Hd.mk hV.k hV.m hV.e ⟨#[120]⟩ hV.na hV.nc hV.ns)).k) (.int .i64 ((Hd.mk hV.k hV.m hV.e ⟨#[120]⟩ hV.na hV.nc hV.ns)).m) (.int .i64 ((Hd.mk hV.k hV.m hV.e ⟨#[120]⟩ hV.na hV.nc hV.ns)).e) (.string ((Hd.mk hV.k hV.m hV.e ⟨#[120]⟩ hV.na hV.nc hV.ns)).t) (.slice av (F).len c) (.slice ((Hd.mk hV.k hV.m hV.e ⟨#[120]⟩ hV.na hV.nc hV.ns)).na ((Hd.mk hV.k hV.m hV.e ⟨#[120]⟩ hV.na hV.nc hV.ns)).ns.length ((Hd.mk hV.k hV.m hV.e ⟨#[120]⟩ hV.na hV.nc hV.ns)).nc))
    generalize put6 (w4.setCell ⟨vb, 3, none⟩ (.string ⟨#[120]⟩)) W.heap.size 0 (.int .i64 ((Hd.mk hV.k hV.m hV.e ⟨#[120]⟩ hV.na hV.nc hV.ns)).k) (.int .i64 ((Hd.mk hV.k hV.m hV.e ⟨#[120]⟩ hV.na hV.nc hV.ns)).m) (.int .i64 ((Hd.mk hV.k hV.m hV.e ⟨#[120]⟩ hV.na hV.nc hV.ns)).e) (.string ((Hd.mk hV.k hV.m hV.e ⟨#[120]⟩ hV.na hV.nc hV.ns)).t) (.slice av (F).len c) (.slice ((Hd.mk hV.k hV.m hV.e ⟨#[120]⟩ hV.na hV.nc hV.ns)).na ((Hd.mk hV.k hV.m hV.e ⟨#[120]⟩ hV.na hV.nc hV.ns)).ns.length ((Hd.mk hV.k hV.m hV.e ⟨#[120]⟩ hV.na hV.nc hV.ns)).nc) = W6 at *
    have y0 := (HP6 0 _ rfl).1
    have y1 := (HP6 1 _ rfl).1
    have y2 := (HP6 2 _ rfl).1
    have y3 := (HP6 3 _ rfl).1
    have y4 := (HP6 4 _ rfl).1
    have y5 := (HP6 5 _ rfl).1
    obtain ⟨z1, z2, z3⟩ := HS10.out
    refine bodyPost_ret (v := valV ((Hd.mk hV.k hV.m hV.e ⟨#[120]⟩ hV.na hV.nc hV.ns)) av (F).len c) (by simp [results, Try.results22, go_sem, y0, y1, y2, y3, y4, y5]) rfl (by first | exact ⟨(Hd.mk hV.k hV.m hV.e ⟨#[120]⟩ hV.na hV.nc hV.ns), F, av, c, _, rfl, z1, by omega, z2, z3⟩ | exact ⟨(Hd.mk hV.k hV.m hV.e ⟨#[120]⟩ hV.na hV.nc hV.ns), F, av, c, rfl, z1, _, by omega, z2, z3⟩)
  · go_wp2_with fail
    have S5 := S4.any (by omega)
    go_loopw [4] (fun i wr => ∃ (n : Nat) (hh : Hd) (FF : Vo) (aa : Option Addr) (cc : Nat), i = .int .i64 n ∧ n ≤ 20 ∧ (Row wr vb (six hh aa FF.len cc) ∧ Row wr W.heap.size zero6 ∧ AnyS (W.heap.size + 1) (39 + n) wr hh aa cc FF ∧ (oneV hh aa cc FF).Blk (fun x => ¬ x = vb) ∧ Rd w0 B b a len cap (p2 + 1) wr ∧ Otb b W wr ∧ vb < wr.heap.size)) (fun i _ => 20 - (intOf i).toNat)
    case atStart => exact ⟨0, hV, F, av, c, rfl, by omega, V4, Z4, S5, HFn.out, R4, O4, hz4⟩
    case round =>
      clear V4 Z4 S4 S5 R4 O4 hz4
      obtain ⟨n, hh, FF, aa, cc, rfl, hn, V4, Z4, S4, hFf, R4, O4, hz4⟩ := hrel
      have HF5 : Hid ((oneV hh aa cc FF).Blk (fun x => ¬ x = vb)) := hFf
      clear hFf
      by_cases hlt20 : (n : Int) < 20
      · have hn20 : n < 20 := by omega
        obtain ⟨t0, f0⟩ := V4 0 _ rfl
        obtain ⟨t1, f1⟩ := V4 1 _ rfl
        obtain ⟨t2, f2⟩ := V4 2 _ rfl
        obtain ⟨t3, f3⟩ := V4 3 _ rfl
        obtain ⟨t4, f4⟩ := V4 4 _ rfl
        obtain ⟨t5, f5⟩ := V4 5 _ rfl
        have hbp : Below W.heap.size wr (put6 wr vb 0 (.int .i64 5) (.int .i64 0) (.int .i64 0) (.string ⟨#[]⟩) (.slice (some ⟨wr.heap.size, 0, none⟩) 1 1) (.slice none 0 0)) := put6_below (Below.refl _ _) (by have := HZ2.out; omega) _ _ _ _ _ _
        have hba : Below (put6 wr vb 0 (.int .i64 5) (.int .i64 0) (.int .i64 0) (.string ⟨#[]⟩) (.slice (some ⟨wr.heap.size, 0, none⟩) 1 1) (.slice none 0 0)).heap.size (put6 wr vb 0 (.int .i64 5) (.int .i64 0) (.int .i64 0) (.string ⟨#[]⟩) (.slice (some ⟨wr.heap.size, 0, none⟩) 1 1) (.slice none 0 0)) ((put6 wr vb 0 (.int .i64 5) (.int .i64 0) (.int .i64 0) (.string ⟨#[]⟩) (.slice (some ⟨wr.heap.size, 0, none⟩) 1 1) (.slice none 0 0)).alloc (.cells #[.int .i64 hh.k, .int .i64 hh.m, .int .i64 hh.e, .string hh.t, .slice aa FF.len cc, .slice hh.na hh.ns.length hh.nc] 28)) := (Below.refl _ _).alloc (Nat.le_refl _) _
        have hPo := Otr.put6 b (j := vb) (o := 0) wr (.int .i64 5) (.int .i64 0) (.int .i64 0) (.string ⟨#[]⟩) (.slice (some ⟨wr.heap.size, 0, none⟩) 1 1) (.slice none 0 0)
        have hsz6 : (put6 wr vb 0 (.int .i64 5) (.int .i64 0) (.int .i64 0) (.string ⟨#[]⟩) (.slice (some ⟨wr.heap.size, 0, none⟩) 1 1) (.slice none 0 0)).heap.size = wr.heap.size := put6_size
        have V6 : Row ((put6 wr vb 0 (.int .i64 5) (.int .i64 0) (.int .i64 0) (.string ⟨#[]⟩) (.slice (some ⟨wr.heap.size, 0, none⟩) 1 1) (.slice none 0 0)).alloc (.cells #[.int .i64 hh.k, .int .i64 hh.m, .int .i64 hh.e, .string hh.t, .slice aa FF.len cc, .slice hh.na hh.ns.length hh.nc] 28)) vb (six (hdK 5) (some ⟨wr.heap.size, 0, none⟩) 1 1) := (Row.put6 V4).below hba (by rw [hsz6]; exact hz4)
        have Z6 : Row ((put6 wr vb 0 (.int .i64 5) (.int .i64 0) (.int .i64 0) (.string ⟨#[]⟩) (.slice (some ⟨wr.heap.size, 0, none⟩) 1 1) (.slice none 0 0)).alloc (.cells #[.int .i64 hh.k, .int .i64 hh.m, .int .i64 hh.e, .string hh.t, .slice aa FF.len cc, .slice hh.na hh.ns.length hh.nc] 28)) W.heap.size zero6 := (hPo.row hne (fun e => by have := Option.some.inj e; have := HZ2.out; omega) Z4).below hba (by rw [hsz6]; have := HZ2.out; omega)
        have S6 := S4.otr2 hPo hbB (blk_ne HF5.out)
        have hcs : ((put6 wr vb 0 (.int .i64 5) (.int .i64 0) (.int .i64 0) (.string ⟨#[]⟩) (.slice (some ⟨wr.heap.size, 0, none⟩) 1 1) (.slice none 0 0)).alloc (.cells #[.int .i64 hh.k, .int .i64 hh.m, .int .i64 hh.e, .string hh.t, .slice aa FF.len cc, .slice hh.na hh.ns.length hh.nc] 28)).heap[wr.heap.size]? = some (.cells (six hh aa FF.len cc).toArray 28 (0, 0)) := by have e := heap_alloc_new (put6 wr vb 0 (.int .i64 5) (.int .i64 0) (.int .i64 0) (.string ⟨#[]⟩) (.slice (some ⟨wr.heap.size, 0, none⟩) 1 1) (.slice none 0 0)) (.cells #[.int .i64 hh.k, .int .i64 hh.m, .int .i64 hh.e, .string hh.t, .slice aa FF.len cc, .slice hh.na hh.ns.length hh.nc] 28); rw [hsz6] at e; exact e
        have S7 := S6.wrap hba (by have := HZ2.out; omega) _ hcs
        have F7 : (oneV (hdK 5) (some (⟨wr.heap.size, 0, none⟩ : Addr)) 1 (oneV hh aa cc FF)).Blk (fun x => ¬ x = vb) := ⟨.inl rfl, .inr ⟨_, 0, rfl, by omega⟩, HF5.out, trivial⟩
        have R6 := (R4.uptoU hbp hlt (by have := R4.base_leU; omega)).below hba
        have O6 := (O4.upto hbp).below hba
        have hz6 : vb < ((put6 wr vb 0 (.int .i64 5) (.int .i64 0) (.int .i64 0) (.string ⟨#[]⟩) (.slice (some ⟨wr.heap.size, 0, none⟩) 1 1) (.slice none 0 0)).alloc (.cells #[.int .i64 hh.k, .int .i64 hh.m, .int .i64 hh.e, .string hh.t, .slice aa FF.len cc, .slice hh.na hh.ns.length hh.nc] 28)).heap.size := Nat.lt_of_lt_of_le (by rw [hsz6]; exact hz4) hba.size
        have HN : Hid (Row ((put6 wr vb 0 (.int .i64 5) (.int .i64 0) (.int .i64 0) (.string ⟨#[]⟩) (.slice (some ⟨wr.heap.size, 0, none⟩) 1 1) (.slice none 0 0)).alloc (.cells #[.int .i64 hh.k, .int .i64 hh.m, .int .i64 hh.e, .string hh.t, .slice aa FF.len cc, .slice hh.na hh.ns.length hh.nc] 28)) vb (six (hdK 5) (some ⟨wr.heap.size, 0, none⟩) (oneV hh aa cc FF).len 1) ∧ Row ((put6 wr vb 0 (.int .i64 5) (.int .i64 0) (.int .i64 0) (.string ⟨#[]⟩) (.slice (some ⟨wr.heap.size, 0, none⟩) 1 1) (.slice none 0 0)).alloc (.cells #[.int .i64 hh.k, .int .i64 hh.m, .int .i64 hh.e, .string hh.t, .slice aa FF.len cc, .slice hh.na hh.ns.length hh.nc] 28)) W.heap.size zero6 ∧ AnyS (W.heap.size + 1) (39 + n + 1) ((put6 wr vb 0 (.int .i64 5) (.int .i64 0) (.int .i64 0) (.string ⟨#[]⟩) (.slice (some ⟨wr.heap.size, 0, none⟩) 1 1) (.slice none 0 0)).alloc (.cells #[.int .i64 hh.k, .int .i64 hh.m, .int .i64 hh.e, .string hh.t, .slice aa FF.len cc, .slice hh.na hh.ns.length hh.nc] 28)) (hdK 5) (some ⟨wr.heap.size, 0, none⟩) 1 (oneV hh aa cc FF) ∧ (oneV (hdK 5) (some (⟨wr.heap.size, 0, none⟩ : Addr)) 1 (oneV hh aa cc FF)).Blk (fun x => ¬ x = vb) ∧ Rd w0 B b a len cap (p2 + 1) ((put6 wr vb 0 (.int .i64 5) (.int .i64 0) (.int .i64 0) (.string ⟨#[]⟩) (.slice (some ⟨wr.heap.size, 0, none⟩) 1 1) (.slice none 0 0)).alloc (.cells #[.int .i64 hh.k, .int .i64 hh.m, .int .i64 hh.e, .string hh.t, .slice aa FF.len cc, .slice hh.na hh.ns.length hh.nc] 28)) ∧ Otb b W ((put6 wr vb 0 (.int .i64 5) (.int .i64 0) (.int .i64 0) (.string ⟨#[]⟩) (.slice (some ⟨wr.heap.size, 0, none⟩) 1 1) (.slice none 0 0)).alloc (.cells #[.int .i64 hh.k, .int .i64 hh.m, .int .i64 hh.e, .string hh.t, .slice aa FF.len cc, .slice hh.na hh.ns.length hh.nc] 28)) ∧ vb < ((put6 wr vb 0 (.int .i64 5) (.int .i64 0) (.int .i64 0) (.string ⟨#[]⟩) (.slice (some ⟨wr.heap.size, 0, none⟩) 1 1) (.slice none 0 0)).alloc (.cells #[.int .i64 hh.k, .int .i64 hh.m, .int .i64 hh.e, .string hh.t, .slice aa FF.len cc, .slice hh.na hh.ns.length hh.nc] 28)).heap.size) := ⟨V6, Z6, S7, F7, R6, O6, hz6⟩
        clear V4 Z4 S4 R4 O4 hbp hba hPo hsz6 V6 Z6 S6 hcs S7 F7 R6 O6 hz6
        go_wp2_with fail
        refine ⟨?_, ?_⟩
        · obtain ⟨n1, n2, n3, n4, n5, n6, n7⟩ := HN.out
          exact ⟨n + 1, hdK 5, oneV hh aa cc FF, some ⟨wr.heap.size, 0, none⟩, 1, rfl, by omega, n1, n2, n3, n4, n5, n6, n7⟩
        · simp [intOf]; omega
      · have hn20 : n = 20 := by omega
        obtain ⟨t0, f0⟩ := V4 0 _ rfl
        obtain ⟨t1, f1⟩ := V4 1 _ rfl
        obtain ⟨t2, f2⟩ := V4 2 _ rfl
        obtain ⟨t3, f3⟩ := V4 3 _ rfl
        obtain ⟨t4, f4⟩ := V4 4 _ rfl
        obtain ⟨t5, f5⟩ := V4 5 _ rfl
        have Z9 := Z4
        have R9 := R4
        have O9 := O4
        have S9 := S4.mono (Nat.le_refl _) (show 39 + n ≤ 59 by omega)
        clear V4 Z4 O4 S4 R4 hn hn20 HF5
        obtain ⟨r0, g0⟩ := Z9 0 _ rfl
        obtain ⟨r1, g1⟩ := Z9 1 _ rfl
        obtain ⟨r2, g2⟩ := Z9 2 _ rfl
        obtain ⟨r3, g3⟩ := Z9 3 _ rfl
        obtain ⟨r4, g4⟩ := Z9 4 _ rfl
        obtain ⟨r5, g5⟩ := Z9 5 _ rfl
        have HP6 := Row.put6 (v0 := .int .i64 (hh).k) (v1 := .int .i64 (hh).m) (v2 := .int .i64 (hh).e) (v3 := .string (hh).t) (v4 := .slice aa (FF).len cc) (v5 := .slice (hh).na (hh).ns.length (hh).nc) Z9
        have HO6 := Otr.put6 b (j := W.heap.size) (o := 0) wr (.int .i64 (hh).k) (.int .i64 (hh).m) (.int .i64 (hh).e) (.string (hh).t) (.slice aa (FF).len cc) (.slice (hh).na (hh).ns.length (hh).nc)
        have hb9 := R9.base_leU
        have S10 := (S9.otr HO6 hbB (fun g hg => by cases hg; omega)).mono (B1 := W.heap.size) (M' := 60) (by omega) (by omega)
        have R10 := R9.uptoU (put6_below (B := W.heap.size) (nb := W.heap.size) (o := 0) (Below.refl _ wr) (Nat.le_refl _) (.int .i64 (hh).k) (.int .i64 (hh).m) (.int .i64 (hh).e) (.string (hh).t) (.slice aa (FF).len cc) (.slice (hh).na (hh).ns.length (hh).nc)) hlt (by omega)
        have O10 := O9.upto (put6_below (B := W.heap.size) (nb := W.heap.size) (o := 0) (Below.refl _ wr) (Nat.le_refl _) (.int .i64 (hh).k) (.int .i64 (hh).m) (.int .i64 (hh).e) (.string (hh).t) (.slice aa (FF).len cc) (.slice (hh).na (hh).ns.length (hh).nc))
        have HS10 : Hid (AnyS W.heap.size 60 (put6 wr W.heap.size 0 (.int .i64 (hh).k) (.int .i64 (hh).m) (.int .i64 (hh).e) (.string (hh).t) (.slice aa (FF).len cc) (.slice (hh).na (hh).ns.length (hh).nc)) (hh) aa cc FF ∧ Rd w0 B b a len cap _ (put6 wr W.heap.size 0 (.int .i64 (hh).k) (.int .i64 (hh).m) (.int .i64 (hh).e) (.string (hh).t) (.slice aa (FF).len cc) (.slice (hh).na (hh).ns.length (hh).nc)) ∧ Otb b W (put6 wr W.heap.size 0 (.int .i64 (hh).k) (.int .i64 (hh).m) (.int .i64 (hh).e) (.string (hh).t) (.slice aa (FF).len cc) (.slice (hh).na (hh).ns.length (hh).nc))) := ⟨S10, R10, O10⟩
        clear Z9 S9 R9 O9 HO6 S10 R10 O10
        go_wp2_with fail
        show bodyPost Try.prog Try.f22 _ Exit.ret _ (put6 wr W.heap.size 0 (.int .i64 (hh).k) (.int .i64 (hh).m) (.int .i64 (hh).e) (.string (hh).t) (.slice aa (FF).len cc) (.slice (hh).na (hh).ns.length (hh).nc))
        generalize put6 wr W.heap.size 0 (.int .i64 (hh).k) (.int .i64 (hh).m) (.int .i64 (hh).e) (.string (hh).t) (.slice aa (FF).len cc) (.slice (hh).na (hh).ns.length (hh).nc) = W6 at *
        have y0 := (HP6 0 _ rfl).1
        have y1 := (HP6 1 _ rfl).1
        have y2 := (HP6 2 _ rfl).1
        have y3 := (HP6 3 _ rfl).1
        have y4 := (HP6 4 _ rfl).1
        have y5 := (HP6 5 _ rfl).1
        obtain ⟨z1, z2, z3⟩ := HS10.out
        refine bodyPost_ret (v := valV (hh) aa (FF).len cc) (by simp [results, Try.results22, go_sem, y0, y1, y2, y3, y4, y5]) rfl (by first | exact ⟨hh, FF, aa, cc, _, rfl, z1, by omega, z2, z3⟩ | exact ⟨hh, FF, aa, cc, rfl, z1, _, by omega, z2, z3⟩)
  · have q0 : (v == 0) = false := by simp; omega
    have q1 : (v == 1) = false := by simp; omega
    have q2 : (v == 2) = false := by simp; omega
    have q3 : (v == 3) = false := by simp; omega
    have q4 : (v == 4) = false := by simp; omega
    obtain ⟨t0, f0⟩ := V4 0 _ rfl
    obtain ⟨t1, f1⟩ := V4 1 _ rfl
    obtain ⟨t2, f2⟩ := V4 2 _ rfl
    obtain ⟨t3, f3⟩ := V4 3 _ rfl
    obtain ⟨t4, f4⟩ := V4 4 _ rfl
    obtain ⟨t5, f5⟩ := V4 5 _ rfl
    have Z9 := Z4
    have R9 := R4
    have O9 := O4
    have S9 := S4.any (by omega)
    clear V4 Z4 O4 S4 R4 v0 v1 hv
    obtain ⟨r0, g0⟩ := Z9 0 _ rfl
    obtain ⟨r1, g1⟩ := Z9 1 _ rfl
    obtain ⟨r2, g2⟩ := Z9 2 _ rfl
    obtain ⟨r3, g3⟩ := Z9 3 _ rfl
    obtain ⟨r4, g4⟩ := Z9 4 _ rfl
    obtain ⟨r5, g5⟩ := Z9 5 _ rfl
    have HP6 := Row.put6 (v0 := .int .i64 (hV).k) (v1 := .int .i64 (hV).m) (v2 := .int .i64 (hV).e) (v3 := .string (hV).t) (v4 := .slice av (F).len c) (v5 := .slice (hV).na (hV).ns.length (hV).nc) Z9
    have HO6 := Otr.put6 b (j := W.heap.size) (o := 0) w4 (.int .i64 (hV).k) (.int .i64 (hV).m) (.int .i64 (hV).e) (.string (hV).t) (.slice av (F).len c) (.slice (hV).na (hV).ns.length (hV).nc)
    have hb9 := R9.base_leU
    have S10 := (S9.otr HO6 hbB (fun g hg => by cases hg; omega)).mono (B1 := W.heap.size) (M' := 60) (by omega) (by omega)
    have R10 := R9.uptoU (put6_below (B := W.heap.size) (nb := W.heap.size) (o := 0) (Below.refl _ w4) (Nat.le_refl _) (.int .i64 (hV).k) (.int .i64 (hV).m) (.int .i64 (hV).e) (.string (hV).t) (.slice av (F).len c) (.slice (hV).na (hV).ns.length (hV).nc)) hlt (by omega)
    have O10 := O9.upto (put6_below (B := W.heap.size) (nb := W.heap.size) (o := 0) (Below.refl _ w4) (Nat.le_refl _) (.int .i64 (hV).k) (.int .i64 (hV).m) (.int .i64 (hV).e) (.string (hV).t) (.slice av (F).len c) (.slice (hV).na (hV).ns.length (hV).nc))
    have HS10 : Hid (AnyS W.heap.size 60 (put6 w4 W.heap.size 0 (.int .i64 (hV).k) (.int .i64 (hV).m) (.int .i64 (hV).e) (.string (hV).t) (.slice av (F).len c) (.slice (hV).na (hV).ns.length (hV).nc)) (hV) av c F ∧ Rd w0 B b a len cap _ (put6 w4 W.heap.size 0 (.int .i64 (hV).k) (.int .i64 (hV).m) (.int .i64 (hV).e) (.string (hV).t) (.slice av (F).len c) (.slice (hV).na (hV).ns.length (hV).nc)) ∧ Otb b W (put6 w4 W.heap.size 0 (.int .i64 (hV).k) (.int .i64 (hV).m) (.int .i64 (hV).e) (.string (hV).t) (.slice av (F).len c) (.slice (hV).na (hV).ns.length (hV).nc))) := ⟨S10, R10, O10⟩
    clear Z9 S9 R9 O9 HO6 S10 R10 O10
    go_wp2_with fail
    show bodyPost Try.prog Try.f22 _ Exit.ret _ (put6 w4 W.heap.size 0 (.int .i64 (hV).k) (.int .i64 (hV).m) (.int .i64 (hV).e) (.string (hV).t) (.slice av (F).len c) (.slice (hV).na (hV).ns.length (hV).nc))
    generalize put6 w4 W.heap.size 0 (.int .i64 (hV).k) (.int .i64 (hV).m) (.int .i64 (hV).e) (.string (hV).t) (.slice av (F).len c) (.slice (hV).na (hV).ns.length (hV).nc) = W6 at *
    have y0 := (HP6 0 _ rfl).1
    have y1 := (HP6 1 _ rfl).1
    have y2 := (HP6 2 _ rfl).1
    have y3 := (HP6 3 _ rfl).1
    have y4 := (HP6 4 _ rfl).1
    have y5 := (HP6 5 _ rfl).1
    obtain ⟨z1, z2, z3⟩ := HS10.out
    refine bodyPost_ret (v := valV (hV) av (F).len c) (by simp [results, Try.results22, go_sem, y0, y1, y2, y3, y4, y5]) rfl (by first | exact ⟨hV, F, av, c, _, rfl, z1, by omega, z2, z3⟩ | exact ⟨hV, F, av, c, rfl, z1, _, by omega, z2, z3⟩)
end Go.Proofs.Ytalncebnahlmdaa
/- Drawn values: l14Near's regions that write an item in its place. -/
namespace Go.Proofs.Ytalncebnahlmdaa
open Go.RowKit
/-- what l14Near answers -/
def NearC (N : Nat) : Prop := ∀ (w0 : World) (B b : Nat) (a : Option Addr) (len cap : Nat) (p : Int) (W : World) (h : Hd) (av : Option Addr) (c : Nat) (F : Vo), F.size < N → F.size ≤ 100 → fw h F → F.wt ≤ 6000 → h.ns.length ≤ 4 → h.t.size ≤ 7 → (∀ s ∈ h.ns, s.size ≤ 10) → Rd w0 B b a len cap p W → p + 450 * ((F.size + 1 : Nat) : Int) ≤ 70000 → F.In W av → F.len ≤ c → c ≤ maxLen → h.In W →
  Calls Try.prog 36 #[.pointer (some ⟨b, 0, none⟩), valV h av F.len c] W fun e w' => ∃ h' F' a' c' p', e = .returned (valV h' a' F'.len c') ∧ (AnyS W.heap.size 1000 w' h' a' c' F' ∧ F'.size ≤ F.size + 13 ∧ F'.wt ≤ F.wt + 60 * (F.size + 13)) ∧ p' ≤ p + 450 * ((F.size + 1 : Nat) : Int) ∧ Rd w0 B b a len cap p' w' ∧ Otb b W w'
theorem own_cells {w : World} {base g n c : Nat} {e : TypeId} {xs : List Value} (h : w.ownsRow base e 6 (.slice (some ⟨g, 0, none⟩) n c) n xs) {k : Nat} (hk : k < n) {q : Nat} (hq : q < 6) : (∃ u, w.cell? ⟨g, k * 6 + q, none⟩ = some u) ∧ w.frozen? ⟨g, k * 6 + q, none⟩ = false := by
  have hl := h.1
  have hj : k * 6 + q < n * 6 := by omega
  exact ⟨⟨xs[k * 6 + q]'(by omega), by rw [h.cellAt _ hj]; exact List.getElem?_eq_getElem (by omega)⟩, h.frozenAt _⟩
set_option maxRecDepth 100000 in
set_option maxHeartbeats 2000000 in
theorem un10 {Q : Exit → Act → World → Prop} {t1 t2 t3 t4 t7 t8 t9 t10 t11 t12 t13 t14 t15 t16 t17 t18 t19 t20 t21 t22 t23 t24 t25 t26 t27 t28 t29 t30 t31 t32 t33 t34 t35 t36 t37 t38 t39 t40 t41 t42 t43 t44 t45 t46 t47 t48 t49 t50 t51 t52 t53 t54 t55 t56 t57 t58 t59 t60 t61 t62 t63 t64 t65 t66 t67 t68 t69 t70 t71 t72 t73 t74 t75 t76 : Value} {w0 : World} {B b : Nat} {a : Option Addr} {len cap : Nat} {p : Int} {W : World} {xb g k n c B0 : Nat} {xs : List Value}
    (hR : Rd w0 B b a len cap p W) (hxb : ¬ xb = b) (hgx : ¬ g = xb) (hbB : b < B0) (hv : W.cell? ⟨xb, 4, none⟩ = some (.slice (some ⟨g, 0, none⟩) n c)) (hk : k < n) (hown : W.ownsRow B0 28 6 (.slice (some ⟨g, 0, none⟩) n c) n xs) (hq : p ≤ 70000)
    (hp : ∀ p d v a w, Q (.panic p) (Act.put a d v) w → Q (.panic p) a w) (h : ∀ ws h1 ag cg G p' v39 v40 v41 v42 v43 v44, Otb b W ws → Rd w0 B b a len cap p' ws → p' ≤ p + 132 → ValS W.heap.size 3 3 ws h1 ag cg G → Q .normal { tmps := (.pointer (some ⟨b, 0, none⟩) :: t1 :: t2 :: t3 :: t4 :: .pointer (some ⟨xb, 0, none⟩) :: .int .i64 (k : Nat) :: t7 :: t8 :: t9 :: t10 :: t11 :: t12 :: t13 :: t14 :: t15 :: t16 :: t17 :: t18 :: t19 :: t20 :: t21 :: t22 :: t23 :: t24 :: t25 :: t26 :: t27 :: t28 :: t29 :: t30 :: t31 :: t32 :: t33 :: t34 :: t35 :: t36 :: t37 :: t38 :: v39 :: v40 :: v41 :: v42 :: v43 :: v44 :: t45 :: t46 :: t47 :: t48 :: t49 :: t50 :: t51 :: t52 :: t53 :: t54 :: t55 :: t56 :: t57 :: t58 :: t59 :: t60 :: t61 :: t62 :: t63 :: t64 :: t65 :: t66 :: t67 :: t68 :: t69 :: t70 :: t71 :: t72 :: t73 :: t74 :: t75 :: t76 :: []).toArray, defers := [] } (put6 ws g (k * 6) (.int .i64 h1.k) (.int .i64 h1.m) (.int .i64 h1.e) (.string h1.t) (.slice ag G.len cg) (.slice h1.na h1.ns.length h1.nc))) :
    Code.wp Try.prog (Code.region 10 #[{ dst := some 39, op := Op.fieldAddr 28 (Operand.tmp 5) 3, type := 0, pos := "l14_draw.go:885", after := #[], guard := none }, { dst := some 40, op := Op.load 25 (Operand.tmp 39), type := 25, pos := "l14_draw.go:885", after := #[{ on := 0, ground := Ground.data }], guard := none }, { dst := some 41, op := Op.move (Operand.tmp 6), type := 3, pos := "l14_draw.go:885", after := #[], guard := none }, { dst := some 42, op := Op.move (Operand.tmp 0), type := 42, pos := "l14_draw.go:885", after := #[], guard := none }, { dst := some 43, op := Op.call { callee := Callee.value (Operand.func 43), args := #[Operand.tmp 42, Operand.const (Value.int IntKind.i64 1)], argTypes := #[42, 3] }, type := 28, pos := "l14_draw.go:885", after := #[{ on := 3, ground := Ground.data }], guard := none }, { dst := some 44, op := Op.indexAddr 25 (Operand.tmp 40) (Operand.tmp 41), type := 0, pos := "l14_draw.go:885", after := #[{ on := 1, ground := Ground.data }, { on := 2, ground := Ground.data }, { on := 0, ground := Ground.phase }, { on := 1, ground := Ground.phase }, { on := 2, ground := Ground.phase }, { on := 3, ground := Ground.phase }, { on := 4, ground := Ground.phase }], guard := none }, { dst := none, op := Op.store 28 (Operand.tmp 44) (Operand.tmp 43), type := 0, pos := "l14_draw.go:885", after := #[{ on := 5, ground := Ground.data }, { on := 4, ground := Ground.data }, { on := 4, ground := Ground.chain }, { on := 0, ground := Ground.phase }, { on := 1, ground := Ground.phase }, { on := 2, ground := Ground.phase }, { on := 3, ground := Ground.phase }, { on := 4, ground := Ground.phase }], guard := none }] true) Q { tmps := (.pointer (some ⟨b, 0, none⟩) :: t1 :: t2 :: t3 :: t4 :: .pointer (some ⟨xb, 0, none⟩) :: .int .i64 (k : Nat) :: t7 :: t8 :: t9 :: t10 :: t11 :: t12 :: t13 :: t14 :: t15 :: t16 :: t17 :: t18 :: t19 :: t20 :: t21 :: t22 :: t23 :: t24 :: t25 :: t26 :: t27 :: t28 :: t29 :: t30 :: t31 :: t32 :: t33 :: t34 :: t35 :: t36 :: t37 :: t38 :: t39 :: t40 :: t41 :: t42 :: t43 :: t44 :: t45 :: t46 :: t47 :: t48 :: t49 :: t50 :: t51 :: t52 :: t53 :: t54 :: t55 :: t56 :: t57 :: t58 :: t59 :: t60 :: t61 :: t62 :: t63 :: t64 :: t65 :: t66 :: t67 :: t68 :: t69 :: t70 :: t71 :: t72 :: t73 :: t74 :: t75 :: t76 :: []).toArray, defers := [] } W := by
  have hvl := World.block_lt_of_cell? W _ hv
  have hbl := hR.lt
  have HS : Hid (∀ w', Otb b W w' → w'.cell? ⟨xb, 4, none⟩ = some (.slice (some ⟨g, 0, none⟩) n c)) := fun w' h => (h.cell hvl hxb).trans hv
  have HW : Hid (∀ w', Otb b W w' → w'.ownsRow B0 28 6 (.slice (some ⟨g, 0, none⟩) n c) n xs) := fun w' h => h.own hown hbB
  have HR : Hid (Rd w0 B b a len cap p W.drew) := hR.below ((Below.refl _ _).drew)
  have HZ : Hid (W.drew.heap.size = W.heap.size) := rfl
  have hO := (Otb.refl b W).drew
  have hS0 := HS.out _ hO
  have hltk : (k : Int) < (n : Int) := by omega
  have HOd : Hid (Otb b W W.drew) := hO
  clear hv hR hown
  refine wp_region_held_drew (S := fun w' => w'.cell? ⟨xb, 4, none⟩ = some (.slice (some ⟨g, 0, none⟩) n c)) (by kernel_rfl) hS0 (fun hHeld => ?_)
  generalize W.drew = Wd at *
  refine wpAnyH_take (i := 0) (v := .pointer (some ⟨xb, 4, none⟩)) rfl (by kernel_rfl) (by kernel_rfl) (by kernel_rfl) (fun _ _ _ h => hp _ _ _ _ _ h) (Or.inl ⟨by rfl, ?_⟩) (by assumption) ?_
  · intro w hSw
    (try dsimp only at hSw)
    go_simp
  (try simp only [Act.put, List.getElem_toArray, List.getElem_cons_zero, List.setIfInBounds_toArray, List.set_cons_zero, List.set_cons_succ])
  refine wpAnyH_take (i := 1) (v := .slice (some ⟨g, 0, none⟩) n c) rfl (by kernel_rfl) (by kernel_rfl) (by kernel_rfl) (fun _ _ _ h => hp _ _ _ _ _ h) (Or.inl ⟨by rfl, ?_⟩) (by assumption) ?_
  · intro w hSw
    (try dsimp only at hSw)
    go_simp
  (try simp only [Act.put, List.getElem_toArray, List.getElem_cons_zero, List.getElem_cons_succ, List.setIfInBounds_toArray, List.set_cons_zero, List.set_cons_succ])
  refine wpAnyH_take (i := 2) (v := .int .i64 (k : Nat)) rfl (by kernel_rfl) (by kernel_rfl) (by kernel_rfl) (fun _ _ _ h => hp _ _ _ _ _ h) (Or.inl ⟨by rfl, ?_⟩) (by assumption) ?_
  · intro w hSw
    (try dsimp only at hSw)
    go_simp
  (try simp only [Act.put, List.getElem_toArray, List.getElem_cons_zero, List.getElem_cons_succ, List.setIfInBounds_toArray, List.set_cons_zero, List.set_cons_succ])
  refine wpAnyH_take (i := 3) (v := .pointer (some ⟨b, 0, none⟩)) rfl (by kernel_rfl) (by kernel_rfl) (by kernel_rfl) (fun _ _ _ h => hp _ _ _ _ _ h) (Or.inl ⟨by rfl, ?_⟩) (by assumption) ?_
  · intro w hSw
    (try dsimp only at hSw)
    go_simp
  (try simp only [Act.put, List.getElem_toArray, List.getElem_cons_zero, List.getElem_cons_succ, List.setIfInBounds_toArray, List.set_cons_zero, List.set_cons_succ])
  clear hS0 hHeld
  refine wpAnyH_ready (rs := [4]) (by kernel_rfl) (by simp) ?_
  refine AllReadyH.cons rfl (fun K hK => ?_) AllReadyH.nil
  have hH := l14Value_any (w0 := w0) (B := B) (b := b) (a := a) (len := len) (cap := cap) 1 (by omega) p Wd HR.out (by show p + ((132 : Nat) : Int) ≤ 80000; omega)
  go_simp
  refine hH.mono ?_
  rintro r w1 ⟨h1, G, ag, cg, p1, rfl, hg0, hp1, hR1, hO1⟩
  have hO1' := HOd.out.trans hO1
  have hg : ValS W.heap.size 3 3 w1 h1 ag cg G := by rw [← HZ.out]; exact hg0
  go_wp2_with fail
  refine hK.out _ _ (HS.out _ hO1') (fun hHeld => ?_)
  clear hK K hH hO hO1
  refine wpAnyH_take (i := 5) (v := .pointer (some ⟨g, k * 6, none⟩)) rfl (by kernel_rfl) (by kernel_rfl) (by kernel_rfl) (fun _ _ _ h => hp _ _ _ _ _ h) (Or.inl ⟨by rfl, ?_⟩) (by assumption) ?_
  · intro w hSw
    (try dsimp only at hSw)
    go_simp
  (try simp only [Act.put, List.getElem_toArray, List.getElem_cons_zero, List.getElem_cons_succ, List.setIfInBounds_toArray, List.set_cons_zero, List.set_cons_succ])
  have hown1 := HW.out _ hO1'
  obtain ⟨⟨u0, c0⟩, fz0⟩ := own_cells hown1 hk (q := 0) (by omega)
  obtain ⟨⟨u1, c1⟩, fz1⟩ := own_cells hown1 hk (q := 1) (by omega)
  obtain ⟨⟨u2, c2⟩, fz2⟩ := own_cells hown1 hk (q := 2) (by omega)
  obtain ⟨⟨u3, c3⟩, fz3⟩ := own_cells hown1 hk (q := 3) (by omega)
  obtain ⟨⟨u4, c4⟩, fz4⟩ := own_cells hown1 hk (q := 4) (by omega)
  obtain ⟨⟨u5, c5⟩, fz5⟩ := own_cells hown1 hk (q := 5) (by omega)
  rw [Nat.add_zero] at c0 fz0
  clear hown1
  refine wpAnyH_ready (rs := [6]) (by kernel_rfl) (by simp) ?_
  refine AllReadyH.cons rfl (fun K hK => ?_) AllReadyH.nil
  go_simp
  refine hK.out _ _ ?_ (fun _ => ?_)
  · exact (put6_other (w := w1) (nb := g) (o := k * 6) (v0 := .int .i64 h1.k) (v1 := .int .i64 h1.m) (v2 := .int .i64 h1.e) (v3 := .string h1.t) (v4 := .slice ag G.len cg) (v5 := .slice h1.na h1.ns.length h1.nc) (.inl (fun e => hgx e.symm))).trans (HS.out _ hO1')
  · refine wpAnyH_done (by kernel_rfl) ?_ _
    exact h _ _ _ _ _ _ _ _ _ _ _ _ hO1' hR1 hp1 hg
set_option maxRecDepth 100000 in
set_option maxHeartbeats 2000000 in
theorem un8 {Q : Exit → Act → World → Prop} {t1 t2 t3 t4 t7 t8 t9 t10 t11 t12 t13 t14 t15 t16 t17 t18 t19 t20 t21 t22 t23 t24 t25 t26 t27 t28 t29 t30 t31 t32 t33 t34 t35 t36 t37 t38 t39 t40 t41 t42 t43 t44 t45 t46 t47 t48 t49 t50 t51 t52 t53 t54 t55 t56 t57 t58 t59 t60 t61 t62 t63 t64 t65 t66 t67 t68 t69 t70 t71 t72 t73 t74 t75 t76 : Value} {w0 : World} {B b : Nat} {a : Option Addr} {len cap : Nat} {p : Int} {W : World} {xb g k n c B0 : Nat} {xs : List Value} {N : Nat} {hi : Hd} {ai : Option Addr} {ci : Nat} {FI : Vo}
    (H : NearC N) (hR : Rd w0 B b a len cap p W) (hxb : ¬ xb = b) (hgx : ¬ g = xb) (hbB : b < B0) (hv : W.cell? ⟨xb, 4, none⟩ = some (.slice (some ⟨g, 0, none⟩) n c)) (hk : k < n) (hown : W.ownsRow B0 28 6 (.slice (some ⟨g, 0, none⟩) n c) n xs) (hq : p + 450 * ((FI.size + 1 : Nat) : Int) ≤ 70000) (f1 : FI.size < N) (f2 : FI.size ≤ 100) (f3 : fw hi FI) (f4 : FI.wt ≤ 6000) (f5 : hi.ns.length ≤ 4) (f6 : hi.t.size ≤ 7) (f7 : ∀ s ∈ hi.ns, s.size ≤ 10) (hit : Cells6 W g (k * 6) hi (.slice ai FI.len ci)) (hin : FI.In W ai) (hc : FI.len ≤ ci ∧ ci ≤ maxLen) (hh : hi.In W)
    (hp : ∀ p d v a w, Q (.panic p) (Act.put a d v) w → Q (.panic p) a w) (h : ∀ ws h1 ag cg G p' v26 v27 v28 v29 v30 v31 v32 v33 v34 v35 v36, Otb b W ws → Rd w0 B b a len cap p' ws → p' ≤ p + 450 * ((FI.size + 1 : Nat) : Int) → (AnyS W.heap.size 1000 ws h1 ag cg G ∧ G.size ≤ FI.size + 13 ∧ G.wt ≤ FI.wt + 60 * (FI.size + 13)) → Q .normal { tmps := (.pointer (some ⟨b, 0, none⟩) :: t1 :: t2 :: t3 :: t4 :: .pointer (some ⟨xb, 0, none⟩) :: .int .i64 (k : Nat) :: t7 :: t8 :: t9 :: t10 :: t11 :: t12 :: t13 :: t14 :: t15 :: t16 :: t17 :: t18 :: t19 :: t20 :: t21 :: t22 :: t23 :: t24 :: t25 :: v26 :: v27 :: v28 :: v29 :: v30 :: v31 :: v32 :: v33 :: v34 :: v35 :: v36 :: t37 :: t38 :: t39 :: t40 :: t41 :: t42 :: t43 :: t44 :: t45 :: t46 :: t47 :: t48 :: t49 :: t50 :: t51 :: t52 :: t53 :: t54 :: t55 :: t56 :: t57 :: t58 :: t59 :: t60 :: t61 :: t62 :: t63 :: t64 :: t65 :: t66 :: t67 :: t68 :: t69 :: t70 :: t71 :: t72 :: t73 :: t74 :: t75 :: t76 :: []).toArray, defers := [] } (put6 ws g (k * 6) (.int .i64 h1.k) (.int .i64 h1.m) (.int .i64 h1.e) (.string h1.t) (.slice ag G.len cg) (.slice h1.na h1.ns.length h1.nc))) :
    Code.wp Try.prog (Code.region 8 #[{ dst := some 26, op := Op.fieldAddr 28 (Operand.tmp 5) 3, type := 0, pos := "l14_draw.go:892", after := #[], guard := none }, { dst := some 27, op := Op.load 25 (Operand.tmp 26), type := 25, pos := "l14_draw.go:892", after := #[{ on := 0, ground := Ground.data }], guard := none }, { dst := some 28, op := Op.move (Operand.tmp 6), type := 3, pos := "l14_draw.go:892", after := #[], guard := none }, { dst := some 29, op := Op.move (Operand.tmp 0), type := 42, pos := "l14_draw.go:892", after := #[], guard := none }, { dst := some 30, op := Op.fieldAddr 28 (Operand.tmp 5) 3, type := 0, pos := "l14_draw.go:892", after := #[], guard := none }, { dst := some 31, op := Op.load 25 (Operand.tmp 30), type := 25, pos := "l14_draw.go:892", after := #[{ on := 4, ground := Ground.data }], guard := none }, { dst := some 32, op := Op.move (Operand.tmp 6), type := 3, pos := "l14_draw.go:892", after := #[], guard := none }, { dst := some 33, op := Op.indexAddr 25 (Operand.tmp 31) (Operand.tmp 32), type := 0, pos := "l14_draw.go:892", after := #[{ on := 5, ground := Ground.data }, { on := 6, ground := Ground.data }], guard := none }, { dst := some 34, op := Op.load 28 (Operand.tmp 33), type := 28, pos := "l14_draw.go:892", after := #[{ on := 7, ground := Ground.data }], guard := none }, { dst := some 35, op := Op.call { callee := Callee.value (Operand.func 36), args := #[Operand.tmp 29, Operand.tmp 34], argTypes := #[42, 28] }, type := 28, pos := "l14_draw.go:892", after := #[{ on := 3, ground := Ground.data }, { on := 8, ground := Ground.data }], guard := none }, { dst := some 36, op := Op.indexAddr 25 (Operand.tmp 27) (Operand.tmp 28), type := 0, pos := "l14_draw.go:892", after := #[{ on := 1, ground := Ground.data }, { on := 2, ground := Ground.data }, { on := 0, ground := Ground.phase }, { on := 1, ground := Ground.phase }, { on := 2, ground := Ground.phase }, { on := 3, ground := Ground.phase }, { on := 4, ground := Ground.phase }, { on := 5, ground := Ground.phase }, { on := 6, ground := Ground.phase }, { on := 7, ground := Ground.phase }, { on := 8, ground := Ground.phase }, { on := 9, ground := Ground.phase }], guard := none }, { dst := none, op := Op.store 28 (Operand.tmp 36) (Operand.tmp 35), type := 0, pos := "l14_draw.go:892", after := #[{ on := 10, ground := Ground.data }, { on := 9, ground := Ground.data }, { on := 9, ground := Ground.chain }, { on := 0, ground := Ground.phase }, { on := 1, ground := Ground.phase }, { on := 2, ground := Ground.phase }, { on := 3, ground := Ground.phase }, { on := 4, ground := Ground.phase }, { on := 5, ground := Ground.phase }, { on := 6, ground := Ground.phase }, { on := 7, ground := Ground.phase }, { on := 8, ground := Ground.phase }, { on := 9, ground := Ground.phase }], guard := none }] true) Q { tmps := (.pointer (some ⟨b, 0, none⟩) :: t1 :: t2 :: t3 :: t4 :: .pointer (some ⟨xb, 0, none⟩) :: .int .i64 (k : Nat) :: t7 :: t8 :: t9 :: t10 :: t11 :: t12 :: t13 :: t14 :: t15 :: t16 :: t17 :: t18 :: t19 :: t20 :: t21 :: t22 :: t23 :: t24 :: t25 :: t26 :: t27 :: t28 :: t29 :: t30 :: t31 :: t32 :: t33 :: t34 :: t35 :: t36 :: t37 :: t38 :: t39 :: t40 :: t41 :: t42 :: t43 :: t44 :: t45 :: t46 :: t47 :: t48 :: t49 :: t50 :: t51 :: t52 :: t53 :: t54 :: t55 :: t56 :: t57 :: t58 :: t59 :: t60 :: t61 :: t62 :: t63 :: t64 :: t65 :: t66 :: t67 :: t68 :: t69 :: t70 :: t71 :: t72 :: t73 :: t74 :: t75 :: t76 :: []).toArray, defers := [] } W := by
  have hvl := World.block_lt_of_cell? W _ hv
  have hbl := hR.lt
  have HS : Hid (∀ w', Otb b W w' → w'.cell? ⟨xb, 4, none⟩ = some (.slice (some ⟨g, 0, none⟩) n c)) := fun w' h => (h.cell hvl hxb).trans hv
  have HW : Hid (∀ w', Otb b W w' → w'.ownsRow B0 28 6 (.slice (some ⟨g, 0, none⟩) n c) n xs) := fun w' h => h.own hown hbB
  have HR : Hid (Rd w0 B b a len cap p W.drew) := hR.below ((Below.refl _ _).drew)
  have HZ : Hid (W.drew.heap.size = W.heap.size) := rfl
  have hgl := hit.lt
  have hge : B0 ≤ g := (hown.lt g rfl).1
  have HI : Hid (FI.In W.drew ai ∧ hi.In W.drew ∧ Cells6 W.drew g (k * 6) hi (.slice ai FI.len ci)) := ⟨hin.grow ((Below.refl _ _).drew), hh.grow ((Below.refl _ _).drew), hit.grow ((Below.refl _ _).drew)⟩
  clear hin hh hit
  have hO := (Otb.refl b W).drew
  have hS0 := HS.out _ hO
  have hltk : (k : Int) < (n : Int) := by omega
  have HOd : Hid (Otb b W W.drew) := hO
  clear hv hR hown
  refine wp_region_held_drew (S := fun w' => w'.cell? ⟨xb, 4, none⟩ = some (.slice (some ⟨g, 0, none⟩) n c)) (by kernel_rfl) hS0 (fun hHeld => ?_)
  generalize W.drew = Wd at *
  refine wpAnyH_take (i := 0) (v := .pointer (some ⟨xb, 4, none⟩)) rfl (by kernel_rfl) (by kernel_rfl) (by kernel_rfl) (fun _ _ _ h => hp _ _ _ _ _ h) (Or.inl ⟨by rfl, ?_⟩) (by assumption) ?_
  · intro w hSw
    (try dsimp only at hSw)
    go_simp
  (try simp only [Act.put, List.getElem_toArray, List.getElem_cons_zero, List.setIfInBounds_toArray, List.set_cons_zero, List.set_cons_succ])
  refine wpAnyH_take (i := 1) (v := .slice (some ⟨g, 0, none⟩) n c) rfl (by kernel_rfl) (by kernel_rfl) (by kernel_rfl) (fun _ _ _ h => hp _ _ _ _ _ h) (Or.inl ⟨by rfl, ?_⟩) (by assumption) ?_
  · intro w hSw
    (try dsimp only at hSw)
    go_simp
  (try simp only [Act.put, List.getElem_toArray, List.getElem_cons_zero, List.getElem_cons_succ, List.setIfInBounds_toArray, List.set_cons_zero, List.set_cons_succ])
  refine wpAnyH_take (i := 2) (v := .int .i64 (k : Nat)) rfl (by kernel_rfl) (by kernel_rfl) (by kernel_rfl) (fun _ _ _ h => hp _ _ _ _ _ h) (Or.inl ⟨by rfl, ?_⟩) (by assumption) ?_
  · intro w hSw
    (try dsimp only at hSw)
    go_simp
  (try simp only [Act.put, List.getElem_toArray, List.getElem_cons_zero, List.getElem_cons_succ, List.setIfInBounds_toArray, List.set_cons_zero, List.set_cons_succ])
  refine wpAnyH_take (i := 3) (v := .pointer (some ⟨b, 0, none⟩)) rfl (by kernel_rfl) (by kernel_rfl) (by kernel_rfl) (fun _ _ _ h => hp _ _ _ _ _ h) (Or.inl ⟨by rfl, ?_⟩) (by assumption) ?_
  · intro w hSw
    (try dsimp only at hSw)
    go_simp
  (try simp only [Act.put, List.getElem_toArray, List.getElem_cons_zero, List.getElem_cons_succ, List.setIfInBounds_toArray, List.set_cons_zero, List.set_cons_succ])
  refine wpAnyH_take (i := 4) (v := .pointer (some ⟨xb, 4, none⟩)) rfl (by kernel_rfl) (by kernel_rfl) (by kernel_rfl) (fun _ _ _ h => hp _ _ _ _ _ h) (Or.inl ⟨by rfl, ?_⟩) (by assumption) ?_
  · intro w hSw
    (try dsimp only at hSw)
    go_simp
  (try simp only [Act.put, List.getElem_toArray, List.getElem_cons_zero, List.getElem_cons_succ, List.setIfInBounds_toArray, List.set_cons_zero, List.set_cons_succ])
  refine wpAnyH_take (i := 5) (v := .slice (some ⟨g, 0, none⟩) n c) rfl (by kernel_rfl) (by kernel_rfl) (by kernel_rfl) (fun _ _ _ h => hp _ _ _ _ _ h) (Or.inl ⟨by rfl, ?_⟩) (by assumption) ?_
  · intro w hSw
    (try dsimp only at hSw)
    go_simp
  (try simp only [Act.put, List.getElem_toArray, List.getElem_cons_zero, List.getElem_cons_succ, List.setIfInBounds_toArray, List.set_cons_zero, List.set_cons_succ])
  refine wpAnyH_take (i := 6) (v := .int .i64 (k : Nat)) rfl (by kernel_rfl) (by kernel_rfl) (by kernel_rfl) (fun _ _ _ h => hp _ _ _ _ _ h) (Or.inl ⟨by rfl, ?_⟩) (by assumption) ?_
  · intro w hSw
    (try dsimp only at hSw)
    go_simp
  (try simp only [Act.put, List.getElem_toArray, List.getElem_cons_zero, List.getElem_cons_succ, List.setIfInBounds_toArray, List.set_cons_zero, List.set_cons_succ])
  refine wpAnyH_take (i := 7) (v := .pointer (some ⟨g, k * 6, none⟩)) rfl (by kernel_rfl) (by kernel_rfl) (by kernel_rfl) (fun _ _ _ h => hp _ _ _ _ _ h) (Or.inl ⟨by rfl, ?_⟩) (by assumption) ?_
  · intro w hSw
    (try dsimp only at hSw)
    go_simp
  (try simp only [Act.put, List.getElem_toArray, List.getElem_cons_zero, List.getElem_cons_succ, List.setIfInBounds_toArray, List.set_cons_zero, List.set_cons_succ])
  clear hS0 hHeld
  refine wpAnyH_ready (rs := [8]) (by kernel_rfl) (by simp) ?_
  refine AllReadyH.cons rfl (fun K hK => ?_) AllReadyH.nil
  obtain ⟨l0, l1, l2, l3, l4, l5⟩ := HI.out.2.2
  go_simp
  refine hK.out _ _ (HS.out _ hO) (fun hHeld => ?_)
  clear hK K l0 l1 l2 l3 l4 l5 hHeld
  (try simp only [Act.put, List.getElem_toArray, List.getElem_cons_zero, List.getElem_cons_succ, List.setIfInBounds_toArray, List.set_cons_zero, List.set_cons_succ])
  refine wpAnyH_ready (rs := [9]) (by kernel_rfl) (by simp) ?_
  refine AllReadyH.cons rfl (fun K hK => ?_) AllReadyH.nil
  have hH := H w0 B b a len cap p Wd hi ai ci FI f1 f2 f3 f4 f5 f6 f7 HR.out hq HI.out.1 hc.1 hc.2 HI.out.2.1
  go_simp
  refine hH.mono ?_
  rintro r w1 ⟨h1, G, ag, cg, p1, rfl, hg, hp1, hR1, hO1⟩
  have hO1' := HOd.out.trans hO1
  rw [HZ.out] at hg
  go_wp2_with fail
  refine hK.out _ _ (HS.out _ hO1') (fun hHeld => ?_)
  clear hK K hH hO hO1
  refine wpAnyH_take (i := 10) (v := .pointer (some ⟨g, k * 6, none⟩)) rfl (by kernel_rfl) (by kernel_rfl) (by kernel_rfl) (fun _ _ _ h => hp _ _ _ _ _ h) (Or.inl ⟨by rfl, ?_⟩) (by assumption) ?_
  · intro w hSw
    (try dsimp only at hSw)
    go_simp
  (try simp only [Act.put, List.getElem_toArray, List.getElem_cons_zero, List.getElem_cons_succ, List.setIfInBounds_toArray, List.set_cons_zero, List.set_cons_succ])
  have hown1 := HW.out _ hO1'
  obtain ⟨⟨u0, c0⟩, fz0⟩ := own_cells hown1 hk (q := 0) (by omega)
  obtain ⟨⟨u1, c1⟩, fz1⟩ := own_cells hown1 hk (q := 1) (by omega)
  obtain ⟨⟨u2, c2⟩, fz2⟩ := own_cells hown1 hk (q := 2) (by omega)
  obtain ⟨⟨u3, c3⟩, fz3⟩ := own_cells hown1 hk (q := 3) (by omega)
  obtain ⟨⟨u4, c4⟩, fz4⟩ := own_cells hown1 hk (q := 4) (by omega)
  obtain ⟨⟨u5, c5⟩, fz5⟩ := own_cells hown1 hk (q := 5) (by omega)
  rw [Nat.add_zero] at c0 fz0
  clear hown1
  refine wpAnyH_ready (rs := [11]) (by kernel_rfl) (by simp) ?_
  refine AllReadyH.cons rfl (fun K hK => ?_) AllReadyH.nil
  go_simp
  refine hK.out _ _ ?_ (fun _ => ?_)
  · exact (put6_other (w := w1) (nb := g) (o := k * 6) (v0 := .int .i64 h1.k) (v1 := .int .i64 h1.m) (v2 := .int .i64 h1.e) (v3 := .string h1.t) (v4 := .slice ag G.len cg) (v5 := .slice h1.na h1.ns.length h1.nc) (.inl (fun e => hgx e.symm))).trans (HS.out _ hO1')
  · refine wpAnyH_done (by kernel_rfl) ?_ _
    exact h _ _ _ _ _ _ _ _ _ _ _ _ _ _ _ _ _ hO1' hR1 hp1 hg
end Go.Proofs.Ytalncebnahlmdaa
/- A list of values that is owned: an item written anew in its place. -/
namespace Go.Proofs.Ytalncebnahlmdaa
open Go.RowKit
theorem set_six {α : Type} (l : List α) (i : Nat) (v0 v1 v2 v3 v4 v5 : α) (h : i + 6 ≤ l.length) :
    (((((l.set i v0).set (i + 1) v1).set (i + 2) v2).set (i + 3) v3).set (i + 4) v4).set (i + 5) v5 = l.take i ++ ([v0, v1, v2, v3, v4, v5] ++ l.drop (i + 6)) := by
  induction l generalizing i with
  | nil => simp at h
  | cons x t ih =>
    cases i with
    | zero =>
      obtain ⟨y1, y2, y3, y4, y5, u, rfl⟩ : ∃ y1 y2 y3 y4 y5 u, t = y1 :: y2 :: y3 :: y4 :: y5 :: u := by
        match t, h with
        | y1 :: y2 :: y3 :: y4 :: y5 :: u, _ => exact ⟨y1, y2, y3, y4, y5, u, rfl⟩
      simp
    | succ i =>
      have h2 : i + 6 ≤ t.length := by simp at h; omega
      have := ih i h2
      simp only [List.set_cons_succ, List.take_succ_cons, List.cons_append, show i + 1 + 1 = i + 1 + 1 from rfl, show i + 1 + 2 = (i + 2) + 1 by omega, show i + 1 + 3 = (i + 3) + 1 by omega, show i + 1 + 4 = (i + 4) + 1 by omega, show i + 1 + 5 = (i + 5) + 1 by omega, show i + 1 + 6 = (i + 6) + 1 by omega, List.drop_succ_cons]
      rw [this]
      simp
theorem own_item {w : World} {B0 g n c k : Nat} {e : TypeId} {xs : List Value} (h : w.ownsRow B0 e 6 (.slice (some ⟨g, 0, none⟩) n c) n xs) (hk : k < n) (v0 v1 v2 v3 v4 v5 : Value) :
    (put6 w g (k * 6) v0 v1 v2 v3 v4 v5).ownsRow B0 e 6 (.slice (some ⟨g, 0, none⟩) n c) n (xs.take (k * 6) ++ ([v0, v1, v2, v3, v4, v5] ++ xs.drop ((k + 1) * 6))) := by
  have hl := h.1
  have s0 := (World.ownsRow.stored h (k * 6) v0).1
  have s1 := (World.ownsRow.stored s0 (k * 6 + 1) v1).1
  have s2 := (World.ownsRow.stored s1 (k * 6 + 2) v2).1
  have s3 := (World.ownsRow.stored s2 (k * 6 + 3) v3).1
  have s4 := (World.ownsRow.stored s3 (k * 6 + 4) v4).1
  have h6 := (World.ownsRow.stored s4 (k * 6 + 5) v5).1
  rw [set_six xs (k * 6) v0 v1 v2 v3 v4 v5 (by omega)] at h6
  rw [show (k + 1) * 6 = k * 6 + 6 by omega]
  exact h6
/-- one item in another one's place -/
def setV (X F : Vo) (k : Nat) : Vo := (F.take k).app (X.app (F.drop (k + 1)))
theorem setV_cells (X F : Vo) (k : Nat) : (setV X F k).cells = F.cells.take (k * 6) ++ (X.cells ++ F.cells.drop ((k + 1) * 6)) := by
  unfold setV; rw [Vo.app_cells, Vo.app_cells, Vo.take_cells, Vo.drop_cells]
theorem Vo.drop_at : ∀ {F : Vo} {k : Nat}, k < F.len → F.drop k = (oneV (F.hdAt k) (F.addrAt k) (F.capAt k) (F.kidsAt k)).app (F.drop (k + 1)) := by
  intro F
  induction F with
  | nil => intro k h; exact absurd h (Nat.not_lt_zero _)
  | cons h a c kids next _ ih =>
    intro k hk
    cases k with
    | zero => show Vo.cons h a c kids next = Vo.cons h a c kids (next.drop 0); cases next <;> rfl
    | succ k => exact ih (show k < next.len from Nat.lt_of_succ_lt_succ hk)
theorem setV_parts {X F : Vo} {k : Nat} (hk : k < F.len) : ∃ A D : Vo, F = A.app ((oneV (F.hdAt k) (F.addrAt k) (F.capAt k) (F.kidsAt k)).app D) ∧ setV X F k = A.app (X.app D) := by
  refine ⟨F.take k, F.drop (k + 1), ?_, rfl⟩
  rw [← Vo.drop_at hk, Vo.take_drop]
theorem setV_len {X F : Vo} {k : Nat} (hX : X.len = 1) (hk : k < F.len) : (setV X F k).len = F.len := by
  obtain ⟨A, D, e1, e2⟩ := setV_parts (X := X) hk
  have e := congrArg Vo.len e1
  rw [e2, Vo.app_len, Vo.app_len]
  rw [Vo.app_len, Vo.app_len, show (oneV (F.hdAt k) (F.addrAt k) (F.capAt k) (F.kidsAt k)).len = 1 from rfl] at e
  omega
theorem setV_size {X F : Vo} {k : Nat} (hk : k < F.len) : (setV X F k).size + ((F.kidsAt k).size + 1) = F.size + X.size := by
  obtain ⟨A, D, e1, e2⟩ := setV_parts (X := X) hk
  have e := congrArg Vo.size e1
  rw [e2, Vo.app_size, Vo.app_size]
  rw [Vo.app_size, Vo.app_size, show (oneV (F.hdAt k) (F.addrAt k) (F.capAt k) (F.kidsAt k)).size = (F.kidsAt k).size + 1 from rfl] at e
  omega
theorem setV_wt {X F : Vo} {k : Nat} (hk : k < F.len) : (setV X F k).wt ≤ F.wt + X.wt := by
  obtain ⟨A, D, e1, e2⟩ := setV_parts (X := X) hk
  have e := congrArg Vo.wt e1
  rw [e2, Vo.app_wt, Vo.app_wt]
  rw [Vo.app_wt, Vo.app_wt] at e
  omega
theorem setV_wt_eq {X F : Vo} {k : Nat} (hk : k < F.len) : (setV X F k).wt + (oneV (F.hdAt k) (F.addrAt k) (F.capAt k) (F.kidsAt k)).wt = F.wt + X.wt := by
  obtain ⟨A, D, e1, e2⟩ := setV_parts (X := X) hk
  have e := congrArg Vo.wt e1
  rw [e2, Vo.app_wt, Vo.app_wt]
  rw [Vo.app_wt, Vo.app_wt] at e
  omega
theorem setV_kin {w : World} {X F : Vo} {k : Nat} (hX : X.Kin w) (hF : F.Kin w) (hk : k < F.len) : (setV X F k).Kin w := by
  obtain ⟨A, D, e1, e2⟩ := setV_parts (X := X) hk
  rw [e1, Vo.app_kin_iff, Vo.app_kin_iff] at hF
  rw [e2]
  exact Vo.app_kin hF.1 (Vo.app_kin hX hF.2.2)
theorem setV_cl {w : World} {X F : Vo} {k : Nat} (hX : X.Cl w) (hF : F.Cl w) (hk : k < F.len) : (setV X F k).Cl w := by
  obtain ⟨A, D, e1, e2⟩ := setV_parts (X := X) hk
  rw [e1, Vo.app_cl_iff, Vo.app_cl_iff] at hF
  rw [e2]
  exact Vo.app_cl hF.1 (Vo.app_cl hX hF.2.2)
theorem setV_blk {P : Nat → Prop} {X F : Vo} {k : Nat} (hX : X.Blk P) (hF : F.Blk P) (hk : k < F.len) : (setV X F k).Blk P := by
  obtain ⟨A, D, e1, e2⟩ := setV_parts (X := X) hk
  rw [e1, Vo.app_blk_iff, Vo.app_blk_iff] at hF
  rw [e2]
  exact Vo.app_blk hF.1 (Vo.app_blk hX hF.2.2)
theorem setV_few {N : Nat} {X F : Vo} {k : Nat} (hX : X.few N) (hF : F.few N) (hk : k < F.len) : (setV X F k).few N := by
  obtain ⟨A, D, e1, e2⟩ := setV_parts (X := X) hk
  rw [e1, Vo.app_few_iff, Vo.app_few_iff] at hF
  rw [e2]
  exact Vo.app_few hF.1 (Vo.app_few hX hF.2.2)
theorem setV_nob {X F : Vo} {k : Nat} (hX : X.nob) (hF : F.nob) (hk : k < F.len) : (setV X F k).nob := by
  obtain ⟨A, D, e1, e2⟩ := setV_parts (X := X) hk
  rw [e1, Vo.app_nob_iff, Vo.app_nob_iff] at hF
  rw [e2]
  exact Vo.app_nob hF.1 (Vo.app_nob hX hF.2.2)
end Go.Proofs.Ytalncebnahlmdaa
/- Drawn values: DrawValueOk; what is asked of a value that is ok; the law's region that holds both sides' answers against each other. -/
namespace Go.Proofs.Ytalncebnahlmdaa
open Go.RowKit
attribute [local go_sem] cell_alloc_is frozen_alloc_is
theorem Vo.deep_at : ∀ {F : Vo} {i : Nat}, i < F.len → (F.kidsAt i).deep + 1 ≤ F.deep := by
  intro F
  induction F with
  | nil => intro i h; exact absurd h (Nat.not_lt_zero _)
  | cons h a c kids next _ ih =>
    intro i hi
    cases i with
    | zero => show kids.deep + 1 ≤ max (kids.deep + 1) next.deep; omega
    | succ i => have := ih (show i < next.len from Nat.lt_of_succ_lt_succ hi); show (next.kidsAt i).deep + 1 ≤ max (kids.deep + 1) next.deep; omega
theorem valOk_kid {h : Hd} {F : Vo} {i : Nat} (x : ValOk h F) (hi : i < F.len) : ValOk (F.hdAt i) (F.kidsAt i) := by
  obtain ⟨h1, h2, h3, h4⟩ := x
  obtain ⟨k1, k2⟩ := allOne_at hi h4
  have h5 := Vo.size_at hi
  have h6 := Vo.deep_at hi
  exact ⟨by omega, by omega, k1, k2⟩
theorem take_size_next : ∀ {F : Vo} {k : Nat}, k < F.len → (F.take (k + 1)).size = (F.take k).size + ((F.kidsAt k).size + 1) := by
  intro F
  induction F with
  | nil => intro k h; exact absurd h (Nat.not_lt_zero _)
  | cons h a c kids next _ ih =>
    intro k hk
    cases k with
    | zero =>
      have e : (next.take 0).size = 0 := by cases next <;> rfl
      show kids.size + 1 + (next.take 0).size = 0 + (kids.size + 1)
      omega
    | succ k => have := ih (show k < next.len from Nat.lt_of_succ_lt_succ hk); show kids.size + 1 + (next.take (k + 1)).size = kids.size + 1 + (next.take k).size + ((next.kidsAt k).size + 1); omega
theorem take_all : ∀ {F : Vo} {k : Nat}, F.len = k → F.take k = F := by
  intro F
  induction F with
  | nil => intro k h; subst h; rfl
  | cons h a c kids next _ ih => intro k hk; subst hk; show Vo.cons h a c kids (next.take next.len) = _; rw [ih rfl]
theorem take_size_le (F : Vo) (k : Nat) : (F.take k).size ≤ F.size := by
  have := congrArg Vo.size (Vo.take_drop F k)
  rw [Vo.app_size] at this
  omega
set_option maxHeartbeats 1000000 in
theorem drawValueOk_any (W : World) (a : Option Addr) (len cap : Nat) (h : CodeIn W a len cap) :
    Calls Try.prog 7 #[.slice a len cap] W fun e w' => (∃ hV F av c, e = .returned (valV hV av F.len c) ∧ AnyS W.heap.size 60 w' hV av c F) ∧ Below W.heap.size W w' := by
  have Z0 : Row (W.alloc (.cells #[.int .i64 0, .int .i64 0, .int .i64 0, .string ⟨#[]⟩, .slice none 0 0, .slice none 0 0] 28)) W.heap.size zero6 := Row.new W zero6 28
  have hbW : Below W.heap.size W (W.alloc (.cells #[.int .i64 0, .int .i64 0, .int .i64 0, .string ⟨#[]⟩, .slice none 0 0, .slice none 0 0] 28)) := (Below.refl _ _).alloc (Nat.le_refl _) _
  have hC := h.below hbW
  have hz0 : W.heap.size < (W.alloc (.cells #[.int .i64 0, .int .i64 0, .int .i64 0, .string ⟨#[]⟩, .slice none 0 0, .slice none 0 0] 28)).heap.size := by simp
  clear h
  go_enter Try.func7, Try.ntmps7
  go_wp2_with fail
  generalize W.alloc (.cells #[.int .i64 0, .int .i64 0, .int .i64 0, .string ⟨#[]⟩, .slice none 0 0, .slice none 0 0] 28) = W1 at *
  refine (l1Open_any W1 a len cap hC).mono ?_
  rintro e w1 ⟨len', rfl, hR⟩
  have hb1 : Below W1.heap.size W1 w1 := hR.1
  have Z1 := Z0.below hb1 hz0
  go_wp2_with fail
  refine (l14AnyValue_any 0 w1 hR (by omega)).mono ?_
  rintro e w2 ⟨hV, F, av, c, p', rfl, hS, _, hR2, hO2⟩
  have hb2 : Below W1.heap.size W1 w2 := hR2.1
  have hB : Below W.heap.size W w2 := hbW.trans (hb2.mono (Nat.le_of_lt hz0))
  have Z2 := Z0.below hb2 hz0
  obtain ⟨r0, g0⟩ := Z2 0 _ rfl
  obtain ⟨r1, g1⟩ := Z2 1 _ rfl
  obtain ⟨r2, g2⟩ := Z2 2 _ rfl
  obtain ⟨r3, g3⟩ := Z2 3 _ rfl
  obtain ⟨r4, g4⟩ := Z2 4 _ rfl
  obtain ⟨r5, g5⟩ := Z2 5 _ rfl
  have hzw : W1.heap.size ≤ w1.heap.size := hb1.size
  have HP6 := Row.put6 (v0 := .int .i64 hV.k) (v1 := .int .i64 hV.m) (v2 := .int .i64 hV.e) (v3 := .string hV.t) (v4 := .slice av F.len c) (v5 := .slice hV.na hV.ns.length hV.nc) Z2
  have HO6 := Otr.put6 W.heap.size (j := W.heap.size) (o := 0) w2 (.int .i64 hV.k) (.int .i64 hV.m) (.int .i64 hV.e) (.string hV.t) (.slice av F.len c) (.slice hV.na hV.ns.length hV.nc)
  have HS : Hid (AnyS W.heap.size 60 (put6 w2 W.heap.size 0 (.int .i64 hV.k) (.int .i64 hV.m) (.int .i64 hV.e) (.string hV.t) (.slice av F.len c) (.slice hV.na hV.ns.length hV.nc)) hV av c F ∧ Below W.heap.size W (put6 w2 W.heap.size 0 (.int .i64 hV.k) (.int .i64 hV.m) (.int .i64 hV.e) (.string hV.t) (.slice av F.len c) (.slice hV.na hV.ns.length hV.nc))) :=
    ⟨(hS.otr HO6 (by omega) (fun g hg => by cases hg; omega)).mono (by omega) (Nat.le_refl _), put6_below hB (Nat.le_refl _) _ _ _ _ _ _⟩
  clear Z0 Z1 Z2 hS hR2 hO2 hb2 hB HO6 hR hb1 hC hbW
  go_wp2_with fail
  show bodyPost Try.prog Try.f7 _ Exit.ret _ (put6 w2 W.heap.size 0 (.int .i64 hV.k) (.int .i64 hV.m) (.int .i64 hV.e) (.string hV.t) (.slice av F.len c) (.slice hV.na hV.ns.length hV.nc))
  generalize put6 w2 W.heap.size 0 (.int .i64 hV.k) (.int .i64 hV.m) (.int .i64 hV.e) (.string hV.t) (.slice av F.len c) (.slice hV.na hV.ns.length hV.nc) = W6 at *
  have y0 := (HP6 0 _ rfl).1
  have y1 := (HP6 1 _ rfl).1
  have y2 := (HP6 2 _ rfl).1
  have y3 := (HP6 3 _ rfl).1
  have y4 := (HP6 4 _ rfl).1
  have y5 := (HP6 5 _ rfl).1
  refine bodyPost_ret (v := valV hV av F.len c) (by simp [results, Try.results7, go_sem, y0, y1, y2, y3, y4, y5]) rfl ⟨⟨hV, F, av, c, rfl, HS.out.1⟩, HS.out.2⟩
end Go.Proofs.Ytalncebnahlmdaa
