/- My own texts, joined: Ue. -/
import Derived.Test.YtalncebnahlmdaaJFnValueSame9
/- Values: a value put into an object, by the specification: l2Has, l7Into. -/
namespace Go.Proofs.Ytalncebnahlmdaa
open Go.RowKit
attribute [local go_sem] cell_alloc_is frozen_alloc_is
/-- a text is among others -/
def hasT (s : ByteArray) (ss : List ByteArray) : Bool := ss.any (fun x => x.toList == s.toList)
set_option maxHeartbeats 400000 in
theorem l2Has_sin (ss : List ByteArray) (a : Option Addr) (c : Nat) (s : ByteArray) (w : World) (hs : SIn w ss a) (hn : ss.length ≤ 1100000) :
    Calls Try.prog 92 #[.slice a ss.length c, .string s] w fun e w' => e = .returned (.bool (hasT s ss)) ∧ w' = w := by
  go_enter Try.func92, Try.ntmps92
  go_wp2_with fail
  go_loop [5] (fun i => ∃ k : Nat, k ≤ ss.length ∧ i = .int .i64 k ∧ hasT s ss = hasT s (ss.drop k)) (fun i => ss.length - (intOf i).toNat)
  case atStart => exact ⟨0, Nat.zero_le _, rfl, by simp⟩
  case round =>
    obtain ⟨k, hk, rfl, hr⟩ := hrel
    have HR : Hid (hasT s ss = hasT s (ss.drop k)) := hr
    clear hr
    by_cases hlt : k < ss.length
    · rcases hs with rfl | ⟨b, o, rfl, hs⟩
      · exact absurd hlt (Nat.not_lt_zero _)
      obtain ⟨hck, _⟩ := hs.at (List.getElem?_eq_getElem hlt)
      have HS : Hid (ss.drop k = ss[k] :: ss.drop (k + 1)) := List.drop_eq_getElem_cons hlt
      have hlt' : (k : Int) < (ss.length : Int) := by omega
      clear hs
      generalize ss[k] = x at *
      cases hq : (x.toList == s.toList)
      · go_wp2_with fail
        go_round
        case rel =>
          refine ⟨k + 1, by omega, by go_num, ?_⟩
          rw [HR.out, HS.out]
          show ((x.toList == s.toList) || hasT s (ss.drop (k + 1))) = _
          rw [hq, Bool.false_or]
        case measure => simp [intOf]; omega
      · go_wp2_with fail
        go_ret
        refine ⟨congrArg (fun b => Ending.returned (.bool b)) ?_, rfl⟩
        rw [HR.out, HS.out]
        show true = ((x.toList == s.toList) || hasT s (ss.drop (k + 1)))
        rw [hq, Bool.true_or]
    · have he : k = ss.length := by omega
      subst he
      go_wp2_with fail
      go_ret
      refine ⟨congrArg (fun b => Ending.returned (.bool b)) ?_, rfl⟩
      rw [HR.out, List.drop_length]; rfl
theorem plc_at {s : ByteArray} : ∀ {ss : List ByteArray} {k : Nat}, plc s ss = k + plc s (ss.drop k) → ∀ x, ss[k]? = some x → (Op.bytesLess x.toList s.toList = true → plc s ss = k + 1 + plc s (ss.drop (k + 1))) ∧ (Op.bytesLess x.toList s.toList = false → plc s ss = k) := by
  intro ss k h x hx
  obtain ⟨hk, he⟩ := List.getElem?_eq_some_iff.1 hx
  rw [List.drop_eq_getElem_cons hk, he] at h
  have e : plc s (x :: ss.drop (k + 1)) = if Op.bytesLess x.toList s.toList then plc s (ss.drop (k + 1)) + 1 else 0 := rfl
  rw [e] at h
  constructor
  · intro hb
    rw [if_pos hb] at h
    omega
  · intro hb
    rw [if_neg (by rw [hb]; exact Bool.false_ne_true)] at h
    omega
theorem Cells6.setOther {w : World} {b o : Nat} {h : Hd} {v : Value} (x : Cells6 w b o h v) {j : Nat} (hj : ¬ b = j) (q : Nat) (u : Value) : Cells6 (w.setCell ⟨j, q, none⟩ u) b o h v :=
  x.mono fun o' u' hu => (World.cell?_setCell_other _ _ _ _ (fun e => hj (by simpa using congrArg Addr.block e.symm))).trans hu
theorem own_set {W : World} {base : Nat} {e : TypeId} {size : Nat} {v : Value} {n : Nat} {xs : List Value} (h : W.ownsRow base e size v n xs) {j o : Nat} (hj : ∀ g, v.ownBlock = some g → ¬ g = j) (u : Value) : (W.setCell ⟨j, o, none⟩ u).ownsRow base e size v n xs := by
  obtain ⟨h1, h2⟩ := h
  refine ⟨h1, ?_⟩
  rcases h2 with h2 | ⟨g, cap, cur, rfl, e2, e3, e4, e5, e6, e7⟩
  · exact .inl h2
  · exact .inr ⟨g, cap, cur, rfl, e2, by rw [heap_setCell_other _ _ _ _ (hj g rfl)]; exact e3, e4, e5, e6, e7⟩
theorem own_put6 {W : World} {base : Nat} {e : TypeId} {size : Nat} {v : Value} {n : Nat} {xs : List Value} (h : W.ownsRow base e size v n xs) {j o : Nat} (hj : ∀ g, v.ownBlock = some g → ¬ g = j) {v0 v1 v2 v3 v4 v5 : Value} : (put6 W j o v0 v1 v2 v3 v4 v5).ownsRow base e size v n xs :=
  own_set (own_set (own_set (own_set (own_set (own_set h hj _) hj _) hj _) hj _) hj _) hj _
theorem own_mono {W : World} {base base' : Nat} {e : TypeId} {size : Nat} {v : Value} {n : Nat} {xs : List Value} (h : W.ownsRow base e size v n xs) (hb : base' ≤ base) : W.ownsRow base' e size v n xs := by
  obtain ⟨h1, h2⟩ := h
  refine ⟨h1, ?_⟩
  rcases h2 with h2 | ⟨g, cap, cur, e1, e2, e3⟩
  · exact .inl h2
  · exact .inr ⟨g, cap, cur, e1, Nat.le_trans hb e2, e3⟩
/-- an object's head with other names -/
def hdObj (na : Option Addr) (nc : Nat) (ns : List ByteArray) : Hd := ⟨6, 0, 0, ⟨#[]⟩, na, nc, ns⟩
/-- a value but for where it lies, put into an object -/
def IntoC (h : Hd) (a : Option Addr) (c : Nat) (F : Vo) (s : ByteArray) (X : Vo) (ok : Bool) (w w' : World) (r : Ending) : Prop :=
  (hasT s h.ns = true ∧ r = .returned (.tuple #[valV h a F.len c, .bool false])) ∨
  (hasT s h.ns = false ∧ ∃ na nc a' c', r = .returned (.tuple #[valV (hdObj na nc (insN s h.ns)) a' (F.len + 1) c', .bool ok]) ∧
    w'.ownsRow w.heap.size 9 1 (.slice na (insN s h.ns).length nc) (insN s h.ns).length (texts (insN s h.ns)) ∧
    w'.ownsRow w.heap.size 28 6 (.slice a' (F.len + 1) c') (F.len + 1) (insV X F (plc s h.ns)).cells)
set_option maxHeartbeats 2000000 in
set_option maxRecDepth 100000 in
theorem l7Into_any (h : Hd) (a : Option Addr) (c : Nat) (F : Vo) (s : ByteArray) (hx : Hd) (ax : Option Addr) (cx : Nat) (X : Vo) (ok : Bool) (w : World) (hF : F.In w a) (hc : F.len ≤ c ∧ c ≤ maxLen) (hh : h.In w) (hn : F.len = h.ns.length) (hN : h.ns.length ≤ 1000000) :
    Calls Try.prog 67 #[valV h a F.len c, .string s, valV hx ax X.len cx, .bool ok] w fun r w' => IntoC h a c F s (oneV hx ax cx X) ok w w' r ∧ Below w.heap.size w w' := by
  obtain ⟨W0, hW0⟩ : ∃ W0, W0 = ((w.alloc (.cells #[.int .i64 h.k, .int .i64 h.m, .int .i64 h.e, .string h.t, .slice a F.len c, .slice h.na h.ns.length h.nc] 28)).alloc (.cells #[.int .i64 hx.k, .int .i64 hx.m, .int .i64 hx.e, .string hx.t, .slice ax X.len cx, .slice hx.na hx.ns.length hx.nc] 28)).alloc (.cells #[.int .i64 0, .int .i64 0, .int .i64 0, .string ⟨#[]⟩, .slice none 0 0, .slice none 0 0] 28) := ⟨_, rfl⟩
  have hB0 : Below w.heap.size w W0 := by subst hW0; exact (by (repeat' (first | assumption | exact Below.refl _ _ | refine Below.alloc ?_ ?_ _ | refine Below.setCell ?_ ?_ _ | refine Below.drew ?_ | refine below_drewN ?_ _)) <;> (first | omega | (simp <;> omega)))
  have hsz : W0.heap.size = w.heap.size + 1 + 1 + 1 := by subst hW0; simp
  have A0 : Row W0 w.heap.size [.int .i64 h.k, .int .i64 h.m, .int .i64 h.e, .string h.t, .slice a F.len c, .slice h.na h.ns.length h.nc] := by
    subst hW0
    exact ((Row.new w _ _).below ((Below.refl _ _).alloc (Nat.le_refl _) _) (by simp)).below ((Below.refl _ _).alloc (Nat.le_refl _) _) (by simp; omega)
  have B0 : Row W0 (w.heap.size + 1) [.int .i64 hx.k, .int .i64 hx.m, .int .i64 hx.e, .string hx.t, .slice ax X.len cx, .slice hx.na hx.ns.length hx.nc] := by
    subst hW0
    have := Row.new (w.alloc (.cells #[.int .i64 h.k, .int .i64 h.m, .int .i64 h.e, .string h.t, .slice a F.len c, .slice h.na h.ns.length h.nc] 28)) [.int .i64 hx.k, .int .i64 hx.m, .int .i64 hx.e, .string hx.t, .slice ax X.len cx, .slice hx.na hx.ns.length hx.nc] 28
    rw [World.size_alloc] at this
    exact this.below ((Below.refl _ _).alloc (Nat.le_refl _) _) (by simp)
  have C0 : Row W0 (w.heap.size + 1 + 1) [.int .i64 0, .int .i64 0, .int .i64 0, .string ⟨#[]⟩, .slice none 0 0, .slice none 0 0] := by
    subst hW0
    have := Row.new ((w.alloc (.cells #[.int .i64 h.k, .int .i64 h.m, .int .i64 h.e, .string h.t, .slice a F.len c, .slice h.na h.ns.length h.nc] 28)).alloc (.cells #[.int .i64 hx.k, .int .i64 hx.m, .int .i64 hx.e, .string hx.t, .slice ax X.len cx, .slice hx.na hx.ns.length hx.nc] 28)) [.int .i64 0, .int .i64 0, .int .i64 0, .string ⟨#[]⟩, .slice none 0 0, .slice none 0 0] 28
    rw [World.size_alloc, World.size_alloc] at this
    exact this
  have HSZ : Hid (W0.heap.size = w.heap.size + 1 + 1 + 1) := hsz
  have HX0 : Hid (Cells6 W0 (w.heap.size + 1) 0 hx (.slice ax X.len cx)) := ⟨(B0 0 _ rfl).1, (B0 1 _ rfl).1, (B0 2 _ rfl).1, (B0 3 _ rfl).1, (B0 4 _ rfl).1, (B0 5 _ rfl).1⟩
  have HA0 : Hid (Row W0 w.heap.size [.int .i64 h.k, .int .i64 h.m, .int .i64 h.e, .string h.t, .slice a F.len c, .slice h.na h.ns.length h.nc] ∧ Row W0 (w.heap.size + 1 + 1) [.int .i64 0, .int .i64 0, .int .i64 0, .string ⟨#[]⟩, .slice none 0 0, .slice none 0 0]) := ⟨A0, C0⟩
  have a0 := (A0 0 _ rfl).1
  have a1 := (A0 1 _ rfl).1
  have a2 := (A0 2 _ rfl).1
  have a3 := (A0 3 _ rfl).1
  have a4 := (A0 4 _ rfl).1
  have a5 := (A0 5 _ rfl).1
  have hS0 := hh.1.grow hB0
  have HS : Hid (SIn w h.ns h.na) := hh.1
  obtain ⟨hnc, hncm⟩ := hh.2.1
  have HN : Hid (F.len = h.ns.length) := hn
  clear hsz A0 B0 hh hn
  go_enter Try.func67, Try.ntmps67
  go_wp2_with fail
  rw [← hW0]
  clear hW0
  refine (l2Has_sin h.ns h.na h.nc s W0 hS0 (by omega)).mono ?_
  rintro r w1 ⟨rfl, hw1⟩
  rw [hw1]
  clear hw1 w1
  have hd2 : hasT s h.ns = true ∨ hasT s h.ns = false := by cases hasT s h.ns <;> simp
  rcases hd2 with hd | hd
  · obtain ⟨c0, f0⟩ := C0 0 _ rfl
    obtain ⟨c1, f1⟩ := C0 1 _ rfl
    obtain ⟨c2, f2⟩ := C0 2 _ rfl
    obtain ⟨c3, f3⟩ := C0 3 _ rfl
    obtain ⟨c4, f4⟩ := C0 4 _ rfl
    obtain ⟨c5, f5⟩ := C0 5 _ rfl
    rw [hd]
    clear HX0 HA0 HS hnc hncm hS0 HN hF
    go_wp2_with fail
    have hcs : ∀ q, q < 6 → ∃ u, W0.cell? ⟨w.heap.size + 1 + 1, 0 + q, none⟩ = some u := fun q hq => by
      rw [Nat.zero_add]
      have : q = 0 ∨ q = 1 ∨ q = 2 ∨ q = 3 ∨ q = 4 ∨ q = 5 := by omega
      rcases this with rfl | rfl | rfl | rfl | rfl | rfl
      · exact ⟨_, c0⟩
      · exact ⟨_, c1⟩
      · exact ⟨_, c2⟩
      · exact ⟨_, c3⟩
      · exact ⟨_, c4⟩
      · exact ⟨_, c5⟩
    have HB : Hid (Below w.heap.size w (put6 W0 (w.heap.size + 1 + 1) 0 (.int .i64 h.k) (.int .i64 h.m) (.int .i64 h.e) (.string h.t) (.slice a F.len c) (.slice h.na h.ns.length h.nc))) := put6_below hB0 (by omega) _ _ _ _ _ _
    have e0 := put6_cell (v0 := .int .i64 h.k) (v1 := .int .i64 h.m) (v2 := .int .i64 h.e) (v3 := .string h.t) (v4 := .slice a F.len c) (v5 := .slice h.na h.ns.length h.nc) hcs (i := 0) rfl
    have e1 := put6_cell (v0 := .int .i64 h.k) (v1 := .int .i64 h.m) (v2 := .int .i64 h.e) (v3 := .string h.t) (v4 := .slice a F.len c) (v5 := .slice h.na h.ns.length h.nc) hcs (i := 1) rfl
    have e2 := put6_cell (v0 := .int .i64 h.k) (v1 := .int .i64 h.m) (v2 := .int .i64 h.e) (v3 := .string h.t) (v4 := .slice a F.len c) (v5 := .slice h.na h.ns.length h.nc) hcs (i := 2) rfl
    have e3 := put6_cell (v0 := .int .i64 h.k) (v1 := .int .i64 h.m) (v2 := .int .i64 h.e) (v3 := .string h.t) (v4 := .slice a F.len c) (v5 := .slice h.na h.ns.length h.nc) hcs (i := 3) rfl
    have e4 := put6_cell (v0 := .int .i64 h.k) (v1 := .int .i64 h.m) (v2 := .int .i64 h.e) (v3 := .string h.t) (v4 := .slice a F.len c) (v5 := .slice h.na h.ns.length h.nc) hcs (i := 4) rfl
    have e5 := put6_cell (v0 := .int .i64 h.k) (v1 := .int .i64 h.m) (v2 := .int .i64 h.e) (v3 := .string h.t) (v4 := .slice a F.len c) (v5 := .slice h.na h.ns.length h.nc) hcs (i := 5) rfl
    show bodyPost Try.prog Try.f67 _ Exit.ret _ (put6 W0 (w.heap.size + 1 + 1) 0 (.int .i64 h.k) (.int .i64 h.m) (.int .i64 h.e) (.string h.t) (.slice a F.len c) (.slice h.na h.ns.length h.nc))
    generalize put6 W0 (w.heap.size + 1 + 1) 0 (.int .i64 h.k) (.int .i64 h.m) (.int .i64 h.e) (.string h.t) (.slice a F.len c) (.slice h.na h.ns.length h.nc) = W6 at *
    simp only [Nat.zero_add] at e0 e1 e2 e3 e4 e5
    refine bodyPost_ret (v := .tuple #[valV h a F.len c, .bool false]) (by simp [results, Try.results67, go_sem, e0, e1, e2, e3, e4, e5]) rfl ⟨.inl ⟨hd, rfl⟩, HB.out⟩
  · rw [hd]
    have HD : Hid (hasT s h.ns = false) := hd
    clear hd
    go_wp2_with fail
    go_loop [10] (fun i => ∃ k : Nat, k ≤ h.ns.length ∧ i = .int .i64 k ∧ plc s h.ns = k + plc s (h.ns.drop k)) (fun i => h.ns.length - (intOf i).toNat)
    case atStart => exact ⟨0, Nat.zero_le _, rfl, by simp⟩
    case round =>
      obtain ⟨k, hk, rfl, hr⟩ := hrel
      have HR : Hid (plc s h.ns = k + plc s (h.ns.drop k)) := hr
      clear hr
      have hst : (∃ b o x, h.na = some ⟨b, o, none⟩ ∧ k < h.ns.length ∧ h.ns[k]? = some x ∧ W0.cell? ⟨b, o + k, none⟩ = some (.string x)) ∨ k = h.ns.length := by
        by_cases hlt : k < h.ns.length
        · rcases hS0 with h0 | ⟨b, o, e, hs⟩
          · rw [h0] at hlt; exact absurd hlt (Nat.not_lt_zero _)
          · exact .inl ⟨b, o, h.ns[k], e, hlt, List.getElem?_eq_getElem hlt, (hs.at (List.getElem?_eq_getElem hlt)).1⟩
        · exact .inr (by omega)
      have hend : (∃ b o x, h.na = some ⟨b, o, none⟩ ∧ k < h.ns.length ∧ h.ns[k]? = some x ∧ W0.cell? ⟨b, o + k, none⟩ = some (.string x) ∧ Op.bytesLess x.toList s.toList = true) ∨
          (∃ b o x, h.na = some ⟨b, o, none⟩ ∧ (k : Int) < (h.ns.length : Int) ∧ W0.cell? ⟨b, o + k, none⟩ = some (.string x) ∧ Op.bytesLess x.toList s.toList = false ∧ plc s h.ns = k) ∨ (¬ (k : Int) < (h.ns.length : Int) ∧ plc s h.ns = k) := by
        rcases hst with ⟨b, o, x, e1, e2, e3, e4⟩ | e
        · cases hq : Op.bytesLess x.toList s.toList
          · exact .inr (.inl ⟨b, o, x, e1, by omega, e4, hq, (plc_at HR.out x e3).2 hq⟩)
          · exact .inl ⟨b, o, x, e1, e2, e3, e4, hq⟩
        · refine .inr (.inr ⟨by omega, ?_⟩)
          rw [HR.out, e, List.drop_length]; rfl
      clear hst
      rcases hend with ⟨b, o, x, e1, e2, e3, e4, hq⟩ | hend
      · have e2' : (k : Int) < (h.ns.length : Int) := by omega
        have HP : Hid (plc s h.ns = k + 1 + plc s (h.ns.drop (k + 1))) := (plc_at HR.out x e3).1 hq
        rw [e1] at a5
        clear e3
        go_wp2_with fail
        go_round
        case rel => exact ⟨k + 1, by omega, by go_num, HP.out⟩
        case measure => simp [intOf]; omega
      · clear HR
        rcases hend with ⟨b, o, x, e1, e2, e4, hq, hp⟩ | ⟨e2, hp⟩
        all_goals
          have HP : Hid (plc s h.ns = k) := hp
          (try rw [e1] at a5)
          clear hp
          go_wp2_with fail
          clear e2 a0 a1 a2 a3 a4 a5
          (try clear e4 hq e1)
          clear hS0
          obtain ⟨A0, C0'⟩ := HA0.out
          obtain ⟨ob, hobe⟩ : ∃ ob, W0.heap.size = ob := ⟨_, rfl⟩
          have HOB : Hid (ob = w.heap.size + 1 + 1 + 1) := by unfold Hid; rw [← hobe]; exact HSZ.out
          have hle0 : w.heap.size ≤ W0.heap.size := by have := HSZ.out; omega
          have D1 : Row (W0.alloc (.cells #[.int .i64 6, .int .i64 0, .int .i64 0, .string ⟨#[]⟩, .slice none 0 0, .slice none 0 0] 28)) ob [.int .i64 6, .int .i64 0, .int .i64 0, .string ⟨#[]⟩, .slice none 0 0, .slice none 0 0] := by rw [← hobe]; exact Row.new W0 _ _
          have hbW : Below W0.heap.size W0 (W0.alloc (.cells #[.int .i64 6, .int .i64 0, .int .i64 0, .string ⟨#[]⟩, .slice none 0 0, .slice none 0 0] 28)) := (Below.refl _ _).alloc (Nat.le_refl _) _
          have A1 := A0.below hbW A0.lt
          have C1 := C0'.below hbW C0'.lt
          have HX1 : Hid (Cells6 (W0.alloc (.cells #[.int .i64 6, .int .i64 0, .int .i64 0, .string ⟨#[]⟩, .slice none 0 0, .slice none 0 0] 28)) (w.heap.size + 1) 0 hx (.slice ax X.len cx)) := HX0.out.grow hbW
          have hB1 := hB0.trans (hbW.mono hle0)
          have hS1 : SIn (W0.alloc (.cells #[.int .i64 6, .int .i64 0, .int .i64 0, .string ⟨#[]⟩, .slice none 0 0, .slice none 0 0] 28)) h.ns h.na := HS.out.grow hB1
          have hz1 : (W0.alloc (.cells #[.int .i64 6, .int .i64 0, .int .i64 0, .string ⟨#[]⟩, .slice none 0 0, .slice none 0 0] 28)).heap.size = ob + 1 := by rw [← hobe]; simp
          rw [hobe]
          have HF0 : Hid (F.In w a) := hF
          clear hbW A0 C0' HA0 HX0 hB0 C0 hle0 hF HS
          have HZ1 : Hid ((W0.alloc (.cells #[.int .i64 6, .int .i64 0, .int .i64 0, .string ⟨#[]⟩, .slice none 0 0, .slice none 0 0] 28)).heap.size = ob + 1) := hz1
          clear hz1 hobe HSZ
          generalize W0.alloc (.cells #[.int .i64 6, .int .i64 0, .int .i64 0, .string ⟨#[]⟩, .slice none 0 0, .slice none 0 0] 28) = W1 at *
          have hob : w.heap.size + 1 + 1 < ob := by have := HOB.out; omega
          refine u7 (L := texts h.ns) (na := h.na) (nc := h.nc) (n := h.ns.length) (k := k) (vb := w.heap.size) (ob := ob) (by omega) (A1 5 _ rfl).1 hS1.lies.1 (by rw [texts_length, Nat.mul_one]) texts_one ⟨hnc, hncm⟩ hk (by omega) ⟨_, (D1 5 _ rfl).1⟩ (D1 5 _ rfl).2 (fun _ d _ _ _ h => by cases d <;> exact h) ?_
          intro W2 vv v34 v35 v36 v37 v38 v39 v40 v41 v42 v43 v44 v45 v46 v48 hB2 hown2
          obtain ⟨g2, c2, rfl, hg2, _⟩ := hown2.form (by omega)
          have lA := A1.lt
          have lC := C1.lt
          have lD := D1.lt
          have lX := HX1.out.lt
          have A3 := (A1.below hB2 lA).setOther (j := ob) (by omega) 5 (.slice (some ⟨g2, 0, none⟩) (h.ns.length + 1) c2)
          have C3 := (C1.below hB2 lC).setOther (j := ob) (by omega) 5 (.slice (some ⟨g2, 0, none⟩) (h.ns.length + 1) c2)
          have D3 := (D1.below hB2 lD).set (i := 5) (by simp) (.slice (some ⟨g2, 0, none⟩) (h.ns.length + 1) c2)
          have HX3 : Hid (Cells6 (W2.setCell ⟨ob, 5, none⟩ (.slice (some ⟨g2, 0, none⟩) (h.ns.length + 1) c2)) (w.heap.size + 1) 0 hx (.slice ax X.len cx)) := (HX1.out.grow hB2).setOther (by omega) _ _
          have hz2 := hB2.size
          have hown3 := ownsRow_setCell_below (a := ⟨ob, 5, none⟩) hown2 lD (.slice (some ⟨g2, 0, none⟩) (h.ns.length + 1) c2)
          have hB3 : Below w.heap.size w (W2.setCell ⟨ob, 5, none⟩ (.slice (some ⟨g2, 0, none⟩) (h.ns.length + 1) c2)) := (hB1.trans (hB2.mono hB1.size)).setCell (p := ⟨ob, 5, none⟩) (by show _ ≤ ob; omega) _
          have hF3' : Lies (W2.setCell ⟨ob, 5, none⟩ (.slice (some ⟨g2, 0, none⟩) (h.ns.length + 1) c2)) a F.cells := HF0.out.lies.grow hB3
          have hz3 : W1.heap.size ≤ (W2.setCell ⟨ob, 5, none⟩ (.slice (some ⟨g2, 0, none⟩) (h.ns.length + 1) c2)).heap.size := by simpa [World.setCell] using hz2
          clear A1 C1 HX1 D1 hown2 hB2 hB1 hS1
          generalize W2.setCell ⟨ob, 5, none⟩ (.slice (some ⟨g2, 0, none⟩) (h.ns.length + 1) c2) = W3 at *
          go_wp2_with fail
          have hkF : k ≤ F.len := by rw [HN.out]; exact hk
          refine u8 (L := F.cells) (na := a) (nc := c) (n := F.len) (k := k) (vb := w.heap.size) (ob := ob) (xb := w.heap.size + 1) (xh := hx) (xa := ax) (xn := X.len) (xc := cx) (by omega) (A3 4 _ rfl).1 hF3' F.cells_length F.cells_one hc hkF (by rw [HN.out]; omega) ⟨_, (D3 4 _ rfl).1⟩ (D3 4 _ rfl).2 (by omega) HX3.out (fun _ d _ _ _ h => by cases d <;> exact h) ?_
          intro W4 vv v49 v50 v51 v52 v53 v54 v55 v56 v57 v58 v59 v60 v61 v63 hB4 hown4
          obtain ⟨g4, c4, rfl, hg4, _⟩ := hown4.form (by omega)
          have lA3 := A3.lt
          have lC3 := C3.lt
          have lD3 := D3.lt
          have C5 := (C3.below hB4 lC3).setOther (j := ob) (by omega) 4 (.slice (some ⟨g4, 0, none⟩) (F.len + 1) c4)
          have D5 := (D3.below hB4 lD3).set (i := 4) (by simp) (.slice (some ⟨g4, 0, none⟩) (F.len + 1) c4)
          have hown5 := own_mono (base' := w.heap.size) (ownsRow_setCell_below (a := ⟨ob, 4, none⟩) hown4 lD3 (.slice (some ⟨g4, 0, none⟩) (F.len + 1) c4)) (by omega)
          have hown5' : (W4.setCell ⟨ob, 4, none⟩ (.slice (some ⟨g4, 0, none⟩) (F.len + 1) c4)).ownsRow w.heap.size 9 1 (.slice (some ⟨g2, 0, none⟩) (h.ns.length + 1) c2) (h.ns.length + 1) ((texts h.ns).take (k * 1) ++ ([Value.string s] ++ (texts h.ns).drop (k * 1))) :=
            own_mono (base' := w.heap.size) (ownsRow_setCell_below (a := ⟨ob, 4, none⟩) (own_keep hown3 hB4) lD (.slice (some ⟨g4, 0, none⟩) (F.len + 1) c4)) (by omega)
          have hB5 : Below w.heap.size w (W4.setCell ⟨ob, 4, none⟩ (.slice (some ⟨g4, 0, none⟩) (F.len + 1) c4)) := (hB3.trans (hB4.mono hB3.size)).setCell (p := ⟨ob, 4, none⟩) (by show _ ≤ ob; omega) _
          clear A3 C3 D3 HX3 hown4 hown3 hB4 hB3 hF3'
          generalize W4.setCell ⟨ob, 4, none⟩ (.slice (some ⟨g4, 0, none⟩) (F.len + 1) c4) = W5 at *
          obtain ⟨c0, f0⟩ := C5 0 _ rfl
          obtain ⟨c1, f1⟩ := C5 1 _ rfl
          obtain ⟨c2', f2⟩ := C5 2 _ rfl
          obtain ⟨c3, f3⟩ := C5 3 _ rfl
          obtain ⟨c4', f4⟩ := C5 4 _ rfl
          obtain ⟨c5, f5⟩ := C5 5 _ rfl
          have d0 := (D5 0 _ rfl).1
          have d1 := (D5 1 _ rfl).1
          have d2 := (D5 2 _ rfl).1
          have d3 := (D5 3 _ rfl).1
          have d4 := (D5 4 _ rfl).1
          have d5 := (D5 5 _ rfl).1
          have HOW : Hid (W5.ownsRow w.heap.size 28 6 (.slice (some ⟨g4, 0, none⟩) (F.len + 1) c4) (F.len + 1) (F.cells.take (k * 6) ++ (six hx ax X.len cx ++ F.cells.drop (k * 6))) ∧ W5.ownsRow w.heap.size 9 1 (.slice (some ⟨g2, 0, none⟩) (h.ns.length + 1) c2) (h.ns.length + 1) ((texts h.ns).take (k * 1) ++ ([Value.string s] ++ (texts h.ns).drop (k * 1)))) := ⟨hown5, hown5'⟩
          clear hown5 hown5' C5 D5
          go_wp2_with fail
          have hcs : ∀ q, q < 6 → ∃ u, W5.cell? ⟨w.heap.size + 1 + 1, 0 + q, none⟩ = some u := fun q hq => by
            rw [Nat.zero_add]
            have : q = 0 ∨ q = 1 ∨ q = 2 ∨ q = 3 ∨ q = 4 ∨ q = 5 := by omega
            rcases this with rfl | rfl | rfl | rfl | rfl | rfl
            · exact ⟨_, c0⟩
            · exact ⟨_, c1⟩
            · exact ⟨_, c2'⟩
            · exact ⟨_, c3⟩
            · exact ⟨_, c4'⟩
            · exact ⟨_, c5⟩
          have HB : Hid (Below w.heap.size w (put6 W5 (w.heap.size + 1 + 1) 0 (.int .i64 6) (.int .i64 0) (.int .i64 0) (.string ⟨#[]⟩) (.slice (some ⟨g4, 0, none⟩) (F.len + 1) c4) (.slice (some ⟨g2, 0, none⟩) (h.ns.length + 1) c2))) := put6_below hB5 (by omega) _ _ _ _ _ _
          have e0 := put6_cell (v0 := .int .i64 6) (v1 := .int .i64 0) (v2 := .int .i64 0) (v3 := .string ⟨#[]⟩) (v4 := .slice (some ⟨g4, 0, none⟩) (F.len + 1) c4) (v5 := .slice (some ⟨g2, 0, none⟩) (h.ns.length + 1) c2) hcs (i := 0) rfl
          have e1 := put6_cell (v0 := .int .i64 6) (v1 := .int .i64 0) (v2 := .int .i64 0) (v3 := .string ⟨#[]⟩) (v4 := .slice (some ⟨g4, 0, none⟩) (F.len + 1) c4) (v5 := .slice (some ⟨g2, 0, none⟩) (h.ns.length + 1) c2) hcs (i := 1) rfl
          have e2 := put6_cell (v0 := .int .i64 6) (v1 := .int .i64 0) (v2 := .int .i64 0) (v3 := .string ⟨#[]⟩) (v4 := .slice (some ⟨g4, 0, none⟩) (F.len + 1) c4) (v5 := .slice (some ⟨g2, 0, none⟩) (h.ns.length + 1) c2) hcs (i := 2) rfl
          have e3 := put6_cell (v0 := .int .i64 6) (v1 := .int .i64 0) (v2 := .int .i64 0) (v3 := .string ⟨#[]⟩) (v4 := .slice (some ⟨g4, 0, none⟩) (F.len + 1) c4) (v5 := .slice (some ⟨g2, 0, none⟩) (h.ns.length + 1) c2) hcs (i := 3) rfl
          have e4 := put6_cell (v0 := .int .i64 6) (v1 := .int .i64 0) (v2 := .int .i64 0) (v3 := .string ⟨#[]⟩) (v4 := .slice (some ⟨g4, 0, none⟩) (F.len + 1) c4) (v5 := .slice (some ⟨g2, 0, none⟩) (h.ns.length + 1) c2) hcs (i := 4) rfl
          have e5 := put6_cell (v0 := .int .i64 6) (v1 := .int .i64 0) (v2 := .int .i64 0) (v3 := .string ⟨#[]⟩) (v4 := .slice (some ⟨g4, 0, none⟩) (F.len + 1) c4) (v5 := .slice (some ⟨g2, 0, none⟩) (h.ns.length + 1) c2) hcs (i := 5) rfl
          have HO6 : Hid ((put6 W5 (w.heap.size + 1 + 1) 0 (.int .i64 6) (.int .i64 0) (.int .i64 0) (.string ⟨#[]⟩) (.slice (some ⟨g4, 0, none⟩) (F.len + 1) c4) (.slice (some ⟨g2, 0, none⟩) (h.ns.length + 1) c2)).ownsRow w.heap.size 28 6 (.slice (some ⟨g4, 0, none⟩) (F.len + 1) c4) (F.len + 1) (F.cells.take (k * 6) ++ (six hx ax X.len cx ++ F.cells.drop (k * 6))) ∧ (put6 W5 (w.heap.size + 1 + 1) 0 (.int .i64 6) (.int .i64 0) (.int .i64 0) (.string ⟨#[]⟩) (.slice (some ⟨g4, 0, none⟩) (F.len + 1) c4) (.slice (some ⟨g2, 0, none⟩) (h.ns.length + 1) c2)).ownsRow w.heap.size 9 1 (.slice (some ⟨g2, 0, none⟩) (h.ns.length + 1) c2) (h.ns.length + 1) ((texts h.ns).take (k * 1) ++ ([Value.string s] ++ (texts h.ns).drop (k * 1)))) :=
            ⟨own_put6 HOW.out.1 (by intro g hg; simp [Value.ownBlock] at hg; omega), own_put6 HOW.out.2 (by intro g hg; simp [Value.ownBlock] at hg; omega)⟩
          show bodyPost Try.prog Try.f67 _ Exit.ret _ (put6 W5 (w.heap.size + 1 + 1) 0 (.int .i64 6) (.int .i64 0) (.int .i64 0) (.string ⟨#[]⟩) (.slice (some ⟨g4, 0, none⟩) (F.len + 1) c4) (.slice (some ⟨g2, 0, none⟩) (h.ns.length + 1) c2))
          generalize put6 W5 (w.heap.size + 1 + 1) 0 (.int .i64 6) (.int .i64 0) (.int .i64 0) (.string ⟨#[]⟩) (.slice (some ⟨g4, 0, none⟩) (F.len + 1) c4) (.slice (some ⟨g2, 0, none⟩) (h.ns.length + 1) c2) = W6 at *
          simp only [Nat.zero_add] at e0 e1 e2 e3 e4 e5
          have HN2 : Hid ((insN s h.ns).length = h.ns.length + 1) := by unfold Hid insN; rw [HP.out, List.length_append, List.length_cons, List.length_take, List.length_drop]; omega
          refine bodyPost_ret (v := .tuple #[valV (hdObj (some ⟨g2, 0, none⟩) c2 (insN s h.ns)) (some ⟨g4, 0, none⟩) (F.len + 1) c4, .bool ok]) (by simp [results, Try.results67, go_sem, e0, e1, e2, e3, e4, e5, hdObj, HN2.out]) rfl ⟨.inr ⟨HD.out, _, _, _, _, rfl, ?_, ?_⟩, HB.out⟩
          · rw [HN2.out]
            have := HO6.out.2
            rw [Nat.mul_one] at this
            unfold texts insN
            rw [HP.out, List.map_append, List.map_cons, List.map_take, List.map_drop]
            exact this
          · rw [insV_cells, HP.out, Vo.cells_oneV]
            exact HO6.out.1
end Go.Proofs.Ytalncebnahlmdaa
