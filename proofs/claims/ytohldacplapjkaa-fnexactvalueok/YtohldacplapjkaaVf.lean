/- Contracts over values: the laws' own comparison, of two values that are alike. -/
import Derived.Test.YtohldacplapjkaaVe
namespace Go.Proofs.Ytohldacplapjkaa
open Go.RowKit
attribute [local go_sem] cell_alloc_is frozen_alloc_is
/-- the six cells of a value, open -/
abbrev C6 (w : World) (b o : Nat) (h : Hd) (v : Value) : Prop :=
  w.cell? ⟨b, o, none⟩ = some (.int .i64 h.k) ∧ w.cell? ⟨b, o + 1, none⟩ = some (.int .i64 h.m) ∧ w.cell? ⟨b, o + 2, none⟩ = some (.int .i64 h.e) ∧ w.cell? ⟨b, o + 3, none⟩ = some (.string h.t) ∧ w.cell? ⟨b, o + 4, none⟩ = some v ∧ w.cell? ⟨b, o + 5, none⟩ = some (.slice h.na h.ns.length h.nc)
set_option maxRecDepth 100000 in
set_option maxHeartbeats 1000000 in
theorem ev6 {Q : Exit → Act → World → Prop} {t2 t3 t4 t6 t7 t8 t9 t10 t11 t12 t13 t14 t15 t16 t17 t18 t19 t20 t21 t22 t23 t24 t25 t26 : Value} {W : World} {b o n c b2 o2 n2 c2 j nx cx ny cy : Nat} {hx hy : Hd} {ax ay : Option Addr} {P : Bool → Prop}
    (hj : (j : Int) < (n : Int)) (hj2 : (j : Int) < (n2 : Int)) (h1 : Cells6 W b (o + j * 6) hx (.slice ax nx cx)) (h2 : Cells6 W b2 (o2 + j * 6) hy (.slice ay ny cy)) (hcall : ∀ W', Below W.heap.size W W' → Calls Try.prog 10 #[valV hx ax nx cx, valV hy ay ny cy] W' fun r w' => (∃ q : Bool, r = .returned (.bool q) ∧ P q) ∧ Below W'.heap.size W' w')
    (hp : ∀ p d v a w, Q (.panic p) (Act.put a d v) w → Q (.panic p) a w) (h : ∀ ws q v17 v18 v19 v20 v21 v22 v23 v24 v25, P q → Below W.heap.size W ws → Q .normal { tmps := ((.slice (some ⟨b, o, none⟩) n c) :: (.slice (some ⟨b2, o2, none⟩) n2 c2) :: t2 :: t3 :: t4 :: (.int .i64 (j : Nat)) :: t6 :: t7 :: t8 :: t9 :: t10 :: t11 :: t12 :: t13 :: t14 :: t15 :: t16 :: v17 :: v18 :: v19 :: v20 :: v21 :: v22 :: v23 :: v24 :: v25 :: .bool (!q) :: []).toArray, defers := [] } ws) :
    Code.wp Try.prog (Code.region 6 #[{ dst := some 17, op := Op.move (Operand.tmp 0), type := 31, pos := "exact.go:315", after := #[], guard := none }, { dst := some 18, op := Op.move (Operand.tmp 5), type := 3, pos := "exact.go:315", after := #[], guard := none }, { dst := some 19, op := Op.indexAddr 31 (Operand.tmp 17) (Operand.tmp 18), type := 0, pos := "exact.go:315", after := #[{ on := 0, ground := Ground.data }, { on := 1, ground := Ground.data }], guard := none }, { dst := some 20, op := Op.load 33 (Operand.tmp 19), type := 33, pos := "exact.go:315", after := #[{ on := 2, ground := Ground.data }], guard := none }, { dst := some 21, op := Op.move (Operand.tmp 1), type := 31, pos := "exact.go:315", after := #[], guard := none }, { dst := some 22, op := Op.move (Operand.tmp 5), type := 3, pos := "exact.go:315", after := #[], guard := none }, { dst := some 23, op := Op.indexAddr 31 (Operand.tmp 21) (Operand.tmp 22), type := 0, pos := "exact.go:315", after := #[{ on := 4, ground := Ground.data }, { on := 5, ground := Ground.data }], guard := none }, { dst := some 24, op := Op.load 33 (Operand.tmp 23), type := 33, pos := "exact.go:315", after := #[{ on := 6, ground := Ground.data }], guard := none }, { dst := some 25, op := Op.call { callee := Callee.value (Operand.func 10), args := #[Operand.tmp 20, Operand.tmp 24], argTypes := #[33, 33] }, type := 4, pos := "exact.go:315", after := #[{ on := 3, ground := Ground.data }, { on := 7, ground := Ground.data }], guard := none }, { dst := some 26, op := Op.unOp UnOp.not 4 (Operand.tmp 25), type := 4, pos := "exact.go:315", after := #[{ on := 8, ground := Ground.data }], guard := none }] true) Q { tmps := ((.slice (some ⟨b, o, none⟩) n c) :: (.slice (some ⟨b2, o2, none⟩) n2 c2) :: t2 :: t3 :: t4 :: (.int .i64 (j : Nat)) :: t6 :: t7 :: t8 :: t9 :: t10 :: t11 :: t12 :: t13 :: t14 :: t15 :: t16 :: t17 :: t18 :: t19 :: t20 :: t21 :: t22 :: t23 :: t24 :: t25 :: t26 :: []).toArray, defers := [] } W := by
  have HSof : Hid (∀ w', Below W.heap.size W w' → C6 w' b (o + j * 6) hx (.slice ax nx cx) ∧ C6 w' b2 (o2 + j * 6) hy (.slice ay ny cy)) := fun w' h => ⟨h1.grow h, h2.grow h⟩
  have hS0 := HSof.out _ ((Below.refl _ W).drew)
  clear h1 h2
  refine wp_region_held_drew (S := fun w' => C6 w' b (o + j * 6) hx (.slice ax nx cx) ∧ C6 w' b2 (o2 + j * 6) hy (.slice ay ny cy)) (by kernel_rfl) hS0 (fun hHeld => ?_)
  refine wpAnyH_take (i := 0) (v := .slice (some ⟨b, o, none⟩) n c) rfl (by kernel_rfl) (by kernel_rfl) (by kernel_rfl) (fun _ _ _ h => hp _ _ _ _ _ h) (Or.inl ⟨by rfl, ?_⟩) (by assumption) ?_
  · intro w hSw
    (try dsimp only at hSw)
    go_simp
  (try simp only [Act.put, List.getElem_toArray, List.getElem_cons_zero, List.setIfInBounds_toArray, List.set_cons_zero, List.set_cons_succ])
  refine wpAnyH_take (i := 1) (v := .int .i64 (j : Nat)) rfl (by kernel_rfl) (by kernel_rfl) (by kernel_rfl) (fun _ _ _ h => hp _ _ _ _ _ h) (Or.inl ⟨by rfl, ?_⟩) (by assumption) ?_
  · intro w hSw
    (try dsimp only at hSw)
    go_simp
  (try simp only [Act.put, List.getElem_toArray, List.getElem_cons_zero, List.getElem_cons_succ, List.setIfInBounds_toArray, List.set_cons_zero, List.set_cons_succ])
  refine wpAnyH_take (i := 2) (v := .pointer (some ⟨b, o + j * 6, none⟩)) rfl (by kernel_rfl) (by kernel_rfl) (by kernel_rfl) (fun _ _ _ h => hp _ _ _ _ _ h) (Or.inl ⟨by rfl, ?_⟩) (by assumption) ?_
  · intro w hSw
    (try dsimp only at hSw)
    go_simp
  (try simp only [Act.put, List.getElem_toArray, List.getElem_cons_zero, List.getElem_cons_succ, List.setIfInBounds_toArray, List.set_cons_zero, List.set_cons_succ])
  refine wpAnyH_take (i := 3) (v := valV hx ax nx cx) rfl (by kernel_rfl) (by kernel_rfl) (by kernel_rfl) (fun _ _ _ h => hp _ _ _ _ _ h) (Or.inl ⟨by rfl, ?_⟩) (by assumption) ?_
  · intro w hSw
    (try dsimp only at hSw)
    go_simp
  (try simp only [Act.put, List.getElem_toArray, List.getElem_cons_zero, List.getElem_cons_succ, List.setIfInBounds_toArray, List.set_cons_zero, List.set_cons_succ])
  refine wpAnyH_take (i := 4) (v := .slice (some ⟨b2, o2, none⟩) n2 c2) rfl (by kernel_rfl) (by kernel_rfl) (by kernel_rfl) (fun _ _ _ h => hp _ _ _ _ _ h) (Or.inl ⟨by rfl, ?_⟩) (by assumption) ?_
  · intro w hSw
    (try dsimp only at hSw)
    go_simp
  (try simp only [Act.put, List.getElem_toArray, List.getElem_cons_zero, List.getElem_cons_succ, List.setIfInBounds_toArray, List.set_cons_zero, List.set_cons_succ])
  refine wpAnyH_take (i := 5) (v := .int .i64 (j : Nat)) rfl (by kernel_rfl) (by kernel_rfl) (by kernel_rfl) (fun _ _ _ h => hp _ _ _ _ _ h) (Or.inl ⟨by rfl, ?_⟩) (by assumption) ?_
  · intro w hSw
    (try dsimp only at hSw)
    go_simp
  (try simp only [Act.put, List.getElem_toArray, List.getElem_cons_zero, List.getElem_cons_succ, List.setIfInBounds_toArray, List.set_cons_zero, List.set_cons_succ])
  refine wpAnyH_take (i := 6) (v := .pointer (some ⟨b2, o2 + j * 6, none⟩)) rfl (by kernel_rfl) (by kernel_rfl) (by kernel_rfl) (fun _ _ _ h => hp _ _ _ _ _ h) (Or.inl ⟨by rfl, ?_⟩) (by assumption) ?_
  · intro w hSw
    (try dsimp only at hSw)
    go_simp
  (try simp only [Act.put, List.getElem_toArray, List.getElem_cons_zero, List.getElem_cons_succ, List.setIfInBounds_toArray, List.set_cons_zero, List.set_cons_succ])
  refine wpAnyH_take (i := 7) (v := valV hy ay ny cy) rfl (by kernel_rfl) (by kernel_rfl) (by kernel_rfl) (fun _ _ _ h => hp _ _ _ _ _ h) (Or.inl ⟨by rfl, ?_⟩) (by assumption) ?_
  · intro w hSw
    (try dsimp only at hSw)
    go_simp
  (try simp only [Act.put, List.getElem_toArray, List.getElem_cons_zero, List.getElem_cons_succ, List.setIfInBounds_toArray, List.set_cons_zero, List.set_cons_succ])
  have hB0 := (Below.refl W.heap.size W).drew
  refine wpAnyH_ready (rs := [8]) (by kernel_rfl) (by simp) ?_
  refine AllReadyH.cons rfl (fun K hK => ?_) AllReadyH.nil
  go_simp
  refine (hcall _ hB0).mono ?_
  rintro r w1 ⟨⟨q, rfl, hq⟩, hb1⟩
  have hB1 := hB0.trans (hb1.mono hB0.size)
  have HQ : Hid (P q) := hq
  clear hq
  go_wp2_with fail
  refine hK.out _ _ (HSof.out _ hB1) (fun hHeld => ?_)
  clear hK K hB0 hb1 hcall
  refine wpAnyH_take (i := 9) (v := .bool (!q)) rfl (by kernel_rfl) (by kernel_rfl) (by kernel_rfl) (fun _ _ _ h => hp _ _ _ _ _ h) (Or.inl ⟨by rfl, ?_⟩) (by assumption) ?_
  · intro w hSw
    (try dsimp only at hSw)
    go_simp
  (try simp only [Act.put, List.getElem_toArray, List.getElem_cons_zero, List.getElem_cons_succ, List.setIfInBounds_toArray, List.set_cons_zero, List.set_cons_succ])
  refine wpAnyH_done (by kernel_rfl) ?_ _
  exact h _ _ _ _ _ _ _ _ _ _ _ HQ.out hB1
set_option maxHeartbeats 1000000 in
theorem eqValueS_step (N : Nat) (H : ∀ (h g : Hd) (a a2 : Option Addr) (c c2 : Nat) (F G : Vo) (w : World), F.size < N → F.alike G → h.same g → F.In w a → G.In w a2 → h.In w → g.In w → F.len ≤ c → c ≤ maxLen → G.len ≤ c2 → c2 ≤ maxLen →
      Calls Try.prog 10 #[valV h a F.len c, valV g a2 G.len c2] w fun r w' => r = .returned (.bool true) ∧ Below w.heap.size w w') :
    ∀ (a a2 : Option Addr) (c c2 : Nat) (F G : Vo) (w : World), F.size ≤ N → F.alike G → F.In w a → G.In w a2 → F.len ≤ c → c ≤ maxLen → G.len ≤ c2 → c2 ≤ maxLen →
      Calls Try.prog 25 #[.slice a F.len c, .slice a2 G.len c2] w fun r w' => r = .returned (.bool true) ∧ Below w.heap.size w w' := by
  intro a a2 c c2 F G w hF hA hin hin2 hl hc hl2 hc2
  have hgl := Vo.alike_len hA
  have hll := F.len_le
  unfold maxLen at hc hc2
  obtain ⟨n, hn⟩ : ∃ n, n = F.len := ⟨_, rfl⟩
  rw [← hgl, ← hn]
  rw [← hgl, ← hn] at hl2
  rw [← hn] at hl hll
  have hnF : Hid (n = F.len) := hn
  clear hn hgl
  go_enter Try.func25, Try.ntmps25
  go_wp2_with fail
  go_loopw [5] (fun i wr => ∃ (j : Nat) (A B : Vo), i = .int .i64 j ∧ j + A.len = n ∧ A.size ≤ F.size ∧ A.alike B ∧ (A = .nil ∨ ∃ b o', a = some ⟨b, o', none⟩ ∧ A.From wr b (o' + j * 6)) ∧ (B = .nil ∨ ∃ b o', a2 = some ⟨b, o', none⟩ ∧ B.From wr b (o' + j * 6)) ∧ Below w.heap.size w wr) (fun i _ => n - (intOf i).toNat)
  case atStart =>
    refine ⟨0, F, G, rfl, by have := hnF.out; omega, Nat.le_refl _, hA, ?_, ?_, Below.refl _ _⟩
    · rcases hin with h | ⟨b, o', e1, e2⟩
      · exact .inl h
      · exact .inr ⟨b, o', e1, by simpa using e2⟩
    · rcases hin2 with h | ⟨b, o', e1, e2⟩
      · exact .inl h
      · exact .inr ⟨b, o', e1, by simpa using e2⟩
  case round =>
    obtain ⟨j, A, B, rfl, hj, hs, hAB, hGA, hGB, hb⟩ := hrel
    cases B with
    | nil =>
      have e := Vo.alike_nil hAB
      subst e
      have hj' : j = n := by simpa [Vo.len] using hj
      subst hj'
      clear hj hs hGA hGB H hAB hin hin2 hA
      go_wp2_with fail
      go_ret
      exact ⟨rfl, hb⟩
    | cons g a' c' kids next =>
      obtain ⟨h, a1, c1, kids1, next1, rfl, hs1, hk1, hn1⟩ := Vo.alike_cons hAB
      rcases hGA with hG | ⟨b, o', rfl, hx, xk, ⟨xc1, xc2⟩, xh, xn⟩
      · cases hG
      rcases hGB with hG | ⟨b2, o2, rfl, hy, yk, ⟨yc1, yc2⟩, yh, yn⟩
      · cases hG
      have hln : j + (next1.len + 1) = n := hj
      have hlt : (j : Int) < (n : Int) := by omega
      have hjl : j < n := by omega
      have hss : kids1.size + 1 + next1.size ≤ F.size := hs
      have HX : Hid (next1.From wr b (o' + j * 6 + 6) ∧ next.From wr b2 (o2 + j * 6 + 6) ∧ next1.alike next) := ⟨xn, yn, hn1⟩
      have HC : Hid (∀ W', Below wr.heap.size wr W' → Calls Try.prog 10 #[valV h a1 kids1.len c1, valV g a' kids.len c'] W' fun r w' => (∃ q : Bool, r = .returned (.bool q) ∧ q = true) ∧ Below W'.heap.size W' w') := fun W' hW => by
        refine (H h g a1 a' c1 c' kids1 kids W' (by omega) hk1 hs1 (Vo.In.grow xk hW) (Vo.In.grow yk hW) (xh.grow hW) (yh.grow hW) xc1 xc2 yc1 yc2).mono ?_
        rintro r w' ⟨rfl, hb'⟩
        exact ⟨⟨true, rfl, rfl⟩, hb'⟩
      have HXY : Hid (Cells6 wr b (o' + j * 6) h (.slice a1 kids1.len c1) ∧ Cells6 wr b2 (o2 + j * 6) g (.slice a' kids.len c')) := ⟨hx, hy⟩
      clear hj hs hAB hin hin2 hA xn yn xk yk hk1 hn1 H hx hy xh yh hs1
      go_wp2_with fail
      refine ev6 hlt hlt HXY.out.1 HXY.out.2 HC.out (P := fun q => q = true) (fun _ d _ _ _ h => by cases d <;> exact h) ?_
      rintro w1 q v17 v18 v19 v20 v21 v22 v23 v24 v25 rfl hB1
      have hb2 := hb.trans (hB1.mono hb.size)
      clear HC HXY
      go_wp2_with fail
      go_round
      case rel =>
        obtain ⟨q1, q2, q3⟩ := HX.out
        refine ⟨j + 1, next1, next, by go_num, by omega, by omega, q3, .inr ⟨b, o', rfl, ?_⟩, .inr ⟨b2, o2, rfl, ?_⟩, hb2⟩
        · rw [show o' + (j + 1) * 6 = o' + j * 6 + 6 by omega]; exact Vo.from_grow hB1 _ _ _ q1
        · rw [show o2 + (j + 1) * 6 = o2 + j * 6 + 6 by omega]; exact Vo.from_grow hB1 _ _ _ q2
      case measure => simp [intOf]; omega
set_option maxHeartbeats 1000000 in
theorem eqValue_step (N : Nat) (H : ∀ (a a2 : Option Addr) (c c2 : Nat) (F G : Vo) (w : World), F.size ≤ N → F.alike G → F.In w a → G.In w a2 → F.len ≤ c → c ≤ maxLen → G.len ≤ c2 → c2 ≤ maxLen →
      Calls Try.prog 25 #[.slice a F.len c, .slice a2 G.len c2] w fun r w' => r = .returned (.bool true) ∧ Below w.heap.size w w') :
    ∀ (h g : Hd) (a a2 : Option Addr) (c c2 : Nat) (F G : Vo) (w : World), F.size ≤ N → F.alike G → h.same g → F.In w a → G.In w a2 → h.In w → g.In w → F.len ≤ c → c ≤ maxLen → G.len ≤ c2 → c2 ≤ maxLen →
      Calls Try.prog 10 #[valV h a F.len c, valV g a2 G.len c2] w fun r w' => r = .returned (.bool true) ∧ Below w.heap.size w w' := by
  intro h g a a2 c c2 F G w hF hA hsm hin hin2 hh hg hl hc hl2 hc2
  obtain ⟨k, m, e, t, na, nc, ns⟩ := h
  obtain ⟨k', m', e', t', na', nc', ns'⟩ := g
  obtain ⟨⟨hk, hm, he, htx⟩, hns⟩ := hsm
  dsimp only at hk hm he htx hns
  subst hk hm he htx hns
  have htt : (t.toList != t.toList) = false := by simp
  go_enter Try.func10, Try.ntmps10
  go_wp2_with fail
  obtain ⟨W0, hW0⟩ : ∃ W0, W0 = (w.alloc (.cells #[.int .i64 k, .int .i64 m, .int .i64 e, .string t, .slice a F.len c, .slice na ns.length nc] 33)).alloc (.cells #[.int .i64 k, .int .i64 m, .int .i64 e, .string t, .slice a2 G.len c2, .slice na' ns.length nc'] 33) := ⟨_, rfl⟩
  have hB0 : Below w.heap.size w W0 := by subst hW0; exact (by (repeat' (first | assumption | exact Below.refl _ _ | refine Below.alloc ?_ ?_ _ | refine Below.setCell ?_ ?_ _ | refine Below.drew ?_ | refine below_drewN ?_ _)) <;> (first | omega | (simp <;> omega)))
  have A0 : Row W0 w.heap.size [.int .i64 k, .int .i64 m, .int .i64 e, .string t, .slice a F.len c, .slice na ns.length nc] := by
    subst hW0
    exact (Row.new w _ _).below ((Below.refl _ _).alloc (Nat.le_refl _) _) (by simp)
  have C0 : Row W0 (w.heap.size + 1) [.int .i64 k, .int .i64 m, .int .i64 e, .string t, .slice a2 G.len c2, .slice na' ns.length nc'] := by
    subst hW0
    have := Row.new (w.alloc (.cells #[.int .i64 k, .int .i64 m, .int .i64 e, .string t, .slice a F.len c, .slice na ns.length nc] 33)) [.int .i64 k, .int .i64 m, .int .i64 e, .string t, .slice a2 G.len c2, .slice na' ns.length nc'] 33
    rw [World.size_alloc] at this
    exact this
  rw [← hW0]
  clear hW0
  refine (eqDec_any _ _ _ _ _).mono ?_
  rintro r w1 ⟨rfl, hb1⟩
  have A1 := A0.below hb1 A0.lt
  have C1 := C0.below hb1 C0.lt
  have hB1 := hB0.trans (hb1.mono hB0.size)
  have hq : (decide (m = m) && decide (e = e)) = true := by simp
  clear A0 C0 hB0 hb1
  have HK : Hid ((F.In w1 a ∧ G.In w1 a2) ∧ SIn w1 ns na ∧ SIn w1 ns na') := ⟨⟨hin.grow hB1, hin2.grow hB1⟩, hh.1.grow hB1, hg.1.grow hB1⟩
  have hnl : ns.length ≤ nc ∧ nc ≤ maxLen := hh.2.1
  have hnl2 : ns.length ≤ nc' := hg.2.1.1
  obtain ⟨hnl, hnm⟩ := hnl
  clear hin hin2 hh hg
  have a3 := (A1 3 _ rfl).1
  have a4 := (A1 4 _ rfl).1
  have x3 := (C1 3 _ rfl).1
  have x4 := (C1 4 _ rfl).1
  go_wp2_with fail
  refine (H a a2 c c2 F G w1 hF hA HK.out.1.1 HK.out.1.2 hl hc hl2 hc2).mono ?_
  rintro r w2 ⟨rfl, hb2⟩
  have hB2 := hB1.trans (hb2.mono hB1.size)
  have a5 := (A1.below hb2 A1.lt 5 _ rfl).1
  have x5 := (C1.below hb2 C1.lt 5 _ rfl).1
  have HK2 : Hid (SIn w2 ns na ∧ SIn w2 ns na') := ⟨HK.out.2.1.grow hb2, HK.out.2.2.grow hb2⟩
  clear H HK hb2 hB1 A1 C1 hA a3 a4 x3 x4
  go_wp2_with fail
  refine (eqStringS_any ns ns na na' nc nc' w2 HK2.out.1 HK2.out.2 hnl hnm hnl2).mono ?_
  rintro r w3 ⟨rfl, hb3⟩
  have hB3 := hB2.trans (hb3.mono hB2.size)
  rw [show decide (ns = ns) = true by simp]
  clear HK2 hb3 hB2 a5 x5
  go_wp2_with fail
  go_ret
  exact ⟨rfl, hB3⟩
theorem eqValue_all (N : Nat) : ∀ (h g : Hd) (a a2 : Option Addr) (c c2 : Nat) (F G : Vo) (w : World), F.size < N → F.alike G → h.same g → F.In w a → G.In w a2 → h.In w → g.In w → F.len ≤ c → c ≤ maxLen → G.len ≤ c2 → c2 ≤ maxLen →
      Calls Try.prog 10 #[valV h a F.len c, valV g a2 G.len c2] w fun r w' => r = .returned (.bool true) ∧ Below w.heap.size w w' := by
  induction N with
  | zero => intro h g a a2 c c2 F G w hF; omega
  | succ N ih => exact fun h g a a2 c c2 F G w hF => eqValue_step N (eqValueS_step N ih) h g a a2 c c2 F G w (by omega)
end Go.Proofs.Ytohldacplapjkaa
