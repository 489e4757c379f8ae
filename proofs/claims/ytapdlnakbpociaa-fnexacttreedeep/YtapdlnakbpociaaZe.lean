/- All lists in a tree, by the program: the region that puts lists behind what is to be done; worlds that look the same below. -/
import Derived.Test.YtapdlnakbpociaaZd
import Derived.Test.YtapdlnakbpociaaSj
namespace Go.Proofs.Ytapdlnakbpociaa
open Go.RowKit
theorem wpList_append_two {P : Program} {w : World} {ops : Array Oper} {rest : List Oper} {o : Oper} {a : Act} {Q : Exit → Act → World → Prop} (hgd : o.guard = none) (s x : Operand) (t : TypeId)
    (ho : o.op = .call { callee := .builtin .append, args := #[s, x], argTypes := #[t, t] })
    (base base2 : Nat) (e : TypeId) (i : TypeInfo) (z : Value) (size bytes : Nat) (ht : P.underlying t = some (.slice e)) (hi : P.info? e = some i) (hz : i.zero = some z)
    (hsize : i.size = size) (hby : i.bytes = bytes) (hzs : z.cells.size = size) (hsz : 0 < size)
    (v : Value) (n : Nat) (xs : List Value) (hs : a.eval s = v) (hown : w.ownsRow base e size v n xs) (v2 : Value) (m : Nat) (ys : List Value) (hx : a.eval x = v2) (hown2 : w.ownsRow base2 e size v2 m ys)
    (h1 : ∀ u ∈ ys, u.oneCell' = true) (h63 : n + m ≤ maxLen) (hbytes : (n + m) * bytes ≤ 140737488355328) (hbase : base ≤ w.heap.size)
    (h : ∀ v' w', w'.ownsRow base e size v' (n + m) (xs ++ ys) → w.grownBy w' v.ownBlock → wpList P ops Q rest (a.put o.dst v') w') : wpList P ops Q (o :: rest) a w :=
  wpList_plain hgd fun _ hK => wp_append_two w s x t ho base base2 e i z size bytes ht hi hz hsize hby hzs hsz v n xs hs hown v2 m ys hx hown2 h1 h63 hbytes hbase fun v' w' h2 h3 => hK _ _ (h v' w' h2 h3)
theorem From_heap {w w' : World} (h : w'.heap = w.heap) : ∀ (F : Fo) (b o : Nat), F.From w b o → F.From w' b o := by
  have hc : ∀ p, w'.cell? p = w.cell? p := fun p => by unfold World.cell?; rw [h]
  intro F
  induction F with
  | nil => intro b o _; trivial
  | cons k t m e a c kids next ih1 ih2 =>
    rintro b o ⟨⟨h1, h2, h3, h4, h5⟩, hk, hl, hm, ht, hn⟩
    refine ⟨⟨(hc _).trans h1, (hc _).trans h2, (hc _).trans h3, (hc _).trans h4, (hc _).trans h5⟩, ?_, hl, hm, ht, ih2 _ _ hn⟩
    rcases hk with hk | ⟨b', o', e1, e2⟩
    · exact .inl hk
    · exact .inr ⟨b', o', e1, ih1 _ _ e2⟩
theorem PlOk.heap {w w' : World} (h : w'.heap = w.heap) {p : Pl} (k : PlOk w p) : PlOk w' p := by
  rcases k with k | ⟨a, cs, t, h1, h2⟩
  · exact .inl k
  · exact .inr ⟨a, cs, t, h1, by rw [h]; exact h2⟩
theorem Cl_heap {w w' : World} (h : w'.heap = w.heap) : ∀ (F : Fo), F.Cl w → F.Cl w' := by
  intro F
  induction F with
  | nil => intro _; trivial
  | cons k t m e a c kids next ih1 ih2 => rintro ⟨h1, h2, h3⟩; exact ⟨h1.heap h, ih1 h2, ih2 h3⟩
theorem Li.Ok.heap {w w' : World} (h : w'.heap = w.heap) {x : Li} (k : x.Ok w) : x.Ok w' := by
  obtain ⟨h1, h2, h3, h4⟩ := k
  refine ⟨?_, h2.heap h, Cl_heap h _ h3, h4⟩
  rcases h1 with h1 | ⟨b, o, e1, e2⟩
  · exact .inl h1
  · exact .inr ⟨b, o, e1, From_heap h _ _ _ e2⟩
/-- the blocks that w0 has are there, as they were -/
def Sees (w0 w : World) : Prop := w0.heap.size ≤ w.heap.size ∧ ∀ j, j < w0.heap.size → w.heap[j]? = w0.heap[j]?
def asIn (w0 w : World) : World := { w with heap := w0.heap }
theorem Sees.below {w0 w : World} (h : Sees w0 w) : Below (asIn w0 w).heap.size (asIn w0 w) w := ⟨rfl, rfl, rfl, h.1, h.2⟩
theorem Sees.grow {w0 w w' : World} (h : Sees w0 w) {B : Nat} (hB : w0.heap.size ≤ B) (hb : Below B w w') : Sees w0 w' := ⟨Nat.le_trans h.1 hb.size, fun j hj => (hb.block j (by omega)).trans (h.2 j hj)⟩
theorem Sees.plOk {w0 w : World} (h : Sees w0 w) {p : Pl} (k : PlOk w0 p) : PlOk w p := (PlOk.heap (w' := asIn w0 w) rfl k).below h.below
theorem unm_asIn (w0 w : World) (M : Pl → Nat) (x : Li) : ∀ n, (liSys (asIn w0 w)).unm M x n = (liSys w0).unm M x n := by
  intro n
  induction n with
  | zero => rfl
  | succ n ih => show (liSys (asIn w0 w)).unm M x n ++ _ = (liSys w0).unm M x n ++ _; rw [ih]
theorem unmet_sees (x : Li) (M : Pl → Nat) (L : List (Pl × Value)) (mb : Nat) (w0 w : World) (hok : x.Ok w0) (hw : Sees w0 w) (hm : plKeys.Has w mb L) (hC : Counts L M) (hks : ∀ q ∈ L, PlOk w0 q.1) :
    Calls Try.prog 84 #[x.v, .map (some mb)] w fun r w' => (∃ v, r = .returned v ∧ w'.ownsRow w.heap.size 30 1 v ((liSys w0).unm M x x.F.len).length (((liSys w0).unm M x x.F.len).map Li.v)) ∧ Below w.heap.size w w' := by
  have h4 := hok.2.2.2
  have hl := x.F.len_le
  have h := unmet_any x M L mb (asIn w0 w) w (Li.Ok.heap (w := w0) (w' := asIn w0 w) rfl hok) hw.below (by omega) hm hC (fun q hq => PlOk.heap (w := w0) (w' := asIn w0 w) rfl (hks q hq)) (fun i hi => by have h1 := (Li.ok_kid hok hi).2.2.2; have h2 := (x.F.kidsAt i).len_le; have h3 : (x.F.kidsAt i).size ≤ 1100000 := h1; omega)
  rw [unm_asIn] at h
  exact h
theorem unm_length (w0 : World) (M : Pl → Nat) (x : Li) : ∀ j, ((liSys w0).unm M x j).length ≤ j := fun j => by
  induction j with
  | zero => exact Nat.le_refl _
  | succ j ih => show ((liSys w0).unm M x j ++ _).length ≤ j + 1; rw [List.length_append]; split <;> simp <;> omega
theorem lv_one (S : List Li) : ∀ u ∈ S.map Li.v, u.oneCell' = true := fun u hu => by
  obtain ⟨y, _, rfl⟩ := List.mem_map.1 hu
  rfl
theorem rowL_last {w : World} {base g cap : Nat} {S : List Li} {y : Li} (h : w.ownsRow base 30 1 (.slice (some ⟨g, 0, none⟩) (S.length + 1) cap) (S.length + 1) ((S ++ [y]).map Li.v)) : w.cell? ⟨g, S.length, none⟩ = some y.v := by
  rw [h.cellAt S.length (by omega), List.map_append, List.getElem?_append_right (by simp)]
  simp
theorem rowL_pop {w : World} {base g cap : Nat} {S : List Li} {y : Li} (h : w.ownsRow base 30 1 (.slice (some ⟨g, 0, none⟩) (S.length + 1) cap) (S.length + 1) ((S ++ [y]).map Li.v)) :
    w.ownsRow base 30 1 (.slice (some ⟨g, 0, none⟩) S.length cap) S.length (S.map Li.v) := by
  refine ⟨by simp, ?_⟩
  rcases h.2 with ⟨h', _⟩ | ⟨g', cap', cur, h', h2, h3, h4, h5, h6, h7⟩
  · cases h'
  · simp only [Value.slice.injEq, Option.some.injEq, Addr.mk.injEq, and_true, true_and] at h'
    obtain ⟨rfl, rfl⟩ := h'
    refine .inr ⟨g, cap, cur, rfl, h2, h3, by omega, h5, h6, ?_⟩
    have h8 : (cur.toList.take ((S.length + 1) * 1)).take (S.length * 1) = S.map Li.v := by
      have e : S.length * 1 = (S.map Li.v).length := by simp
      rw [h7, List.map_append, e, List.take_left]
    rw [List.take_take, Nat.min_eq_left (by omega)] at h8
    exact h8
theorem rowL_ne {w : World} {base g n cap mb : Nat} {e : TypeId} {xs : List Value} {L : List (Pl × Value)} (h : w.ownsRow base e 1 (.slice (some ⟨g, 0, none⟩) n cap) n xs) (hm : plKeys.Has w mb L) : g ≠ mb := by
  intro e'
  obtain ⟨es, clock, hh, _⟩ := hm
  rcases h.2 with ⟨h', _⟩ | ⟨g', cap', cur, h', _, hg, _⟩
  · cases h'
  · simp only [Value.slice.injEq, Option.some.injEq, Addr.mk.injEq, and_true, true_and] at h'
    obtain ⟨rfl, rfl⟩ := h'
    rw [e', hh] at hg
    cases hg
set_option maxRecDepth 100000 in
set_option maxHeartbeats 2000000 in
theorem ls6 {Q : Exit → Act → World → Prop} {t0 t1 t2 t6 t7 t8 t9 t10 t11 t12 t13 t14 t15 t16 t17 t18 t19 t20 t21 t22 t23 t24 t25 t26 t27 t28 t29 t30 t31 t32 t33 t34 t35 t36 t37 t38 t39 t40 t41 t42 t43 t44 t45 t46 t47 t48 t49 t50 t51 t52 : Value} {w0 W : World} {base mb n c : Nat} {a : Option Addr} {F : Fo} {L : List (Pl × Value)} {M : Pl → Nat} {v : Value} {xs : List Value}
    (hok : Li.Ok w0 ⟨a, F, c⟩) (hw : Sees w0 W) (hm : plKeys.Has W mb L) (hC : Counts L M) (hks : ∀ q ∈ L, PlOk w0 q.1) (hn : n ≤ 10000000) (hown : W.ownsRow base 30 1 v n xs) (hbase : base ≤ W.heap.size)
    (_ : ∀ p d v a w, Q (.panic p) (Act.put a d v) w → Q (.panic p) a w) (h : ∀ ws v' v32 v33 v34 v35 v36, ws.ownsRow base 30 1 v' (n + ((liSys w0).unm M ⟨a, F, c⟩ F.len).length) (xs ++ ((liSys w0).unm M ⟨a, F, c⟩ F.len).map Li.v) → W.grownBy ws v.ownBlock → Q .normal { tmps := (t0 :: t1 :: t2 :: (.map (some mb)) :: v' :: (.slice a F.len c) :: t6 :: t7 :: t8 :: t9 :: t10 :: t11 :: t12 :: t13 :: t14 :: t15 :: t16 :: t17 :: t18 :: t19 :: t20 :: t21 :: t22 :: t23 :: t24 :: t25 :: t26 :: t27 :: t28 :: t29 :: t30 :: t31 :: v32 :: v33 :: v34 :: v35 :: v36 :: t37 :: t38 :: t39 :: t40 :: t41 :: t42 :: t43 :: t44 :: t45 :: t46 :: t47 :: t48 :: t49 :: t50 :: t51 :: t52 :: []).toArray, defers := [] } ws) :
    Code.wp Try.prog (Code.region 6 #[{ dst := some 32, op := Op.move (Operand.tmp 4), type := 114, pos := "l3_tree.go:329", after := #[], guard := none }, { dst := some 33, op := Op.move (Operand.tmp 5), type := 30, pos := "l3_tree.go:329", after := #[], guard := none }, { dst := some 34, op := Op.move (Operand.tmp 3), type := 113, pos := "l3_tree.go:329", after := #[], guard := none }, { dst := some 35, op := Op.call { callee := Callee.value (Operand.func 84), args := #[Operand.tmp 33, Operand.tmp 34], argTypes := #[30, 113] }, type := 114, pos := "l3_tree.go:329", after := #[{ on := 1, ground := Ground.data }, { on := 2, ground := Ground.data }], guard := none }, { dst := some 36, op := Op.call { callee := Callee.builtin Builtin.append, args := #[Operand.tmp 32, Operand.tmp 35], argTypes := #[114, 114] }, type := 114, pos := "l3_tree.go:329", after := #[{ on := 0, ground := Ground.data }, { on := 3, ground := Ground.data }, { on := 3, ground := Ground.chain }], guard := none }, { dst := some 4, op := Op.assign (Operand.tmp 36), type := 114, pos := "l3_tree.go:329", after := #[{ on := 4, ground := Ground.data }, { on := 4, ground := Ground.chain }, { on := 0, ground := Ground.phase }, { on := 1, ground := Ground.phase }, { on := 2, ground := Ground.phase }, { on := 3, ground := Ground.phase }, { on := 4, ground := Ground.phase }], guard := none }] false) Q { tmps := (t0 :: t1 :: t2 :: (.map (some mb)) :: v :: (.slice a F.len c) :: t6 :: t7 :: t8 :: t9 :: t10 :: t11 :: t12 :: t13 :: t14 :: t15 :: t16 :: t17 :: t18 :: t19 :: t20 :: t21 :: t22 :: t23 :: t24 :: t25 :: t26 :: t27 :: t28 :: t29 :: t30 :: t31 :: t32 :: t33 :: t34 :: t35 :: t36 :: t37 :: t38 :: t39 :: t40 :: t41 :: t42 :: t43 :: t44 :: t45 :: t46 :: t47 :: t48 :: t49 :: t50 :: t51 :: t52 :: []).toArray, defers := [] } W := by
  obtain ⟨i0, hi, hz0, hz1, hz2⟩ := info_parts listsInfo
  have hul := unm_length w0 M ⟨a, F, c⟩ F.len
  have hFl : F.len ≤ 1100000 := by have h1 := hok.2.2.2; have h2 := F.len_le; have h3 : F.size ≤ 1100000 := h1; omega
  have hcall := unmet_sees ⟨a, F, c⟩ M L mb w0 W hok hw hm hC hks
  dsimp only [Li.v] at hcall
  clear hok hw hm hC hks
  go_wp2_with fail
  refine hcall.mono ?_
  rintro r w1 ⟨⟨v9, rfl, hown9⟩, hb1⟩
  have hown1 := hown.kept (row := none) ⟨hb1.os, hb1.tape, hb1.output, hb1.size, fun k hk _ => hb1.block k hk⟩ (ob_or v)
  clear hcall hown
  go_wp2_with (at_builtin; refine wpList_append_two rfl _ _ 114 rfl base W.heap.size 30 i0 (.slice none 0 0) 1 24 Try.underlying114 hi hz0 hz1 hz2 rfl (by decide) v n xs rfl hown1 v9 ((liSys w0).unm M ⟨a, F, c⟩ F.len).length (((liSys w0).unm M ⟨a, F, c⟩ F.len).map Li.v) rfl hown9 (lv_one _) (by unfold maxLen; omega) (by omega) (Nat.le_trans hbase hb1.size) ?_; intro v' w5 hown5 hgrow5)
  exact h _ _ _ _ _ _ _ hown5 (grown_trans ⟨hb1.os, hb1.tape, hb1.output, hb1.size, fun k hk _ => hb1.block k hk⟩ hgrow5)
end Go.Proofs.Ytapdlnakbpociaa
