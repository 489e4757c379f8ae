/- My own texts, joined: Le Lf Lv Lx Sy Ly Lz Ma. -/
import Derived.Test.YtbbbmmemfndnlaaJScopeCheck4
import Derived.Test.YtbbbmmemfndnlaaJScopeCheck0
import Derived.Laws.StructEq
import Derived.WideKeyRuns
import Derived.Deep.RegionHeld3
import Derived.Carry
/- Names, each once, ascending: the program's nameList and its add. -/
namespace Go.Proofs.Ytbbbmmemfndnlaa
open Go.RowKit
attribute [local go_sem] cell_alloc_is frozen_alloc_is
/-- a list of names in its box, its texts in a block of their own -/
def NL (B : Nat) (w : World) (lb : Nat) (ns : List ByteArray) : Prop := ∃ a c, OwnT B w a c ns ∧ w.rowIs lb 49 1 (fun _ => .slice a ns.length c) ∧ a.map (·.block) ≠ some lb
/-- what a round may write: the box, and a list of texts that is not older than it -/
def Wr (B lb : Nat) (w w' : World) : Prop := Below B w w' ∧ ∀ x, x < w.heap.size → ¬ x = lb → (x < B ∨ ∀ cs z, w.heap[x]? ≠ some (.cells cs 9 z)) → w'.heap[x]? = w.heap[x]?
theorem row_one (w : World) (s : ByteArray) : (w.alloc (.cells #[.string s] 9)).rowIs w.heap.size 9 1 (fun _ => .string s) :=
  World.rowIs_alloc w #[.string s] 9 _ (fun i hi => by
    have h0 : i = 0 := by simp at hi; exact hi
    subst h0; rfl)
theorem OwnT.block {B : Nat} {w : World} {a : Option Addr} {c : Nat} {ns : List ByteArray} (h : OwnT B w a c ns) {x : Nat} (e : a.map (·.block) = some x) : ∃ g, a = some ⟨g, 0, none⟩ := by
  rcases h with ⟨h, _⟩ | ⟨g, f, h, _⟩
  · rw [h] at e; cases e
  · exact ⟨g, h⟩
theorem OwnT.isText {B : Nat} {w : World} {a : Option Addr} {c : Nat} {ns : List ByteArray} (h : OwnT B w a c ns) {g : Nat} (e : a = some ⟨g, 0, none⟩) : ∃ cs, w.heap[g]? = some (.cells cs 9 (0, 0)) := by
  rcases h with ⟨h, _⟩ | ⟨g', f, h, _, _, ⟨cs, h1, _⟩, _⟩
  · rw [h] at e; cases e
  · rw [h] at e; cases e; exact ⟨cs, h1⟩
set_option maxRecDepth 100000 in
set_option maxHeartbeats 2000000 in
theorem na2 {Q : Exit → Act → World → Prop} {t2 t3 t5 t6 t7 t8 t9 t10 t11 t12 t13 t14 t15 t16 t17 t18 t19 t20 t21 t22 t23 t24 t25 t26 t27 t28 : Value} {W : World} {lb k B c : Nat} {a : Option Addr} {ns : List ByteArray} {s : ByteArray}
    (hO : OwnT B W a c ns) (hL : W.rowIs lb 49 1 (fun _ => .slice a ns.length c)) (hne : a.map (·.block) ≠ some lb) (hB : B ≤ W.heap.size) (hBl : B ≤ lb) (hk : k ≤ ns.length) (hn : ns.length ≤ 1100000) (hs : s.size ≤ 281474976710656)
    (hp : ∀ p d v a w, Q (.panic p) (Act.put a d v) w → Q (.panic p) a w) (h : ∀ ws v17 v18 v19 v20 v21 v22 v23 v24 v25 v26 v27 v28, NL B ws lb (ns.take k ++ s :: ns.drop k) → Wr B lb W ws → Q .normal { tmps := (.pointer (some ⟨lb, 0, none⟩) :: .string s :: t2 :: t3 :: .int .i64 (k : Nat) :: t5 :: t6 :: t7 :: t8 :: t9 :: t10 :: t11 :: t12 :: t13 :: t14 :: t15 :: t16 :: v17 :: v18 :: v19 :: v20 :: v21 :: v22 :: v23 :: v24 :: v25 :: v26 :: v27 :: v28 :: []).toArray, defers := [] } ws) :
    Code.wp Try.prog (Code.region 2 #[{ dst := some 17, op := Op.move (Operand.tmp 0), type := 74, pos := "l6_scope.go:70", after := #[], guard := none }, { dst := some 18, op := Op.move (Operand.tmp 0), type := 74, pos := "l6_scope.go:70", after := #[], guard := none }, { dst := some 19, op := Op.nilCheck (Operand.tmp 18), type := 0, pos := "l6_scope.go:70", after := #[{ on := 1, ground := Ground.data }], guard := none }, { dst := some 20, op := Op.fieldAddr 49 (Operand.tmp 19) 0, type := 0, pos := "l6_scope.go:70", after := #[{ on := 2, ground := Ground.data }], guard := none }, { dst := some 21, op := Op.load 28 (Operand.tmp 20), type := 28, pos := "l6_scope.go:70", after := #[{ on := 3, ground := Ground.data }], guard := none }, { dst := some 22, op := Op.move (Operand.tmp 4), type := 3, pos := "l6_scope.go:70", after := #[], guard := none }, { dst := some 23, op := Op.move (Operand.tmp 1), type := 9, pos := "l6_scope.go:70", after := #[], guard := none }, { dst := some 24, op := Op.call { callee := Callee.value (Operand.func 67), args := #[Operand.tmp 23], argTypes := #[9] }, type := 9, pos := "l6_scope.go:70", after := #[{ on := 6, ground := Ground.data }], guard := none }, { dst := some 25, op := Op.buildSlice 28 1 #[(0, Operand.tmp 24)], type := 28, pos := "l6_scope.go:70", after := #[{ on := 7, ground := Ground.data }], guard := none }, { dst := some 26, op := Op.call { callee := Callee.value (Operand.func 70), args := #[Operand.tmp 21, Operand.tmp 22, Operand.tmp 25], argTypes := #[28, 3, 28] }, type := 28, pos := "l6_scope.go:70", after := #[{ on := 4, ground := Ground.data }, { on := 5, ground := Ground.data }, { on := 8, ground := Ground.data }, { on := 7, ground := Ground.chain }], guard := none }, { dst := some 27, op := Op.nilCheck (Operand.tmp 17), type := 0, pos := "l6_scope.go:70", after := #[{ on := 0, ground := Ground.data }, { on := 0, ground := Ground.phase }, { on := 1, ground := Ground.phase }, { on := 2, ground := Ground.phase }, { on := 3, ground := Ground.phase }, { on := 4, ground := Ground.phase }, { on := 5, ground := Ground.phase }, { on := 6, ground := Ground.phase }, { on := 7, ground := Ground.phase }, { on := 8, ground := Ground.phase }, { on := 9, ground := Ground.phase }], guard := none }, { dst := some 28, op := Op.fieldAddr 49 (Operand.tmp 27) 0, type := 0, pos := "l6_scope.go:70", after := #[{ on := 10, ground := Ground.data }, { on := 0, ground := Ground.phase }, { on := 1, ground := Ground.phase }, { on := 2, ground := Ground.phase }, { on := 3, ground := Ground.phase }, { on := 4, ground := Ground.phase }, { on := 5, ground := Ground.phase }, { on := 6, ground := Ground.phase }, { on := 7, ground := Ground.phase }, { on := 8, ground := Ground.phase }, { on := 9, ground := Ground.phase }], guard := none }, { dst := none, op := Op.store 28 (Operand.tmp 28) (Operand.tmp 26), type := 0, pos := "l6_scope.go:70", after := #[{ on := 11, ground := Ground.data }, { on := 9, ground := Ground.data }, { on := 9, ground := Ground.chain }, { on := 0, ground := Ground.phase }, { on := 1, ground := Ground.phase }, { on := 2, ground := Ground.phase }, { on := 3, ground := Ground.phase }, { on := 4, ground := Ground.phase }, { on := 5, ground := Ground.phase }, { on := 6, ground := Ground.phase }, { on := 7, ground := Ground.phase }, { on := 8, ground := Ground.phase }, { on := 9, ground := Ground.phase }], guard := none }] true) Q { tmps := (.pointer (some ⟨lb, 0, none⟩) :: .string s :: t2 :: t3 :: .int .i64 (k : Nat) :: t5 :: t6 :: t7 :: t8 :: t9 :: t10 :: t11 :: t12 :: t13 :: t14 :: t15 :: t16 :: t17 :: t18 :: t19 :: t20 :: t21 :: t22 :: t23 :: t24 :: t25 :: t26 :: t27 :: t28 :: []).toArray, defers := [] } W := by
  have hll := hL.lt
  have HG : Hid (∀ w', Below W.heap.size W w' → OwnT B w' a c ns ∧ w'.rowIs lb 49 1 (fun _ => .slice a ns.length c)) := fun w' h => ⟨hO.of_block (fun g hg => h.block g (hO.lt hg).2), hL.of_block (h.block lb hll)⟩
  have HN : Hid (a.map (·.block) ≠ some lb) := hne
  clear hO hL hne
  have hB0 := (Below.refl W.heap.size W).drew
  refine wp_region_held_drew (S := fun _ => True) (by kernel_rfl) trivial (fun _ => ?_)
  generalize W.drew = Wd at *
  have hSw : (fun _ : World => True) Wd := trivial
  refine wpAnyH_take (i := 0) (v := .pointer (some ⟨lb, 0, none⟩)) rfl (by kernel_rfl) (by kernel_rfl) (by kernel_rfl) (fun _ _ _ h => hp _ _ _ _ _ h) (Or.inl ⟨by rfl, ?_⟩) (by assumption) ?_
  · intro w hSw
    (try dsimp only at hSw)
    go_simp
  (try simp only [Act.put, List.getElem_toArray, List.getElem_cons_zero, List.setIfInBounds_toArray, List.set_cons_zero, List.set_cons_succ])
  refine wpAnyH_take (i := 1) (v := .pointer (some ⟨lb, 0, none⟩)) rfl (by kernel_rfl) (by kernel_rfl) (by kernel_rfl) (fun _ _ _ h => hp _ _ _ _ _ h) (Or.inl ⟨by rfl, ?_⟩) (by assumption) ?_
  · intro w hSw
    (try dsimp only at hSw)
    go_simp
  (try simp only [Act.put, List.getElem_toArray, List.getElem_cons_zero, List.getElem_cons_succ, List.setIfInBounds_toArray, List.set_cons_zero, List.set_cons_succ])
  refine wpAnyH_take (i := 2) (v := .pointer (some ⟨lb, 0, none⟩)) rfl (by kernel_rfl) (by kernel_rfl) (by kernel_rfl) (fun _ _ _ h => hp _ _ _ _ _ h) (Or.inl ⟨by rfl, ?_⟩) (by assumption) ?_
  · intro w hSw
    (try dsimp only at hSw)
    go_simp
  (try simp only [Act.put, List.getElem_toArray, List.getElem_cons_zero, List.getElem_cons_succ, List.setIfInBounds_toArray, List.set_cons_zero, List.set_cons_succ])
  refine wpAnyH_take (i := 3) (v := .pointer (some ⟨lb, 0, none⟩)) rfl (by kernel_rfl) (by kernel_rfl) (by kernel_rfl) (fun _ _ _ h => hp _ _ _ _ _ h) (Or.inl ⟨by rfl, ?_⟩) (by assumption) ?_
  · intro w hSw
    (try dsimp only at hSw)
    go_simp
  (try simp only [Act.put, List.getElem_toArray, List.getElem_cons_zero, List.getElem_cons_succ, List.setIfInBounds_toArray, List.set_cons_zero, List.set_cons_succ])
  refine wpAnyH_take (i := 5) (v := .int .i64 (k : Nat)) rfl (by kernel_rfl) (by kernel_rfl) (by kernel_rfl) (fun _ _ _ h => hp _ _ _ _ _ h) (Or.inl ⟨by rfl, ?_⟩) (by assumption) ?_
  · intro w hSw
    (try dsimp only at hSw)
    go_simp
  (try simp only [Act.put, List.getElem_toArray, List.getElem_cons_zero, List.getElem_cons_succ, List.setIfInBounds_toArray, List.set_cons_zero, List.set_cons_succ])
  refine wpAnyH_take (i := 6) (v := .string s) rfl (by kernel_rfl) (by kernel_rfl) (by kernel_rfl) (fun _ _ _ h => hp _ _ _ _ _ h) (Or.inl ⟨by rfl, ?_⟩) (by assumption) ?_
  · intro w hSw
    (try dsimp only at hSw)
    go_simp
  (try simp only [Act.put, List.getElem_toArray, List.getElem_cons_zero, List.getElem_cons_succ, List.setIfInBounds_toArray, List.set_cons_zero, List.set_cons_succ])
  clear hSw
  refine wpAnyH_ready (rs := [4, 7]) (by kernel_rfl) (by simp) ?_
  refine AllReadyH.cons rfl (fun K hK => ?_) (AllReadyH.cons rfl (fun K hK => ?_) AllReadyH.nil)
  · skip
    have hcl := ((HG.out _ hB0).2).cell (i := 0) (by omega)
    go_simp
    refine hK.out _ _ trivial (fun _ => ?_)
    clear hK K hcl
    (try simp only [Act.put, List.getElem_toArray, List.getElem_cons_zero, List.getElem_cons_succ, List.setIfInBounds_toArray, List.set_cons_zero, List.set_cons_succ])
    refine wpAnyH_ready (rs := [7]) (by kernel_rfl) (by simp) ?_
    refine AllReadyH.cons rfl (fun K hK => ?_) AllReadyH.nil
    go_simp
    refine (stringsClone_any s _ hs).mono ?_
    rintro r W1 ⟨rfl, hb⟩
    have hB1 := hB0.trans (hb.mono hB0.size)
    go_wp2_with fail
    refine hK.out _ _ trivial (fun _ => ?_)
    clear hK K hB0 hb
    have hB0 := hB1
    clear hB1
    (try simp only [Act.put, List.getElem_toArray, List.getElem_cons_zero, List.getElem_cons_succ, List.setIfInBounds_toArray, List.set_cons_zero, List.set_cons_succ])
    refine wpAnyH_ready (rs := [8]) (by kernel_rfl) (by simp) ?_
    refine AllReadyH.cons rfl (fun K hK => ?_) AllReadyH.nil
    go_simp
    have hv : (W1.alloc (.cells #[.string s] 9)).rowIs W1.heap.size 9 1 (fun _ => .string s) := row_one W1 s
    have hB1 := hB0.alloc hB0.size (.cells #[.string s] 9)
    have hvz : W.heap.size ≤ W1.heap.size := hB0.size
    refine hK.out _ _ trivial (fun _ => ?_)
    clear hK K hB0
    have hB0 := hB1
    clear hB1
    obtain ⟨vb, hvb⟩ : ∃ vb, W1.heap.size = vb := ⟨_, rfl⟩
    rw [hvb] at hv hvz ⊢
    generalize W1.alloc (.cells #[.string s] 9) = W2 at *
    clear hvb
    refine wpAnyH_ready (rs := [9]) (by kernel_rfl) (by simp) ?_
    refine AllReadyH.cons rfl (fun K hK => ?_) AllReadyH.nil
    obtain ⟨hO, hL⟩ := HG.out _ hB0
    have hWz : W.heap.size ≤ W2.heap.size := hB0.size
    have hva : a.map (·.block) ≠ some vb := fun e => by
      obtain ⟨g, hg⟩ := hO.block e
      have h1 := (HG.out W (Below.refl _ _)).1.lt hg
      have h2 : g = vb := by rw [hg] at e; exact Option.some.inj e
      omega
    obtain ⟨nl, hnl⟩ : ∃ nl, nl = ns.take k ++ s :: ns.drop k := ⟨_, rfl⟩
    have hI := insert_any hO (by omega) hk hv hva hn
    rw [← hnl] at hI
    have HNL : Hid (nl = ns.take k ++ s :: ns.drop k) := hnl
    clear hnl
    go_simp
    refine hI.mono ?_
    clear hI
    rintro r W3 ⟨a', c', rfl, hO', ⟨hBe, hfr⟩, hnb⟩
    have hlb : W3.heap[lb]? = W2.heap[lb]? := hfr lb (by omega) (fun e => HN.out e.symm)
    have hL' := hL.of_block hlb
    have hne' : a'.map (·.block) ≠ some lb := fun e => by
      rcases hnb with hnb | ⟨g, hg, hge⟩
      · exact HN.out (hnb.symm.trans e)
      · rw [hg] at e; cases e; omega
    have hF : Hid (NL B (W3.setCell ⟨lb, 0, none⟩ (.slice a' nl.length c')) lb nl ∧ Wr B lb W (W3.setCell ⟨lb, 0, none⟩ (.slice a' nl.length c'))) := by
      refine ⟨⟨a', c', hO'.of_block (fun g hg => heap_setCell_other _ _ _ _ (fun e => hne' (by rw [hg]; exact congrArg some e))), (hL'.set 0 _).congr (fun i hi => if_pos (by omega)), hne'⟩, ?_⟩
      have hb1 : Below B W W2 := hB0.mono hB
      refine ⟨(hb1.trans hBe).setCell (p := ⟨lb, 0, none⟩) hBl _, fun x hx hxl hxs => ?_⟩
      rw [heap_setCell_other _ _ _ _ (fun e => hxl e)]
      rw [hfr x (by omega) (fun e => ?_)]
      · exact hB0.block x hx
      · obtain ⟨g, hg⟩ := hO.block e.symm
        have h2 : g = x := by rw [hg] at e; exact (Option.some.inj e).symm
        subst h2
        have h3 := (HG.out W (Below.refl _ _)).1.lt hg
        rcases hxs with hxs | hxs
        · omega
        · obtain ⟨cs, hcs⟩ := (HG.out W (Below.refl _ _)).1.isText hg
          exact hxs _ _ hcs
    have hcl := hL'.cell (i := 0) (by omega)
    have hfz := hL'.frozen 0
    clear hO hL hv hva hO' hBe hfr hnb hlb hL' hne'
    go_wp2_with fail
    refine hK.out _ _ trivial (fun _ => ?_)
    clear hK K
    (try simp only [Act.put, List.getElem_toArray, List.getElem_cons_zero, List.getElem_cons_succ, List.setIfInBounds_toArray, List.set_cons_zero, List.set_cons_succ])
    have hSw : (fun _ : World => True) W3 := trivial
    refine wpAnyH_take (i := 10) (v := .pointer (some ⟨lb, 0, none⟩)) rfl (by kernel_rfl) (by kernel_rfl) (by kernel_rfl) (fun _ _ _ h => hp _ _ _ _ _ h) (Or.inl ⟨by rfl, ?_⟩) (by assumption) ?_
    · intro w hSw
      (try dsimp only at hSw)
      go_simp
    (try simp only [Act.put, List.getElem_toArray, List.getElem_cons_zero, List.getElem_cons_succ, List.setIfInBounds_toArray, List.set_cons_zero, List.set_cons_succ])
    refine wpAnyH_take (i := 11) (v := .pointer (some ⟨lb, 0, none⟩)) rfl (by kernel_rfl) (by kernel_rfl) (by kernel_rfl) (fun _ _ _ h => hp _ _ _ _ _ h) (Or.inl ⟨by rfl, ?_⟩) (by assumption) ?_
    · intro w hSw
      (try dsimp only at hSw)
      go_simp
    (try simp only [Act.put, List.getElem_toArray, List.getElem_cons_zero, List.getElem_cons_succ, List.setIfInBounds_toArray, List.set_cons_zero, List.set_cons_succ])
    clear hSw
    refine wpAnyH_ready (rs := [12]) (by kernel_rfl) (by simp) ?_
    refine AllReadyH.cons rfl (fun K hK => ?_) AllReadyH.nil
    go_simp
    refine hK.out _ _ trivial (fun _ => ?_)
    refine wpAnyH_done (by kernel_rfl) ?_ _
    exact h _ _ _ _ _ _ _ _ _ _ _ _ _ (HNL.out ▸ hF.out.1) hF.out.2
  · skip
    go_simp
    refine (stringsClone_any s _ hs).mono ?_
    rintro r W4 ⟨rfl, hb⟩
    have hB1 := hB0.trans (hb.mono hB0.size)
    go_wp2_with fail
    refine hK.out _ _ trivial (fun _ => ?_)
    clear hK K hB0 hb
    have hB0 := hB1
    clear hB1
    (try simp only [Act.put, List.getElem_toArray, List.getElem_cons_zero, List.getElem_cons_succ, List.setIfInBounds_toArray, List.set_cons_zero, List.set_cons_succ])
    refine wpAnyH_ready (rs := [4, 8]) (by kernel_rfl) (by simp) ?_
    refine AllReadyH.cons rfl (fun K hK => ?_) (AllReadyH.cons rfl (fun K hK => ?_) AllReadyH.nil)
    · skip
      have hcl := ((HG.out _ hB0).2).cell (i := 0) (by omega)
      go_simp
      refine hK.out _ _ trivial (fun _ => ?_)
      clear hK K hcl
      (try simp only [Act.put, List.getElem_toArray, List.getElem_cons_zero, List.getElem_cons_succ, List.setIfInBounds_toArray, List.set_cons_zero, List.set_cons_succ])
      refine wpAnyH_ready (rs := [8]) (by kernel_rfl) (by simp) ?_
      refine AllReadyH.cons rfl (fun K hK => ?_) AllReadyH.nil
      go_simp
      have hv : (W4.alloc (.cells #[.string s] 9)).rowIs W4.heap.size 9 1 (fun _ => .string s) := row_one W4 s
      have hB1 := hB0.alloc hB0.size (.cells #[.string s] 9)
      have hvz : W.heap.size ≤ W4.heap.size := hB0.size
      refine hK.out _ _ trivial (fun _ => ?_)
      clear hK K hB0
      have hB0 := hB1
      clear hB1
      obtain ⟨vb, hvb⟩ : ∃ vb, W4.heap.size = vb := ⟨_, rfl⟩
      rw [hvb] at hv hvz ⊢
      generalize W4.alloc (.cells #[.string s] 9) = W5 at *
      clear hvb
      refine wpAnyH_ready (rs := [9]) (by kernel_rfl) (by simp) ?_
      refine AllReadyH.cons rfl (fun K hK => ?_) AllReadyH.nil
      obtain ⟨hO, hL⟩ := HG.out _ hB0
      have hWz : W.heap.size ≤ W5.heap.size := hB0.size
      have hva : a.map (·.block) ≠ some vb := fun e => by
        obtain ⟨g, hg⟩ := hO.block e
        have h1 := (HG.out W (Below.refl _ _)).1.lt hg
        have h2 : g = vb := by rw [hg] at e; exact Option.some.inj e
        omega
      obtain ⟨nl, hnl⟩ : ∃ nl, nl = ns.take k ++ s :: ns.drop k := ⟨_, rfl⟩
      have hI := insert_any hO (by omega) hk hv hva hn
      rw [← hnl] at hI
      have HNL : Hid (nl = ns.take k ++ s :: ns.drop k) := hnl
      clear hnl
      go_simp
      refine hI.mono ?_
      clear hI
      rintro r W6 ⟨a', c', rfl, hO', ⟨hBe, hfr⟩, hnb⟩
      have hlb : W6.heap[lb]? = W5.heap[lb]? := hfr lb (by omega) (fun e => HN.out e.symm)
      have hL' := hL.of_block hlb
      have hne' : a'.map (·.block) ≠ some lb := fun e => by
        rcases hnb with hnb | ⟨g, hg, hge⟩
        · exact HN.out (hnb.symm.trans e)
        · rw [hg] at e; cases e; omega
      have hF : Hid (NL B (W6.setCell ⟨lb, 0, none⟩ (.slice a' nl.length c')) lb nl ∧ Wr B lb W (W6.setCell ⟨lb, 0, none⟩ (.slice a' nl.length c'))) := by
        refine ⟨⟨a', c', hO'.of_block (fun g hg => heap_setCell_other _ _ _ _ (fun e => hne' (by rw [hg]; exact congrArg some e))), (hL'.set 0 _).congr (fun i hi => if_pos (by omega)), hne'⟩, ?_⟩
        have hb1 : Below B W W5 := hB0.mono hB
        refine ⟨(hb1.trans hBe).setCell (p := ⟨lb, 0, none⟩) hBl _, fun x hx hxl hxs => ?_⟩
        rw [heap_setCell_other _ _ _ _ (fun e => hxl e)]
        rw [hfr x (by omega) (fun e => ?_)]
        · exact hB0.block x hx
        · obtain ⟨g, hg⟩ := hO.block e.symm
          have h2 : g = x := by rw [hg] at e; exact (Option.some.inj e).symm
          subst h2
          have h3 := (HG.out W (Below.refl _ _)).1.lt hg
          rcases hxs with hxs | hxs
          · omega
          · obtain ⟨cs, hcs⟩ := (HG.out W (Below.refl _ _)).1.isText hg
            exact hxs _ _ hcs
      have hcl := hL'.cell (i := 0) (by omega)
      have hfz := hL'.frozen 0
      clear hO hL hv hva hO' hBe hfr hnb hlb hL' hne'
      go_wp2_with fail
      refine hK.out _ _ trivial (fun _ => ?_)
      clear hK K
      (try simp only [Act.put, List.getElem_toArray, List.getElem_cons_zero, List.getElem_cons_succ, List.setIfInBounds_toArray, List.set_cons_zero, List.set_cons_succ])
      have hSw : (fun _ : World => True) W6 := trivial
      refine wpAnyH_take (i := 10) (v := .pointer (some ⟨lb, 0, none⟩)) rfl (by kernel_rfl) (by kernel_rfl) (by kernel_rfl) (fun _ _ _ h => hp _ _ _ _ _ h) (Or.inl ⟨by rfl, ?_⟩) (by assumption) ?_
      · intro w hSw
        (try dsimp only at hSw)
        go_simp
      (try simp only [Act.put, List.getElem_toArray, List.getElem_cons_zero, List.getElem_cons_succ, List.setIfInBounds_toArray, List.set_cons_zero, List.set_cons_succ])
      refine wpAnyH_take (i := 11) (v := .pointer (some ⟨lb, 0, none⟩)) rfl (by kernel_rfl) (by kernel_rfl) (by kernel_rfl) (fun _ _ _ h => hp _ _ _ _ _ h) (Or.inl ⟨by rfl, ?_⟩) (by assumption) ?_
      · intro w hSw
        (try dsimp only at hSw)
        go_simp
      (try simp only [Act.put, List.getElem_toArray, List.getElem_cons_zero, List.getElem_cons_succ, List.setIfInBounds_toArray, List.set_cons_zero, List.set_cons_succ])
      clear hSw
      refine wpAnyH_ready (rs := [12]) (by kernel_rfl) (by simp) ?_
      refine AllReadyH.cons rfl (fun K hK => ?_) AllReadyH.nil
      go_simp
      refine hK.out _ _ trivial (fun _ => ?_)
      refine wpAnyH_done (by kernel_rfl) ?_ _
      exact h _ _ _ _ _ _ _ _ _ _ _ _ _ (HNL.out ▸ hF.out.1) hF.out.2
    · skip
      go_simp
      have hv : (W4.alloc (.cells #[.string s] 9)).rowIs W4.heap.size 9 1 (fun _ => .string s) := row_one W4 s
      have hB1 := hB0.alloc hB0.size (.cells #[.string s] 9)
      have hvz : W.heap.size ≤ W4.heap.size := hB0.size
      refine hK.out _ _ trivial (fun _ => ?_)
      clear hK K hB0
      have hB0 := hB1
      clear hB1
      obtain ⟨vb, hvb⟩ : ∃ vb, W4.heap.size = vb := ⟨_, rfl⟩
      rw [hvb] at hv hvz ⊢
      generalize W4.alloc (.cells #[.string s] 9) = W7 at *
      clear hvb
      refine wpAnyH_ready (rs := [4]) (by kernel_rfl) (by simp) ?_
      refine AllReadyH.cons rfl (fun K hK => ?_) AllReadyH.nil
      have hcl := ((HG.out _ hB0).2).cell (i := 0) (by omega)
      go_simp
      refine hK.out _ _ trivial (fun _ => ?_)
      clear hK K hcl
      (try simp only [Act.put, List.getElem_toArray, List.getElem_cons_zero, List.getElem_cons_succ, List.setIfInBounds_toArray, List.set_cons_zero, List.set_cons_succ])
      refine wpAnyH_ready (rs := [9]) (by kernel_rfl) (by simp) ?_
      refine AllReadyH.cons rfl (fun K hK => ?_) AllReadyH.nil
      obtain ⟨hO, hL⟩ := HG.out _ hB0
      have hWz : W.heap.size ≤ W7.heap.size := hB0.size
      have hva : a.map (·.block) ≠ some vb := fun e => by
        obtain ⟨g, hg⟩ := hO.block e
        have h1 := (HG.out W (Below.refl _ _)).1.lt hg
        have h2 : g = vb := by rw [hg] at e; exact Option.some.inj e
        omega
      obtain ⟨nl, hnl⟩ : ∃ nl, nl = ns.take k ++ s :: ns.drop k := ⟨_, rfl⟩
      have hI := insert_any hO (by omega) hk hv hva hn
      rw [← hnl] at hI
      have HNL : Hid (nl = ns.take k ++ s :: ns.drop k) := hnl
      clear hnl
      go_simp
      refine hI.mono ?_
      clear hI
      rintro r W8 ⟨a', c', rfl, hO', ⟨hBe, hfr⟩, hnb⟩
      have hlb : W8.heap[lb]? = W7.heap[lb]? := hfr lb (by omega) (fun e => HN.out e.symm)
      have hL' := hL.of_block hlb
      have hne' : a'.map (·.block) ≠ some lb := fun e => by
        rcases hnb with hnb | ⟨g, hg, hge⟩
        · exact HN.out (hnb.symm.trans e)
        · rw [hg] at e; cases e; omega
      have hF : Hid (NL B (W8.setCell ⟨lb, 0, none⟩ (.slice a' nl.length c')) lb nl ∧ Wr B lb W (W8.setCell ⟨lb, 0, none⟩ (.slice a' nl.length c'))) := by
        refine ⟨⟨a', c', hO'.of_block (fun g hg => heap_setCell_other _ _ _ _ (fun e => hne' (by rw [hg]; exact congrArg some e))), (hL'.set 0 _).congr (fun i hi => if_pos (by omega)), hne'⟩, ?_⟩
        have hb1 : Below B W W7 := hB0.mono hB
        refine ⟨(hb1.trans hBe).setCell (p := ⟨lb, 0, none⟩) hBl _, fun x hx hxl hxs => ?_⟩
        rw [heap_setCell_other _ _ _ _ (fun e => hxl e)]
        rw [hfr x (by omega) (fun e => ?_)]
        · exact hB0.block x hx
        · obtain ⟨g, hg⟩ := hO.block e.symm
          have h2 : g = x := by rw [hg] at e; exact (Option.some.inj e).symm
          subst h2
          have h3 := (HG.out W (Below.refl _ _)).1.lt hg
          rcases hxs with hxs | hxs
          · omega
          · obtain ⟨cs, hcs⟩ := (HG.out W (Below.refl _ _)).1.isText hg
            exact hxs _ _ hcs
      have hcl := hL'.cell (i := 0) (by omega)
      have hfz := hL'.frozen 0
      clear hO hL hv hva hO' hBe hfr hnb hlb hL' hne'
      go_wp2_with fail
      refine hK.out _ _ trivial (fun _ => ?_)
      clear hK K
      (try simp only [Act.put, List.getElem_toArray, List.getElem_cons_zero, List.getElem_cons_succ, List.setIfInBounds_toArray, List.set_cons_zero, List.set_cons_succ])
      have hSw : (fun _ : World => True) W8 := trivial
      refine wpAnyH_take (i := 10) (v := .pointer (some ⟨lb, 0, none⟩)) rfl (by kernel_rfl) (by kernel_rfl) (by kernel_rfl) (fun _ _ _ h => hp _ _ _ _ _ h) (Or.inl ⟨by rfl, ?_⟩) (by assumption) ?_
      · intro w hSw
        (try dsimp only at hSw)
        go_simp
      (try simp only [Act.put, List.getElem_toArray, List.getElem_cons_zero, List.getElem_cons_succ, List.setIfInBounds_toArray, List.set_cons_zero, List.set_cons_succ])
      refine wpAnyH_take (i := 11) (v := .pointer (some ⟨lb, 0, none⟩)) rfl (by kernel_rfl) (by kernel_rfl) (by kernel_rfl) (fun _ _ _ h => hp _ _ _ _ _ h) (Or.inl ⟨by rfl, ?_⟩) (by assumption) ?_
      · intro w hSw
        (try dsimp only at hSw)
        go_simp
      (try simp only [Act.put, List.getElem_toArray, List.getElem_cons_zero, List.getElem_cons_succ, List.setIfInBounds_toArray, List.set_cons_zero, List.set_cons_succ])
      clear hSw
      refine wpAnyH_ready (rs := [12]) (by kernel_rfl) (by simp) ?_
      refine AllReadyH.cons rfl (fun K hK => ?_) AllReadyH.nil
      go_simp
      refine hK.out _ _ trivial (fun _ => ?_)
      refine wpAnyH_done (by kernel_rfl) ?_ _
      exact h _ _ _ _ _ _ _ _ _ _ _ _ _ (HNL.out ▸ hF.out.1) hF.out.2
end Go.Proofs.Ytbbbmmemfndnlaa
/- Names, each once, ascending: nameList's add. -/
namespace Go.Proofs.Ytbbbmmemfndnlaa
open Go.RowKit
attribute [local go_sem] cell_alloc_is frozen_alloc_is
theorem Wr.trans {B lb : Nat} {A C D : World} (h : Wr B lb A C) (k : Wr B lb C D) : Wr B lb A D := by
  refine ⟨h.1.trans k.1, fun x hx hl ht => ?_⟩
  have e := h.2 x hx hl ht
  refine (k.2 x (Nat.lt_of_lt_of_le hx h.1.size) hl ?_).trans e
  rcases ht with ht | ht
  · exact .inl ht
  · exact .inr fun cs z => by rw [e]; exact ht cs z
theorem Wr.of_below {B lb : Nat} {A C : World} (h : Below A.heap.size A C) (hB : B ≤ A.heap.size) : Wr B lb A C := ⟨h.mono hB, fun x hx _ _ => h.block x hx⟩
set_option maxHeartbeats 1000000 in
theorem add_any {B lb : Nat} {w : World} {ns : List ByteArray} {s : ByteArray} (h : NL B w lb ns) (hasc : ascT ns) (hB : B ≤ w.heap.size) (hBl : B ≤ lb) (hn : ns.length ≤ 1100000) (hs : s.size ≤ 281474976710656) :
    Calls Try.prog 47 #[.pointer (some ⟨lb, 0, none⟩), .string s] w fun e w' => e = .returned (.tuple #[]) ∧ NL B w' lb (put1 s ns) ∧ Wr B lb w w' := by
  obtain ⟨a, c, hO, hL, hne⟩ := h
  have hcl := hL.cell (i := 0) (by omega)
  have hple := plc_le s ns
  have hbs := asc_bs (s := s) hasc
  have hfind : Calls Try.prog 69 #[.slice a ns.length c, .string s] w fun e w' => e = .returned (.tuple #[.int .i64 (plc s ns : Nat), .bool (hasAt s ns)]) ∧ ∃ q, w' = w.drewN q := by
    rcases hO with ⟨rfl, rfl, rfl⟩ | ⟨g, f, rfl, hg, ⟨hc1, hc2⟩, hrow, hf⟩
    · refine (Any2.slices_BinarySearch_string_empty laysS26 none 0 s w).mono ?_
      rintro e w' ⟨rfl, rfl⟩
      exact ⟨rfl, 0, rfl⟩
    · refine (Any2.slices_BinarySearch_string laysS26 g 0 ns.length c (fun t => ns.getD t s) s w (by omega) (fun j hj => ?_)).mono ?_
      · have e := List.getElem?_eq_getElem hj
        rw [Nat.zero_add, hrow.cell (by omega), hf j _ e, List.getD_eq_getElem?_getD, e]; rfl
      · rintro e w' ⟨rfl, hq⟩
        rw [hbs]
        refine ⟨?_, hq⟩
        have e2 : decide (plc s ns < ns.length ∧ ns.getD (plc s ns) s = s) = hasAt s ns := by
          rw [Bool.eq_iff_iff, decide_eq_true_iff]
          constructor
          · rintro ⟨h1, h2⟩
            have e := List.getElem?_eq_getElem h1
            rw [List.getD_eq_getElem?_getD, e] at h2
            rw [hasAt_some e]
            have h3 : ns[plc s ns] = s := h2
            rw [h3]; simp
          · intro h1
            cases e : ns[plc s ns]? with
            | none => unfold hasAt at h1; rw [e] at h1; cases h1
            | some x =>
              rw [hasAt_some e] at h1
              exact ⟨(List.getElem?_eq_some_iff.1 e).1, by rw [List.getD_eq_getElem?_getD, e]; exact texts_ext h1⟩
        rw [e2]
  cases hh : hasAt s ns
  · have HP : Hid (put1 s ns = ns.take (plc s ns) ++ s :: ns.drop (plc s ns)) := by unfold Hid put1; rw [hh]; rfl
    rw [hh] at hfind
    clear hbs hasc
    go_enter Try.func47, Try.ntmps47
    go_wp2_with fail
    refine hfind.mono ?_
    rintro r w1 ⟨rfl, q, rfl⟩
    have hO1 : OwnT B (w.drewN q) a c ns := hO
    have hL1 : (w.drewN q).rowIs lb 49 1 (fun _ => .slice a ns.length c) := hL
    have hW1 : Wr B lb w (w.drewN q) := ⟨below_drewN (Below.refl B w) q, fun _ _ _ _ => rfl⟩
    clear hfind hO hL hcl hh
    go_wp2_with fail
    refine na2 hO1 hL1 hne (by exact hB) hBl hple hn hs (fun _ d _ _ _ h => by cases d <;> exact h) ?_
    intro ws v17 v18 v19 v20 v21 v22 v23 v24 v25 v26 v27 v28 hN hW
    have HF : Hid (NL B ws lb (put1 s ns) ∧ Wr B lb w ws) := ⟨by rw [HP.out]; exact hN, hW1.trans hW⟩
    clear hN hW hW1 hO1 hL1 hne
    go_wp2_with fail
    go_end0
    exact ⟨rfl, HF.out⟩
  · have HP : Hid (put1 s ns = ns) := by unfold Hid put1; rw [hh]; rfl
    rw [hh] at hfind
    clear hbs hasc
    go_enter Try.func47, Try.ntmps47
    go_wp2_with fail
    refine hfind.mono ?_
    rintro r w1 ⟨rfl, q, rfl⟩
    have HF : Hid (NL B (w.drewN q) lb (put1 s ns) ∧ Wr B lb w (w.drewN q)) := ⟨by rw [HP.out]; exact ⟨a, c, hO, hL, hne⟩, below_drewN (Below.refl B w) q, fun _ _ _ _ => rfl⟩
    clear hfind hO hL hcl hh hne
    go_wp2_with fail
    go_end0
    exact ⟨rfl, HF.out⟩
end Go.Proofs.Ytbbbmmemfndnlaa
/- Names from outside: what the program goes through, and that it is what the specification goes through, of a tree that is ok. -/
namespace Go.Proofs.Ytbbbmmemfndnlaa
open Go.RowKit
theorem drop_zero (F : Fo) : F.drop 0 = F := by cases F <;> rfl
theorem drop_len (F : Fo) : ∀ {j : Nat}, j ≤ F.len → j + (F.drop j).len = F.len := by
  induction F with
  | nil => intro j hj; have : j = 0 := Nat.le_zero.1 hj; subst this; rfl
  | cons k t m e a c kids next _ ih =>
    intro j hj
    cases j with
    | zero => rw [drop_zero, Nat.zero_add]
    | succ j => have := ih (Nat.le_of_succ_le_succ hj); show j + 1 + (next.drop j).len = next.len + 1; omega
theorem drop_size (F : Fo) : ∀ {j : Nat}, j ≤ F.len → j + (F.drop j).size ≤ F.size := by
  induction F with
  | nil => intro j hj; have : j = 0 := Nat.le_zero.1 hj; subst this; exact Nat.le_refl _
  | cons k t m e a c kids next _ ih =>
    intro j hj
    cases j with
    | zero => rw [drop_zero, Nat.zero_add]; exact Nat.le_refl _
    | succ j => have := ih (Nat.le_of_succ_le_succ hj); show j + 1 + (next.drop j).size ≤ kids.size + 1 + next.size; omega
theorem drop_from (F : Fo) : ∀ {w : World} {b o j : Nat}, F.From w b o → (F.drop j).From w b (o + j * 5) := by
  induction F with
  | nil => intro w b o j _; cases j <;> trivial
  | cons k t m e a c kids next _ ih =>
    intro w b o j h
    cases j with
    | zero => exact h
    | succ j =>
      have := ih (j := j) h.2.2.2.2.2
      rw [show o + 5 + j * 5 = o + (j + 1) * 5 by omega] at this
      exact this
theorem drop_lam (F : Fo) : ∀ {j : Nat}, F.Lam → (F.drop j).Lam := by
  induction F with
  | nil => intro j h; cases j <;> exact h
  | cons k t m e a c kids next _ ih =>
    intro j h
    cases j with
    | zero => exact h
    | succ j => exact ih h.2.2
theorem frs_drop (pk : Int) (pt : ByteArray) (pF : Fo) (bound ns : List ByteArray) (F : Fo) : ∀ (d i : Nat), i + d ≤ fromP pk pF → (F.drop d).frs pk pt pF bound (i + d) ns = F.frs pk pt pF bound i ns := by
  induction F with
  | nil => intro d i _; cases d <;> rfl
  | cons k t m e a c kids next _ ih =>
    intro d i h
    cases d with
    | zero => rfl
    | succ d =>
      have := ih d (i + 1) (by omega)
      rw [show i + 1 + d = i + (d + 1) by omega] at this
      show (next.drop d).frs pk pt pF bound (i + (d + 1)) ns = next.frs pk pt pF bound (i + 1) (if i < fromP pk pF then ns else _)
      rw [if_pos (by omega)]
      exact this
/-- the texts right below lie within -/
theorem txts_in {F : Fo} : ∀ {w : World} {b o : Nat}, F.From w b o → ∀ s ∈ F.txts, s.size ≤ maxLen := by
  induction F with
  | nil => intro w b o _ s hs; cases hs
  | cons k t m e a c kids next _ ih =>
    intro w b o h s hs
    rcases List.mem_cons.1 hs with rfl | hs
    · exact h.2.2.2.2.1
    · exact ih h.2.2.2.2.2 s hs
theorem In.txts {F : Fo} {w : World} {a : Option Addr} (h : F.In w a) : ∀ s ∈ F.txts, s.size ≤ maxLen := by
  rcases h with rfl | ⟨b, o, _, h⟩
  · intro s hs; cases hs
  · exact txts_in h
theorem bnd_len (k : Int) (t : ByteArray) (F : Fo) (i : Nat) (hi : i < F.len) : (bnd k t F i).length ≤ F.len := by
  unfold bnd
  split
  · show 1 ≤ F.len; omega
  · split
    · rw [List.length_take, Fo.txts_len]; omega
    · exact Nat.zero_le _
/-- the names from outside as the program goes: into names too, and into all that stands below a function -/
def Fo.fri : Fo → Int → ByteArray → Fo → List ByteArray → Nat → List ByteArray → List ByteArray
  | .nil, _, _, _, _, _, ns => ns
  | .cons k t _ _ _ _ kids next, pk, pt, pF, bound, i, ns =>
    next.fri pk pt pF bound (i + 1) (kids.fri k t kids (bound ++ bnd pk pt pF i) 0 (if k = 6 ∧ hasT t (bound ++ bnd pk pt pF i) = false then put1 t ns else ns))
def fri1 (k : Int) (t : ByteArray) (F : Fo) (bound ns : List ByteArray) : List ByteArray := F.fri k t F bound 0 (if k = 6 ∧ hasT t bound = false then put1 t ns else ns)
theorem fri_ok (F : Fo) : ∀ (pk : Int) (pt : ByteArray) (pF : Fo) (bound : List ByteArray) (i : Nat) (ns : List ByteArray), ascT ns → ascT (F.fri pk pt pF bound i ns) ∧ (F.fri pk pt pF bound i ns).length ≤ ns.length + F.size := by
  induction F with
  | nil => intro pk pt pF bound i ns h; exact ⟨h, Nat.le_refl _⟩
  | cons k t m e a c kids next ih1 ih2 =>
    intro pk pt pF bound i ns h
    have e2 : (Fo.cons k t m e a c kids next).size = kids.size + 1 + next.size := rfl
    obtain ⟨x, hx, hl, ha⟩ : ∃ x, (if k = 6 ∧ hasT t (bound ++ bnd pk pt pF i) = false then put1 t ns else ns) = x ∧ x.length ≤ ns.length + 1 ∧ ascT x := by
      refine ⟨_, rfl, ?_⟩
      split
      · exact ⟨put1_len t ns, asc_put1 h⟩
      · exact ⟨by omega, h⟩
    obtain ⟨a1, l1⟩ := ih1 k t kids (bound ++ bnd pk pt pF i) 0 x ha
    obtain ⟨a2, l2⟩ := ih2 pk pt pF bound (i + 1) _ a1
    show ascT (next.fri pk pt pF bound (i + 1) (kids.fri k t kids (bound ++ bnd pk pt pF i) 0 (if k = 6 ∧ hasT t (bound ++ bnd pk pt pF i) = false then put1 t ns else ns))) ∧ (next.fri pk pt pF bound (i + 1) (kids.fri k t kids (bound ++ bnd pk pt pF i) 0 (if k = 6 ∧ hasT t (bound ++ bnd pk pt pF i) = false then put1 t ns else ns))).length ≤ _
    rw [hx, e2]
    exact ⟨a2, by omega⟩
theorem fri1_ok (k : Int) (t : ByteArray) (F : Fo) (bound ns : List ByteArray) (h : ascT ns) : ascT (fri1 k t F bound ns) ∧ (fri1 k t F bound ns).length ≤ ns.length + F.size + 1 := by
  obtain ⟨x, hx, hl, ha⟩ : ∃ x, (if k = 6 ∧ hasT t bound = false then put1 t ns else ns) = x ∧ x.length ≤ ns.length + 1 ∧ ascT x := by
    refine ⟨_, rfl, ?_⟩
    split
    · exact ⟨put1_len t ns, asc_put1 h⟩
    · exact ⟨by omega, h⟩
  obtain ⟨a1, l1⟩ := fri_ok F k t F bound 0 x ha
  unfold fri1
  rw [hx]
  exact ⟨a1, by omega⟩
/-- a name has nothing below; what a function has ahead of its last are names -/
def namOk (k : Int) (F : Fo) : Prop := (k = 6 → F = .nil) ∧ (k = 16 → ∀ j, j + 1 < F.len → F.kindAt j = 6)
def Fo.Nam : Fo → Prop
  | .nil => True
  | .cons k _ _ _ _ _ kids next => namOk k kids ∧ kids.Nam ∧ next.Nam
theorem cnt_all {F : Fo} {q : Int} : ∀ {n : Nat}, F.cnt q n = n → ∀ j, j < n → F.kindAt j = q := by
  intro n
  induction n with
  | zero => intro _ j hj; omega
  | succ n ih =>
    intro h j hj
    have h1 : F.cnt q n + (if F.kindAt n = q then 1 else 0) = n + 1 := h
    have h2 := F.cnt_le q n
    by_cases hk : F.kindAt n = q
    · rw [if_pos hk] at h1
      rcases Nat.lt_succ_iff_lt_or_eq.1 hj with hj | rfl
      · exact ih (by omega) j hj
      · exact hk
    · rw [if_neg hk] at h1; omega
theorem nam_of_fit {k : Int} {t : ByteArray} {m e : Int} {F : Fo} (h : Om.fit k t m e F = true) : namOk k F := by
  unfold Om.fit at h
  simp only [Bool.and_eq_true, decide_eq_true_eq] at h
  obtain ⟨⟨-, ⟨h1, h2⟩, -⟩, -, hb⟩ := h
  refine ⟨fun hk => ?_, fun hk j hj => ?_⟩
  · subst hk
    have e6 : Om.high' 6 = 0 := by decide
    rw [e6] at h2
    cases F with
    | nil => rfl
    | cons k' t' m' e' a' c' kids next => exact absurd h2 (by show ¬ next.len + 1 ≤ 0; omega)
  · subst hk
    unfold Om.below at hb
    rw [if_neg (by decide), if_pos rfl] at hb
    simp only [Bool.and_eq_true, decide_eq_true_eq] at hb
    exact cnt_all hb.1 j (by omega)
theorem nam_flat : ∀ {F : Fo} {d : Nat}, (∀ x ∈ F.flat d, Om.fit x.2.1 x.2.2.1 x.2.2.2.1 x.2.2.2.2.1 x.2.2.2.2.2 = true) → F.Nam := by
  intro F
  induction F with
  | nil => intros; trivial
  | cons k t m e a c kids next ih1 ih2 =>
    intro d h
    exact ⟨nam_of_fit (h (d, k, t, m, e, kids) (by unfold Fo.flat; simp)), ih1 (d := d + 1) (fun x hx => h x (by unfold Fo.flat; simp [hx])), ih2 (d := d) (fun x hx => h x (by unfold Fo.flat; simp [hx]))⟩
theorem good_nam {k : Int} {t : ByteArray} {m e : Int} {F : Fo} (h : TreeGood k t m e F) : namOk k F ∧ F.Nam :=
  ⟨nam_of_fit (h.2 (1, k, t, m, e, F) (by simp)).2, nam_flat (d := 2) (fun x hx => (h.2 x (by simp [hx])).2)⟩
theorem kindAt_drop : ∀ {F : Fo} {j : Nat} {k : Int} {t : ByteArray} {m e : Int} {a : Option Addr} {c : Nat} {kids next : Fo}, F.drop j = .cons k t m e a c kids next → F.kindAt j = k := by
  intro F
  induction F with
  | nil => intro j k t m e a c kids next h; cases j <;> cases h
  | cons k0 t0 m0 e0 a0 c0 kids0 next0 _ ih =>
    intro j k t m e a c kids next h
    cases j with
    | zero => cases h; rfl
    | succ j => exact ih h
theorem fri_frs : ∀ (F : Fo) (pk : Int) (pt : ByteArray) (pF : Fo) (bound : List ByteArray) (i : Nat) (ns : List ByteArray), F.Nam → namOk pk pF → pF.drop i = F → F.fri pk pt pF bound i ns = F.frs pk pt pF bound i ns := by
  intro F
  induction F with
  | nil => intros; rfl
  | cons k t m e a c kids next ih1 ih2 =>
    intro pk pt pF bound i ns hN hp hd
    obtain ⟨hk, hK, hn⟩ := hN
    have hnx := Fo.drop_next hd
    show next.fri pk pt pF bound (i + 1) (kids.fri k t kids (bound ++ bnd pk pt pF i) 0 (if k = 6 ∧ hasT t (bound ++ bnd pk pt pF i) = false then put1 t ns else ns)) = next.frs pk pt pF bound (i + 1) (if i < fromP pk pF then ns else if k = 6 ∧ hasT t (bound ++ bnd pk pt pF i) = false then put1 t ns else kids.frs k t kids (bound ++ bnd pk pt pF i) 0 ns)
    rw [ih2 _ _ _ _ _ _ hn hp hnx, ih1 k t kids _ 0 _ hK hk (drop_zero kids)]
    congr 1
    by_cases hf : i < fromP pk pF
    · rw [if_pos hf]
      unfold fromP at hf
      by_cases h16 : pk = 16
      · subst h16
        rw [if_pos rfl] at hf
        have hk6 : k = 6 := by rw [← kindAt_drop hd]; exact hp.2 rfl i (by omega)
        have hb : hasT t (bound ++ bnd 16 pt pF i) = true := by
          rw [hasT_iff]
          refine List.mem_append.2 (.inr ?_)
          unfold bnd
          rw [if_neg (by rintro (h | ⟨h, _⟩) <;> exact absurd h (by decide)), if_pos rfl]
          have ht := txts_at hd
          obtain ⟨hl, he⟩ := List.getElem?_eq_some_iff.1 ht
          rw [← he]
          rw [List.mem_iff_getElem]
          exact ⟨i, by rw [List.length_take]; omega, by rw [List.getElem_take]⟩
        rw [if_neg (fun h => by rw [hb] at h; cases h.2)]
        rw [hk.1 hk6]; rfl
      · rw [if_neg h16] at hf; omega
    · rw [if_neg hf]
      by_cases hc : k = 6 ∧ hasT t (bound ++ bnd pk pt pF i) = false
      · rw [if_pos hc, if_pos hc, hk.1 hc.1]; rfl
      · rw [if_neg hc, if_neg hc]
theorem fri1_frs1 (k : Int) (t : ByteArray) (F : Fo) (bound ns : List ByteArray) (h : namOk k F ∧ F.Nam) : fri1 k t F bound ns = frs1 k t F bound ns := by
  unfold fri1 frs1
  rw [fri_frs F k t F bound 0 _ h.2 h.1 (drop_zero F)]
  by_cases hc : k = 6 ∧ hasT t bound = false
  · rw [if_pos hc, if_pos hc, h.1.1 hc.1]; rfl
  · rw [if_neg hc, if_neg hc]
end Go.Proofs.Ytbbbmmemfndnlaa
/- The names that a tree binds in what stands right below it, by the program: boundNames. -/
namespace Go.Proofs.Ytbbbmmemfndnlaa
open Go.RowKit
attribute [local go_sem] cell_alloc_is frozen_alloc_is
theorem drop_consL {F : Fo} {j : Nat} (hj : j < F.len) : ∃ k t m e a c kids next, F.drop j = .cons k t m e a c kids next := by
  induction F generalizing j with
  | nil => exact absurd hj (Nat.not_lt_zero _)
  | cons k t m e a c kids next _ ih =>
    cases j with
    | zero => exact ⟨k, t, m, e, a, c, kids, next, rfl⟩
    | succ j => exact ih (Nat.lt_of_succ_lt_succ hj)
def bndN (k : Int) (t : ByteArray) (F : Fo) : List ByteArray := if k = 15 ∨ k = 21 then [t] else if k = 16 then F.txts.take (F.len - 1) else []
theorem own_sin {B : Nat} {L : List ByteArray} {v : Value} {W : World} (hs : ∀ s ∈ L, s.size ≤ maxLen) (ho : W.ownsRow B 9 1 v L.length (texts L)) : ∃ a' c', v = .slice a' L.length c' ∧ SIn W L a' ∧ (L.length ≤ c' ∧ c' ≤ maxLen) := by
  obtain ⟨a', c', e1, e2, e3, -⟩ := own_lies ho
  exact ⟨a', c', e1, e2.sin hs, e3⟩
set_option maxRecDepth 100000 in
set_option maxHeartbeats 1000000 in
theorem boundNames_any (k : Int) (t : ByteArray) (m e : Int) (a : Option Addr) (c : Nat) (F : Fo) (w : World) (hin : F.In w a) (hl : F.len ≤ c) (hc : c ≤ maxLen) (ht : t.size ≤ maxLen) (hf : k = 16 → 0 < F.len) (hF : F.size ≤ 1060000) :
    Calls Try.prog 66 #[nodeV k t m e a F.len c] w fun r w' => (∃ a' c', r = .returned (.slice a' (bndN k t F).length c') ∧ SIn w' (bndN k t F) a' ∧ ((bndN k t F).length ≤ c' ∧ c' ≤ maxLen)) ∧ Below w.heap.size w w' := by
  obtain ⟨i0, hi, hz0, hz1, hz2⟩ := info_parts textInfo
  have hb0 : Below w.heap.size w (w.alloc (.cells #[.int .i64 k, .string t, .int .i64 m, .int .i64 e, .slice a F.len c] 33)) := (Below.refl _ _).alloc (Nat.le_refl _) _
  have f0 := Five.new w (.int .i64 k) (.string t) (.int .i64 m) (.int .i64 e) (.slice a F.len c) 33
  have hts := In.txts hin
  have hll := F.len_le
  unfold maxLen at hc
  have HI : Hid (F.In w a) := hin
  clear hin
  by_cases hA : k = 15 ∨ k = 21
  · have HE : Hid (bndN k t F = [t]) := if_pos hA
    have hcl := cell_one_new (w.alloc (.cells #[.int .i64 k, .string t, .int .i64 m, .int .i64 e, .slice a F.len c] 33)) (.string t) 9
    have HR : Hid (SIn ((w.alloc (.cells #[.int .i64 k, .string t, .int .i64 m, .int .i64 e, .slice a F.len c] 33)).alloc (.cells #[.string t] 9)) [t] (some ⟨(w.alloc (.cells #[.int .i64 k, .string t, .int .i64 m, .int .i64 e, .slice a F.len c] 33)).heap.size, 0, none⟩)) := .inr ⟨_, 0, rfl, hcl 0 _ rfl, ht, trivial⟩
    have hB := hb0.alloc hb0.size (.cells #[.string t] 9)
    rw [World.size_alloc] at HR
    clear hcl hf
    rcases hA with rfl | rfl
    all_goals
      go_enter Try.func66, Try.ntmps66
      go_wp2_with fail
      go_ret
      rw [HE.out]
      exact ⟨⟨_, 1, rfl, HR.out, Nat.le_refl _, by unfold maxLen; omega⟩, hB⟩
  · by_cases h16 : k = 16
    · subst h16
      have h0 := hf rfl
      have HE : Hid (bndN 16 t F = F.txts.take (F.len - 1)) := by unfold Hid bndN; rw [if_neg hA, if_pos rfl]
      have HT : Hid (∀ s ∈ F.txts, s.size ≤ maxLen) := hts
      clear hA hts hf
      have own0 := World.ownsRow_nil (w.alloc (.cells #[.int .i64 16, .string t, .int .i64 m, .int .i64 e, .slice a F.len c] 33)) (w.heap.size) 9 1
      obtain ⟨x0, x1, x2, x3, x4⟩ := f0.1
      obtain ⟨q, hq⟩ : ∃ q : Nat, q = F.len - 1 := ⟨_, rfl⟩
      have hq1 : (F.len : Int) - 1 = (q : Int) := by omega
      have hq2 : (q : Int) ≤ (c : Int) := by omega
      obtain ⟨b, o, rfl, hfr⟩ : ∃ b o, a = some ⟨b, o, none⟩ ∧ F.From w b o := by
        rcases HI.out with h | ⟨b, o, e1, e2⟩
        · rw [h] at h0; exact absurd h0 (Nat.lt_irrefl _)
        · exact ⟨b, o, e1, e2⟩
      go_enter Try.func66, Try.ntmps66
      go_wp2_with fail
      go_loopw [3, 24] (fun v i wr => ∃ (j : Nat), i = .int .i64 j ∧ j ≤ q ∧ wr.ownsRow w.heap.size 9 1 v j (texts (F.txts.take j)) ∧ Below w.heap.size w wr) (fun _ i _ => q - (intOf i).toNat)
      case atStart => exact ⟨0, rfl, Nat.zero_le _, own0, hb0⟩
      case round =>
        obtain ⟨j, rfl, hjq, hown, hb⟩ := hrel
        have hz := hb.size
        by_cases hlt : j < q
        · have hlt' : (j : Int) < (q : Int) := by omega
          have hjl : j < F.len := by omega
          have hfr2 := drop_from F (j := j) (Fo.from_grow hb F b o hfr)
          obtain ⟨k', t', m', e', a', c', kids, next, hd⟩ := drop_consL hjl
          rw [hd] at hfr2
          obtain ⟨⟨h1, h2, h3, h4, h5⟩, hk2, hc1, hc3, ht', hn⟩ := hfr2
          have HD : Hid (F.drop j = .cons k' t' m' e' a' c' kids next) := hd
          have hw1 := (Below.refl wr.heap.size wr).alloc (Nat.le_refl _) (.cells #[.int .i64 k', .string t', .int .i64 m', .int .i64 e', .slice a' kids.len c'] 33)
          have hone := cell_one_new (wr.alloc (.cells #[.int .i64 k', .string t', .int .i64 m', .int .i64 e', .slice a' kids.len c'] 33)) (.string t') 9
          have hbA := hb.alloc hz (.cells #[.int .i64 k', .string t', .int .i64 m', .int .i64 e', .slice a' kids.len c'] 33)
          simp only [World.size_alloc] at hone
          clear hd hn hk2
          go_wp2_with (at_builtin; refine wpList_append_own _ rfl _ _ 28 rfl w.heap.size 9 i0 (.string ⟨#[]⟩) 1 16 Try.underlying28 hi hz0 hz1 hz2 rfl (by decide) _ _ _ rfl ((hown.alloc _).alloc _) ⟨wr.heap.size + 1, 0, none⟩ 1 1 [.string t'] rfl rfl hone (fun x hx => by simp at hx; subst hx; rfl) (by unfold maxLen; omega) (by omega) (by simp <;> omega) ?_; intro v' w3 hown3 hgrow3 hnil3)
          have hB3 := below_grown (hbA.alloc hbA.size (.cells #[.string t'] 9)) ((hown.alloc _).alloc _) hgrow3 (by simp <;> omega)
          clear hgrow3 hnil3 hb hbA hone h1 h2 h3 h4 h5 hw1
          refine ⟨⟨j + 1, by go_num, by omega, ?_, hB3⟩, ?_⟩
          · have ha := txts_at HD.out
            rw [List.take_add_one, ha, Option.toList_some, texts_snoc]
            exact hown3
          · simp [intOf]; omega
        · have hlt' : ¬ (j : Int) < (q : Int) := by omega
          have hjj : j = q := by omega
          have hlen : (F.txts.take j).length = j := by rw [List.length_take, Fo.txts_len, Nat.min_eq_left (by omega)]
          obtain ⟨a', c', rfl, h2, h3⟩ := own_sin (fun s hs => HT.out s (List.mem_of_mem_take hs)) (by rw [hlen]; exact hown)
          have HZ : Hid (SIn wr (F.txts.take (F.len - 1)) a' ∧ ((F.txts.take (F.len - 1)).length ≤ c' ∧ c' ≤ maxLen)) := by rw [← hq, ← hjj]; exact ⟨h2, h3⟩
          rw [← hq, ← hjj] at HE
          clear h2 h3 hown
          go_wp2_with fail
          go_ret
          rw [HE.out]
          rw [← hq, ← hjj] at HZ
          exact ⟨⟨a', c', (by rw [List.length_take, hjj, hq]; rfl), HZ.out⟩, hb⟩
    · have HE : Hid (bndN k t F = []) := by unfold Hid bndN; rw [if_neg hA, if_neg h16]
      have h15 : ¬ k = 15 := fun h => hA (.inl h)
      have h21 : ¬ k = 21 := fun h => hA (.inr h)
      clear hA hf HI hts
      go_enter Try.func66, Try.ntmps66
      go_wp2_with fail
      go_ret
      rw [HE.out]
      exact ⟨⟨none, 0, rfl, .inl rfl, Nat.le_refl _, Nat.zero_le _⟩, hb0⟩
end Go.Proofs.Ytbbbmmemfndnlaa
/- Maps whose keys are texts: an entry found or made, put in, and counted up. -/
namespace Go.Proofs.Ytbbbmmemfndnlaa
open Go.RowKit
section
variable {K : Type} [DecidableEq K]
def seekLY (x : K) : List (K × Value) → Nat → Option (Nat × Value)
  | [], _ => none
  | (k, v) :: t, i => if x = k then some (i, v) else seekLY x t (i + 1)
def getLY (x : K) : List (K × Value) → Option Value
  | [] => none
  | (k, v) :: t => if x = k then some v else getLY x t
def putLY (x : K) (v : Value) : List (K × Value) → List (K × Value)
  | [] => [(x, v)]
  | (k, u) :: t => if x = k then (x, v) :: t else (k, u) :: putLY x v t
end
/-- a map of such keys -/
structure KeysY (K : Type) [DecidableEq K] (P : Program) (kt : TypeId) where
  kv : K → Value
  ok : World → K → Prop
  find : ∀ w x, ok w x → ∀ (L : List (K × Value)) (es : List MapEntry), (∀ p ∈ L, ok w p.1) → es.map (fun e => (e.key, e.val)) = L.map (fun p => (kv p.1, p.2)) → (Instr.findKey kt (kv x) es).run P w = .ok (seekLY x L 0) w
  check : ∀ w em x, (Instr.checkKey em 10000 kt (kv x)).run P w = .ok () w
  bits : ∀ x, Instr.sameBits 10000 (kv x) (kv x) = true
section
variable {K : Type} [DecidableEq K] {P : Program} {kt : TypeId} (Q : KeysY K P kt)
/-- block b is the map of these keys and values -/
def KeysY.Is (w : World) (b : Nat) (L : List (K × Value)) : Prop := ∃ es clock, w.heap[b]? = some (.map es clock) ∧ es.toList.map (fun e => (e.key, e.val)) = L.map (fun p => (Q.kv p.1, p.2))
theorem seekL_getY (x : K) : ∀ (L : List (K × Value)) (i : Nat), (seekLY x L i).map Prod.snd = getLY x L := by
  intro L
  induction L with
  | nil => intro i; rfl
  | cons p t ih =>
    obtain ⟨k, v⟩ := p
    intro i
    unfold seekLY getLY
    split
    · rfl
    · exact ih (i + 1)
theorem getL_putY (x y : K) (v : Value) : ∀ (L : List (K × Value)), getLY y (putLY x v L) = if y = x then some v else getLY y L := by
  intro L
  induction L with
  | nil => unfold putLY getLY; split <;> simp_all [getLY]
  | cons p t ih =>
    obtain ⟨k, u⟩ := p
    unfold putLY
    by_cases h : x = k
    · subst h
      rw [if_pos rfl]
      show (if y = x then some v else getLY y t) = if y = x then some v else (if y = x then some u else getLY y t)
      by_cases h2 : y = x <;> simp [h2]
    · rw [if_neg h]
      show (if y = k then some u else getLY y (putLY x v t)) = if y = x then some v else (if y = k then some u else getLY y t)
      rw [ih]
      by_cases h2 : y = k
      · subst h2; rw [if_pos rfl, if_neg (fun e => h e.symm), if_pos rfl]
      · rw [if_neg h2, if_neg h2]
theorem KeysY.look {mty et : TypeId} (hm : P.underlying mty = some (.map kt et)) {w : World} {b : Nat} {L : List (K × Value)} (x : K) (hx : Q.ok w x) (hok : ∀ p ∈ L, Q.ok w p.1) (hb : Q.Is w b L) {z : Value} (hz : (zeroValue et).run P w = .ok z w) :
    (Instr.lookup mty (.map (some b)) (Q.kv x) false).run P w = .ok ((getLY x L).getD z) w := by
  obtain ⟨es, clock, hh, he⟩ := hb
  have hf := Q.find w x hx L es.toList hok he
  have hg := seekL_getY x L 0
  cases h : seekLY x L 0 with
  | none => rw [h] at hf hg; rw [← hg]; simp [Instr.lookup, run_underlying hm, MapKept.run_getObj_map hh, Q.check, hf, hz]
  | some p => obtain ⟨i, v⟩ := p; rw [h] at hf hg; rw [← hg]; simp [Instr.lookup, run_underlying hm, MapKept.run_getObj_map hh, Q.check, hf]
theorem seekL_someY {x : K} : ∀ {L : List (K × Value)} {i j : Nat} {v : Value}, seekLY x L i = some (j, v) → ∃ n u, j = i + n ∧ L[n]? = some (x, u) ∧ ∀ w, putLY x w L = L.set n (x, w) := by
  intro L
  induction L with
  | nil => intro i j v h; cases h
  | cons p t ih =>
    obtain ⟨k, u⟩ := p
    intro i j v h
    unfold seekLY at h
    by_cases hk : x = k
    · rw [if_pos hk] at h
      cases h
      subst hk
      exact ⟨0, _, rfl, rfl, fun w => by unfold putLY; rw [if_pos rfl]; rfl⟩
    · rw [if_neg hk] at h
      obtain ⟨n, u', e1, e2, e3⟩ := ih h
      exact ⟨n + 1, u', by omega, by simpa using e2, fun w => by unfold putLY; rw [if_neg hk, e3 w]; rfl⟩
theorem seekL_noneY {x : K} : ∀ {L : List (K × Value)} {i : Nat}, seekLY x L i = none → ∀ w, putLY x w L = L ++ [(x, w)] := by
  intro L
  induction L with
  | nil => intro i _ w; rfl
  | cons p t ih =>
    obtain ⟨k, u⟩ := p
    intro i h w
    unfold seekLY at h
    by_cases hk : x = k
    · rw [if_pos hk] at h; cases h
    · rw [if_neg hk] at h
      unfold putLY
      rw [if_neg hk, ih h w]; rfl
theorem KeysY.put {mty et : TypeId} (hm : P.underlying mty = some (.map kt et)) {w : World} {b : Nat} {L : List (K × Value)} (x : K) (v : Value) (hx : Q.ok w x) (hok : ∀ p ∈ L, Q.ok w p.1) (hb : Q.Is w b L) :
    ∃ w', (Instr.mapUpdate mty (.map (some b)) (Q.kv x) v).run P w = .ok () w' ∧ Q.Is w' b (putLY x v L) ∧ w.grownBy w' (some b) ∧ w'.heap.size = w.heap.size := by
  obtain ⟨es, clock, hh, he⟩ := hb
  have hf := Q.find w x hx L es.toList hok he
  have hlt := (Array.getElem?_eq_some_iff.1 hh).1
  cases h : seekLY x L 0 with
  | none =>
    rw [h] at hf
    refine ⟨_, by simp [Instr.mapUpdate, run_underlying hm, MapKept.run_getObj_map hh, Q.check, hf, MapKept.run_setObj_map _ hh, Result.andThen]; rfl, ?_, ?_, by simp⟩
    · refine ⟨_, _, (MapKept.heap_set hh).1, ?_⟩
      rw [seekL_noneY h, Array.toList_push, List.map_append, he, List.map_append]
      rfl
    · exact ⟨rfl, rfl, rfl, by simp, fun i _ hi => (MapKept.heap_set hh).2 i (fun e => hi (by rw [e]))⟩
  | some p =>
    obtain ⟨j, u⟩ := p
    rw [h] at hf
    obtain ⟨n, u', e1, e2, e3⟩ := seekL_someY h
    rw [Nat.zero_add] at e1
    subst e1
    have hkey : (es[j]?).map (·.key) = some (Q.kv x) := by
      have h1 : (es.toList.map (fun e => (e.key, e.val)))[j]? = some (Q.kv x, u') := by rw [he, List.getElem?_map, e2]; rfl
      rw [List.getElem?_map, Array.getElem?_toList] at h1
      cases hj : es[j]? with
      | none => rw [hj] at h1; cases h1
      | some e => rw [hj] at h1; simp only [Option.map_some, Option.some.injEq, Prod.mk.injEq] at h1; simp [h1.1]
    have hks : (Instr.keyThatStays (((es[j]?).map (·.key)).getD (Q.kv x)) (Q.kv x)).run P w = .ok (Q.kv x) w := by
      rw [hkey]
      simp [Instr.keyThatStays, Q.bits]
    refine ⟨_, by simp [Instr.mapUpdate, run_underlying hm, MapKept.run_getObj_map hh, Q.check, hf, hks, MapKept.run_setObj_map _ hh, Result.andThen]; rfl, ?_, ?_, by simp⟩
    · refine ⟨_, _, (MapKept.heap_set hh).1, ?_⟩
      rw [e3 v]
      apply List.ext_getElem?
      intro i
      have hi : (es.toList.map (fun e => (e.key, e.val)))[i]? = (L.map (fun p => (Q.kv p.1, p.2)))[i]? := by rw [he]
      rw [List.getElem?_map, List.getElem?_map, Array.getElem?_toList] at hi
      rw [List.getElem?_map, List.getElem?_map, Array.getElem?_toList, Array.getElem?_modify, List.getElem?_set]
      by_cases hij : j = i
      · subst hij
        have hl : j < L.length := (List.getElem?_eq_some_iff.1 e2).1
        rw [if_pos rfl, if_pos rfl, if_pos hl]
        cases hj : es[j]? with
        | none => rw [hj] at hkey; cases hkey
        | some e => rfl
      · rw [if_neg hij, if_neg hij]; exact hi
    · exact ⟨rfl, rfl, rfl, by simp, fun i _ hi => (MapKept.heap_set hh).2 i (fun e => hi (by rw [e]))⟩
theorem KeysY.Is.grown {w w' : World} {b : Nat} {L : List (K × Value)} (h : Q.Is w b L) (hb : w'.heap[b]? = w.heap[b]?) : Q.Is w' b L := by
  obtain ⟨es, clock, hh, he⟩ := h
  exact ⟨es, clock, hb.trans hh, he⟩
/-- the stamps of the entries are below the clock, no two alike -/
def StampsY (es : List MapEntry) (clock : Nat) : Prop := (∀ e ∈ es, e.born < clock) ∧ es.Pairwise (fun a b => a.born ≠ b.born)
/-- block b is the map of these keys and values, rightly stamped -/
def KeysY.Has (w : World) (b : Nat) (L : List (K × Value)) : Prop := ∃ es clock, w.heap[b]? = some (.map es clock) ∧ es.toList.map (fun e => (e.key, e.val)) = L.map (fun p => (Q.kv p.1, p.2)) ∧ StampsY es.toList clock
theorem KeysY.Has.is {w : World} {b : Nat} {L : List (K × Value)} (h : Q.Has w b L) : Q.Is w b L := by
  obtain ⟨es, clock, h1, h2, _⟩ := h
  exact ⟨es, clock, h1, h2⟩
theorem KeysY.Has.same {w w' : World} {b : Nat} {L : List (K × Value)} (h : Q.Has w b L) (hb : w'.heap[b]? = w.heap[b]?) : Q.Has w' b L := by
  obtain ⟨es, clock, h1, h2⟩ := h
  exact ⟨es, clock, hb.trans h1, h2⟩
/-- the entry of a key, by its stamp -/
def KeysY.Stamp (w : World) (b : Nat) (x : K) (s : Nat) (L : List (K × Value)) : Prop := ∃ es clock n e, w.heap[b]? = some (.map es clock) ∧ es.toList.map (fun e => (e.key, e.val)) = L.map (fun p => (Q.kv p.1, p.2)) ∧ StampsY es.toList clock ∧ seekLY x L 0 = some (n, e.val) ∧ es[n]? = some e ∧ e.born = s
theorem stamp_findY {es : Array MapEntry} {clock n : Nat} {e : MapEntry} (hs : StampsY es.toList clock) (he : es[n]? = some e) : es.findIdx? (fun x => (x.born : Int) == (e.born : Int)) = some n := by
  obtain ⟨hn, hen⟩ := Array.getElem?_eq_some_iff.1 he
  rw [Array.findIdx?_eq_some_iff_getElem]
  refine ⟨hn, by rw [hen]; simp, fun j hj => ?_⟩
  have hp := List.pairwise_iff_getElem.1 hs.2 j n (by simpa using Nat.lt_trans hj hn) (by simpa using hn) hj
  simp only [Array.getElem_toList] at hp
  rw [hen] at hp
  simp
  omega
theorem map_modifyY {es : Array MapEntry} {L : List (K × Value)} (he : es.toList.map (fun e => (e.key, e.val)) = L.map (fun p => (Q.kv p.1, p.2))) {n : Nat} {x : K} {v : Value} {f : MapEntry → MapEntry} {e : MapEntry} (hen : es[n]? = some e) (hf : ((f e).key, (f e).val) = (Q.kv x, v)) (hl : n < L.length) :
    (es.modify n f).toList.map (fun e => (e.key, e.val)) = (L.set n (x, v)).map (fun p => (Q.kv p.1, p.2)) := by
  apply List.ext_getElem?
  intro i
  have hi : (es.toList.map (fun e => (e.key, e.val)))[i]? = (L.map (fun p => (Q.kv p.1, p.2)))[i]? := by rw [he]
  rw [List.getElem?_map, List.getElem?_map, Array.getElem?_toList] at hi
  rw [List.getElem?_map, List.getElem?_map, Array.getElem?_toList, Array.getElem?_modify, List.getElem?_set]
  by_cases hij : n = i
  · subst hij
    rw [if_pos rfl, if_pos rfl, if_pos hl, hen]
    exact congrArg some hf
  · rw [if_neg hij, if_neg hij]; exact hi
theorem stamps_modifyY {es : Array MapEntry} {clock n : Nat} {f : MapEntry → MapEntry} (hs : StampsY es.toList clock) (hf : ∀ e, (f e).born = e.born) : StampsY (es.modify n f).toList clock := by
  have hb : (es.modify n f).toList.map (·.born) = es.toList.map (·.born) := by
    apply List.ext_getElem?
    intro i
    rw [List.getElem?_map, List.getElem?_map, Array.getElem?_toList, Array.getElem?_toList, Array.getElem?_modify]
    by_cases hij : n = i
    · rw [if_pos hij]; cases es[i]? with
      | none => rfl
      | some e => exact congrArg some (hf e)
    · rw [if_neg hij]
  refine ⟨fun e he => ?_, ?_⟩
  · have : e.born ∈ (es.modify n f).toList.map (·.born) := List.mem_map.2 ⟨e, he, rfl⟩
    rw [hb] at this
    obtain ⟨e', he', h⟩ := List.mem_map.1 this
    rw [← h]; exact hs.1 e' he'
  · have h1 : (es.toList.map (·.born)).Pairwise (· ≠ ·) := List.pairwise_map.2 hs.2
    rw [← hb] at h1
    exact List.pairwise_map.1 h1
theorem seekL_appendY {x : K} {z : Value} : ∀ {L : List (K × Value)} {i : Nat}, seekLY x L i = none → seekLY x (L ++ [(x, z)]) i = some (i + L.length, z) := by
  intro L
  induction L with
  | nil => intro i _; show (if x = x then some (i, z) else _) = _; rw [if_pos rfl]; rfl
  | cons p t ih =>
    obtain ⟨k, u⟩ := p
    intro i h
    unfold seekLY at h
    by_cases hk : x = k
    · rw [if_pos hk] at h; cases h
    · rw [if_neg hk] at h
      show (if x = k then some (i, u) else seekLY x (t ++ [(x, z)]) (i + 1)) = _
      rw [if_neg hk, ih h, List.length_cons]
      congr 2
      omega
theorem seekL_setY {x : K} {v : Value} : ∀ {L : List (K × Value)} {i n : Nat} {u : Value}, seekLY x L i = some (i + n, u) → seekLY x (L.set n (x, v)) i = some (i + n, v) := by
  intro L
  induction L with
  | nil => intro i n u h; cases h
  | cons p t ih =>
    obtain ⟨k, u'⟩ := p
    intro i n u h
    unfold seekLY at h
    by_cases hk : x = k
    · rw [if_pos hk] at h
      simp only [Option.some.injEq, Prod.mk.injEq] at h
      have h0 : n = 0 := by omega
      subst h0
      show (if x = x then some (i, v) else _) = _
      rw [if_pos rfl]; rfl
    · rw [if_neg hk] at h
      obtain ⟨n', _, e1, _⟩ := seekL_someY h
      obtain ⟨n2, rfl⟩ : ∃ n2, n = n2 + 1 := ⟨n - 1, by omega⟩
      show (if x = k then some (i, u') else seekLY x (t.set n2 (x, v)) (i + 1)) = _
      rw [if_neg hk, show i + (n2 + 1) = i + 1 + n2 by omega]
      exact ih (by rw [h, show i + (n2 + 1) = i + 1 + n2 by omega])
theorem seekL_atY {x : K} : ∀ {L : List (K × Value)} {i j : Nat} {v u : Value}, seekLY x L i = some (i + j, v) → L[j]? = some (x, u) → u = v := by
  intro L
  induction L with
  | nil => intro i j v u h; cases h
  | cons p t ih =>
    obtain ⟨k, u'⟩ := p
    intro i j v u h h2
    unfold seekLY at h
    by_cases hk : x = k
    · rw [if_pos hk] at h
      simp only [Option.some.injEq, Prod.mk.injEq] at h
      have h0 : j = 0 := by omega
      subst h0
      simp at h2
      rw [← h2.2]; exact h.2
    · rw [if_neg hk] at h
      obtain ⟨n', _, e1, _⟩ := seekL_someY h
      obtain ⟨j2, rfl⟩ : ∃ j2, j = j2 + 1 := ⟨j - 1, by omega⟩
      exact ih (i := i + 1) (by rw [h, show i + (j2 + 1) = i + 1 + j2 by omega]) (by simpa using h2)
theorem KeysY.entry {mty et : TypeId} (hm : P.underlying mty = some (.map kt et)) {w : World} {b : Nat} {L : List (K × Value)} (x : K) (hx : Q.ok w x) (hok : ∀ p ∈ L, Q.ok w p.1) (hb : Q.Has w b L) {z : Value} (hz : (zeroValue et).run P w = .ok z w) :
    ∃ w' s, (Instr.mapEntry mty (.map (some b)) (Q.kv x)).run P w = .ok (.tuple #[(getLY x L).getD z, .int .i64 (s : Nat)]) w' ∧ Q.Stamp w' b x s (putLY x ((getLY x L).getD z) L) ∧ w.grownBy w' (some b) ∧ w'.heap.size = w.heap.size := by
  obtain ⟨es, clock, hh, he, hst⟩ := hb
  have hf := Q.find w x hx L es.toList hok he
  have hg := seekL_getY x L 0
  cases h : seekLY x L 0 with
  | none =>
    rw [h] at hf hg
    have hg' : getLY x L = none := hg.symm
    rw [hg']
    refine ⟨{ w with heap := w.heap.setIfInBounds b (.map (es.push { key := Q.kv x, val := z, born := clock }) (clock + 1)) }, clock, by simp [Instr.mapEntry, run_underlying hm, MapKept.run_getObj_map hh, Q.check, hf, hz, MapKept.run_setObj_map _ hh, Result.andThen, goInt], ?_, ⟨rfl, rfl, rfl, by simp, fun i _ hi => (MapKept.heap_set hh).2 i (fun e => hi (by rw [e]))⟩, by simp⟩
    refine ⟨es.push { key := Q.kv x, val := z, born := clock }, clock + 1, es.size, { key := Q.kv x, val := z, born := clock }, (MapKept.heap_set hh).1, ?_, ?_, ?_, by simp, rfl⟩
    · rw [seekL_noneY h, Array.toList_push, List.map_append, he, List.map_append]; rfl
    · refine ⟨fun e hee => ?_, ?_⟩
      · rw [Array.toList_push, List.mem_append] at hee
        rcases hee with hee | hee
        · exact Nat.lt_succ_of_lt (hst.1 e hee)
        · rw [List.mem_singleton] at hee; subst hee; exact Nat.lt_succ_self _
      · rw [Array.toList_push, List.pairwise_append]
        refine ⟨hst.2, List.pairwise_singleton _ _, fun a ha c hc => ?_⟩
        rw [List.mem_singleton] at hc; subst hc
        exact Nat.ne_of_lt (hst.1 a ha)
    · show seekLY x (putLY x z L) 0 = some (es.size, z)
      rw [seekL_noneY h]
      have hlen : es.size = L.length := by have := congrArg List.length he; simpa using this
      rw [hlen]
      rw [seekL_appendY h, Nat.zero_add]
  | some p =>
    obtain ⟨j, u⟩ := p
    rw [h] at hf hg
    have hg' : getLY x L = some u := hg.symm
    rw [hg']
    obtain ⟨n, u', e1, e2, e3⟩ := seekL_someY h
    rw [Nat.zero_add] at e1
    subst e1
    have hl : j < L.length := (List.getElem?_eq_some_iff.1 e2).1
    have hlen : es.size = L.length := by have := congrArg List.length he; simpa using this
    obtain ⟨en, hen⟩ : ∃ en, es[j]? = some en := ⟨es[j]'(by omega), Array.getElem?_eq_getElem (by omega)⟩
    have hpair : (en.key, en.val) = (Q.kv x, u') := by
      have h1 : (es.toList.map (fun e => (e.key, e.val)))[j]? = some (Q.kv x, u') := by rw [he, List.getElem?_map, e2]; rfl
      rw [List.getElem?_map, Array.getElem?_toList, hen] at h1
      exact Option.some.inj h1
    simp only [Prod.mk.injEq] at hpair
    have huu : u' = u := by
      exact seekL_atY (i := 0) (by rw [Nat.zero_add]; exact h) e2
    subst huu
    have hks : (Instr.keyThatStays en.key (Q.kv x)).run P w = .ok (Q.kv x) w := by simp [Instr.keyThatStays, hpair.1, Q.bits]
    refine ⟨{ w with heap := w.heap.setIfInBounds b (.map (es.modify j fun e => { e with key := Q.kv x }) clock) }, en.born, by simp [Instr.mapEntry, run_underlying hm, MapKept.run_getObj_map hh, Q.check, hf, hen, hks, MapKept.run_setObj_map _ hh, Result.andThen, goInt], ?_, ⟨rfl, rfl, rfl, by simp, fun i _ hi => (MapKept.heap_set hh).2 i (fun e => hi (by rw [e]))⟩, by simp⟩
    refine ⟨es.modify j fun e => { e with key := Q.kv x }, clock, j, { en with key := Q.kv x }, (MapKept.heap_set hh).1, ?_, stamps_modifyY hst (fun e => rfl), ?_, ?_, rfl⟩
    · show _ = ((putLY x u' L)).map _
      rw [e3]
      exact map_modifyY Q he hen (by rw [hpair.2]) hl
    · show seekLY x (putLY x u' L) 0 = some (j, en.val)
      rw [e3, hpair.2]
      have h2 : seekLY x L 0 = some (0 + j, u') := by rw [Nat.zero_add]; exact h
      rw [seekL_setY h2, Nat.zero_add]
    · rw [Array.getElem?_modify, if_pos rfl, hen]; rfl
/-- the entry is written -/
theorem KeysY.store {mty : TypeId} {w : World} {b : Nat} {L : List (K × Value)} {x : K} {s : Nat} (h : Q.Stamp w b x s L) (v : Value) :
    ∃ w', (Instr.entryStore mty (.map (some b)) (.int .i64 (s : Nat)) v).run P w = .ok () w' ∧ Q.Has w' b (putLY x v L) ∧ w.grownBy w' (some b) ∧ w'.heap.size = w.heap.size := by
  obtain ⟨es, clock, n, e, hh, he, hst, hsk, hen, hbo⟩ := h
  have hfi := stamp_findY hst hen
  rw [hbo] at hfi
  obtain ⟨n', u', e1, e2, e3⟩ := seekL_someY hsk
  rw [Nat.zero_add] at e1
  subst e1
  have hl : n < L.length := (List.getElem?_eq_some_iff.1 e2).1
  refine ⟨{ w with heap := w.heap.setIfInBounds b (.map (es.modify n fun e => { e with val := v }) clock) }, by simp [Instr.entryStore, MapKept.run_getObj_map hh, asInt, asIntOf, hfi, MapKept.run_setObj_map _ hh, Result.andThen], ?_, ⟨rfl, rfl, rfl, by simp, fun i _ hi => (MapKept.heap_set hh).2 i (fun e => hi (by rw [e]))⟩, by simp⟩
  refine ⟨es.modify n fun e => { e with val := v }, clock, (MapKept.heap_set hh).1, ?_, stamps_modifyY hst (fun e => rfl)⟩
  rw [e3]
  have hpair : (e.key, e.val) = (Q.kv x, u') := by
    have h1 : (es.toList.map (fun e => (e.key, e.val)))[n]? = some (Q.kv x, u') := by rw [he, List.getElem?_map, e2]; rfl
    rw [List.getElem?_map, Array.getElem?_toList, hen] at h1
    exact Option.some.inj h1
  simp only [Prod.mk.injEq] at hpair
  exact map_modifyY Q he hen (by rw [hpair.1]) hl
end
theorem findNow_Y (x : ByteArray) : ∀ (L : List (ByteArray × Value)) (es : List MapEntry) (i : Nat), es.map (fun e => (e.key, e.val)) = L.map (fun p => (Value.string p.1, p.2)) → Instr.findNow .string (.string x) es i = some (seekLY x L i) := by
  intro L
  induction L with
  | nil =>
    intro es i h
    have : es = [] := by cases es with | nil => rfl | cons e es => simp at h
    subst this; rfl
  | cons p t ih =>
    obtain ⟨k, v⟩ := p
    intro es i h
    cases es with
    | nil => simp at h
    | cons e es =>
      simp only [List.map_cons, List.cons.injEq, Prod.mk.injEq] at h
      obtain ⟨⟨h1, h2⟩, h3⟩ := h
      have hi := ih es (i + 1) h3
      by_cases hk : x = k
      · subst hk
        have hb : (x == x) = true := (MapKept.bytes_beq _ _).2 rfl
        simp [Instr.findNow, Instr.sameNow, h1, h2, seekLY, hb]
      · have hb : (x == k) = false := by
          cases hq : (x == k)
          · rfl
          · exact absurd ((MapKept.bytes_beq _ _).1 hq) hk
        simp [Instr.findNow, Instr.sameNow, h1, seekLY, hk, hb, hi]
/-- texts as keys -/
def txKeys : KeysY ByteArray Try.prog 9 where
  kv := Value.string
  ok := fun _ _ => True
  find := fun w x _ L es _ h => MapKept.run_findKey Try.underlying9 (findNow_Y x L es 0 h)
  check := fun w em x => MapKept.run_checkKey (k := .string x) Try.underlying9 (by simp [MapKept.IsKey]) em 9999
  bits := fun x => by simp [Instr.sameBits, (MapKept.bytes_beq x x).2 rfl]
end Go.Proofs.Ytbbbmmemfndnlaa
/- Scopes, by the program: what lies in memory, binds. -/
namespace Go.Proofs.Ytbbbmmemfndnlaa
open Go.RowKit
attribute [local go_sem] cell_alloc_is frozen_alloc_is
abbrev Lev := List (ByteArray × Value)
/-- each name of a scope is counted -/
def LevOk (L : Lev) : Prop := ∀ q ∈ L, ∃ n : Nat, 0 < n ∧ n ≤ 2000000 ∧ q.2 = .int .i64 n
/-- scopes that lie from a pointer on, the innermost first -/
def ScIn (w : World) : Option Addr → List Lev → Prop
  | p, [] => p = none
  | p, L :: rest => ∃ sb mb o, p = some ⟨sb, 0, none⟩ ∧ w.heap[sb]? = some (.cells #[.map (some mb), .pointer o] 97 (0, 0)) ∧ txKeys.Is w mb L ∧ LevOk L ∧ ScIn w o rest
/-- whether a name is bound -/
def scHas (t : ByteArray) (Ls : List Lev) : Bool := Ls.any (fun L => (getLY t L).isSome)
/-- what scopes need of what is written -/
def KeepS (w w' : World) : Prop := (∀ (x : Nat) (cs : Array Value), w.heap[x]? = some (Obj.cells cs 97 (0, 0)) → w'.heap[x]? = w.heap[x]?) ∧ ∀ (x : Nat) (es : Array MapEntry) (cl : Nat), w.heap[x]? = some (Obj.map es cl) → w'.heap[x]? = w.heap[x]?
theorem ScIn.keep {w w' : World} (h : KeepS w w') : ∀ {Ls : List Lev} {p : Option Addr}, ScIn w p Ls → ScIn w' p Ls := by
  intro Ls
  induction Ls with
  | nil => intro p hp; exact hp
  | cons L rest ih =>
    rintro p ⟨sb, mb, o, e1, e2, ⟨es, cl, e3, e4⟩, e5, e6⟩
    exact ⟨sb, mb, o, e1, (h.1 _ _ e2).trans e2, ⟨es, cl, (h.2 _ _ _ e3).trans e3, e4⟩, e5, ih e6⟩
theorem KeepS.of_below {w w' : World} (h : Below w.heap.size w w') : KeepS w w' :=
  ⟨fun x _ hx => h.block x (Array.getElem?_eq_some_iff.1 hx).1, fun x _ _ hx => h.block x (Array.getElem?_eq_some_iff.1 hx).1⟩
theorem KeepS.of_wr {B lb : Nat} {w w' : World} {ns : List ByteArray} (h : Wr B lb w w') (hn : NL B w lb ns) : KeepS w w' := by
  obtain ⟨a, c, _, ⟨cs0, h2, _⟩, _⟩ := hn
  refine ⟨fun x cs hx => h.2 x (Array.getElem?_eq_some_iff.1 hx).1 (fun e => ?_) (.inr fun cs' z e => ?_), fun x es cl hx => h.2 x (Array.getElem?_eq_some_iff.1 hx).1 (fun e => ?_) (.inr fun cs' z e => ?_)⟩
  · subst e; rw [h2] at hx; cases hx
  · rw [e] at hx; cases hx
  · subst e; rw [h2] at hx; cases hx
  · rw [e] at hx; cases hx
theorem lev_get {L : Lev} (h : LevOk L) (t : ByteArray) : ∃ n : Nat, n ≤ 2000000 ∧ (getLY t L).getD (.int .i64 0) = .int .i64 n ∧ (0 < n ↔ (getLY t L).isSome = true) := by
  induction L with
  | nil => exact ⟨0, by omega, rfl, by simp [getLY]⟩
  | cons q rest ih =>
    obtain ⟨k, v⟩ := q
    unfold getLY
    by_cases hk : t = k
    · rw [if_pos hk]
      obtain ⟨n, h1, h2, h3⟩ := h (k, v) List.mem_cons_self
      have h3' : v = .int .i64 n := h3
      exact ⟨n, h2, by rw [h3']; rfl, by simp [h1]⟩
    · rw [if_neg hk]
      exact ih (fun q hq => h q (List.mem_cons_of_mem _ hq))
theorem exists_leastY {P : Nat → Prop} (h : ∃ n, P n) : ∃ n, P n ∧ ∀ m, P m → n ≤ m := by
  obtain ⟨n, hn⟩ := h
  induction n using Nat.strongRecOn with
  | ind n ih =>
    by_cases hm : ∃ m, m < n ∧ P m
    · obtain ⟨m, h1, h2⟩ := hm; exact ih m h1 h2
    · exact ⟨n, hn, fun m hP => Nat.le_of_not_lt fun h => hm ⟨m, h, hP⟩⟩
open Classical in
/-- the leastY number of which something holds -/
noncomputable def leastY (P : Nat → Prop) : Nat := if h : ∃ n, P n then Classical.choose (exists_leastY h) else 0
theorem leastY_spec {P : Nat → Prop} (h : ∃ n, P n) : P (leastY P) := by
  unfold leastY
  rw [dif_pos h]
  exact (Classical.choose_spec (exists_leastY h)).1
theorem leastY_le {P : Nat → Prop} {n : Nat} (h : P n) : leastY P ≤ n := by
  unfold leastY
  rw [dif_pos ⟨n, h⟩]
  exact (Classical.choose_spec (exists_leastY ⟨n, h⟩)).2 n h
theorem sc_least {w : World} {sb mb : Nat} {o : Option Addr} (h : w.heap[sb]? = some (.cells #[.map (some mb), .pointer o] 97 (0, 0))) (hex : ∃ Rs, ScIn w (some ⟨sb, 0, none⟩) Rs) :
    leastY (fun n => ∃ (q : Option Addr) (Rs : List Lev), Value.pointer o = .pointer q ∧ ScIn w q Rs ∧ Rs.length = n) < leastY (fun n => ∃ (q : Option Addr) (Rs : List Lev), Value.pointer (some ⟨sb, 0, none⟩) = .pointer q ∧ ScIn w q Rs ∧ Rs.length = n) := by
  obtain ⟨Rs, hR⟩ := hex
  obtain ⟨q, Rs', e1, e2, e3⟩ := leastY_spec (P := fun n => ∃ (q : Option Addr) (Rs : List Lev), Value.pointer (some ⟨sb, 0, none⟩) = .pointer q ∧ ScIn w q Rs ∧ Rs.length = n) ⟨Rs.length, _, Rs, rfl, hR, rfl⟩
  cases e1
  rw [← e3]
  cases Rs' with
  | nil => cases e2
  | cons L rest =>
    obtain ⟨sb', mb', o', f1, f2, _, _, f5⟩ := e2
    cases f1
    rw [h] at f2
    cases f2
    exact Nat.lt_succ_of_le (leastY_le ⟨o, rest, rfl, f5, rfl⟩)
set_option maxHeartbeats 1000000 in
theorem binds_any (Ls : List Lev) (p : Option Addr) (t : ByteArray) (w : World) (h : ScIn w p Ls) :
    Calls Try.prog 56 #[.pointer p, .string t] w fun r w' => r = .returned (.bool (scHas t Ls)) ∧ w' = w := by
  have hz : ∀ w, (zeroValue 3).run Try.prog w = .ok (.int .i64 0) w := fun w => by kernel_rfl
  go_enter Try.func56, Try.ntmps56
  go_wp2_with fail
  go_loopw [0] (fun s wr => ∃ (q : Option Addr) (Rs : List Lev), s = .pointer q ∧ ScIn w q Rs ∧ scHas t Ls = scHas t Rs ∧ wr = w) (fun s _ => leastY (fun n => ∃ (q : Option Addr) (Rs : List Lev), s = .pointer q ∧ ScIn w q Rs ∧ Rs.length = n))
  case atStart => exact ⟨p, Ls, rfl, h, rfl, rfl⟩
  case round =>
    obtain ⟨q, Rs, rfl, hq, hh, rfl⟩ := hrel
    cases Rs with
    | nil =>
      have hq' : q = none := hq
      subst hq'
      have HH : Hid (scHas t Ls = false) := hh
      clear hh hq h
      go_wp2_with fail
      go_ret
      exact ⟨by rw [HH.out]; rfl, rfl⟩
    | cons L rest =>
      have HM : Hid (ScIn wr q (L :: rest)) := hq
      obtain ⟨sb, mb, o, rfl, e2, e3, e4, e5⟩ := hq
      obtain ⟨n, hn1, hn2, hn3⟩ := lev_get e4 t
      have hlook0 := txKeys.look (mty := 92) (et := 3) Try.underlying92 t trivial (fun _ _ => trivial) e3 (hz wr)
      rw [hn2] at hlook0
      have hlook : (Instr.lookup 92 (.map (some mb)) (.string t) false).run Try.prog wr = .ok (.int .i64 n) wr := hlook0
      have hc0 : wr.cell? ⟨sb, 0, none⟩ = some (.map (some mb)) := by simp [World.cell?, e2]
      have hc1 : wr.cell? ⟨sb, 1, none⟩ = some (.pointer o) := by simp [World.cell?, e2]
      have HE : Hid (ScIn wr o rest) := e5
      have HL := sc_least e2 ⟨_, HM.out⟩
      clear hlook0 e2 e3 e4 e5 hz h hn2
      by_cases hpos : 0 < n
      · have HH : Hid (scHas t Ls = true) := by
          unfold Hid; rw [hh]; unfold scHas; rw [List.any_cons, hn3.1 hpos]; rfl
        have hgt : decide ((n : Int) > 0) = true := by simp; exact hpos
        clear hh hn3
        go_wp2_with fail
        go_ret
        exact ⟨by rw [HH.out]; rfl, rfl⟩
      · have HH : Hid (scHas t Ls = scHas t rest) := by
          have e : (getLY t L).isSome = false := by
            cases hq : (getLY t L).isSome
            · rfl
            · exact absurd (hn3.2 hq) hpos
          unfold Hid; rw [hh]; unfold scHas; rw [List.any_cons, e]; rfl
        have hn0 : n = 0 := by omega
        clear hh hn3 hpos
        subst hn0
        go_wp2_with fail
        go_round
        case rel => exact ⟨o, rest, rfl, HE.out, HH.out, trivial⟩
        case measure => exact HL
end Go.Proofs.Ytbbbmmemfndnlaa
/- Scopes, by the program: the scope of what stands below a tree. -/
namespace Go.Proofs.Ytbbbmmemfndnlaa
open Go.RowKit
attribute [local go_sem] cell_alloc_is frozen_alloc_is
/-- each name is counted, so often at most -/
def LevB (B : Nat) (L : Lev) : Prop := ∀ q ∈ L, ∃ n : Nat, 0 < n ∧ n ≤ B ∧ q.2 = .int .i64 n
theorem levB_get {B : Nat} {L : Lev} (h : LevB B L) (t : ByteArray) : ∃ n : Nat, n ≤ B ∧ (getLY t L).getD (.int .i64 0) = .int .i64 n := by
  induction L with
  | nil => exact ⟨0, Nat.zero_le _, rfl⟩
  | cons q rest ih =>
    obtain ⟨k, v⟩ := q
    unfold getLY
    by_cases hk : t = k
    · rw [if_pos hk]
      obtain ⟨n, h1, h2, h3⟩ := h (k, v) List.mem_cons_self
      have h3' : v = .int .i64 n := h3
      exact ⟨n, h2, by rw [h3']; rfl⟩
    · rw [if_neg hk]
      exact ih (fun q hq => h q (List.mem_cons_of_mem _ hq))
theorem putLY_mem {s : ByteArray} {v : Value} : ∀ {L : Lev} {q : ByteArray × Value}, q ∈ putLY s v L → q = (s, v) ∨ q ∈ L := by
  intro L
  induction L with
  | nil => intro q hq; exact .inl (by simpa [putLY] using hq)
  | cons p t ih =>
    obtain ⟨k, u⟩ := p
    intro q hq
    unfold putLY at hq
    split at hq
    · rcases List.mem_cons.1 hq with hq | hq
      · exact .inl hq
      · exact .inr (List.mem_cons_of_mem _ hq)
    · rcases List.mem_cons.1 hq with hq | hq
      · exact .inr (by rw [hq]; exact List.mem_cons_self)
      · rcases ih hq with h | h
        · exact .inl h
        · exact .inr (List.mem_cons_of_mem _ h)
theorem levB_put {B n : Nat} {L : Lev} {s : ByteArray} (h : LevB B L) (hn : n ≤ B) : LevB (B + 1) (putLY s (.int .i64 ((n : Int) + 1)) L) := by
  intro q hq
  rcases putLY_mem hq with rfl | hq
  · exact ⟨n + 1, Nat.succ_pos _, Nat.succ_le_succ hn, by simp⟩
  · obtain ⟨m, h1, h2, h3⟩ := h q hq
    exact ⟨m, h1, by omega, h3⟩
theorem scHas_cons (t : ByteArray) (L : Lev) (Ls : List Lev) : scHas t (L :: Ls) = ((getLY t L).isSome || scHas t Ls) := rfl
theorem SIn.at {w : World} {ss : List ByteArray} {a : Option Addr} (h : SIn w ss a) {j : Nat} (hj : j < ss.length) : ∃ b o s, a = some ⟨b, o, none⟩ ∧ ss[j]? = some s ∧ w.cell? ⟨b, o + j, none⟩ = some (.string s) := by
  obtain ⟨hl, _⟩ := h.lies
  have e := List.getElem?_eq_getElem hj
  rcases hl with hl | ⟨b, o, e1, e2⟩
  · have : (texts ss).length = 0 := by rw [hl]; rfl
    unfold texts at this; rw [List.length_map] at this; omega
  · exact ⟨b, o, ss[j], e1, e, e2 j _ (by unfold texts; rw [List.getElem?_map, e]; rfl)⟩
set_option maxRecDepth 100000 in
set_option maxHeartbeats 1000000 in
theorem scBelow_any (Ls : List Lev) (p : Option Addr) (k : Int) (t : ByteArray) (m e : Int) (a : Option Addr) (c : Nat) (F : Fo) (j : Nat) (w : World) (h : ScIn w p Ls) (hin : F.In w a) (hl : F.len ≤ c) (hc : c ≤ maxLen) (ht : t.size ≤ maxLen) (hlam : lamOk k F) (hj : j < F.len) (hF : F.size ≤ 1060000) :
    Calls Try.prog 57 #[.pointer p, nodeV k t m e a F.len c, .int .i64 (j : Nat)] w fun r w' => (∃ p' Ls', r = .returned (.pointer p') ∧ ScIn w' p' Ls' ∧ ∀ x, scHas x Ls' = (scHas x Ls || hasT x (bnd k t F j))) ∧ Below w.heap.size w w' := by
  have hb0 : Below w.heap.size w (w.alloc (.cells #[.int .i64 k, .string t, .int .i64 m, .int .i64 e, .slice a F.len c] 33)) := (Below.refl _ _).alloc (Nat.le_refl _) _
  have f0 := Five.new w (.int .i64 k) (.string t) (.int .i64 m) (.int .i64 e) (.slice a F.len c) 33
  have HS : Hid (∀ w', Below w.heap.size w w' → ScIn w' p Ls) := fun w' hb => h.keep (KeepS.of_below hb)
  have hz : ∀ w, (zeroValue 3).run Try.prog w = .ok (.int .i64 0) w := fun w => by kernel_rfl
  have hBN := boundNames_any k t m e a c F _ (hin.grow hb0) hl hc ht hlam.1 hF
  have hll := F.len_le
  by_cases hA : k = 21 ∧ j = 0
  · have HE : Hid (bnd k t F j = []) := by
      unfold Hid bnd
      rw [if_neg (by omega), if_neg (by omega)]
    have hk : (k == 21) = true := by simp [hA.1]
    obtain ⟨-, rfl⟩ := hA
    clear hBN hin h hlam hj hz
    go_enter Try.func57, Try.ntmps57
    go_wp2_with fail
    go_ret
    exact ⟨⟨p, Ls, rfl, HS.out _ hb0, fun x => by rw [HE.out]; simp [hasT]⟩, hb0⟩
  · have HE : Hid (bnd k t F j = bndN k t F) := by
      unfold Hid bnd bndN
      by_cases h15 : k = 15
      · rw [if_pos (.inl h15), if_pos (.inl h15)]
      · by_cases h21 : k = 21
        · have := hlam.2 h21
          rw [if_pos (.inr ⟨h21, by omega⟩), if_pos (.inr h21)]
        · rw [if_neg (show ¬ (k = 15 ∨ (k = 21 ∧ j = 1)) by omega), if_neg (show ¬ (k = 15 ∨ k = 21) by omega)]
    have hnl : (bndN k t F).length ≤ 1060000 := by
      unfold bndN
      split
      · simp
      · split
        · rw [List.length_take]; omega
        · simp
    have hcs : ((k == 21) = true ∧ ((j : Int) == 0) = false) ∨ (k == 21) = false := by
      by_cases h21 : k = 21
      · exact .inl ⟨by simp [h21], by simp; omega⟩
      · exact .inr (by simp [h21])
    generalize hns : bndN k t F = ns at *
    clear hA hns hin h hlam
    have hmm := @run_makeMap Try.prog
    rcases hcs with ⟨hk, hj0⟩ | hk
    all_goals
      go_enter Try.func57, Try.ntmps57
      go_wp2_with fail
      refine hBN.mono ?_
      rintro r w1 ⟨⟨a1, c1, rfl, hS1, hc1⟩, hb1⟩
      have hB1 := hb0.trans (hb1.mono hb0.size)
      clear hb1 hb0 f0 hBN
      by_cases hn0 : ns.length = 0
      · have HN : Hid (ns = []) := List.eq_nil_of_length_eq_zero hn0
        rw [hn0]
        clear hn0 hS1 hc1
        go_wp2_with fail
        go_ret
        exact ⟨⟨p, Ls, rfl, HS.out _ hB1, fun x => by rw [HE.out, HN.out]; simp [hasT]⟩, hB1⟩
      · have hn1 : (((ns.length : Nat) : Int) == 0) = false := by simp; intro hh; exact hn0 (by rw [hh]; rfl)
        clear hn0
        obtain ⟨V, hV⟩ : ∃ V, V = (w1.alloc (.map #[] 0)).alloc (.cells #[.map (some w1.heap.size), .pointer p] 97) := ⟨_, rfl⟩
        have hBV : Below w1.heap.size w1 V := by rw [hV]; exact ((Below.refl _ _).alloc (Nat.le_refl _) _).alloc (by simp) _
        have hVm : V.heap[w1.heap.size]? = some (.map #[] 0) := by rw [hV]; exact (Below.heap_alloc _ _ _ (by simp)).trans (World.alloc_heap_new w1 _)
        have hVs : V.heap[w1.heap.size + 1]? = some (.cells #[.map (some w1.heap.size), .pointer p] 97 (0, 0)) := by rw [hV]; have := World.alloc_heap_new (w1.alloc (.map #[] 0)) (.cells #[.map (some w1.heap.size), .pointer p] 97); rwa [World.size_alloc] at this
        go_wp2_with fail
        rw [← hV]
        clear hV
        obtain ⟨mb, hmb⟩ : ∃ mb, w1.heap.size = mb := ⟨_, rfl⟩
        rw [hmb] at hVm hVs
        rw [hmb]
        have hz1 : w1.heap.size ≤ mb := by omega
        clear hmb
        have HI0 : txKeys.Is V mb [] := ⟨#[], 0, hVm, rfl⟩
        have HS1 : Hid (SIn w1 ns a1) := hS1
        have hcm : c1 ≤ 2 ^ 63 - 1 := hc1.2
        clear hVm hS1
        go_loopw [30] (fun i wr => ∃ (j' : Nat) (L : Lev), i = .int .i64 j' ∧ j' ≤ ns.length ∧ txKeys.Is wr mb L ∧ LevB j' L ∧ (∀ x, (getLY x L).isSome = true ↔ x ∈ ns.take j') ∧ wr.heap[mb + 1]? = some (.cells #[.map (some mb), .pointer p] 97 (0, 0)) ∧ Below w1.heap.size w1 wr) (fun i _ => ns.length - (intOf i).toNat)
        case atStart => exact ⟨0, [], rfl, Nat.zero_le _, HI0, (fun q hq => by cases hq), (fun x => by simp [getLY]), hVs, hBV⟩
        case round =>
          obtain ⟨j', L, rfl, hjn, hIs, hLB, hget, hbox, hb⟩ := hrel
          have HG : Hid (∀ x, (getLY x L).isSome = true ↔ x ∈ ns.take j') := hget
          clear hget
          by_cases hlt : j' < ns.length
          · have hlt' : (j' : Int) < (ns.length : Int) := by omega
            obtain ⟨b, o, s, rfl, hs, hcell⟩ := (HS1.out.grow hb).at hlt
            obtain ⟨n, hn1, hn2⟩ := levB_get hLB s
            have hlook0 := txKeys.look (mty := 92) (et := 3) Try.underlying92 s trivial (fun _ _ => trivial) hIs (hz wr)
            rw [hn2] at hlook0
            have hlook : (Instr.lookup 92 (.map (some mb)) (.string s) false).run Try.prog wr = .ok (.int .i64 n) wr := hlook0
            obtain ⟨w2, hput0, hIs2, hg2, hsz2⟩ := txKeys.put (mty := 92) (et := 3) Try.underlying92 s (.int .i64 ((n : Int) + 1)) trivial (fun _ _ => trivial) hIs
            have hput : (Instr.mapUpdate 92 (.map (some mb)) (.string s) (.int .i64 ((n : Int) + 1))).run Try.prog wr = .ok () w2 := hput0
            have hnb : n ≤ 2000000 := by omega
            have hc0 : wr.cell? ⟨mb + 1, 0, none⟩ = some (.map (some mb)) := by simp [World.cell?, hbox]
            have hb2 : Below w1.heap.size w1 w2 := hb.grown hg2 hb.size (fun k hk => by cases hk; exact hz1)
            have hbox2 : w2.heap[mb + 1]? = some (.cells #[.map (some mb), .pointer p] 97 (0, 0)) := (hg2.block _ (Array.getElem?_eq_some_iff.1 hbox).1 (fun e => by have := Option.some.inj e; omega)).trans hbox
            have HF : Hid (txKeys.Is w2 mb (putLY s (.int .i64 ((n : Int) + 1)) L) ∧ LevB (j' + 1) (putLY s (.int .i64 ((n : Int) + 1)) L) ∧ (∀ x, (getLY x (putLY s (.int .i64 ((n : Int) + 1)) L)).isSome = true ↔ x ∈ ns.take (j' + 1)) ∧ w2.heap[mb + 1]? = some (.cells #[.map (some mb), .pointer p] 97 (0, 0)) ∧ Below w1.heap.size w1 w2) := by
              refine ⟨hIs2, levB_put hLB hn1, fun x => ?_, hbox2, hb2⟩
              rw [getL_putY, List.take_add_one, hs, Option.toList_some, List.mem_append, List.mem_singleton, ← HG.out x]
              by_cases hx : x = s
              · simp [hx]
              · simp [hx]
            clear hlook0 hput0 hIs hIs2 hg2 hsz2 hb2 hbox2 hLB hb hbox hn2 hs
            go_wp2_with fail
            go_round
            case rel => exact ⟨j' + 1, _, by go_num, by omega, HF.out.1, HF.out.2.1, HF.out.2.2.1, HF.out.2.2.2.1, HF.out.2.2.2.2⟩
            case measure => simp [intOf]; omega
          · have hlt' : ¬ (j' : Int) < (ns.length : Int) := by omega
            have hjj : j' = ns.length := by omega
            have hFin : Hid (ScIn wr (some ⟨mb + 1, 0, none⟩) (L :: Ls)) := ⟨mb + 1, mb, p, rfl, hbox, hIs, fun q hq => by
              obtain ⟨n, h1, h2, h3⟩ := hLB q hq
              exact ⟨n, h1, by omega, h3⟩, HS.out _ (hB1.trans (hb.mono hB1.size))⟩
            have hbB := hB1.trans (hb.mono hB1.size)
            clear hIs hLB hbox hb
            go_wp2_with fail
            go_ret
            refine ⟨⟨some ⟨mb + 1, 0, none⟩, rfl, L :: Ls, hFin.out, fun x => ?_⟩, hbB⟩
            rw [HE.out, scHas_cons, Bool.or_comm]
            congr 1
            have := HG.out x
            rw [hjj, List.take_length, ← hasT_iff] at this
            exact Bool.eq_iff_iff.2 this
end Go.Proofs.Ytbbbmmemfndnlaa
/- Names from outside, by the program: the region that goes into a tree below. -/
namespace Go.Proofs.Ytbbbmmemfndnlaa
open Go.RowKit
attribute [local go_sem] cell_alloc_is frozen_alloc_is
/-- a tree in a box of its own -/
def BoxN (w : World) (b : Nat) (k : Int) (t : ByteArray) (m e : Int) (s : Value) : Prop := w.heap[b]? = some (.cells #[.int .i64 k, .string t, .int .i64 m, .int .i64 e, s] 33 (0, 0))
theorem BoxN.new (w : World) (k : Int) (t : ByteArray) (m e : Int) (s : Value) : BoxN (w.alloc (.cells #[.int .i64 k, .string t, .int .i64 m, .int .i64 e, s] 33)) w.heap.size k t m e s := World.alloc_heap_new w _
theorem BoxN.lt {w : World} {b : Nat} {k : Int} {t : ByteArray} {m e : Int} {s : Value} (h : BoxN w b k t m e s) : b < w.heap.size := (Array.getElem?_eq_some_iff.1 h).1
theorem BoxN.below {w w' : World} {b : Nat} {k : Int} {t : ByteArray} {m e : Int} {s : Value} (h : BoxN w b k t m e s) (hb : Below w.heap.size w w') : BoxN w' b k t m e s := (hb.block b h.lt).trans h
theorem BoxN.cells {w : World} {b : Nat} {k : Int} {t : ByteArray} {m e : Int} {s : Value} (h : BoxN w b k t m e s) : w.cell? ⟨b, 0, none⟩ = some (.int .i64 k) ∧ w.cell? ⟨b, 1, none⟩ = some (.string t) ∧ w.cell? ⟨b, 2, none⟩ = some (.int .i64 m) ∧ w.cell? ⟨b, 3, none⟩ = some (.int .i64 e) ∧ w.cell? ⟨b, 4, none⟩ = some s := by
  unfold BoxN at h
  refine ⟨?_, ?_, ?_, ?_, ?_⟩ <;> simp [World.cell?, h]
theorem BoxN.wr {B lb : Nat} {w w' : World} {ns : List ByteArray} {b : Nat} {k : Int} {t : ByteArray} {m e : Int} {s : Value} (h : BoxN w b k t m e s) (hw : Wr B lb w w') (hn : NL B w lb ns) : BoxN w' b k t m e s := by
  obtain ⟨a, c, _, ⟨cs0, h2, _⟩, _⟩ := hn
  refine (hw.2 b h.lt (fun e => ?_) (.inr fun cs' z e => ?_)).trans h
  · subst e; rw [BoxN, h2] at h; cases h
  · rw [BoxN, e] at h; cases h
set_option maxRecDepth 100000 in
set_option maxHeartbeats 2000000 in
theorem la6 {Q : Exit → Act → World → Prop} {t1 t3 t5 t8 t9 t10 t11 t12 t13 t14 t15 t16 t17 t18 t19 t20 t21 t22 t23 t24 t25 t26 t27 t28 t29 t30 t31 t32 t33 t34 t35 t36 t37 : Value} {W : World} {lb nb kb j : Nat} {p : Option Addr} {k m e k' m' e' : Int} {t t' : ByteArray} {s s' : Value} {RB : Option Addr → World → Prop} {RC : World → Prop}
    (hn : BoxN W nb k t m e s) (hk : BoxN W kb k' t' m' e' s')
    (HB : ∀ w', Below W.heap.size W w' → Calls Try.prog 57 #[.pointer p, .agg #[.int .i64 k, .string t, .int .i64 m, .int .i64 e, s], .int .i64 (j : Nat)] w' fun r w2 => ∃ p', r = .returned (.pointer p') ∧ RB p' w2 ∧ Below w'.heap.size w' w2)
    (HC : ∀ w' p', Below W.heap.size W w' → RB p' w' → Calls Try.prog 29 #[.pointer (some ⟨lb, 0, none⟩), .agg #[.int .i64 k', .string t', .int .i64 m', .int .i64 e', s'], .pointer p'] w' fun r w2 => r = .returned (.tuple #[]) ∧ (BoxN w2 nb k t m e s ∧ BoxN w2 kb k' t' m' e' s') ∧ RC w2)
    (hp : ∀ p d v a w, Q (.panic p) (Act.put a d v) w → Q (.panic p) a w) (h : ∀ W1 v30 v31 v32 v33 v34 v35 v36, BoxN W1 nb k t m e s → RC W1 → Q .normal { tmps := (.pointer (some ⟨lb, 0, none⟩) :: t1 :: .pointer p :: t3 :: .pointer (some ⟨nb, 0, none⟩) :: t5 :: .int .i64 (j : Nat) :: .pointer (some ⟨kb, 0, none⟩) :: t8 :: t9 :: t10 :: t11 :: t12 :: t13 :: t14 :: t15 :: t16 :: t17 :: t18 :: t19 :: t20 :: t21 :: t22 :: t23 :: t24 :: t25 :: t26 :: t27 :: t28 :: t29 :: v30 :: v31 :: v32 :: v33 :: v34 :: v35 :: v36 :: t37 :: []).toArray, defers := [] } W1) :
    Code.wp Try.prog (Code.region 6 #[{ dst := some 30, op := Op.move (Operand.tmp 0), type := 74, pos := "l6_scope.go:80", after := #[], guard := none }, { dst := some 31, op := Op.load 33 (Operand.tmp 7), type := 33, pos := "l6_scope.go:80", after := #[], guard := none }, { dst := some 32, op := Op.move (Operand.tmp 2), type := 75, pos := "l6_scope.go:80", after := #[], guard := none }, { dst := some 33, op := Op.load 33 (Operand.tmp 4), type := 33, pos := "l6_scope.go:80", after := #[], guard := none }, { dst := some 34, op := Op.move (Operand.tmp 6), type := 3, pos := "l6_scope.go:80", after := #[], guard := none }, { dst := some 35, op := Op.call { callee := Callee.value (Operand.func 57), args := #[Operand.tmp 32, Operand.tmp 33, Operand.tmp 34], argTypes := #[75, 33, 3] }, type := 75, pos := "l6_scope.go:80", after := #[{ on := 2, ground := Ground.data }, { on := 3, ground := Ground.data }, { on := 4, ground := Ground.data }], guard := none }, { dst := some 36, op := Op.call { callee := Callee.value (Operand.func 29), args := #[Operand.tmp 30, Operand.tmp 31, Operand.tmp 35], argTypes := #[74, 33, 75] }, type := 0, pos := "l6_scope.go:80", after := #[{ on := 0, ground := Ground.data }, { on := 1, ground := Ground.data }, { on := 5, ground := Ground.data }, { on := 5, ground := Ground.chain }], guard := none }] true) Q { tmps := (.pointer (some ⟨lb, 0, none⟩) :: t1 :: .pointer p :: t3 :: .pointer (some ⟨nb, 0, none⟩) :: t5 :: .int .i64 (j : Nat) :: .pointer (some ⟨kb, 0, none⟩) :: t8 :: t9 :: t10 :: t11 :: t12 :: t13 :: t14 :: t15 :: t16 :: t17 :: t18 :: t19 :: t20 :: t21 :: t22 :: t23 :: t24 :: t25 :: t26 :: t27 :: t28 :: t29 :: t30 :: t31 :: t32 :: t33 :: t34 :: t35 :: t36 :: t37 :: []).toArray, defers := [] } W := by
  have hB0 : Below W.heap.size W W.drew := (Below.refl _ W).drew
  have HS : Hid (∀ w', Below W.heap.size W w' → BoxN w' nb k t m e s ∧ BoxN w' kb k' t' m' e' s') := fun w' h => ⟨hn.below h, hk.below h⟩
  have hS0 := HS.out _ hB0
  clear hn hk
  refine wp_region_held_drew (S := fun w' => BoxN w' nb k t m e s ∧ BoxN w' kb k' t' m' e' s') (by kernel_rfl) hS0 (fun hHeld => ?_)
  generalize W.drew = Wd at *
  refine wpAnyH_take (i := 0) (v := .pointer (some ⟨lb, 0, none⟩)) rfl (by kernel_rfl) (by kernel_rfl) (by kernel_rfl) (fun _ _ _ h => hp _ _ _ _ _ h) (Or.inl ⟨by rfl, ?_⟩) (by assumption) ?_
  · intro w hSw
    (try dsimp only at hSw)
    go_simp
  (try simp only [Act.put, List.getElem_toArray, List.getElem_cons_zero, List.setIfInBounds_toArray, List.set_cons_zero, List.set_cons_succ])
  refine wpAnyH_take (i := 1) (v := .agg #[.int .i64 k', .string t', .int .i64 m', .int .i64 e', s']) rfl (by kernel_rfl) (by kernel_rfl) (by kernel_rfl) (fun _ _ _ h => hp _ _ _ _ _ h) (Or.inl ⟨by rfl, ?_⟩) (by assumption) ?_
  · intro w hSw
    (try dsimp only at hSw)
    (obtain ⟨a0, a1⟩ := hSw; obtain ⟨x0, x1, x2, x3, x4⟩ := a0.cells; obtain ⟨y0, y1, y2, y3, y4⟩ := a1.cells; clear a0 a1; go_simp)
  (try simp only [Act.put, List.getElem_toArray, List.getElem_cons_zero, List.getElem_cons_succ, List.setIfInBounds_toArray, List.set_cons_zero, List.set_cons_succ])
  refine wpAnyH_take (i := 2) (v := .pointer p) rfl (by kernel_rfl) (by kernel_rfl) (by kernel_rfl) (fun _ _ _ h => hp _ _ _ _ _ h) (Or.inl ⟨by rfl, ?_⟩) (by assumption) ?_
  · intro w hSw
    (try dsimp only at hSw)
    go_simp
  (try simp only [Act.put, List.getElem_toArray, List.getElem_cons_zero, List.getElem_cons_succ, List.setIfInBounds_toArray, List.set_cons_zero, List.set_cons_succ])
  refine wpAnyH_take (i := 3) (v := .agg #[.int .i64 k, .string t, .int .i64 m, .int .i64 e, s]) rfl (by kernel_rfl) (by kernel_rfl) (by kernel_rfl) (fun _ _ _ h => hp _ _ _ _ _ h) (Or.inl ⟨by rfl, ?_⟩) (by assumption) ?_
  · intro w hSw
    (try dsimp only at hSw)
    (obtain ⟨a0, a1⟩ := hSw; obtain ⟨x0, x1, x2, x3, x4⟩ := a0.cells; obtain ⟨y0, y1, y2, y3, y4⟩ := a1.cells; clear a0 a1; go_simp)
  (try simp only [Act.put, List.getElem_toArray, List.getElem_cons_zero, List.getElem_cons_succ, List.setIfInBounds_toArray, List.set_cons_zero, List.set_cons_succ])
  refine wpAnyH_take (i := 4) (v := .int .i64 (j : Nat)) rfl (by kernel_rfl) (by kernel_rfl) (by kernel_rfl) (fun _ _ _ h => hp _ _ _ _ _ h) (Or.inl ⟨by rfl, ?_⟩) (by assumption) ?_
  · intro w hSw
    (try dsimp only at hSw)
    go_simp
  (try simp only [Act.put, List.getElem_toArray, List.getElem_cons_zero, List.getElem_cons_succ, List.setIfInBounds_toArray, List.set_cons_zero, List.set_cons_succ])
  refine wpAnyH_ready (rs := [5]) (by kernel_rfl) (by simp) ?_
  refine AllReadyH.cons rfl (fun K hK => ?_) AllReadyH.nil
  go_simp
  refine (HB _ hB0).mono ?_
  rintro r W3 ⟨p', rfl, hR, hb⟩
  have hB1 := hB0.trans (hb.mono hB0.size)
  have hS1 := HS.out _ hB1
  go_wp2_with fail
  refine hK.out _ _ hS1 (fun hHeld2 => ?_)
  clear hK K hHeld hS0 hb hHeld2 hS1
  (try simp only [Act.put, List.getElem_toArray, List.getElem_cons_zero, List.getElem_cons_succ, List.setIfInBounds_toArray, List.set_cons_zero, List.set_cons_succ])
  refine wpAnyH_ready (rs := [6]) (by kernel_rfl) (by simp) ?_
  refine AllReadyH.cons rfl (fun K hK => ?_) AllReadyH.nil
  go_simp
  refine (HC _ p' hB1 hR).mono ?_
  rintro r W5 ⟨rfl, hS5, hRC⟩
  go_wp2_with fail
  refine hK.out _ _ hS5 (fun hHeld2 => ?_)
  clear hK K
  (try simp only [Act.put, List.getElem_toArray, List.getElem_cons_zero, List.getElem_cons_succ, List.setIfInBounds_toArray, List.set_cons_zero, List.set_cons_succ])
  refine wpAnyH_done (by kernel_rfl) ?_ _
  exact h _ _ _ _ _ _ _ _ hS5.1 hRC
end Go.Proofs.Ytbbbmmemfndnlaa
