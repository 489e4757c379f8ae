/- My own texts, joined: Le Lf Lh LFnExactImports. -/
import Derived.Test.YtmghhcdhjjhbeaaJImports5
import Derived.Test.YtmghhcdhjjhbeaaJImports2
import Derived.Test.YtmghhcdhjjhbeaaJImports3
import Derived.Deep.RegionHeld3
import Derived.Test.YtmghhcdhjjhbeaaJImports4
/- Names, each once, ascending: the program's nameList and its add. -/
namespace Go.Proofs.Ytmghhcdhjjhbeaa
open Go.RowKit
attribute [local go_sem] cell_alloc_is frozen_alloc_is
/-- a list of names in its box, its texts in a block of their own -/
def NL (B : Nat) (w : World) (lb : Nat) (ns : List ByteArray) : Prop := ∃ a c, OwnT B w a c ns ∧ w.rowIs lb 71 1 (fun _ => .slice a ns.length c) ∧ a.map (·.block) ≠ some lb
/-- what a round may write: the box, and a list of texts that is not older than it -/
def Wr (B lb : Nat) (w w' : World) : Prop := Below B w w' ∧ ∀ x, x < w.heap.size → ¬ x = lb → (x < B ∨ ∀ cs z, w.heap[x]? ≠ some (.cells cs 9 z)) → w'.heap[x]? = w.heap[x]?
theorem row_one (w : World) (s : ByteArray) : (w.alloc (.cells #[.string s] 9)).rowIs w.heap.size 9 1 (fun _ => .string s) :=
  World.rowIs_alloc w #[.string s] 9 _ (fun i hi => by
    have h0 : i = 0 := by simp at hi; exact hi
    subst h0; rfl)
theorem OwnT.block {B : Nat} {w : World} {a : Option Addr} {c : Nat} {ns : List ByteArray} (h : OwnT B w a c ns) {x : Nat} (e : a.map (·.block) = some x) : ∃ g, a = some ⟨g, 0, none⟩ := by
  rcases h with ⟨h, _⟩ | ⟨g, f, h, _⟩
  · rw [h] at e; cases e
  · exact ⟨g, h⟩
theorem OwnT.isText {B : Nat} {w : World} {a : Option Addr} {c : Nat} {ns : List ByteArray} (h : OwnT B w a c ns) {g : Nat} (e : a = some ⟨g, 0, none⟩) : ∃ cs, w.heap[g]? = some (.cells cs 9 (0, 0)) := by
  rcases h with ⟨h, _⟩ | ⟨g', f, h, _, _, ⟨cs, h1, _⟩, _⟩
  · rw [h] at e; cases e
  · rw [h] at e; cases e; exact ⟨cs, h1⟩
set_option maxRecDepth 100000 in
set_option maxHeartbeats 2000000 in
theorem na2 {Q : Exit → Act → World → Prop} {t2 t3 t5 t6 t7 t8 t9 t10 t11 t12 t13 t14 t15 t16 t17 t18 t19 t20 t21 t22 t23 t24 t25 t26 t27 t28 : Value} {W : World} {lb k B c : Nat} {a : Option Addr} {ns : List ByteArray} {s : ByteArray}
    (hO : OwnT B W a c ns) (hL : W.rowIs lb 71 1 (fun _ => .slice a ns.length c)) (hne : a.map (·.block) ≠ some lb) (hB : B ≤ W.heap.size) (hBl : B ≤ lb) (hk : k ≤ ns.length) (hn : ns.length ≤ 1100000) (hs : s.size ≤ 281474976710656)
    (hp : ∀ p d v a w, Q (.panic p) (Act.put a d v) w → Q (.panic p) a w) (h : ∀ ws v17 v18 v19 v20 v21 v22 v23 v24 v25 v26 v27 v28, NL B ws lb (ns.take k ++ s :: ns.drop k) → Wr B lb W ws → Q .normal { tmps := (.pointer (some ⟨lb, 0, none⟩) :: .string s :: t2 :: t3 :: .int .i64 (k : Nat) :: t5 :: t6 :: t7 :: t8 :: t9 :: t10 :: t11 :: t12 :: t13 :: t14 :: t15 :: t16 :: v17 :: v18 :: v19 :: v20 :: v21 :: v22 :: v23 :: v24 :: v25 :: v26 :: v27 :: v28 :: []).toArray, defers := [] } ws) :
    Code.wp Try.prog (Code.region 2 #[{ dst := some 17, op := Op.move (Operand.tmp 0), type := 102, pos := "l6_scope.go:70", after := #[], guard := none }, { dst := some 18, op := Op.move (Operand.tmp 0), type := 102, pos := "l6_scope.go:70", after := #[], guard := none }, { dst := some 19, op := Op.nilCheck (Operand.tmp 18), type := 0, pos := "l6_scope.go:70", after := #[{ on := 1, ground := Ground.data }], guard := none }, { dst := some 20, op := Op.fieldAddr 71 (Operand.tmp 19) 0, type := 0, pos := "l6_scope.go:70", after := #[{ on := 2, ground := Ground.data }], guard := none }, { dst := some 21, op := Op.load 25 (Operand.tmp 20), type := 25, pos := "l6_scope.go:70", after := #[{ on := 3, ground := Ground.data }], guard := none }, { dst := some 22, op := Op.move (Operand.tmp 4), type := 3, pos := "l6_scope.go:70", after := #[], guard := none }, { dst := some 23, op := Op.move (Operand.tmp 1), type := 9, pos := "l6_scope.go:70", after := #[], guard := none }, { dst := some 24, op := Op.call { callee := Callee.value (Operand.func 69), args := #[Operand.tmp 23], argTypes := #[9] }, type := 9, pos := "l6_scope.go:70", after := #[{ on := 6, ground := Ground.data }], guard := none }, { dst := some 25, op := Op.buildSlice 25 1 #[(0, Operand.tmp 24)], type := 25, pos := "l6_scope.go:70", after := #[{ on := 7, ground := Ground.data }], guard := none }, { dst := some 26, op := Op.call { callee := Callee.value (Operand.func 86), args := #[Operand.tmp 21, Operand.tmp 22, Operand.tmp 25], argTypes := #[25, 3, 25] }, type := 25, pos := "l6_scope.go:70", after := #[{ on := 4, ground := Ground.data }, { on := 5, ground := Ground.data }, { on := 8, ground := Ground.data }, { on := 7, ground := Ground.chain }], guard := none }, { dst := some 27, op := Op.nilCheck (Operand.tmp 17), type := 0, pos := "l6_scope.go:70", after := #[{ on := 0, ground := Ground.data }, { on := 0, ground := Ground.phase }, { on := 1, ground := Ground.phase }, { on := 2, ground := Ground.phase }, { on := 3, ground := Ground.phase }, { on := 4, ground := Ground.phase }, { on := 5, ground := Ground.phase }, { on := 6, ground := Ground.phase }, { on := 7, ground := Ground.phase }, { on := 8, ground := Ground.phase }, { on := 9, ground := Ground.phase }], guard := none }, { dst := some 28, op := Op.fieldAddr 71 (Operand.tmp 27) 0, type := 0, pos := "l6_scope.go:70", after := #[{ on := 10, ground := Ground.data }, { on := 0, ground := Ground.phase }, { on := 1, ground := Ground.phase }, { on := 2, ground := Ground.phase }, { on := 3, ground := Ground.phase }, { on := 4, ground := Ground.phase }, { on := 5, ground := Ground.phase }, { on := 6, ground := Ground.phase }, { on := 7, ground := Ground.phase }, { on := 8, ground := Ground.phase }, { on := 9, ground := Ground.phase }], guard := none }, { dst := none, op := Op.store 25 (Operand.tmp 28) (Operand.tmp 26), type := 0, pos := "l6_scope.go:70", after := #[{ on := 11, ground := Ground.data }, { on := 9, ground := Ground.data }, { on := 9, ground := Ground.chain }, { on := 0, ground := Ground.phase }, { on := 1, ground := Ground.phase }, { on := 2, ground := Ground.phase }, { on := 3, ground := Ground.phase }, { on := 4, ground := Ground.phase }, { on := 5, ground := Ground.phase }, { on := 6, ground := Ground.phase }, { on := 7, ground := Ground.phase }, { on := 8, ground := Ground.phase }, { on := 9, ground := Ground.phase }], guard := none }] true) Q { tmps := (.pointer (some ⟨lb, 0, none⟩) :: .string s :: t2 :: t3 :: .int .i64 (k : Nat) :: t5 :: t6 :: t7 :: t8 :: t9 :: t10 :: t11 :: t12 :: t13 :: t14 :: t15 :: t16 :: t17 :: t18 :: t19 :: t20 :: t21 :: t22 :: t23 :: t24 :: t25 :: t26 :: t27 :: t28 :: []).toArray, defers := [] } W := by
  have hll := hL.lt
  have HG : Hid (∀ w', Below W.heap.size W w' → OwnT B w' a c ns ∧ w'.rowIs lb 71 1 (fun _ => .slice a ns.length c)) := fun w' h => ⟨hO.of_block (fun g hg => h.block g (hO.lt hg).2), hL.of_block (h.block lb hll)⟩
  have HN : Hid (a.map (·.block) ≠ some lb) := hne
  clear hO hL hne
  have hB0 := (Below.refl W.heap.size W).drew
  refine wp_region_held_drew (S := fun _ => True) (by kernel_rfl) trivial (fun _ => ?_)
  generalize W.drew = Wd at *
  have hSw : (fun _ : World => True) Wd := trivial
  refine wpAnyH_take (i := 0) (v := .pointer (some ⟨lb, 0, none⟩)) rfl (by kernel_rfl) (by kernel_rfl) (by kernel_rfl) (fun _ _ _ h => hp _ _ _ _ _ h) (Or.inl ⟨by rfl, ?_⟩) (by assumption) ?_
  · intro w hSw
    (try dsimp only at hSw)
    go_simp
  (try simp only [Act.put, List.getElem_toArray, List.getElem_cons_zero, List.setIfInBounds_toArray, List.set_cons_zero, List.set_cons_succ])
  refine wpAnyH_take (i := 1) (v := .pointer (some ⟨lb, 0, none⟩)) rfl (by kernel_rfl) (by kernel_rfl) (by kernel_rfl) (fun _ _ _ h => hp _ _ _ _ _ h) (Or.inl ⟨by rfl, ?_⟩) (by assumption) ?_
  · intro w hSw
    (try dsimp only at hSw)
    go_simp
  (try simp only [Act.put, List.getElem_toArray, List.getElem_cons_zero, List.getElem_cons_succ, List.setIfInBounds_toArray, List.set_cons_zero, List.set_cons_succ])
  refine wpAnyH_take (i := 2) (v := .pointer (some ⟨lb, 0, none⟩)) rfl (by kernel_rfl) (by kernel_rfl) (by kernel_rfl) (fun _ _ _ h => hp _ _ _ _ _ h) (Or.inl ⟨by rfl, ?_⟩) (by assumption) ?_
  · intro w hSw
    (try dsimp only at hSw)
    go_simp
  (try simp only [Act.put, List.getElem_toArray, List.getElem_cons_zero, List.getElem_cons_succ, List.setIfInBounds_toArray, List.set_cons_zero, List.set_cons_succ])
  refine wpAnyH_take (i := 3) (v := .pointer (some ⟨lb, 0, none⟩)) rfl (by kernel_rfl) (by kernel_rfl) (by kernel_rfl) (fun _ _ _ h => hp _ _ _ _ _ h) (Or.inl ⟨by rfl, ?_⟩) (by assumption) ?_
  · intro w hSw
    (try dsimp only at hSw)
    go_simp
  (try simp only [Act.put, List.getElem_toArray, List.getElem_cons_zero, List.getElem_cons_succ, List.setIfInBounds_toArray, List.set_cons_zero, List.set_cons_succ])
  refine wpAnyH_take (i := 5) (v := .int .i64 (k : Nat)) rfl (by kernel_rfl) (by kernel_rfl) (by kernel_rfl) (fun _ _ _ h => hp _ _ _ _ _ h) (Or.inl ⟨by rfl, ?_⟩) (by assumption) ?_
  · intro w hSw
    (try dsimp only at hSw)
    go_simp
  (try simp only [Act.put, List.getElem_toArray, List.getElem_cons_zero, List.getElem_cons_succ, List.setIfInBounds_toArray, List.set_cons_zero, List.set_cons_succ])
  refine wpAnyH_take (i := 6) (v := .string s) rfl (by kernel_rfl) (by kernel_rfl) (by kernel_rfl) (fun _ _ _ h => hp _ _ _ _ _ h) (Or.inl ⟨by rfl, ?_⟩) (by assumption) ?_
  · intro w hSw
    (try dsimp only at hSw)
    go_simp
  (try simp only [Act.put, List.getElem_toArray, List.getElem_cons_zero, List.getElem_cons_succ, List.setIfInBounds_toArray, List.set_cons_zero, List.set_cons_succ])
  clear hSw
  refine wpAnyH_ready (rs := [4, 7]) (by kernel_rfl) (by simp) ?_
  refine AllReadyH.cons rfl (fun K hK => ?_) (AllReadyH.cons rfl (fun K hK => ?_) AllReadyH.nil)
  · skip
    have hcl := ((HG.out _ hB0).2).cell (i := 0) (by omega)
    go_simp
    refine hK.out _ _ trivial (fun _ => ?_)
    clear hK K hcl
    (try simp only [Act.put, List.getElem_toArray, List.getElem_cons_zero, List.getElem_cons_succ, List.setIfInBounds_toArray, List.set_cons_zero, List.set_cons_succ])
    refine wpAnyH_ready (rs := [7]) (by kernel_rfl) (by simp) ?_
    refine AllReadyH.cons rfl (fun K hK => ?_) AllReadyH.nil
    go_simp
    refine (stringsClone_any s _ hs).mono ?_
    rintro r W1 ⟨rfl, hb⟩
    have hB1 := hB0.trans (hb.mono hB0.size)
    go_wp2_with fail
    refine hK.out _ _ trivial (fun _ => ?_)
    clear hK K hB0 hb
    have hB0 := hB1
    clear hB1
    (try simp only [Act.put, List.getElem_toArray, List.getElem_cons_zero, List.getElem_cons_succ, List.setIfInBounds_toArray, List.set_cons_zero, List.set_cons_succ])
    refine wpAnyH_ready (rs := [8]) (by kernel_rfl) (by simp) ?_
    refine AllReadyH.cons rfl (fun K hK => ?_) AllReadyH.nil
    go_simp
    have hv : (W1.alloc (.cells #[.string s] 9)).rowIs W1.heap.size 9 1 (fun _ => .string s) := row_one W1 s
    have hB1 := hB0.alloc hB0.size (.cells #[.string s] 9)
    have hvz : W.heap.size ≤ W1.heap.size := hB0.size
    refine hK.out _ _ trivial (fun _ => ?_)
    clear hK K hB0
    have hB0 := hB1
    clear hB1
    obtain ⟨vb, hvb⟩ : ∃ vb, W1.heap.size = vb := ⟨_, rfl⟩
    rw [hvb] at hv hvz ⊢
    generalize W1.alloc (.cells #[.string s] 9) = W2 at *
    clear hvb
    refine wpAnyH_ready (rs := [9]) (by kernel_rfl) (by simp) ?_
    refine AllReadyH.cons rfl (fun K hK => ?_) AllReadyH.nil
    obtain ⟨hO, hL⟩ := HG.out _ hB0
    have hWz : W.heap.size ≤ W2.heap.size := hB0.size
    have hva : a.map (·.block) ≠ some vb := fun e => by
      obtain ⟨g, hg⟩ := hO.block e
      have h1 := (HG.out W (Below.refl _ _)).1.lt hg
      have h2 : g = vb := by rw [hg] at e; exact Option.some.inj e
      omega
    obtain ⟨nl, hnl⟩ : ∃ nl, nl = ns.take k ++ s :: ns.drop k := ⟨_, rfl⟩
    have hI := insert_any hO (by omega) hk hv hva hn
    rw [← hnl] at hI
    have HNL : Hid (nl = ns.take k ++ s :: ns.drop k) := hnl
    clear hnl
    go_simp
    refine hI.mono ?_
    clear hI
    rintro r W3 ⟨a', c', rfl, hO', ⟨hBe, hfr⟩, hnb⟩
    have hlb : W3.heap[lb]? = W2.heap[lb]? := hfr lb (by omega) (fun e => HN.out e.symm)
    have hL' := hL.of_block hlb
    have hne' : a'.map (·.block) ≠ some lb := fun e => by
      rcases hnb with hnb | ⟨g, hg, hge⟩
      · exact HN.out (hnb.symm.trans e)
      · rw [hg] at e; cases e; omega
    have hF : Hid (NL B (W3.setCell ⟨lb, 0, none⟩ (.slice a' nl.length c')) lb nl ∧ Wr B lb W (W3.setCell ⟨lb, 0, none⟩ (.slice a' nl.length c'))) := by
      refine ⟨⟨a', c', hO'.of_block (fun g hg => heap_setCell_other _ _ _ _ (fun e => hne' (by rw [hg]; exact congrArg some e))), (hL'.set 0 _).congr (fun i hi => if_pos (by omega)), hne'⟩, ?_⟩
      have hb1 : Below B W W2 := hB0.mono hB
      refine ⟨(hb1.trans hBe).setCell (p := ⟨lb, 0, none⟩) hBl _, fun x hx hxl hxs => ?_⟩
      rw [heap_setCell_other _ _ _ _ (fun e => hxl e)]
      rw [hfr x (by omega) (fun e => ?_)]
      · exact hB0.block x hx
      · obtain ⟨g, hg⟩ := hO.block e.symm
        have h2 : g = x := by rw [hg] at e; exact (Option.some.inj e).symm
        subst h2
        have h3 := (HG.out W (Below.refl _ _)).1.lt hg
        rcases hxs with hxs | hxs
        · omega
        · obtain ⟨cs, hcs⟩ := (HG.out W (Below.refl _ _)).1.isText hg
          exact hxs _ _ hcs
    have hcl := hL'.cell (i := 0) (by omega)
    have hfz := hL'.frozen 0
    clear hO hL hv hva hO' hBe hfr hnb hlb hL' hne'
    go_wp2_with fail
    refine hK.out _ _ trivial (fun _ => ?_)
    clear hK K
    (try simp only [Act.put, List.getElem_toArray, List.getElem_cons_zero, List.getElem_cons_succ, List.setIfInBounds_toArray, List.set_cons_zero, List.set_cons_succ])
    have hSw : (fun _ : World => True) W3 := trivial
    refine wpAnyH_take (i := 10) (v := .pointer (some ⟨lb, 0, none⟩)) rfl (by kernel_rfl) (by kernel_rfl) (by kernel_rfl) (fun _ _ _ h => hp _ _ _ _ _ h) (Or.inl ⟨by rfl, ?_⟩) (by assumption) ?_
    · intro w hSw
      (try dsimp only at hSw)
      go_simp
    (try simp only [Act.put, List.getElem_toArray, List.getElem_cons_zero, List.getElem_cons_succ, List.setIfInBounds_toArray, List.set_cons_zero, List.set_cons_succ])
    refine wpAnyH_take (i := 11) (v := .pointer (some ⟨lb, 0, none⟩)) rfl (by kernel_rfl) (by kernel_rfl) (by kernel_rfl) (fun _ _ _ h => hp _ _ _ _ _ h) (Or.inl ⟨by rfl, ?_⟩) (by assumption) ?_
    · intro w hSw
      (try dsimp only at hSw)
      go_simp
    (try simp only [Act.put, List.getElem_toArray, List.getElem_cons_zero, List.getElem_cons_succ, List.setIfInBounds_toArray, List.set_cons_zero, List.set_cons_succ])
    clear hSw
    refine wpAnyH_ready (rs := [12]) (by kernel_rfl) (by simp) ?_
    refine AllReadyH.cons rfl (fun K hK => ?_) AllReadyH.nil
    go_simp
    refine hK.out _ _ trivial (fun _ => ?_)
    refine wpAnyH_done (by kernel_rfl) ?_ _
    exact h _ _ _ _ _ _ _ _ _ _ _ _ _ (HNL.out ▸ hF.out.1) hF.out.2
  · skip
    go_simp
    refine (stringsClone_any s _ hs).mono ?_
    rintro r W4 ⟨rfl, hb⟩
    have hB1 := hB0.trans (hb.mono hB0.size)
    go_wp2_with fail
    refine hK.out _ _ trivial (fun _ => ?_)
    clear hK K hB0 hb
    have hB0 := hB1
    clear hB1
    (try simp only [Act.put, List.getElem_toArray, List.getElem_cons_zero, List.getElem_cons_succ, List.setIfInBounds_toArray, List.set_cons_zero, List.set_cons_succ])
    refine wpAnyH_ready (rs := [4, 8]) (by kernel_rfl) (by simp) ?_
    refine AllReadyH.cons rfl (fun K hK => ?_) (AllReadyH.cons rfl (fun K hK => ?_) AllReadyH.nil)
    · skip
      have hcl := ((HG.out _ hB0).2).cell (i := 0) (by omega)
      go_simp
      refine hK.out _ _ trivial (fun _ => ?_)
      clear hK K hcl
      (try simp only [Act.put, List.getElem_toArray, List.getElem_cons_zero, List.getElem_cons_succ, List.setIfInBounds_toArray, List.set_cons_zero, List.set_cons_succ])
      refine wpAnyH_ready (rs := [8]) (by kernel_rfl) (by simp) ?_
      refine AllReadyH.cons rfl (fun K hK => ?_) AllReadyH.nil
      go_simp
      have hv : (W4.alloc (.cells #[.string s] 9)).rowIs W4.heap.size 9 1 (fun _ => .string s) := row_one W4 s
      have hB1 := hB0.alloc hB0.size (.cells #[.string s] 9)
      have hvz : W.heap.size ≤ W4.heap.size := hB0.size
      refine hK.out _ _ trivial (fun _ => ?_)
      clear hK K hB0
      have hB0 := hB1
      clear hB1
      obtain ⟨vb, hvb⟩ : ∃ vb, W4.heap.size = vb := ⟨_, rfl⟩
      rw [hvb] at hv hvz ⊢
      generalize W4.alloc (.cells #[.string s] 9) = W5 at *
      clear hvb
      refine wpAnyH_ready (rs := [9]) (by kernel_rfl) (by simp) ?_
      refine AllReadyH.cons rfl (fun K hK => ?_) AllReadyH.nil
      obtain ⟨hO, hL⟩ := HG.out _ hB0
      have hWz : W.heap.size ≤ W5.heap.size := hB0.size
      have hva : a.map (·.block) ≠ some vb := fun e => by
        obtain ⟨g, hg⟩ := hO.block e
        have h1 := (HG.out W (Below.refl _ _)).1.lt hg
        have h2 : g = vb := by rw [hg] at e; exact Option.some.inj e
        omega
      obtain ⟨nl, hnl⟩ : ∃ nl, nl = ns.take k ++ s :: ns.drop k := ⟨_, rfl⟩
      have hI := insert_any hO (by omega) hk hv hva hn
      rw [← hnl] at hI
      have HNL : Hid (nl = ns.take k ++ s :: ns.drop k) := hnl
      clear hnl
      go_simp
      refine hI.mono ?_
      clear hI
      rintro r W6 ⟨a', c', rfl, hO', ⟨hBe, hfr⟩, hnb⟩
      have hlb : W6.heap[lb]? = W5.heap[lb]? := hfr lb (by omega) (fun e => HN.out e.symm)
      have hL' := hL.of_block hlb
      have hne' : a'.map (·.block) ≠ some lb := fun e => by
        rcases hnb with hnb | ⟨g, hg, hge⟩
        · exact HN.out (hnb.symm.trans e)
        · rw [hg] at e; cases e; omega
      have hF : Hid (NL B (W6.setCell ⟨lb, 0, none⟩ (.slice a' nl.length c')) lb nl ∧ Wr B lb W (W6.setCell ⟨lb, 0, none⟩ (.slice a' nl.length c'))) := by
        refine ⟨⟨a', c', hO'.of_block (fun g hg => heap_setCell_other _ _ _ _ (fun e => hne' (by rw [hg]; exact congrArg some e))), (hL'.set 0 _).congr (fun i hi => if_pos (by omega)), hne'⟩, ?_⟩
        have hb1 : Below B W W5 := hB0.mono hB
        refine ⟨(hb1.trans hBe).setCell (p := ⟨lb, 0, none⟩) hBl _, fun x hx hxl hxs => ?_⟩
        rw [heap_setCell_other _ _ _ _ (fun e => hxl e)]
        rw [hfr x (by omega) (fun e => ?_)]
        · exact hB0.block x hx
        · obtain ⟨g, hg⟩ := hO.block e.symm
          have h2 : g = x := by rw [hg] at e; exact (Option.some.inj e).symm
          subst h2
          have h3 := (HG.out W (Below.refl _ _)).1.lt hg
          rcases hxs with hxs | hxs
          · omega
          · obtain ⟨cs, hcs⟩ := (HG.out W (Below.refl _ _)).1.isText hg
            exact hxs _ _ hcs
      have hcl := hL'.cell (i := 0) (by omega)
      have hfz := hL'.frozen 0
      clear hO hL hv hva hO' hBe hfr hnb hlb hL' hne'
      go_wp2_with fail
      refine hK.out _ _ trivial (fun _ => ?_)
      clear hK K
      (try simp only [Act.put, List.getElem_toArray, List.getElem_cons_zero, List.getElem_cons_succ, List.setIfInBounds_toArray, List.set_cons_zero, List.set_cons_succ])
      have hSw : (fun _ : World => True) W6 := trivial
      refine wpAnyH_take (i := 10) (v := .pointer (some ⟨lb, 0, none⟩)) rfl (by kernel_rfl) (by kernel_rfl) (by kernel_rfl) (fun _ _ _ h => hp _ _ _ _ _ h) (Or.inl ⟨by rfl, ?_⟩) (by assumption) ?_
      · intro w hSw
        (try dsimp only at hSw)
        go_simp
      (try simp only [Act.put, List.getElem_toArray, List.getElem_cons_zero, List.getElem_cons_succ, List.setIfInBounds_toArray, List.set_cons_zero, List.set_cons_succ])
      refine wpAnyH_take (i := 11) (v := .pointer (some ⟨lb, 0, none⟩)) rfl (by kernel_rfl) (by kernel_rfl) (by kernel_rfl) (fun _ _ _ h => hp _ _ _ _ _ h) (Or.inl ⟨by rfl, ?_⟩) (by assumption) ?_
      · intro w hSw
        (try dsimp only at hSw)
        go_simp
      (try simp only [Act.put, List.getElem_toArray, List.getElem_cons_zero, List.getElem_cons_succ, List.setIfInBounds_toArray, List.set_cons_zero, List.set_cons_succ])
      clear hSw
      refine wpAnyH_ready (rs := [12]) (by kernel_rfl) (by simp) ?_
      refine AllReadyH.cons rfl (fun K hK => ?_) AllReadyH.nil
      go_simp
      refine hK.out _ _ trivial (fun _ => ?_)
      refine wpAnyH_done (by kernel_rfl) ?_ _
      exact h _ _ _ _ _ _ _ _ _ _ _ _ _ (HNL.out ▸ hF.out.1) hF.out.2
    · skip
      go_simp
      have hv : (W4.alloc (.cells #[.string s] 9)).rowIs W4.heap.size 9 1 (fun _ => .string s) := row_one W4 s
      have hB1 := hB0.alloc hB0.size (.cells #[.string s] 9)
      have hvz : W.heap.size ≤ W4.heap.size := hB0.size
      refine hK.out _ _ trivial (fun _ => ?_)
      clear hK K hB0
      have hB0 := hB1
      clear hB1
      obtain ⟨vb, hvb⟩ : ∃ vb, W4.heap.size = vb := ⟨_, rfl⟩
      rw [hvb] at hv hvz ⊢
      generalize W4.alloc (.cells #[.string s] 9) = W7 at *
      clear hvb
      refine wpAnyH_ready (rs := [4]) (by kernel_rfl) (by simp) ?_
      refine AllReadyH.cons rfl (fun K hK => ?_) AllReadyH.nil
      have hcl := ((HG.out _ hB0).2).cell (i := 0) (by omega)
      go_simp
      refine hK.out _ _ trivial (fun _ => ?_)
      clear hK K hcl
      (try simp only [Act.put, List.getElem_toArray, List.getElem_cons_zero, List.getElem_cons_succ, List.setIfInBounds_toArray, List.set_cons_zero, List.set_cons_succ])
      refine wpAnyH_ready (rs := [9]) (by kernel_rfl) (by simp) ?_
      refine AllReadyH.cons rfl (fun K hK => ?_) AllReadyH.nil
      obtain ⟨hO, hL⟩ := HG.out _ hB0
      have hWz : W.heap.size ≤ W7.heap.size := hB0.size
      have hva : a.map (·.block) ≠ some vb := fun e => by
        obtain ⟨g, hg⟩ := hO.block e
        have h1 := (HG.out W (Below.refl _ _)).1.lt hg
        have h2 : g = vb := by rw [hg] at e; exact Option.some.inj e
        omega
      obtain ⟨nl, hnl⟩ : ∃ nl, nl = ns.take k ++ s :: ns.drop k := ⟨_, rfl⟩
      have hI := insert_any hO (by omega) hk hv hva hn
      rw [← hnl] at hI
      have HNL : Hid (nl = ns.take k ++ s :: ns.drop k) := hnl
      clear hnl
      go_simp
      refine hI.mono ?_
      clear hI
      rintro r W8 ⟨a', c', rfl, hO', ⟨hBe, hfr⟩, hnb⟩
      have hlb : W8.heap[lb]? = W7.heap[lb]? := hfr lb (by omega) (fun e => HN.out e.symm)
      have hL' := hL.of_block hlb
      have hne' : a'.map (·.block) ≠ some lb := fun e => by
        rcases hnb with hnb | ⟨g, hg, hge⟩
        · exact HN.out (hnb.symm.trans e)
        · rw [hg] at e; cases e; omega
      have hF : Hid (NL B (W8.setCell ⟨lb, 0, none⟩ (.slice a' nl.length c')) lb nl ∧ Wr B lb W (W8.setCell ⟨lb, 0, none⟩ (.slice a' nl.length c'))) := by
        refine ⟨⟨a', c', hO'.of_block (fun g hg => heap_setCell_other _ _ _ _ (fun e => hne' (by rw [hg]; exact congrArg some e))), (hL'.set 0 _).congr (fun i hi => if_pos (by omega)), hne'⟩, ?_⟩
        have hb1 : Below B W W7 := hB0.mono hB
        refine ⟨(hb1.trans hBe).setCell (p := ⟨lb, 0, none⟩) hBl _, fun x hx hxl hxs => ?_⟩
        rw [heap_setCell_other _ _ _ _ (fun e => hxl e)]
        rw [hfr x (by omega) (fun e => ?_)]
        · exact hB0.block x hx
        · obtain ⟨g, hg⟩ := hO.block e.symm
          have h2 : g = x := by rw [hg] at e; exact (Option.some.inj e).symm
          subst h2
          have h3 := (HG.out W (Below.refl _ _)).1.lt hg
          rcases hxs with hxs | hxs
          · omega
          · obtain ⟨cs, hcs⟩ := (HG.out W (Below.refl _ _)).1.isText hg
            exact hxs _ _ hcs
      have hcl := hL'.cell (i := 0) (by omega)
      have hfz := hL'.frozen 0
      clear hO hL hv hva hO' hBe hfr hnb hlb hL' hne'
      go_wp2_with fail
      refine hK.out _ _ trivial (fun _ => ?_)
      clear hK K
      (try simp only [Act.put, List.getElem_toArray, List.getElem_cons_zero, List.getElem_cons_succ, List.setIfInBounds_toArray, List.set_cons_zero, List.set_cons_succ])
      have hSw : (fun _ : World => True) W8 := trivial
      refine wpAnyH_take (i := 10) (v := .pointer (some ⟨lb, 0, none⟩)) rfl (by kernel_rfl) (by kernel_rfl) (by kernel_rfl) (fun _ _ _ h => hp _ _ _ _ _ h) (Or.inl ⟨by rfl, ?_⟩) (by assumption) ?_
      · intro w hSw
        (try dsimp only at hSw)
        go_simp
      (try simp only [Act.put, List.getElem_toArray, List.getElem_cons_zero, List.getElem_cons_succ, List.setIfInBounds_toArray, List.set_cons_zero, List.set_cons_succ])
      refine wpAnyH_take (i := 11) (v := .pointer (some ⟨lb, 0, none⟩)) rfl (by kernel_rfl) (by kernel_rfl) (by kernel_rfl) (fun _ _ _ h => hp _ _ _ _ _ h) (Or.inl ⟨by rfl, ?_⟩) (by assumption) ?_
      · intro w hSw
        (try dsimp only at hSw)
        go_simp
      (try simp only [Act.put, List.getElem_toArray, List.getElem_cons_zero, List.getElem_cons_succ, List.setIfInBounds_toArray, List.set_cons_zero, List.set_cons_succ])
      clear hSw
      refine wpAnyH_ready (rs := [12]) (by kernel_rfl) (by simp) ?_
      refine AllReadyH.cons rfl (fun K hK => ?_) AllReadyH.nil
      go_simp
      refine hK.out _ _ trivial (fun _ => ?_)
      refine wpAnyH_done (by kernel_rfl) ?_ _
      exact h _ _ _ _ _ _ _ _ _ _ _ _ _ (HNL.out ▸ hF.out.1) hF.out.2
end Go.Proofs.Ytmghhcdhjjhbeaa
/- Names, each once, ascending: nameList's add. -/
namespace Go.Proofs.Ytmghhcdhjjhbeaa
open Go.RowKit
attribute [local go_sem] cell_alloc_is frozen_alloc_is
theorem Wr.trans {B lb : Nat} {A C D : World} (h : Wr B lb A C) (k : Wr B lb C D) : Wr B lb A D := by
  refine ⟨h.1.trans k.1, fun x hx hl ht => ?_⟩
  have e := h.2 x hx hl ht
  refine (k.2 x (Nat.lt_of_lt_of_le hx h.1.size) hl ?_).trans e
  rcases ht with ht | ht
  · exact .inl ht
  · exact .inr fun cs z => by rw [e]; exact ht cs z
theorem Wr.of_below {B lb : Nat} {A C : World} (h : Below A.heap.size A C) (hB : B ≤ A.heap.size) : Wr B lb A C := ⟨h.mono hB, fun x hx _ _ => h.block x hx⟩
set_option maxHeartbeats 1000000 in
theorem add_any {B lb : Nat} {w : World} {ns : List ByteArray} {s : ByteArray} (h : NL B w lb ns) (hasc : ascT ns) (hB : B ≤ w.heap.size) (hBl : B ≤ lb) (hn : ns.length ≤ 1100000) (hs : s.size ≤ 281474976710656) :
    Calls Try.prog 55 #[.pointer (some ⟨lb, 0, none⟩), .string s] w fun e w' => e = .returned (.tuple #[]) ∧ NL B w' lb (put1 s ns) ∧ Wr B lb w w' := by
  obtain ⟨a, c, hO, hL, hne⟩ := h
  have hcl := hL.cell (i := 0) (by omega)
  have hple := plc_le s ns
  have hbs := asc_bs (s := s) hasc
  have hfind : Calls Try.prog 85 #[.slice a ns.length c, .string s] w fun e w' => e = .returned (.tuple #[.int .i64 (plc s ns : Nat), .bool (hasAt s ns)]) ∧ ∃ q, w' = w.drewN q := by
    rcases hO with ⟨rfl, rfl, rfl⟩ | ⟨g, f, rfl, hg, ⟨hc1, hc2⟩, hrow, hf⟩
    · refine (Any2.slices_BinarySearch_string_empty laysS26 none 0 s w).mono ?_
      rintro e w' ⟨rfl, rfl⟩
      exact ⟨rfl, 0, rfl⟩
    · refine (Any2.slices_BinarySearch_string laysS26 g 0 ns.length c (fun t => ns.getD t s) s w (by omega) (fun j hj => ?_)).mono ?_
      · have e := List.getElem?_eq_getElem hj
        rw [Nat.zero_add, hrow.cell (by omega), hf j _ e, List.getD_eq_getElem?_getD, e]; rfl
      · rintro e w' ⟨rfl, hq⟩
        rw [hbs]
        refine ⟨?_, hq⟩
        have e2 : decide (plc s ns < ns.length ∧ ns.getD (plc s ns) s = s) = hasAt s ns := by
          rw [Bool.eq_iff_iff, decide_eq_true_iff]
          constructor
          · rintro ⟨h1, h2⟩
            have e := List.getElem?_eq_getElem h1
            rw [List.getD_eq_getElem?_getD, e] at h2
            rw [hasAt_some e]
            have h3 : ns[plc s ns] = s := h2
            rw [h3]; simp
          · intro h1
            cases e : ns[plc s ns]? with
            | none => unfold hasAt at h1; rw [e] at h1; cases h1
            | some x =>
              rw [hasAt_some e] at h1
              exact ⟨(List.getElem?_eq_some_iff.1 e).1, by rw [List.getD_eq_getElem?_getD, e]; exact texts_ext h1⟩
        rw [e2]
  cases hh : hasAt s ns
  · have HP : Hid (put1 s ns = ns.take (plc s ns) ++ s :: ns.drop (plc s ns)) := by unfold Hid put1; rw [hh]; rfl
    rw [hh] at hfind
    clear hbs hasc
    go_enter Try.func55, Try.ntmps55
    go_wp2_with fail
    refine hfind.mono ?_
    rintro r w1 ⟨rfl, q, rfl⟩
    have hO1 : OwnT B (w.drewN q) a c ns := hO
    have hL1 : (w.drewN q).rowIs lb 71 1 (fun _ => .slice a ns.length c) := hL
    have hW1 : Wr B lb w (w.drewN q) := ⟨below_drewN (Below.refl B w) q, fun _ _ _ _ => rfl⟩
    clear hfind hO hL hcl hh
    go_wp2_with fail
    refine na2 hO1 hL1 hne (by exact hB) hBl hple hn hs (fun _ d _ _ _ h => by cases d <;> exact h) ?_
    intro ws v17 v18 v19 v20 v21 v22 v23 v24 v25 v26 v27 v28 hN hW
    have HF : Hid (NL B ws lb (put1 s ns) ∧ Wr B lb w ws) := ⟨by rw [HP.out]; exact hN, hW1.trans hW⟩
    clear hN hW hW1 hO1 hL1 hne
    go_wp2_with fail
    go_end0
    exact ⟨rfl, HF.out⟩
  · have HP : Hid (put1 s ns = ns) := by unfold Hid put1; rw [hh]; rfl
    rw [hh] at hfind
    clear hbs hasc
    go_enter Try.func55, Try.ntmps55
    go_wp2_with fail
    refine hfind.mono ?_
    rintro r w1 ⟨rfl, q, rfl⟩
    have HF : Hid (NL B (w.drewN q) lb (put1 s ns) ∧ Wr B lb w (w.drewN q)) := ⟨by rw [HP.out]; exact ⟨a, c, hO, hL, hne⟩, below_drewN (Below.refl B w) q, fun _ _ _ _ => rfl⟩
    clear hfind hO hL hcl hh hne
    go_wp2_with fail
    go_end0
    exact ⟨rfl, HF.out⟩
end Go.Proofs.Ytmghhcdhjjhbeaa
/- All papers that a tree takes in, by the program: Imports. -/
namespace Go.Proofs.Ytmghhcdhjjhbeaa
open Go.RowKit Go.Shelf
attribute [local go_sem] Oper.semAt_some cell_alloc_is frozen_alloc_is
/-- the papers of the trees that were told -/
def impL {w : World} (pre : List (TIX w)) : List ByteArray := pre.foldl (fun ns x => if x.k = 9 then put1 x.t ns else ns) []
theorem impL_snoc {w : World} (pre : List (TIX w)) (x : TIX w) : impL (pre ++ [x]) = if x.k = 9 then put1 x.t (impL pre) else impL pre := by
  unfold impL; rw [List.foldl_append]; rfl
theorem foldl_asc {α : Type} (f : List ByteArray → α → List ByteArray) (hf : ∀ ns x, ascT ns → ascT (f ns x)) (hl : ∀ ns x, (f ns x).length ≤ ns.length + 1) : ∀ (l : List α) (ns : List ByteArray), ascT ns → ascT (l.foldl f ns) ∧ (l.foldl f ns).length ≤ ns.length + l.length := by
  intro l
  induction l with
  | nil => intro ns h; exact ⟨h, Nat.le_refl _⟩
  | cons x t ih =>
    intro ns h
    obtain ⟨a, b⟩ := ih (f ns x) (hf ns x h)
    refine ⟨a, ?_⟩
    have := hl ns x
    show (t.foldl f (f ns x)).length ≤ ns.length + (t.length + 1)
    omega
theorem impL_ok {w : World} (pre : List (TIX w)) : ascT (impL pre) ∧ (impL pre).length ≤ pre.length := by
  have := foldl_asc (fun ns (x : TIX w) => if x.k = 9 then put1 x.t ns else ns) (fun ns x h => by split; exact asc_put1 h; exact h) (fun ns x => by split; exact put1_len _ _; omega) pre [] trivial
  exact ⟨this.1, by have h2 := this.2; rw [List.length_nil, Nat.zero_add] at h2; exact h2⟩
theorem NL.own {B lb : Nat} {W W' : World} {ns : List ByteArray} (h : NL B W lb ns) (hk : ∀ (j : Nat) (o : Obj), W.heap[j]? = some o → o.isCells = true → W'.heap[j]? = some o) : NL B W' lb ns := by
  obtain ⟨a, c, h1, ⟨cs, h2, h3⟩, h4⟩ := h
  refine ⟨a, c, h1.of_block (fun g hg => ?_), ⟨cs, hk _ _ h2 rfl, h3⟩, h4⟩
  obtain ⟨cs, hcs⟩ := h1.isText hg
  rw [hk _ _ hcs rfl, hcs]
theorem Wr.others {B lb : Nat} {W W' : World} {ns : List ByteArray} (h : Wr B lb W W') (hn : NL B W lb ns) : KeepsOthers W W' := by
  refine ⟨h.1.size, fun k o hk ho => ?_⟩
  obtain ⟨a, c, _, ⟨cs, h2, _⟩, _⟩ := hn
  refine (h.2 k (Array.getElem?_eq_some_iff.1 hk).1 (fun e => ?_) (.inr fun cs z e => ?_)).trans hk
  · subst e; rw [h2] at hk; cases hk; cases ho
  · rw [e] at hk; cases hk; cases ho
theorem Wr.kept {lb n0 n1 : Nat} {W W' : World} (h : Wr lb lb W W') (h0 : n0 ≤ lb) (h1 : lb < n1) : KeptX n0 n1 W W' := by
  refine ⟨h.1.size, fun j o hj _ hc => ?_⟩
  refine (h.2 j (Array.getElem?_eq_some_iff.1 hj).1 (by omega) ?_).trans hj
  rcases hc with hc | ⟨_, hc⟩
  · exact .inl (by omega)
  · refine .inr fun cs z e => ?_
    rw [e] at hj; cases hj
    cases hc
def foldRaw (l : List (Nat × Int × ByteArray × Int × Int × Fo)) (ns : List ByteArray) : List ByteArray := l.foldl (fun ns x => if x.2.1 = 9 then put1 x.2.2.1 ns else ns) ns
theorem flat_imps : ∀ (F : Fo) (d : Nat) (ns : List ByteArray), (∀ x ∈ F.flat d, x.2.1 = 9 → x.2.2.2.2.2 = .nil) → foldRaw (F.flat d) ns = F.imps ns := by
  intro F
  induction F with
  | nil => intro d ns _; rfl
  | cons k t m e a c kids next ih1 ih2 =>
    intro d ns h
    have h1 := h (d, k, t, m, e, kids) (List.mem_cons_self ..)
    have h2 : ∀ x ∈ kids.flat (d + 1), x.2.1 = 9 → x.2.2.2.2.2 = .nil := fun x hx => h x (List.mem_cons_of_mem _ (List.mem_append_left _ hx))
    have h3 : ∀ x ∈ next.flat d, x.2.1 = 9 → x.2.2.2.2.2 = .nil := fun x hx => h x (List.mem_cons_of_mem _ (List.mem_append_right _ hx))
    show ((d, k, t, m, e, kids) :: (kids.flat (d + 1) ++ next.flat d)).foldl _ ns = next.imps (if k = 9 then put1 t ns else kids.imps ns)
    rw [List.foldl_cons, List.foldl_append]
    show foldRaw (next.flat d) (foldRaw (kids.flat (d + 1)) (if k = 9 then put1 t ns else ns)) = _
    rw [ih1 _ _ h2, ih2 _ _ h3]
    by_cases hk : k = 9
    · rw [if_pos hk, if_pos hk]
      have h4 : kids = .nil := h1 hk
      rw [h4]; rfl
    · rw [if_neg hk, if_neg hk]
theorem impL_raw {w : World} (ys : List (TIX w)) : impL ys = foldRaw (ys.map TIX.raw) [] := by
  unfold impL foldRaw
  rw [List.foldl_map]; rfl
theorem good_nil {k : Int} {t : ByteArray} {m e : Int} {F : Fo} (h : TreeGood k t m e F) : ∀ x ∈ ((1, k, t, m, e, F) :: F.flat 2), x.2.1 = 9 → x.2.2.2.2.2 = .nil := by
  intro x hx hk
  have h1 := (h.2 x hx).2
  unfold Om.fit at h1
  rw [hk] at h1
  simp only [Bool.and_eq_true, decide_eq_true_eq] at h1
  have h2 := h1.1.2.1.2
  have e9 : Om.high' 9 = 0 := by decide
  rw [e9] at h2
  cases hf : x.2.2.2.2.2 with
  | nil => rfl
  | cons k' t' m' e' a' c' kids next =>
    rw [hf] at h2
    exact absurd h2 (by show ¬ next.len + 1 ≤ 0; omega)
theorem imp1_raw {k : Int} {t : ByteArray} {m e : Int} {F : Fo} (h : TreeGood k t m e F) : foldRaw ((1, k, t, m, e, F) :: F.flat 2) [] = imp1 k t F [] := by
  have hn := good_nil h
  have h1 := hn (1, k, t, m, e, F) (List.mem_cons_self ..)
  show foldRaw (F.flat 2) (if k = 9 then put1 t [] else []) = _
  rw [flat_imps F 2 _ (fun x hx => hn x (List.mem_cons_of_mem _ hx))]
  unfold imp1
  by_cases hk : k = 9
  · rw [if_pos hk, if_pos hk]
    have h4 : F = .nil := h1 hk
    rw [h4]; rfl
  · rw [if_neg hk, if_neg hk]
theorem OwnT.mono {B B' : Nat} {w : World} {a : Option Addr} {c : Nat} {ns : List ByteArray} (h : OwnT B w a c ns) (hB : B' ≤ B) : OwnT B' w a c ns := by
  rcases h with h | ⟨g, f, h1, h2, h3⟩
  · exact .inl h
  · exact .inr ⟨g, f, h1, by omega, h3⟩
set_option maxRecDepth 100000 in
set_option maxHeartbeats 2000000 in
theorem iImports_yes (k : Int) (t : ByteArray) (m e : Int) (a : Option Addr) (c : Nat) (F : Fo) (w : World) (hg : ¬ k = 23 ∧ TreeGood k t m e F) (hF : F.size ≤ 1050000) (hin : F.In w a) (hl : F.len ≤ c) (hc : c ≤ maxLen) (ht : t.size ≤ maxLen) (hw : t.size ≤ 1048576 ∧ F.wt ≤ 1048576) :
    Calls Try.prog 22 #[nodeV k t m e a F.len c] w fun r w' => (∃ a' c', r = .returned (.slice a' (imp1 k t F []).length c') ∧ OwnT w.heap.size w' a' c' (imp1 k t F [])) ∧ Below w.heap.size w w' := by
  refine (callsIn_wide (n := 5)).1 ?_
  refine callsIn_of_wp_marks Try.func22 rfl trivial ?_ rfl
  simp only [Try.ntmps22, List.size_toArray, List.length_cons, List.length_nil, Nat.reduceAdd, Nat.reduceSub, Array.replicate_succ, Array.replicate_zero, List.push_toArray, List.append_toArray, List.nil_append, List.cons_append]
  have hb0 : Below w.heap.size w (w.alloc (.cells #[.int .i64 k, .string t, .int .i64 m, .int .i64 e, .slice a F.len c] 47)) := (Below.refl _ _).alloc (Nat.le_refl _) _
  have A0 : Row (w.alloc (.cells #[.int .i64 k, .string t, .int .i64 m, .int .i64 e, .slice a F.len c] 47)) w.heap.size [.int .i64 k, .string t, .int .i64 m, .int .i64 e, .slice a F.len c] := Row.new w _ _
  gi_wp2_with fail
  refine ⟨trivial, (callsIn_wide.2 (iTreeOk_any k t m e a c F _ (by omega) (hin.grow hb0) hl hc ht)).mono ?_⟩
  rintro r w1 ⟨⟨q, rfl, hq⟩, hb1⟩
  obtain rfl : q = true := hq.2 hg
  have A1 := A0.below hb1 A0.lt
  have hB1 := hb0.trans (hb1.mono hb0.size)
  have hz1 : w.heap.size < w1.heap.size := A1.lt
  clear hq A0 hb0 hb1
  have y0 := (A1 0 _ rfl).1
  have y1 := (A1 1 _ rfl).1
  have y2 := (A1 2 _ rfl).1
  have y3 := (A1 3 _ rfl).1
  have y4 := (A1 4 _ rfl).1
  gi_wp2_with fail
  refine ⟨trivial, (callsIn_wide.2 (nodes_any k t m e a F.len c _)).mono ?_⟩
  rintro r W0 ⟨B, hBge, rfl, ⟨n0, n1, n2, n3, n4⟩, hBn⟩
  have hbl : Below w1.heap.size w1 (w1.alloc (.cells #[.slice none 0 0] 71)) := (Below.refl _ _).alloc (Nat.le_refl _) _
  have hrow0 : (w1.alloc (.cells #[.slice none 0 0] 71)).rowIs w1.heap.size 71 1 (fun _ => .slice none 0 0) := World.rowIs_alloc w1 #[.slice none 0 0] 71 _ (fun i hi => by
    have h0 : i = 0 := by simp at hi; exact hi
    subst h0; rfl)
  have hrow := hrow0.of_block (hBn.block w1.heap.size (by simp))
  have hBW : Below w.heap.size w W0 := (hB1.trans (hbl.mono (by omega))).trans (hBn.mono (by simp; omega))
  have hsz1 : w1.heap.size + 1 ≤ W0.heap.size := by have := hBn.size; simp at this; omega
  have hNL0 : NL w1.heap.size W0 w1.heap.size (impL (w := w) []) := ⟨none, 0, .inl ⟨rfl, rfl, rfl⟩, hrow, fun e => by cases e⟩
  clear hbl hrow0 hrow hBn hB1 A1 y0 y1 y2 y3 y4
  obtain ⟨lb, hlb⟩ : ∃ lb, w1.heap.size = lb := ⟨_, rfl⟩
  rw [hlb] at hNL0 hsz1 hz1
  gi_wp2_with fail
  clear hlb hBge
  refine wpIn_rangeFunc_ownH rfl (by omega) (gf := 116) (lb := #[.pointer (some ⟨B, 0, none⟩)]) rfl trivial (enters_of Try.func116 (by kernel_rfl) rfl)
    (all_stopsX w 4 w.heap.size W0.heap.size B ⟨1, k, t, m, e, a, F, c, hin, hl, hc, ht, hw⟩ W0 rfl (by show F.size ≤ 2000000; omega) (Nat.le_refl _) (Nat.le_refl _) (Sub.of_below hBW) n0 n1 n2 n3 n4)
    KeptX.trans (fun W l o o' hl' h hcl _ => ⟨(grownBy_putObj' W l o').size, fun j x hx hxc _ => ((grownBy_putObj' W l o').block j (Array.getElem?_eq_some_iff.1 hx).1 (by intro e; cases e; rw [h] at hx; cases hx; rw [hcl] at hxc; cases hxc)).trans hx⟩)
    (Below.refl _ _) (fun _ => rfl)
    (fun pre W => (NL lb W lb (impL pre) ∧ W0.heap.size ≤ W.heap.size) ∧ Below w.heap.size w W)
    (fun _ _ _ => False)
    (OwnFrom.and (fun s W W' row hs hg hr => ⟨hs.1.own (fun j o hj ho => own_block hg hr hj (.inr ho)), Nat.le_trans hs.2 hg.size⟩) (ownFrom_below (Nat.le_refl _) (by omega)))
    (fun _ _ _ _ _ h _ _ => h)
    ⟨⟨hNL0, Nat.le_refl _⟩, hBW⟩
    (fun x a' W => ∃ Bx, W0.heap.size ≤ Bx ∧ W.heap[Bx]? = some (.cells #[.int .i64 x.k, .string x.t, .int .i64 x.m, .int .i64 x.e, .slice x.a x.kids.len x.c] 47 (0, 0)) ∧ a' = { tmps := #[nodeV k t m e a F.len c, .pointer (some ⟨w.heap.size, 0, none⟩), .slice none 0 0, .pointer (some ⟨lb, 0, none⟩), undef, .pointer (some ⟨Bx, 0, none⟩), nodeV k t m e a F.len c, .bool true, .bool false, nodeV k t m e a F.len c, .func (.func 116) #[] #[.pointer (some ⟨B, 0, none⟩)], .int .i64 x.d, .agg #[.int .i64 x.k, .string x.t, .int .i64 x.m, .int .i64 x.e, .slice x.a x.kids.len x.c], undef, undef, undef, undef, undef, undef, undef, undef], defers := [] })
    (fun x a' _ W W' row hs hg hr => by obtain ⟨Bx, e1, e2, e3⟩ := hs; exact ⟨Bx, e1, own_block hg hr e2 (.inr rfl), e3⟩)
    ?assign ?body ?done ?stop
  case assign =>
    rintro l pre x W K ⟨⟨hN, hz⟩, hB⟩ hK
    have hbA : Below W.heap.size W (W.alloc (.cells #[.int .i64 x.k, .string x.t, .int .i64 x.m, .int .i64 x.e, .slice x.a x.kids.len x.c] 47)) := (Below.refl _ W).alloc (Nat.le_refl _) _
    dsimp only [TIX.enc]
    gi_wp2
    exact hK _ _ ((KeepsOthers.alloc _ _).from _) (KeptX.of_below hbA)
      ⟨⟨hN.own (fun j o hj _ => (hbA.block j (Array.getElem?_eq_some_iff.1 hj).1).trans hj), Nat.le_trans hz hbA.size⟩, hB.trans (hbA.mono hB.size)⟩
      ⟨W.heap.size, hz, World.alloc_heap_new W _, rfl⟩
  case body =>
    rintro l pre x a' W hl' ⟨rr, hrr⟩ ⟨⟨hN, hz⟩, hB⟩ ⟨Bx, hBx, hX, rfl⟩ hlt
    have x0 : W.cell? ⟨Bx, 0, none⟩ = some (.int .i64 x.k) := by simp [World.cell?, hX]
    have x1 : W.cell? ⟨Bx, 1, none⟩ = some (.string x.t) := by simp [World.cell?, hX]
    by_cases hk : x.k = 9
    · have hk9 : (x.k == 9) = true := by simp [hk]
      have HS : Hid (impL (pre ++ [x]) = put1 x.t (impL pre)) := by unfold Hid; rw [impL_snoc, if_pos hk]
      clear hk
      obtain ⟨ha1, ha2⟩ := impL_ok pre
      have hlbz : lb ≤ W.heap.size := by omega
      have hlt2 : pre.length < F.size + 1 := hlt
      have hadd := add_any (s := x.t) hN ha1 hlbz (Nat.le_refl _) (by omega) (by have := x.hw.1; omega)
      have hNk := hN
      clear hN
      gi_wp2_with fail
      refine ⟨trivial, (CallsIn.inRound l (callsIn_wide.2 hadd)).mono ?_⟩
      rintro r W2 ⟨rfl, hN2, hW2⟩
      have hK2 := hW2.others hNk
      have hKx := hW2.kept (n0 := w.heap.size) (n1 := W0.heap.size) (by omega) (by omega)
      gi_wp2_with fail
      refine ⟨hK2.from _, hKx, ⟨by rw [HS.out]; exact hN2, Nat.le_trans hz hW2.1.size⟩, hB.trans (hW2.1.mono (by omega))⟩
    · have hk9 : (x.k == 9) = false := by simp [hk]
      have HS : Hid (impL (pre ++ [x]) = impL pre) := by unfold Hid; rw [impL_snoc, if_neg hk]
      clear hk
      gi_wp2_with fail
      refine ⟨(KeepsOthers.refl W).from _, KeptX.refl _ _ W, ⟨by rw [HS.out]; exact hN, hz⟩, hB⟩
  case done =>
    rintro D ys W hD hS ⟨⟨hN, hz⟩, hB⟩ hK
    obtain ⟨a', c', hO, hrow, hne⟩ := hN
    have hcl := hrow.cell (i := 0) (by omega)
    have he : impL ys = imp1 k t F [] := by
      rw [impL_raw, show ys.map TIX.raw = (1, k, t, m, e, F) :: F.flat 2 from hS]
      exact imp1_raw hg.2
    rw [he] at hO hcl
    clear hrow
    gi_wp2
    refine ⟨by simp, .inl ⟨_, _, rfl, run_takeDeferred hK, ?_⟩⟩
    refine ⟨.slice a' (imp1 k t F []).length c', by simp [results, Try.results22, go_sem], ⟨a', c', rfl, (hO.mono (by omega)).of_block (fun g hg => ?_)⟩, hB.trans (belowK_b (w := w) (Nat.le_refl _) W D _ _ (by omega) hK rfl rfl)⟩
    obtain ⟨cs, hcs⟩ := hO.isText hg
    exact (grownBy_putObj' W D (.deferred none)).block g (hO.lt hg).2 (fun e => by cases e; rw [hcs] at hK; cases hK)
  case stop =>
    rintro D cd pre W hD hpre h hK
    exact h.elim
theorem iImports_no (k : Int) (t : ByteArray) (m e : Int) (a : Option Addr) (c : Nat) (F : Fo) (w : World) (hg : ¬ (¬ k = 23 ∧ TreeGood k t m e F)) (hF : F.size ≤ 1050000) (hin : F.In w a) (hl : F.len ≤ c) (hc : c ≤ maxLen) (ht : t.size ≤ maxLen) :
    Calls Try.prog 22 #[nodeV k t m e a F.len c] w fun r w' => r = .returned (.slice none 0 0) ∧ Below w.heap.size w w' := by
  have hb0 : Below w.heap.size w (w.alloc (.cells #[.int .i64 k, .string t, .int .i64 m, .int .i64 e, .slice a F.len c] 47)) := (Below.refl _ _).alloc (Nat.le_refl _) _
  have HC := iTreeOk_any k t m e a c F _ (by omega) (hin.grow hb0) hl hc ht
  have HG : Hid (¬ (¬ k = 23 ∧ TreeGood k t m e F)) := hg
  clear hin hg
  refine (callsIn_wide (n := 5)).1 ?_
  refine callsIn_of_wp_marks Try.func22 rfl trivial ?_ rfl
  simp only [Try.ntmps22, List.size_toArray, List.length_cons, List.length_nil, Nat.reduceAdd, Nat.reduceSub, Array.replicate_succ, Array.replicate_zero, List.push_toArray, List.append_toArray, List.nil_append, List.cons_append]
  gi_wp2_with fail
  refine ⟨trivial, (callsIn_wide.2 HC).mono ?_⟩
  rintro r w1 ⟨⟨q, rfl, hq⟩, hb1⟩
  obtain rfl : q = false := by
    cases q
    · rfl
    · exact absurd (hq.1 rfl) HG.out
  have hB1 := hb0.trans (hb1.mono hb0.size)
  clear hq hb0 hb1 HC
  gi_wp2_with fail
  refine ⟨.slice none 0 0, ?_, rfl, hB1⟩
  simp [results, Try.results22, go_sem]
theorem iImports_any (k : Int) (t : ByteArray) (m e : Int) (a : Option Addr) (c : Nat) (F : Fo) (w : World) (hF : F.size ≤ 1050000) (hin : F.In w a) (hl : F.len ≤ c) (hc : c ≤ maxLen) (ht : t.size ≤ maxLen) (hw : t.size ≤ 1048576 ∧ F.wt ≤ 1048576) :
    Calls Try.prog 22 #[nodeV k t m e a F.len c] w fun r w' => (∃ a' c', r = .returned (.slice a' (impsOf k t m e F).length c') ∧ OwnT w.heap.size w' a' c' (impsOf k t m e F)) ∧ Below w.heap.size w w' := by
  by_cases hg : ¬ k = 23 ∧ TreeGood k t m e F
  · rw [impsOf_yes hg]
    exact iImports_yes k t m e a c F w hg hF hin hl hc ht hw
  · rw [impsOf_no hg]
    refine (iImports_no k t m e a c F w hg hF hin hl hc ht).mono ?_
    rintro r w' ⟨rfl, hb⟩
    exact ⟨⟨none, 0, rfl, .inl ⟨rfl, rfl, rfl⟩⟩, hb⟩
end Go.Proofs.Ytmghhcdhjjhbeaa
/- The law FnExactImports walked. -/
namespace Go.Proofs.Ytmghhcdhjjhbeaa
open Go.RowKit
attribute [local go_sem] cell_alloc_is frozen_alloc_is
theorem alike_sym : ∀ {G F : Fo}, F.alike G → G.alike F := by
  intro G
  induction G with
  | nil => intro F h; rw [Fo.alike_nil h]; trivial
  | cons k t m e a c kids next ih1 ih2 =>
    intro F h
    obtain ⟨a', c', kids', next', rfl, h1, h2⟩ := Fo.alike_cons h
    exact ⟨⟨rfl, rfl, rfl, rfl⟩, ih1 h1, ih2 h2⟩
theorem alike_trans : ∀ {G F E : Fo}, F.alike G → G.alike E → F.alike E := by
  intro G
  induction G with
  | nil => intro F E h1 h2; rw [Fo.alike_nil h1]; exact h2
  | cons k t m e a c kids next ih1 ih2 =>
    intro F E h1 h2
    obtain ⟨a', c', kids', next', rfl, h3, h4⟩ := Fo.alike_cons h1
    cases E with
    | nil => exact h2.elim
    | cons k2 t2 m2 e2 a2 c2 kids2 next2 =>
      obtain ⟨⟨rfl, rfl, rfl, rfl⟩, h5, h6⟩ := h2
      exact ⟨⟨rfl, rfl, rfl, rfl⟩, ih1 h3 h5, ih2 h4 h6⟩
/-- two boxes with a tree in each, and nothing old changed -/
abbrev HeldT (W0 : World) (b b2 : Nat) (k : Int) (t : ByteArray) (m e : Int) (v v2 : Value) (w : World) : Prop :=
  (w.cell? ⟨b, 0, none⟩ = some (.int .i64 k) ∧ w.cell? ⟨b, 1, none⟩ = some (.string t) ∧ w.cell? ⟨b, 2, none⟩ = some (.int .i64 m) ∧ w.cell? ⟨b, 3, none⟩ = some (.int .i64 e) ∧ w.cell? ⟨b, 4, none⟩ = some v) ∧
  (w.cell? ⟨b2, 0, none⟩ = some (.int .i64 k) ∧ w.cell? ⟨b2, 1, none⟩ = some (.string t) ∧ w.cell? ⟨b2, 2, none⟩ = some (.int .i64 m) ∧ w.cell? ⟨b2, 3, none⟩ = some (.int .i64 e) ∧ w.cell? ⟨b2, 4, none⟩ = some v2) ∧ Below W0.heap.size W0 w
theorem HeldT.grow {W0 w w' : World} {b b2 : Nat} {k : Int} {t : ByteArray} {m e : Int} {v v2 : Value} (h : HeldT W0 b b2 k t m e v v2 w) (hb : Below w.heap.size w w') : HeldT W0 b b2 k t m e v v2 w' := by
  obtain ⟨⟨x0, x1, x2, x3, x4⟩, ⟨y0, y1, y2, y3, y4⟩, h3⟩ := h
  have l1 := World.block_lt_of_cell? w _ x0
  have l2 := World.block_lt_of_cell? w _ y0
  exact ⟨⟨(hb.cell (p := ⟨b, 0, none⟩) l1).trans x0, (hb.cell (p := ⟨b, 1, none⟩) l1).trans x1, (hb.cell (p := ⟨b, 2, none⟩) l1).trans x2, (hb.cell (p := ⟨b, 3, none⟩) l1).trans x3, (hb.cell (p := ⟨b, 4, none⟩) l1).trans x4⟩,
    ⟨(hb.cell (p := ⟨b2, 0, none⟩) l2).trans y0, (hb.cell (p := ⟨b2, 1, none⟩) l2).trans y1, (hb.cell (p := ⟨b2, 2, none⟩) l2).trans y2, (hb.cell (p := ⟨b2, 3, none⟩) l2).trans y3, (hb.cell (p := ⟨b2, 4, none⟩) l2).trans y4⟩, h3.trans (hb.mono h3.size)⟩
theorem HeldT.drew {W0 w : World} {b b2 : Nat} {k : Int} {t : ByteArray} {m e : Int} {v v2 : Value} (h : HeldT W0 b b2 k t m e v v2 w) : HeldT W0 b b2 k t m e v v2 w.drew := h.grow ((Below.refl _ _).drew)
/-- two copies of one are alike -/
theorem alike_swap {E F G : Fo} (h : F.alike E) (k : G.alike E) : F.alike G := alike_trans h (alike_sym k)
theorem toNodeZ_any (k : Int) (t : ByteArray) (m e : Int) (a : Option Addr) (c : Nat) (F : Fo) (w : World) (h0 : F.size ≤ 2000000) (h1 : F.In w a) (h2 : F.len ≤ c) (h3 : c ≤ maxLen) (h4 : t.size ≤ maxLen) :
      Calls Try.prog 18 #[nodeV k t m e a F.len c] w fun r w' => (∃ (nb : Nat) (F' : Fo), r = .returned (nodeV k t m e (some ⟨nb, 0, none⟩) F'.len F'.len) ∧ w.heap.size ≤ nb ∧ F'.alike F ∧ F'.BlkZ (fun b => w.heap.size ≤ b) ∧ F'.From w' nb 0 ∧ Clean w.heap.size w') ∧ Below w.heap.size w w' :=
  toNodeZ_all (F.size + 1) k t m e a c F w (by omega) h0 h1 h2 h3 h4
/-- the lists lie in what there is -/
theorem Fo.blkZ_lt {w : World} {P : Nat → Prop} : ∀ {F : Fo} {b o : Nat}, F.From w b o → F.BlkZ P → F.BlkZ (fun x => P x ∧ x < w.heap.size) := by
  intro F
  induction F with
  | nil => intros; trivial
  | cons k t m e a c kids next ih1 ih2 =>
    rintro b o ⟨hc, hk, h3, h4, h5, hn⟩ ⟨z1, z2, z3⟩
    rcases hk with rfl | ⟨b', o', e1, e2⟩
    · exact ⟨.inl rfl, trivial, ih2 hn z3⟩
    · refine ⟨?_, ih1 e2 z2, ih2 hn z3⟩
      rcases z1 with z1 | ⟨b'', o'', e3, e4, e5⟩
      · exact .inl z1
      · rw [e1] at e3
        cases e3
        cases kids with
        | nil => exact .inl rfl
        | cons k2 t2 m2 e2' a2 c2 kids2 next2 => exact .inr ⟨b', o', e1, ⟨e4, World.block_lt_of_cell? w _ e2.1.1⟩, e5⟩
theorem alike_wtF : ∀ {F' F : Fo}, F'.alike F → F'.wt = F.wt := by
  intro F' F
  induction F generalizing F' with
  | nil => intro h; rw [Fo.alike_nil h]
  | cons k t m e a c kids next ih1 ih2 =>
    intro h
    obtain ⟨a', c', kids', next', rfl, h1, h2⟩ := Fo.alike_cons h
    show t.size + kids'.wt + 1 + next'.wt = t.size + kids.wt + 1 + next.wt
    rw [ih1 h1, ih2 h2]
theorem imps_size (k : Int) (t : ByteArray) (m e : Int) (F : Fo) : (impsOf k t m e F).length ≤ F.size + 1 := by
  by_cases h : ¬ k = 23 ∧ TreeGood k t m e F
  · rw [impsOf_yes h]
    have := imp1_len k t F []
    simp only [List.length_nil] at this
    omega
  · rw [impsOf_no h]; exact Nat.zero_le _
theorem good_alike {F' F : Fo} (h : F'.alike F) (k : Int) (t : ByteArray) (m e : Int) : impsOf k t m e F' = impsOf k t m e F := by
  have hi : imp1 k t F' [] = imp1 k t F [] := by
    unfold imp1
    rw [alike_imps h]
  by_cases hg : ¬ k = 23 ∧ TreeGood k t m e F
  · rw [impsOf_yes hg, impsOf_yes ((alike_good h k t m e).2 hg), hi]
  · rw [impsOf_no hg, impsOf_no (fun x => hg ((alike_good h k t m e).1 x))]
theorem OwnT.sin {B : Nat} {w : World} {a : Option Addr} {c : Nat} {ns : List ByteArray} (h : OwnT B w a c ns) (hs : ∀ s ∈ ns, s.size ≤ maxLen) : SIn w ns a ∧ (ns.length ≤ c ∧ c ≤ maxLen) := by
  have h' := h
  rcases h with ⟨rfl, rfl, rfl⟩ | ⟨g, f, rfl, h1, h2, h3, h4⟩
  · exact ⟨.inl rfl, Nat.le_refl _, Nat.zero_le _⟩
  · exact ⟨.inr ⟨g, 0, rfl, SFrom.of (fun i s hi => ⟨by rw [Nat.zero_add]; exact h'.cell rfl hi, hs s (List.mem_of_getElem? hi)⟩)⟩, h2⟩
theorem marks_mem (n k : Nat) : ∀ s ∈ marks k n, s.size ≤ maxLen := by
  induction n generalizing k with
  | zero => intro s h; cases h
  | succ n ih =>
    intro s h
    rcases List.mem_cons.1 h with rfl | h
    · have := mtext_size k
      unfold maxLen; omega
    · exact ih _ s h
set_option maxRecDepth 100000 in
set_option maxHeartbeats 2000000 in
theorem walk_FnExactImports (k : Int) (t : ByteArray) (m e : Int) (a : Option Addr) (F : Fo) (c : Nat) (w : World) (hh : HeadOk k t m e) (hin : F.In w a) (hl : F.len ≤ c) (hc : c ≤ maxLen) (_hA : F.All HeadOk) :
    Calls Try.prog 6 #[nodeV k t m e a F.len c] w fun r w' => r = .returned (.bool true) ∧ Below w.heap.size w w' := by
  have ht := hh.2.1
  clear hh
  have hsw := F.size_wt
  have hB0 := (Below.refl _ w).alloc (Nat.le_refl _) (.cells #[.int .i64 k, .string t, .int .i64 m, .int .i64 e, .slice a F.len c] 42)
  have hf0 := Five.new w (.int .i64 k) (.string t) (.int .i64 m) (.int .i64 e) (.slice a F.len c) 42
  have HSz := fun W hW => szNode_any k t m e a c F W 1048576 hW hl hc ht (by omega)
  have HI : Hid (∀ W, Below w.heap.size w W → F.In W a) := fun W h => hin.grow h
  clear hin
  go_enter Try.func6, Try.ntmps6
  go_wp2_with fail
  refine (HSz _ (HI.out _ hB0)).mono ?_
  rintro r w1 ⟨rfl, hb1⟩
  have hB1 := hB0.trans (hb1.mono hB0.size)
  have hf1 := hf0.below hb1 hf0.lt
  obtain ⟨⟨x0, x1, x2, x3, x4⟩, _⟩ := id hf1
  clear hb1 hB0 HSz hf0
  by_cases hneed : t.size + F.wt ≤ 1048576
  · obtain ⟨d, hd⟩ : ∃ d : Nat, leftOf (t.size + F.wt) 1048576 = (d : Int) := ⟨1048576 - (t.size + F.wt), by unfold leftOf; rw [if_pos hneed]⟩
    rw [hd]
    clear hd
    have hd0 : ¬ (d : Int) < 0 := by omega
    have hsz2 : F.size ≤ 1048576 := by omega
    have hlm : F.len ≤ maxLen := Nat.le_trans hl hc
    have HC := fun W hW => toNodeZ_any k t m e a c F W (by omega) hW hl hc ht
    have HW : Hid (t.size ≤ 1048576 ∧ F.wt ≤ 1048576) := by unfold Hid; omega
    go_wp2_with fail
    refine (HC _ (HI.out _ hB1)).mono ?_
    rintro r w2 ⟨⟨nb1, F1, rfl, hn1, ha1, hk1, hF1, hcl1⟩, hb2⟩
    have hB2 := hB1.trans (hb2.mono hB1.size)
    have hf2 := hf1.below hb2 hf1.lt
    clear x0 x1 x2 x3 x4 hf1
    obtain ⟨⟨x0, x1, x2, x3, x4⟩, _⟩ := id hf2
    clear hb2 hB1 hk1 hcl1
    have hs1 : F1.size ≤ 1048576 := by rw [Fo.alike_size ha1]; exact hsz2
    have hl1 : F1.len ≤ maxLen := by rw [Fo.alike_len ha1]; exact hlm
    go_wp2_with fail
    refine (sImports_any k t m e (some ⟨nb1, 0, none⟩) F1.len F1 _ (by omega) (.inr ⟨nb1, 0, rfl, hF1⟩) (Nat.le_refl _) (by omega) ht).mono ?_
    rw [good_alike ha1]
    rintro r w3 ⟨⟨a3, c3, rfl, hS3, hc3⟩, hb3⟩
    have hB3 := hB2.trans (hb3.mono hB2.size)
    have hf3 := hf2.below hb3 hf2.lt
    clear x0 x1 x2 x3 x4 hf2
    obtain ⟨⟨x0, x1, x2, x3, x4⟩, _⟩ := id hf3
    clear hb3 hB2 hF1 hn1
    generalize hns : impsOf k t m e F = ns at *
    have HNS : Hid (impsOf k t m e F = ns) := hns
    have hnl : ns.length ≤ 1048577 := by have := imps_size k t m e F; rw [hns] at this; omega
    clear hns
    have HS3 : Hid (SIn w3 ns a3 ∧ (ns.length ≤ c3 ∧ c3 ≤ maxLen)) := ⟨hS3, hc3⟩
    clear hS3
    go_wp2_with fail
    refine (HC _ (HI.out _ hB3)).mono ?_
    rintro r w4 ⟨⟨nb2, F2, rfl, hn2, ha2, hk2, hF2, hcl2⟩, hb4⟩
    have hbx := (Below.refl _ w4).alloc (Nat.le_refl _) (.cells #[.int .i64 k, .string t, .int .i64 m, .int .i64 e, .slice (some ⟨nb2, 0, none⟩) F2.len F2.len] 47)
    have hg0 := Five.new w4 (.int .i64 k) (.string t) (.int .i64 m) (.int .i64 e) (.slice (some ⟨nb2, 0, none⟩) F2.len F2.len) 47
    have hFU := Fo.from_grow hbx F2 _ _ hF2
    have hclU := hcl2.alloc #[.int .i64 k, .string t, .int .i64 m, .int .i64 e, .slice (some ⟨nb2, 0, none⟩) F2.len F2.len] 47
    have hzz := Fo.blkZ_lt hF2 hk2
    have HM : Hid (F2.BlkZ (fun x => w3.heap.size ≤ x ∧ x < w4.heap.size)) := hzz
    have hB4 : Below w3.heap.size w3 w4 := hb4
    have hBU := hB4.trans (hbx.mono hB4.size)
    have HSh : Hid (F2 = .nil ∨ ∃ b, some (⟨nb2, 0, none⟩ : Addr) = some ⟨b, 0, none⟩ ∧ (w3.heap.size ≤ b ∧ b < w4.heap.size) ∧ F2.Sh (w4.alloc (.cells #[.int .i64 k, .string t, .int .i64 m, .int .i64 e, .slice (some ⟨nb2, 0, none⟩) F2.len F2.len] 47)) b 0) := by
      cases F2 with
      | nil => exact .inl rfl
      | cons k2 t2 m2 e2 a2 c2 kids2 next2 => exact .inr ⟨nb2, rfl, ⟨hn2, World.block_lt_of_cell? w4 _ hF2.1.1⟩, Fo.sh_of hFU hzz hclU hn2 (fun x hx => hx.1)⟩
    obtain ⟨U, hU⟩ : ∃ U, U = w4.alloc (.cells #[.int .i64 k, .string t, .int .i64 m, .int .i64 e, .slice (some ⟨nb2, 0, none⟩) F2.len F2.len] 47) := ⟨_, rfl⟩
    have hUs : U.heap.size = w4.heap.size + 1 := by rw [hU]; simp
    rw [← hU] at hg0 hFU hBU HSh
    have hs2 : F2.size ≤ 1048576 := by rw [Fo.alike_size ha2]; exact hsz2
    have hl2 : F2.len ≤ maxLen := by rw [Fo.alike_len ha2]; exact hlm
    have hw2 : t.size ≤ 1048576 ∧ F2.wt ≤ 1048576 := by rw [alike_wtF ha2]; exact HW.out
    clear hclU hzz hcl2 hk2 hbx hF2 hb4 HW
    have hf4 := hf3.below hBU hf3.lt
    have HB3 : Hid (Below w.heap.size w w3) := hB3
    have l43 : w3.heap.size ≤ w4.heap.size := hB4.size
    clear x0 x1 x2 x3 x4
    obtain ⟨⟨x0, x1, x2, x3, x4⟩, _⟩ := id hf4
    have hI := iImports_any k t m e (some ⟨nb2, 0, none⟩) F2.len F2 U (by omega) (.inr ⟨nb2, 0, rfl, hFU⟩) (Nat.le_refl _) (by omega) ht hw2
    rw [good_alike ha2, HNS.out] at hI
    have HFU : Hid (F2.From U nb2 0 ∧ F2.alike F) := ⟨hFU, ha2⟩
    have hg0' := hg0
    obtain ⟨⟨y0, y1, y2, y3, y4⟩, _⟩ := hg0'
    clear hFU ha2 hB3 hw2
    go_wp2_with fail
    rw [← hU]
    refine hI.mono ?_
    rintro r w5 ⟨⟨a5, c5, rfl, hO5⟩, hb5⟩
    have hB5 := hBU.trans (hb5.mono hBU.size)
    have hg5 := hg0.below hb5 hg0.lt
    have hf5 := hf3.below hB5 hf3.lt
    have HO5 : Hid (OwnT U.heap.size w5 a5 c5 ns) := hO5
    have HU5 : Hid (Below U.heap.size U w5) := hb5
    have hS5 := HS3.out.1.grow hB5
    obtain ⟨hO6, hc5⟩ := hO5.sin (HS3.out.1.lies.2)
    have hE := eqStringS_any ns ns a5 a3 c5 c3 w5 hO6 hS5 hc5.1 hc5.2 HS3.out.2.1
    rw [decide_eq_true rfl] at hE
    clear hU hO6 hO5 hS5 x0 x1 x2 x3 x4 y0 y1 y2 y3 y4 hI hg0 hf4
    obtain ⟨⟨x0, x1, x2, x3, x4⟩, _⟩ := id hf5
    obtain ⟨⟨y0, y1, y2, y3, y4⟩, _⟩ := id hg5
    go_wp2_with fail
    refine hE.mono ?_
    rintro r w6 ⟨rfl, hb6⟩
    have hB6 := hB5.trans (hb6.mono hB5.size)
    have HU6 : Hid (Below U.heap.size U w6) := HU5.out.trans (hb6.mono HU5.out.size)
    have HO6 : Hid (OwnT U.heap.size w6 a5 c5 ns) := HO5.out.of_block fun g hg => hb6.block g (HO5.out.lt hg).2
    have hg6 := hg5.below hb6 hg5.lt
    have hf6 := hf3.below hB6 hf3.lt
    clear x0 x1 x2 x3 x4 y0 y1 y2 y3 y4 hf5 hg5 HU5 HO5 hE hB5 hb6 hb5 hBU
    obtain ⟨⟨x0, x1, x2, x3, x4⟩, _⟩ := id hf6
    obtain ⟨⟨y0, y1, y2, y3, y4⟩, _⟩ := id hg6
    have hS0 : HeldT w6 w.heap.size w4.heap.size k t m e (.slice a F.len c) (.slice (some ⟨nb2, 0, none⟩) F2.len F2.len) w6 := ⟨⟨x0, x1, x2, x3, x4⟩, ⟨y0, y1, y2, y3, y4⟩, Below.refl _ _⟩
    have HB6 : Hid (Below w.heap.size w w6 ∧ Below w3.heap.size w3 w6) := ⟨HB3.out.trans (hB6.mono HB3.out.size), hB6⟩
    clear x0 x1 x2 x3 x4 y0 y1 y2 y3 y4 hf6 hg6 hB6
    go_wp2_with fail
    refine wp_region_held_drew (S := fun w' => HeldT w6 w.heap.size w4.heap.size k t m e (.slice a F.len c) (.slice (some ⟨nb2, 0, none⟩) F2.len F2.len) w') (by kernel_rfl) (HeldT.drew hS0) (fun hHeld => ?_)
    refine wpAnyH_take (i := 0) (v := nodeV k t m e (some ⟨nb2, 0, none⟩) F2.len F2.len) rfl (by kernel_rfl) (by kernel_rfl) (by kernel_rfl) (fun _ _ _ h => h) (Or.inl ⟨by rfl, ?_⟩) (by assumption) ?_
    · intro w hSw
      (try dsimp only at hSw)
      go_simp
    (try simp only [Act.put, List.getElem_toArray, List.getElem_cons_zero, List.setIfInBounds_toArray, List.set_cons_zero, List.set_cons_succ])
    refine wpAnyH_take (i := 1) (v := nodeV k t m e a F.len c) rfl (by kernel_rfl) (by kernel_rfl) (by kernel_rfl) (fun _ _ _ h => h) (Or.inl ⟨by rfl, ?_⟩) (by assumption) ?_
    · intro w hSw
      (try dsimp only at hSw)
      go_simp
    (try simp only [Act.put, List.getElem_toArray, List.getElem_cons_zero, List.getElem_cons_succ, List.setIfInBounds_toArray, List.set_cons_zero, List.set_cons_succ])
    refine wpAnyH_ready (rs := [2]) (by kernel_rfl) (by simp) ?_
    refine AllReadyH.cons rfl (fun K hK => ?_) AllReadyH.nil
    go_simp
    refine (HC _ (HI.out _ (HB6.out.1.trans ((by assumption : HeldT w6 w.heap.size w4.heap.size k t m e (.slice a F.len c) (.slice (some ⟨nb2, 0, none⟩) F2.len F2.len) _).2.2.mono HB6.out.1.size)))).mono ?_
    rintro r w7 ⟨⟨nb3, F3, rfl, hn3, ha3, hk3, hF3, hcl3⟩, hb7⟩
    have hl3 : F3.len ≤ maxLen := by rw [Fo.alike_len ha3]; exact hlm
    have ha23 := alike_swap HFU.out.2 ha3
    have hS := HeldT.grow (by assumption) hb7
    clear hcl3 hk3
    go_wp2_with fail
    refine hK.out _ _ hS (fun hHeld => ?_)
    clear hK K hS
    refine wpAnyH_ready (rs := [3]) (by kernel_rfl) (by simp) ?_
    refine AllReadyH.cons rfl (fun K hK => ?_) AllReadyH.nil
    go_simp
    refine (eqNode_all (F2.size + 1) k t m e (some ⟨nb2, 0, none⟩) (some ⟨nb3, 0, none⟩) F2.len F3.len F2 F3 _ (by omega) ha23 (.inr ⟨nb2, 0, rfl, Fo.from_grow (HU6.out.trans (hHeld.2.2.mono HU6.out.size)) F2 _ _ HFU.out.1⟩) (.inr ⟨nb3, 0, rfl, hF3⟩) (Nat.le_refl _) (by omega) (Nat.le_refl _) (by omega)).mono ?_
    rintro r w8 ⟨rfl, hb8⟩
    have hS := HeldT.grow (by assumption) hb8
    go_wp2_with fail
    refine hK.out _ _ hS (fun hHeld => ?_)
    clear hK K hS
    refine wpAnyH_take (i := 4) (v := .bool false) rfl (by kernel_rfl) (by kernel_rfl) (by kernel_rfl) (fun _ _ _ h => h) (Or.inl ⟨by rfl, ?_⟩) (by assumption) ?_
    · intro w hSw
      (try dsimp only at hSw)
      go_simp
    (try simp only [Act.put, List.getElem_toArray, List.getElem_cons_zero, List.getElem_cons_succ, List.setIfInBounds_toArray, List.set_cons_zero, List.set_cons_succ])
    refine wpAnyH_done (by kernel_rfl) ?_ _
    have hB8 := hHeld.2.2
    have HB8 : Hid (Below w.heap.size w w8 ∧ Below w3.heap.size w3 w8) := ⟨HB6.out.1.trans (hB8.mono HB6.out.1.size), HB6.out.2.trans (hB8.mono HB6.out.2.size)⟩
    have HU8 : Hid (Below U.heap.size U w8) := HU6.out.trans (hB8.mono HU6.out.size)
    have HO8 : Hid (OwnT U.heap.size w8 a5 c5 ns) := HO6.out.of_block fun g hg => hB8.block g (HO6.out.lt hg).2
    obtain ⟨⟨x0, x1, x2, x3, x4⟩, ⟨y0, y1, y2, y3, y4⟩, -⟩ := hHeld
    have HS8 : Hid (F2 = .nil ∨ ∃ b, some (⟨nb2, 0, none⟩ : Addr) = some ⟨b, 0, none⟩ ∧ (w3.heap.size ≤ b ∧ b < w4.heap.size) ∧ F2.Sh w8 b 0) := by
      rcases HSh.out with h | ⟨b, e1, e2, e3⟩
      · exact .inl h
      · exact .inr ⟨b, e1, e2, (Mk.of_below (B := w3.heap.size) (P := fun _ => True) HU8.out (by omega)).sh e3 rfl⟩
    clear hb7 hb8 hF3 hn3 ha3 hl3 ha23 hB8 HU6 HO6 HB6 hS0 HSh HFU
    (try clear hHeld)
    go_wp2_with fail
    refine (markNode_any k t m e w3.heap.size (fun x => w3.heap.size ≤ x ∧ x < w4.heap.size) (some ⟨nb2, 0, none⟩) F2.len 1 F2 w8 HS8.out HM.out (fun x hx => hx.1) HB8.out.2.size (Nat.le_refl _) (by omega) (by omega)).mono ?_
    rintro r w9 ⟨rfl, hm9⟩
    have hB9 : Below w3.heap.size w3 w9 := HB8.out.2.trans hm9.1
    have hO9 : OwnT U.heap.size w9 a5 c5 ns := HO8.out.of_block fun g hg => hm9.2.1 g (HO8.out.lt hg).2 (fun hx => by have := (HO8.out.lt hg).1; omega)
    obtain ⟨hO6, hc5⟩ := hO9.sin (HS3.out.1.lies.2)
    have hE := eqStringS_any ns ns a5 a3 c5 c3 w9 hO6 (HS3.out.1.grow hB9) hc5.1 hc5.2 HS3.out.2.1
    rw [decide_eq_true rfl] at hE
    have hf9 := hf3.below hB9 hf3.lt
    have HO9 : Hid (OwnT U.heap.size w9 a5 c5 ns) := hO9
    have hU9 : U.heap.size ≤ w9.heap.size := Nat.le_trans HU8.out.size hm9.1.size
    obtain ⟨K, hK⟩ : ∃ K, K = 1 + 4 * F2.size := ⟨_, rfl⟩
    rw [← hK]
    have hK0 : ¬ (K : Int) < 0 := by omega
    clear hK HS8 HM HU8 HO8 HB8 hm9 hO9 hO6 x0 x1 x2 x3 x4 y0 y1 y2 y3 y4
    go_wp2_with fail
    refine hE.mono ?_
    rintro r w10 ⟨rfl, hb10⟩
    have hB10 := hB9.trans (hb10.mono hB9.size)
    have hO10 : OwnT U.heap.size w10 a5 c5 ns := HO9.out.of_block fun g hg => hb10.block g (HO9.out.lt hg).2
    have hU10 : U.heap.size ≤ w10.heap.size := Nat.le_trans hU9 hb10.size
    have hMS := markStringS_any (k := 1) hO10 hU10 (by omega) (by omega)
    clear HO9 hb10 hB9 hf9 hU9 hE hO10
    go_wp2_with fail
    refine hMS.mono ?_
    rintro r w11 ⟨rfl, hO11, hb11, -⟩
    have hB11 : Below w3.heap.size w3 w11 := hB10.trans (hb11.mono (by omega))
    have hU11 : U.heap.size ≤ w11.heap.size := Nat.le_trans hU10 hb11.size
    have hO11s := hO11.sin (marks_mem _ _)
    rw [marks_len] at hO11s
    have hH := heldStringS_any ns.length a5 c5 1 w11 hO11s.1 hO11s.2 (by omega) (by omega)
    have HO11 : Hid (OwnT U.heap.size w11 a5 c5 (marks 1 ns.length)) := hO11
    obtain ⟨Q, hQ⟩ : ∃ Q, Q = 1 + ns.length := ⟨_, rfl⟩
    rw [← hQ] at hH ⊢
    have hQ0 : ¬ (Q : Int) < 0 := by omega
    clear hO11s hO11 hb11 hMS hB10 hU10
    go_wp2_with fail
    refine hH.mono ?_
    rintro r w12 ⟨rfl, hb12⟩
    have hB12 := hB11.trans (hb12.mono hB11.size)
    have hU12 : U.heap.size ≤ w12.heap.size := Nat.le_trans hU11 hb12.size
    have HO12 : Hid (OwnT U.heap.size w12 a5 c5 (marks 1 ns.length)) := HO11.out.of_block fun g hg => hb12.block g (HO11.out.lt hg).2
    have hf12 := hf3.below hB12 hf3.lt
    obtain ⟨⟨x0, x1, x2, x3, x4⟩, _⟩ := id hf12
    clear hb12 hH HO11 hB11 hU11
    go_wp2_with fail
    refine (HC _ (HI.out _ (HB3.out.trans (hB12.mono HB3.out.size)))).mono ?_
    rintro r w13 ⟨⟨nb4, F4, rfl, hn4, ha4, hk4, hF4, hcl4⟩, hb13⟩
    have hB13 := hB12.trans (hb13.mono hB12.size)
    have HO13 : Hid (OwnT U.heap.size w13 a5 c5 (marks 1 ns.length)) := HO12.out.of_block fun g hg => hb13.block g (HO12.out.lt hg).2
    have hs4 : F4.size ≤ 1048576 := by rw [Fo.alike_size ha4]; exact hsz2
    have hl4 : F4.len ≤ maxLen := by rw [Fo.alike_len ha4]; exact hlm
    have hI := iImports_any k t m e (some ⟨nb4, 0, none⟩) F4.len F4 w13 (by omega) (.inr ⟨nb4, 0, rfl, hF4⟩) (Nat.le_refl _) (by omega) ht (by rw [alike_wtF ha4]; omega)
    rw [good_alike ha4, HNS.out] at hI
    clear x0 x1 x2 x3 x4 hf12 hcl4 hk4 hF4 hn4 ha4 hb13 HO12 hB12 hU12
    go_wp2_with fail
    refine hI.mono ?_
    rintro r w14 ⟨⟨a14, c14, rfl, hO14⟩, hb14⟩
    have hB14 := hB13.trans (hb14.mono hB13.size)
    have HO14 : Hid (OwnT U.heap.size w14 a5 c5 (marks 1 ns.length)) := HO13.out.of_block fun g hg => hb14.block g (HO13.out.lt hg).2
    obtain ⟨hO15, hc14⟩ := hO14.sin (HS3.out.1.lies.2)
    have hE := eqStringS_any ns ns a14 a3 c14 c3 w14 hO15 (HS3.out.1.grow hB14) hc14.1 hc14.2 HS3.out.2.1
    rw [decide_eq_true rfl] at hE
    clear HO13 hb14 hO14 hO15 hI hB13
    go_wp2_with fail
    refine hE.mono ?_
    rintro r w15 ⟨rfl, hb15⟩
    have hB15 := hB14.trans (hb15.mono hB14.size)
    have hO15 := OwnT.sin (HO14.out.of_block fun g hg => hb15.block g (HO14.out.lt hg).2) (marks_mem _ _)
    rw [marks_len] at hO15
    have hH := heldStringS_any ns.length a5 c5 1 w15 hO15.1 hO15.2 (by omega) (by omega)
    rw [← hQ] at hH
    clear HO14 hb15 hO15 hB14 hE
    go_wp2_with fail
    refine hH.mono ?_
    rintro r w16 ⟨rfl, hb16⟩
    have HF : Hid (Below w.heap.size w w16) := HB3.out.trans ((hB15.trans (hb16.mono hB15.size)).mono HB3.out.size)
    clear hb16 hB15 hH
    go_wp2_with fail
    go_ret
    exact ⟨rfl, HF.out⟩
  · have hd : leftOf (t.size + F.wt) 1048576 = -1 := by unfold leftOf; rw [if_neg hneed]
    rw [hd]
    go_wp2_with fail
    go_ret
    exact ⟨rfl, hB1⟩
end Go.Proofs.Ytmghhcdhjjhbeaa
