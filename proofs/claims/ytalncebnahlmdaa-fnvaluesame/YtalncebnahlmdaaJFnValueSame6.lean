/- My own texts, joined: Wb Wc Wd Wg Wh Si Wi Sj. -/
import Derived.Test.YtalncebnahlmdaaJFnValueSame5
import Derived.Carry
import Derived.Laws.OwnMore
import Derived.Deep.RegionHeld3
/- Two values that are the same, by the program: the pairs of two lists. -/
namespace Go.Proofs.Ytalncebnahlmdaa
open Go.RowKit
def Hd.cells (h : Hd) (a : Option Addr) (n c : Nat) : List Value := [.int .i64 h.k, .int .i64 h.m, .int .i64 h.e, .string h.t, .slice a n c, .slice h.na h.ns.length h.nc]
def Vo.cellsAt (F : Vo) (i : Nat) : List Value := (F.hdAt i).cells (F.addrAt i) (F.kidsAt i).len (F.capAt i)
/-- the cells of the first n pairs -/
def pairCellsV (F G : Vo) : Nat → List Value
  | 0 => []
  | n + 1 => pairCellsV F G n ++ (F.cellsAt n ++ G.cellsAt n)
theorem pairCellsV_one (F G : Vo) (n : Nat) : ∀ u ∈ pairCellsV F G n, u.oneCell' = true := by
  induction n with
  | zero => intro u hu; cases hu
  | succ n ih =>
    intro u hu
    rcases List.mem_append.1 (show u ∈ pairCellsV F G n ++ (F.cellsAt n ++ G.cellsAt n) from hu) with h | h
    · exact ih u h
    · simp [Vo.cellsAt, Hd.cells] at h
      rcases h with h | h | h | h | h | h | h | h | h | h | h | h <;> subst h <;> rfl
theorem pairInfoV : (Try.prog.info? 90).map (fun i => (i.zero, i.size, i.bytes)) = some (some (.agg #[.int .i64 0, .int .i64 0, .int .i64 0, .string ⟨#[]⟩, .slice none 0 0, .slice none 0 0, .int .i64 0, .int .i64 0, .int .i64 0, .string ⟨#[]⟩, .slice none 0 0, .slice none 0 0]), 12, 176) := by kernel_rfl
set_option maxRecDepth 100000 in
set_option maxHeartbeats 1000000 in
theorem po5 {Q : Exit → Act → World → Prop} {t2 t3 t4 t7 t8 t9 t10 t11 t12 t13 t14 t15 t16 t17 t18 t19 t20 t21 t22 t23 t24 t25 : Value} {w0 W : World} {b o n c b2 o2 n2 c2 j q nx cx ny cy : Nat} {hx hy : Hd} {ax ay : Option Addr} {v : Value} {xs : List Value}
    (hj : (j : Int) < (n : Int)) (hj2 : (j : Int) < (n2 : Int)) (h1 : Cells6 w0 b (o + j * 6) hx (.slice ax nx cx)) (h2 : Cells6 w0 b2 (o2 + j * 6) hy (.slice ay ny cy)) (hb : Below w0.heap.size w0 W) (hown : W.ownsRow w0.heap.size 90 12 v q xs) (hq : q ≤ 2000000)
    (hp : ∀ p d v a w, Q (.panic p) (Act.put a d v) w → Q (.panic p) a w) (h : ∀ ws v' v12 v13 v14 v15 v16 v17 v18 v19 v20 v21 v22 v23, ws.ownsRow w0.heap.size 90 12 v' (q + 1) (xs ++ (hx.cells ax nx cx ++ hy.cells ay ny cy)) → Below w0.heap.size w0 ws → Q .normal { tmps := ((.slice (some ⟨b, o, none⟩) n c) :: (.slice (some ⟨b2, o2, none⟩) n2 c2) :: t2 :: t3 :: t4 :: v' :: (.int .i64 (j : Nat)) :: t7 :: t8 :: t9 :: t10 :: t11 :: v12 :: v13 :: v14 :: v15 :: v16 :: v17 :: v18 :: v19 :: v20 :: v21 :: v22 :: v23 :: t24 :: t25 :: []).toArray, defers := [] } ws) :
    Code.wp Try.prog (Code.region 5 #[{ dst := some 12, op := Op.move (Operand.tmp 5), type := 91, pos := "l3_tree.go:396", after := #[], guard := none }, { dst := some 13, op := Op.move (Operand.tmp 0), type := 25, pos := "l3_tree.go:396", after := #[], guard := none }, { dst := some 14, op := Op.move (Operand.tmp 6), type := 3, pos := "l3_tree.go:396", after := #[], guard := none }, { dst := some 15, op := Op.indexAddr 25 (Operand.tmp 13) (Operand.tmp 14), type := 0, pos := "l3_tree.go:396", after := #[{ on := 1, ground := Ground.data }, { on := 2, ground := Ground.data }], guard := none }, { dst := some 16, op := Op.load 28 (Operand.tmp 15), type := 28, pos := "l3_tree.go:396", after := #[{ on := 3, ground := Ground.data }], guard := none }, { dst := some 17, op := Op.move (Operand.tmp 1), type := 25, pos := "l3_tree.go:396", after := #[], guard := none }, { dst := some 18, op := Op.move (Operand.tmp 6), type := 3, pos := "l3_tree.go:396", after := #[], guard := none }, { dst := some 19, op := Op.indexAddr 25 (Operand.tmp 17) (Operand.tmp 18), type := 0, pos := "l3_tree.go:396", after := #[{ on := 5, ground := Ground.data }, { on := 6, ground := Ground.data }], guard := none }, { dst := some 20, op := Op.load 28 (Operand.tmp 19), type := 28, pos := "l3_tree.go:396", after := #[{ on := 7, ground := Ground.data }], guard := none }, { dst := some 21, op := Op.build 90 #[(0, Operand.tmp 16), (1, Operand.tmp 20)], type := 90, pos := "l3_tree.go:396", after := #[{ on := 4, ground := Ground.data }, { on := 8, ground := Ground.data }], guard := none }, { dst := some 22, op := Op.buildSlice 91 1 #[(0, Operand.tmp 21)], type := 91, pos := "l3_tree.go:396", after := #[{ on := 9, ground := Ground.data }], guard := none }, { dst := some 23, op := Op.call { callee := Callee.builtin Builtin.append, args := #[Operand.tmp 12, Operand.tmp 22], argTypes := #[91, 91] }, type := 91, pos := "l3_tree.go:396", after := #[{ on := 0, ground := Ground.data }, { on := 10, ground := Ground.data }], guard := none }, { dst := some 5, op := Op.assign (Operand.tmp 23), type := 91, pos := "l3_tree.go:396", after := #[{ on := 11, ground := Ground.data }, { on := 11, ground := Ground.chain }, { on := 0, ground := Ground.phase }, { on := 1, ground := Ground.phase }, { on := 2, ground := Ground.phase }, { on := 3, ground := Ground.phase }, { on := 4, ground := Ground.phase }, { on := 5, ground := Ground.phase }, { on := 6, ground := Ground.phase }, { on := 7, ground := Ground.phase }, { on := 8, ground := Ground.phase }, { on := 9, ground := Ground.phase }, { on := 10, ground := Ground.phase }, { on := 11, ground := Ground.phase }], guard := none }] true) Q { tmps := ((.slice (some ⟨b, o, none⟩) n c) :: (.slice (some ⟨b2, o2, none⟩) n2 c2) :: t2 :: t3 :: t4 :: v :: (.int .i64 (j : Nat)) :: t7 :: t8 :: t9 :: t10 :: t11 :: t12 :: t13 :: t14 :: t15 :: t16 :: t17 :: t18 :: t19 :: t20 :: t21 :: t22 :: t23 :: t24 :: t25 :: []).toArray, defers := [] } W := by
  obtain ⟨i0, hi, hz0, hz1, hz2⟩ := info_parts pairInfoV
  have HSof : Hid (∀ w', Below w0.heap.size w0 w' → C6 w' b (o + j * 6) hx (.slice ax nx cx) ∧ C6 w' b2 (o2 + j * 6) hy (.slice ay ny cy)) := fun w' h => ⟨h1.grow h, h2.grow h⟩
  have hS0 := HSof.out _ hb.drew
  clear h1 h2
  refine wp_region_held_drew (S := fun w' => C6 w' b (o + j * 6) hx (.slice ax nx cx) ∧ C6 w' b2 (o2 + j * 6) hy (.slice ay ny cy)) (by kernel_rfl) hS0 (fun hHeld => ?_)
  refine wpAnyH_take (i := 0) (v := v) rfl (by kernel_rfl) (by kernel_rfl) (by kernel_rfl) (fun _ _ _ h => hp _ _ _ _ _ h) (Or.inl ⟨by rfl, ?_⟩) (by assumption) ?_
  · intro w hSw
    (try dsimp only at hSw)
    go_simp
  (try simp only [Act.put, List.getElem_toArray, List.getElem_cons_zero, List.setIfInBounds_toArray, List.set_cons_zero, List.set_cons_succ])
  refine wpAnyH_take (i := 1) (v := .slice (some ⟨b, o, none⟩) n c) rfl (by kernel_rfl) (by kernel_rfl) (by kernel_rfl) (fun _ _ _ h => hp _ _ _ _ _ h) (Or.inl ⟨by rfl, ?_⟩) (by assumption) ?_
  · intro w hSw
    (try dsimp only at hSw)
    go_simp
  (try simp only [Act.put, List.getElem_toArray, List.getElem_cons_zero, List.getElem_cons_succ, List.setIfInBounds_toArray, List.set_cons_zero, List.set_cons_succ])
  refine wpAnyH_take (i := 2) (v := .int .i64 (j : Nat)) rfl (by kernel_rfl) (by kernel_rfl) (by kernel_rfl) (fun _ _ _ h => hp _ _ _ _ _ h) (Or.inl ⟨by rfl, ?_⟩) (by assumption) ?_
  · intro w hSw
    (try dsimp only at hSw)
    go_simp
  (try simp only [Act.put, List.getElem_toArray, List.getElem_cons_zero, List.getElem_cons_succ, List.setIfInBounds_toArray, List.set_cons_zero, List.set_cons_succ])
  refine wpAnyH_take (i := 3) (v := .pointer (some ⟨b, o + j * 6, none⟩)) rfl (by kernel_rfl) (by kernel_rfl) (by kernel_rfl) (fun _ _ _ h => hp _ _ _ _ _ h) (Or.inl ⟨by rfl, ?_⟩) (by assumption) ?_
  · intro w hSw
    (try dsimp only at hSw)
    go_simp
  (try simp only [Act.put, List.getElem_toArray, List.getElem_cons_zero, List.getElem_cons_succ, List.setIfInBounds_toArray, List.set_cons_zero, List.set_cons_succ])
  refine wpAnyH_take (i := 4) (v := valV hx ax nx cx) rfl (by kernel_rfl) (by kernel_rfl) (by kernel_rfl) (fun _ _ _ h => hp _ _ _ _ _ h) (Or.inl ⟨by rfl, ?_⟩) (by assumption) ?_
  · intro w hSw
    (try dsimp only at hSw)
    go_simp
  (try simp only [Act.put, List.getElem_toArray, List.getElem_cons_zero, List.getElem_cons_succ, List.setIfInBounds_toArray, List.set_cons_zero, List.set_cons_succ])
  refine wpAnyH_take (i := 5) (v := .slice (some ⟨b2, o2, none⟩) n2 c2) rfl (by kernel_rfl) (by kernel_rfl) (by kernel_rfl) (fun _ _ _ h => hp _ _ _ _ _ h) (Or.inl ⟨by rfl, ?_⟩) (by assumption) ?_
  · intro w hSw
    (try dsimp only at hSw)
    go_simp
  (try simp only [Act.put, List.getElem_toArray, List.getElem_cons_zero, List.getElem_cons_succ, List.setIfInBounds_toArray, List.set_cons_zero, List.set_cons_succ])
  refine wpAnyH_take (i := 6) (v := .int .i64 (j : Nat)) rfl (by kernel_rfl) (by kernel_rfl) (by kernel_rfl) (fun _ _ _ h => hp _ _ _ _ _ h) (Or.inl ⟨by rfl, ?_⟩) (by assumption) ?_
  · intro w hSw
    (try dsimp only at hSw)
    go_simp
  (try simp only [Act.put, List.getElem_toArray, List.getElem_cons_zero, List.getElem_cons_succ, List.setIfInBounds_toArray, List.set_cons_zero, List.set_cons_succ])
  refine wpAnyH_take (i := 7) (v := .pointer (some ⟨b2, o2 + j * 6, none⟩)) rfl (by kernel_rfl) (by kernel_rfl) (by kernel_rfl) (fun _ _ _ h => hp _ _ _ _ _ h) (Or.inl ⟨by rfl, ?_⟩) (by assumption) ?_
  · intro w hSw
    (try dsimp only at hSw)
    go_simp
  (try simp only [Act.put, List.getElem_toArray, List.getElem_cons_zero, List.getElem_cons_succ, List.setIfInBounds_toArray, List.set_cons_zero, List.set_cons_succ])
  refine wpAnyH_take (i := 8) (v := valV hy ay ny cy) rfl (by kernel_rfl) (by kernel_rfl) (by kernel_rfl) (fun _ _ _ h => hp _ _ _ _ _ h) (Or.inl ⟨by rfl, ?_⟩) (by assumption) ?_
  · intro w hSw
    (try dsimp only at hSw)
    go_simp
  (try simp only [Act.put, List.getElem_toArray, List.getElem_cons_zero, List.getElem_cons_succ, List.setIfInBounds_toArray, List.set_cons_zero, List.set_cons_succ])
  refine wpAnyH_take (i := 9) (v := .agg #[.int .i64 hx.k, .int .i64 hx.m, .int .i64 hx.e, .string hx.t, .slice ax nx cx, .slice hx.na hx.ns.length hx.nc, .int .i64 hy.k, .int .i64 hy.m, .int .i64 hy.e, .string hy.t, .slice ay ny cy, .slice hy.na hy.ns.length hy.nc]) rfl (by kernel_rfl) (by kernel_rfl) (by kernel_rfl) (fun _ _ _ h => hp _ _ _ _ _ h) (Or.inl ⟨by rfl, ?_⟩) (by assumption) ?_
  · intro w hSw
    (try dsimp only at hSw)
    go_simp
  (try simp only [Act.put, List.getElem_toArray, List.getElem_cons_zero, List.getElem_cons_succ, List.setIfInBounds_toArray, List.set_cons_zero, List.set_cons_succ])
  refine wpAnyH_ready (rs := [10]) (by kernel_rfl) (by simp) ?_
  refine AllReadyH.cons rfl (fun K hK => ?_) AllReadyH.nil
  go_simp
  have hown1 : (W.alloc (.cells #[.int .i64 hx.k, .int .i64 hx.m, .int .i64 hx.e, .string hx.t, .slice ax nx cx, .slice hx.na hx.ns.length hx.nc, .int .i64 hy.k, .int .i64 hy.m, .int .i64 hy.e, .string hy.t, .slice ay ny cy, .slice hy.na hy.ns.length hy.nc] 90)).drew.ownsRow w0.heap.size 90 12 v q xs := hown.alloc _
  have hblk : (W.alloc (.cells #[.int .i64 hx.k, .int .i64 hx.m, .int .i64 hx.e, .string hx.t, .slice ax nx cx, .slice hx.na hx.ns.length hx.nc, .int .i64 hy.k, .int .i64 hy.m, .int .i64 hy.e, .string hy.t, .slice ay ny cy, .slice hy.na hy.ns.length hy.nc] 90)).drew.heap[W.heap.size]? = some (.cells #[.int .i64 hx.k, .int .i64 hx.m, .int .i64 hx.e, .string hx.t, .slice ax nx cx, .slice hx.na hx.ns.length hx.nc, .int .i64 hy.k, .int .i64 hy.m, .int .i64 hy.e, .string hy.t, .slice ay ny cy, .slice hy.na hy.ns.length hy.nc] 90 (0, 0)) := by show (W.heap.push _)[W.heap.size]? = _; rw [Array.getElem?_push, if_pos rfl]
  have hB1 : Below w0.heap.size w0 (W.alloc (.cells #[.int .i64 hx.k, .int .i64 hx.m, .int .i64 hx.e, .string hx.t, .slice ax nx cx, .slice hx.na hx.ns.length hx.nc, .int .i64 hy.k, .int .i64 hy.m, .int .i64 hy.e, .string hy.t, .slice ay ny cy, .slice hy.na hy.ns.length hy.nc] 90)).drew := (hb.alloc hb.size _).drew
  generalize (W.alloc (.cells #[.int .i64 hx.k, .int .i64 hx.m, .int .i64 hx.e, .string hx.t, .slice ax nx cx, .slice hx.na hx.ns.length hx.nc, .int .i64 hy.k, .int .i64 hy.m, .int .i64 hy.e, .string hy.t, .slice ay ny cy, .slice hy.na hy.ns.length hy.nc] 90)).drew = W1 at *
  have hz1' := hB1.size
  refine hK.out _ _ (HSof.out _ hB1) (fun hHeld => ?_)
  clear hK K
  refine wpAnyH_ready (rs := [11]) (by kernel_rfl) (by simp) ?_
  refine AllReadyH.cons rfl (fun K hK => ?_) AllReadyH.nil
  refine wp_append_lies W1 _ _ 91 rfl w0.heap.size 90 i0 _ 12 176 Try.underlying91 hi hz0 hz1 hz2 rfl (by decide) v q xs rfl hown1 ⟨W.heap.size, 0, none⟩ 1 1 (hx.cells ax nx cx ++ hy.cells ay ny cy) rfl rfl (World.news_of_block hblk) (fun u hu => by simp [Hd.cells] at hu; rcases hu with h | h | h | h | h | h | h | h | h | h | h | h <;> subst h <;> rfl) (by omega) (by unfold maxLen; omega) (by omega) hz1' _ rfl ?_
  intro g cap w2 hown2 hgrow2 hat hlt
  have hB2 : Below w0.heap.size w0 w2 := hB1.grown hgrow2 hz1' (fun k hk => (hown1.lt k hk).1)
  refine hK.out _ _ (HSof.out _ hB2) (fun hHeld2 => ?_)
  clear hK K
  (try simp only [Act.put, List.getElem_toArray, List.getElem_cons_zero, List.getElem_cons_succ, List.setIfInBounds_toArray, List.set_cons_zero, List.set_cons_succ])
  refine wpAnyH_take (i := 12) (v := .slice (some ⟨g, 0, none⟩) (q + 1) cap) rfl (by kernel_rfl) (by kernel_rfl) (by kernel_rfl) (fun _ _ _ h => hp _ _ _ _ _ h) (Or.inl ⟨by rfl, ?_⟩) (by assumption) ?_
  · intro w hSw
    (try dsimp only at hSw)
    go_simp
  (try simp only [Act.put, List.getElem_toArray, List.getElem_cons_zero, List.getElem_cons_succ, List.setIfInBounds_toArray, List.set_cons_zero, List.set_cons_succ])
  refine wpAnyH_done (by kernel_rfl) ?_ _
  exact h _ _ _ _ _ _ _ _ _ _ _ _ _ _ hown2 hB2
set_option maxRecDepth 100000 in
set_option maxHeartbeats 1000000 in
theorem pairsOfV_any (F G : Vo) (a a' : Option Addr) (c c' : Nat) (w : World) (hl : F.len = G.len) (hF : F.In w a) (hG : G.In w a') (hs : F.len ≤ 2000000) :
    Calls Try.prog 53 #[.slice a F.len c, .slice a' F.len c'] w fun e w' => (∃ v, e = .returned v ∧ w'.ownsRow w.heap.size 90 12 v F.len (pairCellsV F G F.len)) ∧ Below w.heap.size w w' := by
  obtain ⟨N, hN⟩ : ∃ N, F.len = N := ⟨_, rfl⟩
  have HNF : Hid (F.len = N) := hN
  have HNG : Hid (G.len = N) := hl.symm.trans hN
  rw [hN] at hs ⊢
  clear hN hl
  go_enter Try.func53, Try.ntmps53
  go_wp2_with fail
  go_loopw [5, 9] (fun v i wr => ∃ j : Nat, i = .int .i64 j ∧ j ≤ N ∧ wr.ownsRow w.heap.size 90 12 v j (pairCellsV F G j) ∧ Below w.heap.size w wr) (fun _ i _ => N - (intOf i).toNat)
  case atStart => exact ⟨0, rfl, Nat.zero_le _, ⟨rfl, .inl ⟨rfl, rfl⟩⟩, Below.refl _ _⟩
  case round =>
    obtain ⟨j, rfl, hj, hown, hb⟩ := hrel
    by_cases hjn : j < N
    · have hjl : (j : Int) < (N : Int) := by omega
      obtain ⟨b, o, rfl, hFr⟩ := Vo.from_of_len hF (show j < F.len by rw [HNF.out]; exact hjn)
      obtain ⟨b2, o2, rfl, hGr⟩ := Vo.from_of_len hG (show j < G.len by rw [HNG.out]; exact hjn)
      have HX : Hid (Cells6 w b (o + j * 6) (F.hdAt j) (.slice (F.addrAt j) (F.kidsAt j).len (F.capAt j)) ∧ Cells6 w b2 (o2 + j * 6) (G.hdAt j) (.slice (G.addrAt j) (G.kidsAt j).len (G.capAt j))) := ⟨(Vo.from_at hFr (show j < F.len by rw [HNF.out]; exact hjn)).1, (Vo.from_at hGr (show j < G.len by rw [HNG.out]; exact hjn)).1⟩
      clear hFr hGr
      have HO : Hid (wr.ownsRow w.heap.size 90 12 u5 j (pairCellsV F G j)) := hown
      clear hown
      go_wp2_with fail
      refine po5 hjl hjl HX.out.1 HX.out.2 hb HO.out (by omega) (fun _ d _ _ _ h => by cases d <;> exact h) ?_
      intro ws v' v12 v13 v14 v15 v16 v17 v18 v19 v20 v21 v22 v23 hown2 hB2
      have HO2 : Hid (ws.ownsRow w.heap.size 90 12 v' (j + 1) (pairCellsV F G (j + 1))) := hown2
      clear hown2 HX HO
      go_wp2_with fail
      go_round
      case rel => exact ⟨j + 1, by go_num, by omega, HO2.out, hB2⟩
      case measure => simp [intOf]; omega
    · have e : j = N := by omega
      subst e
      clear hF hG
      go_wp2_with fail
      go_ret
      exact ⟨⟨_, rfl, hown⟩, hb⟩
end Go.Proofs.Ytalncebnahlmdaa
/- Two values that are the same: what the program's loop keeps, as plain mathematics. -/
namespace Go.Proofs.Ytalncebnahlmdaa
/-- a value as it stands in a list: its head, where its list lies, that list -/
structure ItV where
  h : Hd
  a : Option Addr
  F : Vo
  c : Nat
def ItV.cells (x : ItV) : List Value := x.h.cells x.a x.F.len x.c
def Vo.itAt (F : Vo) (i : Nat) : ItV := ⟨F.hdAt i, F.addrAt i, F.kidsAt i, F.capAt i⟩
abbrev It2V := ItV × ItV
def hsameV (p : It2V) : Bool := headSameV p.1.h p.1.F.len p.2.h p.2.F.len
/-- two values are the same but for where they lie -/
def same2V (p : It2V) : Prop := p.1.h.same p.2.h ∧ p.1.F.alike p.2.F
theorem hsame_iffV (p : It2V) : hsameV p = true ↔ p.1.h.same p.2.h ∧ p.1.F.len = p.2.F.len := by
  unfold hsameV headSameV
  exact decide_eq_true_iff
theorem same2_headV {p : It2V} (h : same2V p) : hsameV p = true := (hsame_iffV p).2 ⟨h.1, Vo.alike_len h.2⟩
theorem alike_kidsV : ∀ {G F : Vo}, F.alike G → ∀ i, i < F.len → same2V (F.itAt i, G.itAt i) := by
  intro G
  induction G with
  | nil => intro F h i hi; rw [Vo.alike_nil h] at hi; exact absurd hi (Nat.not_lt_zero _)
  | cons g a c kids next _ ih =>
    intro F h i hi
    obtain ⟨g', a', c', kids', next', rfl, h0, h1, h2⟩ := Vo.alike_cons h
    cases i with
    | zero => exact ⟨h0, h1⟩
    | succ i => exact ih h2 i (Nat.lt_of_succ_lt_succ hi)
theorem alike_of_kidsV : ∀ {F G : Vo}, F.len = G.len → (∀ i, i < F.len → same2V (F.itAt i, G.itAt i)) → F.alike G := by
  intro F
  induction F with
  | nil => intro G h _; cases G with
    | nil => trivial
    | cons => exact absurd h.symm (Nat.succ_ne_zero _)
  | cons g a c kids next _ ih =>
    intro G h hk
    cases G with
    | nil => exact absurd h (Nat.succ_ne_zero _)
    | cons g' a' c' kids' next' =>
      obtain ⟨h1, h2⟩ := hk 0 (Nat.succ_pos _)
      exact ⟨h1, h2, ih (Nat.succ.inj h) fun i hi => hk (i + 1) (Nat.succ_lt_succ hi)⟩
/-- what is closed is the same all through -/
theorem closed_sameV (X : It2V → Prop) (h : ∀ p, X p → hsameV p = true ∧ ∀ i, i < p.1.F.len → X (p.1.F.itAt i, p.2.F.itAt i)) (N : Nat) : ∀ p, p.1.F.size < N → X p → same2V p := by
  induction N with
  | zero => intro p hp; omega
  | succ N ih =>
    intro p hp hX
    obtain ⟨h1, h2⟩ := h p hX
    obtain ⟨h3, h4⟩ := (hsame_iffV p).1 h1
    exact ⟨h3, alike_of_kidsV h4 fun i hi => ih _ (by have := Vo.size_at hi; show (p.1.F.kidsAt i).size < N; omega) (h2 i hi)⟩
/-- where a tree's list lies -/
def ItV.pl (x : ItV) : Pl := plOf x.a x.F.len
theorem pl_injV {w : World} {x y : ItV} (hx : x.F.In w x.a) (hy : y.F.In w y.a) (h : x.pl = y.pl) : x.F = y.F := by
  unfold ItV.pl plOf at h
  by_cases h1 : x.F.len = 0
  · rw [if_pos h1] at h
    by_cases h2 : y.F.len = 0
    · have e1 : x.F = .nil := by cases hF : x.F with
        | nil => rfl
        | cons => rw [hF] at h1; exact absurd h1 (Nat.succ_ne_zero _)
      have e2 : y.F = .nil := by cases hF : y.F with
        | nil => rfl
        | cons => rw [hF] at h2; exact absurd h2 (Nat.succ_ne_zero _)
      rw [e1, e2]
    · rw [if_neg h2] at h
      exact absurd (congrArg Prod.snd h).symm h2
  · rw [if_neg h1] at h
    by_cases h2 : y.F.len = 0
    · rw [if_pos h2] at h
      exact absurd (congrArg Prod.snd h) h1
    · rw [if_neg h2] at h
      have ha : x.a = y.a := congrArg Prod.fst h
      have hl : x.F.len = y.F.len := congrArg Prod.snd h
      obtain ⟨b, o, e1, f1⟩ := Vo.from_of_len hx (show 0 < x.F.len by omega)
      obtain ⟨b', o', e2, f2⟩ := Vo.from_of_len hy (show 0 < y.F.len by omega)
      rw [ha, e2] at e1
      cases e1
      exact Vo.from_inj _ _ _ _ f1 f2 hl
/-- the pairs of two lists -/
def kidPairsV (F G : Vo) : Nat → List It2V
  | 0 => []
  | n + 1 => kidPairsV F G n ++ [(F.itAt n, G.itAt n)]
theorem kidPairs_memV {F G : Vo} {n : Nat} {p : It2V} : p ∈ kidPairsV F G n ↔ ∃ i, i < n ∧ p = (F.itAt i, G.itAt i) := by
  induction n with
  | zero =>
    constructor
    · intro h; exact absurd h (List.not_mem_nil)
    · rintro ⟨i, h, _⟩; exact absurd h (Nat.not_lt_zero _)
  | succ n ih =>
    show p ∈ kidPairsV F G n ++ [(F.itAt n, G.itAt n)] ↔ _
    rw [List.mem_append, ih, List.mem_singleton]
    constructor
    · rintro (⟨i, hi, h⟩ | h)
      · exact ⟨i, by omega, h⟩
      · exact ⟨n, by omega, h⟩
    · rintro ⟨i, hi, h⟩
      rcases Nat.lt_succ_iff_lt_or_eq.1 hi with hi | rfl
      · exact .inl ⟨i, hi, h⟩
      · exact .inr h
def pcellsV (p : It2V) : List Value := p.1.cells ++ p.2.cells
theorem kidPairs_cellsV (F G : Vo) (n : Nat) : (kidPairsV F G n).flatMap pcellsV = pairCellsV F G n := by
  induction n with
  | zero => rfl
  | succ n ih => show (kidPairsV F G n ++ [(F.itAt n, G.itAt n)]).flatMap pcellsV = pairCellsV F G n ++ (F.cellsAt n ++ G.cellsAt n); rw [List.flatMap_append, ih]; simp [pcellsV, ItV.cells, Vo.itAt, Vo.cellsAt]
theorem kidPairs_lengthV (F G : Vo) (n : Nat) : (kidPairsV F G n).length = n := by
  induction n with
  | zero => rfl
  | succ n ih => show (kidPairsV F G n ++ [(F.itAt n, G.itAt n)]).length = n + 1; rw [List.length_append, ih]; rfl
/-- how much is to be done -/
def wsumV : List It2V → Nat
  | [] => 0
  | p :: t => p.1.F.size + 1 + wsumV t
theorem wsum_appendV (A B : List It2V) : wsumV (A ++ B) = wsumV A + wsumV B := by
  induction A with
  | nil => show wsumV B = 0 + wsumV B; omega
  | cons p t ih => show p.1.F.size + 1 + wsumV (t ++ B) = p.1.F.size + 1 + wsumV t + wsumV B; omega
theorem wsum_lengthV (A : List It2V) : A.length ≤ wsumV A := by
  induction A with
  | nil => exact Nat.le_refl _
  | cons p t ih => show t.length + 1 ≤ p.1.F.size + 1 + wsumV t; omega
def Vo.upTo (F : Vo) : Nat → Nat
  | 0 => 0
  | n + 1 => F.upTo n + ((F.kidsAt n).size + 1)
theorem wsum_kidsV (F G : Vo) (n : Nat) : wsumV (kidPairsV F G n) = F.upTo n := by
  induction n with
  | zero => rfl
  | succ n ih => show wsumV (kidPairsV F G n ++ [(F.itAt n, G.itAt n)]) = F.upTo n + ((F.kidsAt n).size + 1); rw [wsum_appendV, ih]; rfl
theorem upTo_nextV (h : Hd) (a : Option Addr) (c : Nat) (kids next : Vo) (n : Nat) : (Vo.cons h a c kids next).upTo (n + 1) = kids.size + 1 + next.upTo n := by
  induction n with
  | zero => show 0 + (kids.size + 1) = kids.size + 1 + 0; omega
  | succ n ih => show (Vo.cons h a c kids next).upTo (n + 1) + ((next.kidsAt n).size + 1) = kids.size + 1 + (next.upTo n + ((next.kidsAt n).size + 1)); omega
theorem upTo_lenV (F : Vo) : F.upTo F.len = F.size := by
  induction F with
  | nil => rfl
  | cons h a c kids next _ ih => show (Vo.cons h a c kids next).upTo (next.len + 1) = kids.size + 1 + next.size; rw [upTo_nextV, ih]
/-- what the loop keeps: S is to be done, L was met, D is done -/
structure LoopV (w : World) (top : It2V) (T : Nat) (S : List It2V) (L : List (Pl2 × Value)) (D : List It2V) : Prop where
  fwd : same2V top → ∀ p ∈ S, same2V p
  heads : ∀ p ∈ D, hsameV p = true
  closed : ∀ p ∈ D, ∀ i, i < p.1.F.len → (p.1.F.itAt i, p.2.F.itAt i) ∈ D ∨ (p.1.F.itAt i, p.2.F.itAt i) ∈ S
  has : top ∈ D ∨ top ∈ S
  keys : ∀ x v, getL x L = some v → ∃ p ∈ D, x = (p.1.pl, p.2.pl)
  vals : ∀ x v, getL x L = some v → ∃ n : Nat, v = .int .i64 n ∧ 1 ≤ n ∧ n ≤ D.length
  room : D.length + wsumV S ≤ T
  lie : ∀ p, p ∈ D ∨ p ∈ S → p.1.F.In w p.1.a ∧ p.2.F.In w p.2.a
  hdin : ∀ p, p ∈ D ∨ p ∈ S → p.1.h.In w ∧ p.2.h.In w
theorem LoopV.start {w : World} {top : It2V} (h : top.1.F.In w top.1.a ∧ top.2.F.In w top.2.a) (hh : top.1.h.In w ∧ top.2.h.In w) : LoopV w top (top.1.F.size + 1) [top] [] [] where
  fwd := fun h p hp => by rw [List.mem_singleton] at hp; subst hp; exact h
  heads := fun p hp => absurd hp List.not_mem_nil
  closed := fun p hp => absurd hp List.not_mem_nil
  has := .inr (List.mem_singleton.2 rfl)
  keys := fun x v h => by cases h
  vals := fun x v h => by cases h
  room := by show 0 + (top.1.F.size + 1 + 0) ≤ _; omega
  lie := fun p hp => by
    rcases hp with hp | hp
    · exact absurd hp List.not_mem_nil
    · rw [List.mem_singleton] at hp; subst hp; exact h
  hdin := fun p hp => by
    rcases hp with hp | hp
    · exact absurd hp List.not_mem_nil
    · rw [List.mem_singleton] at hp; subst hp; exact hh
theorem LoopV.done {w : World} {top : It2V} {T : Nat} {L : List (Pl2 × Value)} {D : List It2V} (h : LoopV w top T [] L D) : same2V top := by
  have ht : top ∈ D := by rcases h.has with h | h; exact h; cases h
  refine closed_sameV (fun p => p ∈ D) (fun p hp => ⟨h.heads p hp, fun i hi => ?_⟩) (top.1.F.size + 1) top (Nat.lt_succ_self _) ht
  rcases h.closed p hp i hi with h | h
  · exact h
  · cases h
theorem LoopV.fails {w : World} {top p : It2V} {T : Nat} {S D : List It2V} {L : List (Pl2 × Value)} (h : LoopV w top T (S ++ [p]) L D) (hp : hsameV p = false) : ¬ same2V top := fun ht => by
  have := same2_headV (h.fwd ht p (by simp))
  rw [hp] at this; cases this
theorem In_kidV {w : World} {F : Vo} {a : Option Addr} (h : F.In w a) {i : Nat} (hi : i < F.len) : (F.kidsAt i).In w (F.addrAt i) := by
  obtain ⟨b, o, _, hF⟩ := Vo.from_of_len h hi
  exact (Vo.from_at hF hi).2.1
theorem hd_kidV {w : World} {F : Vo} {a : Option Addr} (h : F.In w a) {i : Nat} (hi : i < F.len) : (F.hdAt i).In w := by
  obtain ⟨b, o, _, hF⟩ := Vo.from_of_len h hi
  exact (Vo.from_at hF hi).2.2.2
theorem mem_moveV {S D : List It2V} {p q : It2V} (h : q ∈ D ∨ q ∈ S ++ [p]) : q ∈ p :: D ∨ q ∈ S := by
  rcases h with h | h
  · exact .inl (List.mem_cons_of_mem _ h)
  · rcases List.mem_append.1 h with h | h
    · exact .inr h
    · rw [List.mem_singleton] at h; subst h; exact .inl List.mem_cons_self
/-- a pair whose lists were met -/
theorem LoopV.old {w : World} {top p : It2V} {T : Nat} {S D : List It2V} {L : List (Pl2 × Value)} (h : LoopV w top T (S ++ [p]) L D) (hp : hsameV p = true) {n : Nat} (hk : getL (p.1.pl, p.2.pl) L = some (.int .i64 n)) :
    LoopV w top T S (putL (p.1.pl, p.2.pl) (.int .i64 ((n + 1 : Nat) : Int)) L) (p :: D) where
  fwd := fun ht q hq => h.fwd ht q (List.mem_append_left _ hq)
  heads := fun q hq => by
    rcases List.mem_cons.1 hq with rfl | hq
    · exact hp
    · exact h.heads q hq
  closed := fun q hq i hi => by
    rcases List.mem_cons.1 hq with rfl | hq
    · obtain ⟨r, hr, e⟩ := h.keys _ _ hk
      have hl := h.lie q (.inr (by simp))
      have hlr := h.lie r (.inl hr)
      have e1 : q.1.F = r.1.F := pl_injV hl.1 hlr.1 (congrArg Prod.fst e)
      have e2 : q.2.F = r.2.F := pl_injV hl.2 hlr.2 (congrArg Prod.snd e)
      rw [e1, e2]
      rw [e1] at hi
      exact mem_moveV (h.closed r hr i hi)
    · exact mem_moveV (h.closed q hq i hi)
  has := mem_moveV h.has
  keys := fun x v hx => by
    rw [getL_put] at hx
    by_cases hxk : x = (p.1.pl, p.2.pl)
    · exact ⟨p, List.mem_cons_self, hxk⟩
    · rw [if_neg hxk] at hx
      obtain ⟨q, hq, e⟩ := h.keys x v hx
      exact ⟨q, List.mem_cons_of_mem _ hq, e⟩
  vals := fun x v hx => by
    rw [getL_put] at hx
    by_cases hxk : x = (p.1.pl, p.2.pl)
    · rw [if_pos hxk] at hx
      cases hx
      obtain ⟨n', e1, e2, e3⟩ := h.vals _ _ hk
      have : n = n' := by cases e1; rfl
      subst this
      exact ⟨n + 1, rfl, by omega, by show n + 1 ≤ D.length + 1; omega⟩
    · rw [if_neg hxk] at hx
      obtain ⟨n', e1, e2, e3⟩ := h.vals x v hx
      exact ⟨n', e1, e2, by show n' ≤ D.length + 1; omega⟩
  room := by
    have := h.room
    rw [wsum_appendV] at this
    have e : wsumV [p] = p.1.F.size + 1 + 0 := rfl
    show D.length + 1 + wsumV S ≤ T
    omega
  lie := fun q hq => h.lie q (by
    rcases hq with hq | hq
    · rcases List.mem_cons.1 hq with rfl | hq
      · exact .inr (by simp)
      · exact .inl hq
    · exact .inr (List.mem_append_left _ hq))
  hdin := fun q hq => h.hdin q (by
    rcases hq with hq | hq
    · rcases List.mem_cons.1 hq with rfl | hq
      · exact .inr (by simp)
      · exact .inl hq
    · exact .inr (List.mem_append_left _ hq))
/-- a pair whose lists were not met -/
theorem LoopV.new {w : World} {top p : It2V} {T : Nat} {S D : List It2V} {L : List (Pl2 × Value)} (h : LoopV w top T (S ++ [p]) L D) (hp : hsameV p = true) :
    LoopV w top T (S ++ kidPairsV p.1.F p.2.F p.1.F.len) (putL (p.1.pl, p.2.pl) (.int .i64 1) L) (p :: D) where
  fwd := fun ht q hq => by
    rcases List.mem_append.1 hq with hq | hq
    · exact h.fwd ht q (List.mem_append_left _ hq)
    · obtain ⟨i, hi, rfl⟩ := kidPairs_memV.1 hq
      exact alike_kidsV (h.fwd ht p (by simp)).2 i hi
  heads := fun q hq => by
    rcases List.mem_cons.1 hq with rfl | hq
    · exact hp
    · exact h.heads q hq
  closed := fun q hq i hi => by
    rcases List.mem_cons.1 hq with rfl | hq
    · exact .inr (List.mem_append_right _ (kidPairs_memV.2 ⟨i, hi, rfl⟩))
    · rcases mem_moveV (h.closed q hq i hi) with h | h
      · exact .inl h
      · exact .inr (List.mem_append_left _ h)
  has := by
    rcases mem_moveV h.has with h | h
    · exact .inl h
    · exact .inr (List.mem_append_left _ h)
  keys := fun x v hx => by
    rw [getL_put] at hx
    by_cases hxk : x = (p.1.pl, p.2.pl)
    · exact ⟨p, List.mem_cons_self, hxk⟩
    · rw [if_neg hxk] at hx
      obtain ⟨q, hq, e⟩ := h.keys x v hx
      exact ⟨q, List.mem_cons_of_mem _ hq, e⟩
  vals := fun x v hx => by
    rw [getL_put] at hx
    by_cases hxk : x = (p.1.pl, p.2.pl)
    · rw [if_pos hxk] at hx
      cases hx
      exact ⟨1, rfl, by omega, by show 1 ≤ D.length + 1; omega⟩
    · rw [if_neg hxk] at hx
      obtain ⟨n', e1, e2, e3⟩ := h.vals x v hx
      exact ⟨n', e1, e2, by show n' ≤ D.length + 1; omega⟩
  room := by
    have := h.room
    rw [wsum_appendV] at this ⊢
    rw [wsum_kidsV, upTo_lenV]
    have e : wsumV [p] = p.1.F.size + 1 + 0 := rfl
    show D.length + 1 + (wsumV S + p.1.F.size) ≤ T
    omega
  lie := fun q hq => by
    rcases hq with hq | hq
    · rcases List.mem_cons.1 hq with rfl | hq
      · exact h.lie q (.inr (by simp))
      · exact h.lie q (.inl hq)
    · rcases List.mem_append.1 hq with hq | hq
      · exact h.lie q (.inr (List.mem_append_left _ hq))
      · obtain ⟨i, hi, rfl⟩ := kidPairs_memV.1 hq
        have hl := h.lie p (.inr (by simp))
        have hlen := ((hsame_iffV p).1 hp).2
        exact ⟨In_kidV hl.1 hi, In_kidV hl.2 (by omega)⟩
  hdin := fun q hq => by
    rcases hq with hq | hq
    · rcases List.mem_cons.1 hq with rfl | hq
      · exact h.hdin q (.inr (by simp))
      · exact h.hdin q (.inl hq)
    · rcases List.mem_append.1 hq with hq | hq
      · exact h.hdin q (.inr (List.mem_append_left _ hq))
      · obtain ⟨i, hi, rfl⟩ := kidPairs_memV.1 hq
        have hl := h.lie p (.inr (by simp))
        have hlen := ((hsame_iffV p).1 hp).2
        exact ⟨hd_kidV hl.1 hi, hd_kidV hl.2 (by omega)⟩
end Go.Proofs.Ytalncebnahlmdaa
/- Two values that are the same, by the program: the row of pairs that are to be done. -/
namespace Go.Proofs.Ytalncebnahlmdaa
open Go.RowKit
theorem pcells_lengthV (S : List It2V) : (S.flatMap pcellsV).length = S.length * 12 := by
  induction S with
  | nil => rfl
  | cons p t ih => rw [List.flatMap_cons, List.length_append, ih, List.length_cons]; show 12 + _ = _; omega
/-- the last pair of a row, in its cells -/
theorem row_lastV {w : World} {base g cap : Nat} {S : List It2V} {p : It2V} (h : w.ownsRow base 90 12 (.slice (some ⟨g, 0, none⟩) (S.length + 1) cap) (S.length + 1) ((S ++ [p]).flatMap pcellsV)) (q : Nat) (hq : q < 12) :
    w.cell? ⟨g, S.length * 12 + q, none⟩ = (pcellsV p)[q]? := by
  rw [h.cellAt (S.length * 12 + q) (by omega), List.flatMap_append, List.getElem?_append_right (by rw [pcells_lengthV]; omega), pcells_lengthV]
  rw [show S.length * 12 + q - S.length * 12 = q by omega]
  simp
/-- the row without its last -/
theorem row_popV {w : World} {base g cap : Nat} {S : List It2V} {p : It2V} (h : w.ownsRow base 90 12 (.slice (some ⟨g, 0, none⟩) (S.length + 1) cap) (S.length + 1) ((S ++ [p]).flatMap pcellsV)) :
    w.ownsRow base 90 12 (.slice (some ⟨g, 0, none⟩) S.length cap) S.length (S.flatMap pcellsV) := by
  refine ⟨pcells_lengthV S, ?_⟩
  rcases h.2 with ⟨h', _⟩ | ⟨g', cap', cur, h', h2, h3, h4, h5, h6, h7⟩
  · cases h'
  · simp only [Value.slice.injEq, Option.some.injEq, Addr.mk.injEq, and_true, true_and] at h'
    obtain ⟨rfl, rfl⟩ := h'
    refine .inr ⟨g, cap, cur, rfl, h2, h3, by omega, h5, h6, ?_⟩
    have h8 : (cur.toList.take ((S.length + 1) * 12)).take (S.length * 12) = S.flatMap pcellsV := by
      rw [h7, List.flatMap_append, ← pcells_lengthV S, List.take_left]
    rw [List.take_take, Nat.min_eq_left (by omega)] at h8
    exact h8
end Go.Proofs.Ytalncebnahlmdaa
/- Two values that are the same, by the program: keys that can be held against each other. -/
namespace Go.Proofs.Ytalncebnahlmdaa
open Go.RowKit
/-- all lists below lie in cells that are not frozen -/
def Vo.Cl (w : World) : Vo → Prop
  | .nil => True
  | .cons _ a _ kids next => PlOk w (plOf a kids.len) ∧ kids.Cl w ∧ next.Cl w
def ItV.Good (w : World) (x : ItV) : Prop := PlOk w x.pl ∧ x.F.Cl w
theorem Vo.Cl.at {w : World} : ∀ {F : Vo}, F.Cl w → ∀ {i : Nat}, i < F.len → (F.itAt i).Good w := by
  intro F
  induction F with
  | nil => intro _ i hi; exact absurd hi (Nat.not_lt_zero _)
  | cons hd a c kids next _ ih =>
    rintro ⟨h1, h2, h3⟩ i hi
    cases i with
    | zero => exact ⟨h1, h2⟩
    | succ i => exact ih h3 (Nat.lt_of_succ_lt_succ hi)
theorem LoopV.keysOk {w W : World} {top : It2V} {T : Nat} {S D : List It2V} {L : List (Pl2 × Value)} (h : LoopV w top T S L D) (hg : ∀ p, p ∈ D ∨ p ∈ S → p.1.Good w ∧ p.2.Good w) (hb : Below w.heap.size w W) : ∀ q ∈ L, pl2KeysV.ok W q.1 := by
  intro q hq
  obtain ⟨v, hv⟩ := getL_mem hq
  obtain ⟨p, hp, e⟩ := h.keys _ _ hv
  obtain ⟨g1, g2⟩ := hg p (.inl hp)
  rw [e]
  exact ⟨g1.1.below hb, g2.1.below hb⟩
theorem good_oldV {w : World} {S D : List It2V} {p : It2V} (hg : ∀ q, q ∈ D ∨ q ∈ S ++ [p] → q.1.Good w ∧ q.2.Good w) : ∀ q, q ∈ p :: D ∨ q ∈ S → q.1.Good w ∧ q.2.Good w := by
  intro q hq
  rcases hq with hq | hq
  · rcases List.mem_cons.1 hq with rfl | hq
    · exact hg q (.inr (by simp))
    · exact hg q (.inl hq)
  · exact hg q (.inr (List.mem_append_left _ hq))
theorem good_newV {w : World} {S D : List It2V} {p : It2V} (hp : hsameV p = true) (hg : ∀ q, q ∈ D ∨ q ∈ S ++ [p] → q.1.Good w ∧ q.2.Good w) : ∀ q, q ∈ p :: D ∨ q ∈ S ++ kidPairsV p.1.F p.2.F p.1.F.len → q.1.Good w ∧ q.2.Good w := by
  intro q hq
  rcases hq with hq | hq
  · exact good_oldV hg q (.inl hq)
  · rcases List.mem_append.1 hq with hq | hq
    · exact good_oldV hg q (.inr hq)
    · obtain ⟨i, hi, rfl⟩ := kidPairs_memV.1 hq
      obtain ⟨g1, g2⟩ := hg p (.inr (by simp))
      have hl := ((hsame_iffV p).1 hp).2
      exact ⟨g1.2.at hi, g2.2.at (by omega)⟩
theorem LoopV.count {w : World} {top : It2V} {T : Nat} {S D : List It2V} {L : List (Pl2 × Value)} (h : LoopV w top T S L D) (x : Pl2) : ∃ n0 : Nat, (getL x L).getD (.int .i64 0) = .int .i64 n0 ∧ n0 ≤ T ∧ (n0 = 0 ∨ (1 ≤ n0 ∧ getL x L = some (.int .i64 n0))) := by
  cases hx : getL x L with
  | none => exact ⟨0, rfl, Nat.zero_le _, .inl rfl⟩
  | some v =>
    obtain ⟨n, rfl, h1, h2⟩ := h.vals x v hx
    have := h.room
    exact ⟨n, rfl, by omega, .inr ⟨h1, rfl⟩⟩
/-- what the loop keeps, in memory: so much is to be done yet -/
def SameInvV (w : World) (x y : ItV) (v : Value) (wr : World) (n : Nat) : Prop :=
  ∃ (S : List It2V) (L : List (Pl2 × Value)) (D : List It2V), LoopV w (x, y) (x.F.size + 1) S L D ∧ (∀ p, p ∈ D ∨ p ∈ S → p.1.Good w ∧ p.2.Good w) ∧ wr.ownsRow w.heap.size 90 12 v S.length (S.flatMap pcellsV) ∧ pl2KeysV.Has wr (w.heap.size + 1 + 1) L ∧ Below w.heap.size w wr ∧ wsumV S = n
end Go.Proofs.Ytalncebnahlmdaa
/- Two values that are the same, by the program: the region that counts a pair of lists. -/
namespace Go.Proofs.Ytalncebnahlmdaa
open Go.RowKit
theorem ok2_grownV {w w' : World} {p : Pl2} {mb : Nat} {L : List (Pl2 × Value)} (h : pl2KeysV.ok w p) (hg : w.grownBy w' (some mb)) (hm : pl2KeysV.Has w mb L) : pl2KeysV.ok w' p := by
  obtain ⟨es, clock, hh, _⟩ := hm
  exact ⟨h.1.grown hg hh, h.2.grown hg hh⟩
theorem stamp_isV {w : World} {b : Nat} {x : Pl2} {s : Nat} {L : List (Pl2 × Value)} (h : pl2KeysV.Stamp w b x s L) : pl2KeysV.Is w b L := by
  obtain ⟨es, clock, n, e, h1, h2, _⟩ := h
  exact ⟨es, clock, h1, h2⟩
set_option maxRecDepth 100000 in
set_option maxHeartbeats 1000000 in
theorem sa9V {Q : Exit → Act → World → Prop} {t0 t1 t2 t3 t4 t6 t7 t9 t10 t11 t12 t13 t14 t15 t16 t17 t18 t19 t20 t21 t22 t23 t24 t25 t26 t27 t28 t29 t30 t31 t32 t33 t34 t35 t36 t37 t38 t39 t40 t41 t42 t43 t44 t45 t46 t47 t48 t49 t50 t51 t52 t53 t54 t55 t56 t57 t58 t59 t60 t61 t62 t63 t64 t65 t66 : Value} {W : World} {mb B : Nat} {K : Pl2} {L : List (Pl2 × Value)} {n0 : Nat}
    (hm : pl2KeysV.Has W mb L) (hok : pl2KeysV.ok W K) (hoks : ∀ q ∈ L, pl2KeysV.ok W q.1) (hg0 : (getL K L).getD (.int .i64 0) = .int .i64 n0) (hn0 : n0 ≤ 2000000) (f : FourC B (.pointer K.1.1) (.int .i64 K.1.2) (.pointer K.2.1) (.int .i64 K.2.2) W) (hne : B ≠ mb)
    (hp : ∀ p d v a w, Q (.panic p) (Act.put a d v) w → Q (.panic p) a w) (h : ∀ ws v46 v47 v48 v49 v50 v51, pl2KeysV.Has ws mb (putL K (.int .i64 ((n0 : Int) + 1)) L) → W.grownBy ws (some mb) → ws.heap.size = W.heap.size → Q .normal { tmps := (t0 :: t1 :: t2 :: t3 :: t4 :: .map (some mb) :: t6 :: t7 :: .pointer (some ⟨B, 0, none⟩) :: t9 :: t10 :: t11 :: t12 :: t13 :: t14 :: t15 :: t16 :: t17 :: t18 :: t19 :: t20 :: t21 :: t22 :: t23 :: t24 :: t25 :: t26 :: t27 :: t28 :: t29 :: t30 :: t31 :: t32 :: t33 :: t34 :: t35 :: t36 :: t37 :: t38 :: t39 :: t40 :: t41 :: t42 :: t43 :: t44 :: t45 :: v46 :: v47 :: v48 :: v49 :: v50 :: v51 :: t52 :: t53 :: t54 :: t55 :: t56 :: t57 :: t58 :: t59 :: t60 :: t61 :: t62 :: t63 :: t64 :: t65 :: t66 :: []).toArray, defers := [] } ws) :
    Code.wp Try.prog (Code.region 9 #[{ dst := some 46, op := Op.move (Operand.tmp 5), type := 88, pos := "l3_tree.go:384", after := #[], guard := none }, { dst := some 47, op := Op.load 93 (Operand.tmp 8), type := 93, pos := "l3_tree.go:384", after := #[], guard := none }, { dst := some 48, op := Op.lookup 88 (Operand.tmp 46) (Operand.tmp 47) false, type := 3, pos := "l3_tree.go:384", after := #[{ on := 0, ground := Ground.data }, { on := 1, ground := Ground.data }], guard := none }, { dst := some 49, op := Op.binOp BinOp.add 3 (Operand.tmp 48) (Operand.const (Value.int IntKind.i64 1)) 3, type := 3, pos := "l3_tree.go:384", after := #[{ on := 2, ground := Ground.data }], guard := none }, { dst := some 50, op := Op.mapEntry 88 (Operand.tmp 46) (Operand.tmp 47), type := 0, pos := "l3_tree.go:384", after := #[{ on := 0, ground := Ground.data }, { on := 1, ground := Ground.data }, { on := 0, ground := Ground.phase }, { on := 1, ground := Ground.phase }, { on := 2, ground := Ground.textOnly Departure.mapOpAssignEntry }, { on := 3, ground := Ground.textOnly Departure.mapOpAssignEntry }], guard := none }, { dst := some 51, op := Op.extract (Operand.tmp 50) 1, type := 3, pos := "l3_tree.go:384", after := #[{ on := 4, ground := Ground.data }], guard := none }, { dst := none, op := Op.entryStore 88 (Operand.tmp 46) (Operand.tmp 51) (Operand.tmp 49), type := 0, pos := "l3_tree.go:384", after := #[{ on := 0, ground := Ground.data }, { on := 5, ground := Ground.data }, { on := 3, ground := Ground.data }, { on := 4, ground := Ground.chain }, { on := 0, ground := Ground.phase }, { on := 1, ground := Ground.phase }, { on := 2, ground := Ground.phase }, { on := 3, ground := Ground.phase }, { on := 4, ground := Ground.phase }, { on := 5, ground := Ground.phase }], guard := none }] true) Q { tmps := (t0 :: t1 :: t2 :: t3 :: t4 :: .map (some mb) :: t6 :: t7 :: .pointer (some ⟨B, 0, none⟩) :: t9 :: t10 :: t11 :: t12 :: t13 :: t14 :: t15 :: t16 :: t17 :: t18 :: t19 :: t20 :: t21 :: t22 :: t23 :: t24 :: t25 :: t26 :: t27 :: t28 :: t29 :: t30 :: t31 :: t32 :: t33 :: t34 :: t35 :: t36 :: t37 :: t38 :: t39 :: t40 :: t41 :: t42 :: t43 :: t44 :: t45 :: t46 :: t47 :: t48 :: t49 :: t50 :: t51 :: t52 :: t53 :: t54 :: t55 :: t56 :: t57 :: t58 :: t59 :: t60 :: t61 :: t62 :: t63 :: t64 :: t65 :: t66 :: []).toArray, defers := [] } W := by
  have hne' : some B ≠ some mb := fun e => hne (Option.some.inj e)
  have hz : ∀ w, (zeroValue 3).run Try.prog w = .ok (.int .i64 0) w := fun w => by kernel_rfl
  have hmD : pl2KeysV.Has W.drew mb L := hm.same _ rfl
  have hokD : pl2KeysV.ok W.drew K := hok
  have hoksD : ∀ q ∈ L, pl2KeysV.ok W.drew q.1 := hoks
  have fD : FourC B (.pointer K.1.1) (.int .i64 K.1.2) (.pointer K.2.1) (.int .i64 K.2.2) W.drew := f
  have hgD : W.grownBy W.drew (some mb) := ⟨rfl, rfl, rfl, Nat.le_refl _, fun _ _ _ => rfl⟩
  have hszD : W.drew.heap.size = W.heap.size := rfl
  clear hm hok hoks f
  refine wp_region_held_drew (S := fun w' => FourC B (.pointer K.1.1) (.int .i64 K.1.2) (.pointer K.2.1) (.int .i64 K.2.2) w') (by kernel_rfl) fD (fun hHeld => ?_)
  generalize W.drew = W9 at *
  have hl0 := pl2KeysV.look (mty := 88) (et := 3) Try.underlying88 K hokD hoksD hmD.is (hz W9)
  rw [hg0] at hl0
  have hlook : (Instr.lookup 88 (.map (some mb)) (.agg #[.pointer K.1.1, .int .i64 K.1.2, .pointer K.2.1, .int .i64 K.2.2]) false).run Try.prog W9 = .ok (.int .i64 n0) W9 := hl0
  obtain ⟨wm, st, hent0, hstp, hgr, hszm⟩ := pl2KeysV.entry (mty := 88) (et := 3) Try.underlying88 K hokD hoksD hmD (z := .int .i64 0) (hz _)
  rw [hg0] at hent0 hstp
  have hent : (Instr.mapEntry 88 (.map (some mb)) (.agg #[.pointer K.1.1, .int .i64 K.1.2, .pointer K.2.1, .int .i64 K.2.2])).run Try.prog W9 = .ok (.tuple #[.int .i64 n0, .int .i64 (st : Nat)]) wm := hent0
  have hkm : pl2KeysV.ok wm K := ok2_grownV hokD hgr hmD
  have hksm : ∀ q ∈ putL K (.int .i64 n0) L, pl2KeysV.ok wm q.1 := fun q hq => by
    rcases putL_keys K _ L q hq with e | hq
    · rw [e]; exact hkm
    · exact ok2_grownV (hoksD q hq) hgr hmD
  have hk0 := pl2KeysV.look (mty := 88) (et := 3) Try.underlying88 K hkm hksm (stamp_isV hstp) (hz wm)
  rw [getL_put, if_pos rfl] at hk0
  have hlookm : (Instr.lookup 88 (.map (some mb)) (.agg #[.pointer K.1.1, .int .i64 K.1.2, .pointer K.2.1, .int .i64 K.2.2]) false).run Try.prog wm = .ok (.int .i64 n0) wm := hk0
  obtain ⟨ws, hsto, hmS, hgrs, hszs⟩ := pl2KeysV.store (mty := 88) hstp (.int .i64 ((n0 : Int) + 1))
  rw [putL_putL] at hmS
  have fm : FourC B (.pointer K.1.1) (.int .i64 K.1.2) (.pointer K.2.1) (.int .i64 K.2.2) wm := FourC.grown hgr hne' hHeld
  have fs : FourC B (.pointer K.1.1) (.int .i64 K.1.2) (.pointer K.2.1) (.int .i64 K.2.2) ws := FourC.grown hgrs hne' fm
  have HG : Hid (W.grownBy ws (some mb)) := grown_trans hgD (grown_trans hgr hgrs)
  have HZ : Hid (ws.heap.size = W.heap.size) := hszs.trans (hszm.trans hszD)
  have HMS : Hid (pl2KeysV.Has ws mb (putL K (.int .i64 ((n0 : Int) + 1)) L)) := hmS
  have HF : Hid (FourC B (.pointer K.1.1) (.int .i64 K.1.2) (.pointer K.2.1) (.int .i64 K.2.2) W9) := hHeld
  have HFm : Hid (FourC B (.pointer K.1.1) (.int .i64 K.1.2) (.pointer K.2.1) (.int .i64 K.2.2) wm) := fm
  have HFs : Hid (FourC B (.pointer K.1.1) (.int .i64 K.1.2) (.pointer K.2.1) (.int .i64 K.2.2) ws) := fs
  clear hl0 hent0 hk0 hstp hkm hksm hmS hgD hszD hgr hgrs hszm hszs fm fs hokD hoksD hmD fD hz hg0
  refine wpAnyH_take (i := 0) (v := .map (some mb)) rfl (by kernel_rfl) (by kernel_rfl) (by kernel_rfl) (fun _ _ _ h => hp _ _ _ _ _ h) (Or.inl ⟨by rfl, ?_⟩) (by assumption) ?_
  · intro w hSw
    (try dsimp only at hSw)
    go_simp
  (try simp only [Act.put, List.getElem_toArray, List.getElem_cons_zero, List.setIfInBounds_toArray, List.set_cons_zero, List.set_cons_succ])
  refine wpAnyH_take (i := 1) (v := .agg #[.pointer K.1.1, .int .i64 K.1.2, .pointer K.2.1, .int .i64 K.2.2]) rfl (by kernel_rfl) (by kernel_rfl) (by kernel_rfl) (fun _ _ _ h => hp _ _ _ _ _ h) (Or.inl ⟨by rfl, ?_⟩) (by assumption) ?_
  · intro w hSw
    (try dsimp only at hSw)
    go_simp
  (try simp only [Act.put, List.getElem_toArray, List.getElem_cons_zero, List.getElem_cons_succ, List.setIfInBounds_toArray, List.set_cons_zero, List.set_cons_succ])
  refine wpAnyH_ready (rs := [2, 4]) (by kernel_rfl) (by simp) ?_
  refine AllReadyH.cons rfl (fun K hK => ?_) (AllReadyH.cons rfl (fun K hK => ?_) AllReadyH.nil)
  · go_simp
    refine hK.out _ _ HF.out (fun hHeld2 => ?_)
    clear hK K
    refine wpAnyH_take (i := 3) (v := .int .i64 ((n0 : Int) + 1)) rfl (by kernel_rfl) (by kernel_rfl) (by kernel_rfl) (fun _ _ _ h => hp _ _ _ _ _ h) (Or.inl ⟨by rfl, ?_⟩) (by assumption) ?_
    · intro w hSw
      (try dsimp only at hSw)
      (go_simp; rw [IntKind.wrap_i64]; omega)
    (try simp only [Act.put, List.getElem_toArray, List.getElem_cons_zero, List.getElem_cons_succ, List.setIfInBounds_toArray, List.set_cons_zero, List.set_cons_succ])
    refine wpAnyH_ready (rs := [4]) (by kernel_rfl) (by simp) ?_
    refine AllReadyH.cons rfl (fun K hK => ?_) AllReadyH.nil
    go_simp
    refine hK.out _ _ HFm.out (fun hHeld3 => ?_)
    clear hK K
    refine wpAnyH_take (i := 5) (v := .int .i64 (st : Nat)) rfl (by kernel_rfl) (by kernel_rfl) (by kernel_rfl) (fun _ _ _ h => hp _ _ _ _ _ h) (Or.inl ⟨by rfl, ?_⟩) (by assumption) ?_
    · intro w hSw
      (try dsimp only at hSw)
      go_simp
    (try simp only [Act.put, List.getElem_toArray, List.getElem_cons_zero, List.getElem_cons_succ, List.setIfInBounds_toArray, List.set_cons_zero, List.set_cons_succ])
    refine wpAnyH_ready (rs := [6]) (by kernel_rfl) (by simp) ?_
    refine AllReadyH.cons rfl (fun K hK => ?_) AllReadyH.nil
    go_simp
    refine hK.out _ _ HFs.out (fun hHeld4 => ?_)
    clear hK K
    refine wpAnyH_done (by kernel_rfl) ?_ _
    exact h _ _ _ _ _ _ _ HMS.out HG.out HZ.out
  · go_simp
    refine hK.out _ _ HFm.out (fun hHeld2 => ?_)
    clear hK K
    refine wpAnyH_take (i := 5) (v := .int .i64 (st : Nat)) rfl (by kernel_rfl) (by kernel_rfl) (by kernel_rfl) (fun _ _ _ h => hp _ _ _ _ _ h) (Or.inl ⟨by rfl, ?_⟩) (by assumption) ?_
    · intro w hSw
      (try dsimp only at hSw)
      go_simp
    (try simp only [Act.put, List.getElem_toArray, List.getElem_cons_zero, List.getElem_cons_succ, List.setIfInBounds_toArray, List.set_cons_zero, List.set_cons_succ])
    refine wpAnyH_ready (rs := [2]) (by kernel_rfl) (by simp) ?_
    refine AllReadyH.cons rfl (fun K hK => ?_) AllReadyH.nil
    go_simp
    refine hK.out _ _ HFm.out (fun hHeld3 => ?_)
    clear hK K
    refine wpAnyH_take (i := 3) (v := .int .i64 ((n0 : Int) + 1)) rfl (by kernel_rfl) (by kernel_rfl) (by kernel_rfl) (fun _ _ _ h => hp _ _ _ _ _ h) (Or.inl ⟨by rfl, ?_⟩) (by assumption) ?_
    · intro w hSw
      (try dsimp only at hSw)
      (go_simp; rw [IntKind.wrap_i64]; omega)
    (try simp only [Act.put, List.getElem_toArray, List.getElem_cons_zero, List.getElem_cons_succ, List.setIfInBounds_toArray, List.set_cons_zero, List.set_cons_succ])
    refine wpAnyH_ready (rs := [6]) (by kernel_rfl) (by simp) ?_
    refine AllReadyH.cons rfl (fun K hK => ?_) AllReadyH.nil
    go_simp
    refine hK.out _ _ HFs.out (fun hHeld4 => ?_)
    clear hK K
    refine wpAnyH_done (by kernel_rfl) ?_ _
    exact h _ _ _ _ _ _ _ HMS.out HG.out HZ.out
end Go.Proofs.Ytalncebnahlmdaa
/- Two trees that are the same, by the program: the region that makes the pair of places of two lists. -/
namespace Go.Proofs.Ytalncebnahlmdaa
open Go.RowKit
/-- four cells of a block, that may be written -/
def Four (w : World) (b : Nat) (v0 v1 v2 v3 : Value) : Prop := (w.cell? ⟨b, 0, none⟩ = some v0 ∧ w.cell? ⟨b, 1, none⟩ = some v1 ∧ w.cell? ⟨b, 2, none⟩ = some v2 ∧ w.cell? ⟨b, 3, none⟩ = some v3) ∧ (w.frozen? ⟨b, 0, none⟩ = false ∧ w.frozen? ⟨b, 1, none⟩ = false ∧ w.frozen? ⟨b, 2, none⟩ = false ∧ w.frozen? ⟨b, 3, none⟩ = false)
theorem Four.new (w : World) (v0 v1 v2 v3 : Value) (T : TypeId) : Four (w.alloc (.cells #[v0, v1, v2, v3] T)) w.heap.size v0 v1 v2 v3 := by
  refine ⟨⟨?_, ?_, ?_, ?_⟩, ?_, ?_, ?_, ?_⟩ <;> simp
theorem Four.lt {w : World} {b : Nat} {v0 v1 v2 v3 : Value} (h : Four w b v0 v1 v2 v3) : b < w.heap.size := World.block_lt_of_cell? w _ h.1.1
theorem Four.below {B : Nat} {w w' : World} {b : Nat} {v0 v1 v2 v3 : Value} (h : Four w b v0 v1 v2 v3) (hb : Below B w w') (hB : b < B) : Four w' b v0 v1 v2 v3 := by
  obtain ⟨⟨a0, a1, a2, a3⟩, f0, f1, f2, f3⟩ := h
  exact ⟨⟨(hb.cell (p := ⟨b, 0, none⟩) hB).trans a0, (hb.cell (p := ⟨b, 1, none⟩) hB).trans a1, (hb.cell (p := ⟨b, 2, none⟩) hB).trans a2, (hb.cell (p := ⟨b, 3, none⟩) hB).trans a3⟩, (hb.frozen (p := ⟨b, 0, none⟩) hB).trans f0, (hb.frozen (p := ⟨b, 1, none⟩) hB).trans f1, (hb.frozen (p := ⟨b, 2, none⟩) hB).trans f2, (hb.frozen (p := ⟨b, 3, none⟩) hB).trans f3⟩
theorem Four.drew {w : World} {b : Nat} {v0 v1 v2 v3 : Value} (h : Four w b v0 v1 v2 v3) : Four w.drew b v0 v1 v2 v3 := h.below ((Below.refl _ _).drew) h.lt
/-- a pair in its box -/
abbrev Ten (pb : Nat) (xk : Int) (xt : ByteArray) (xm xe : Int) (sx : Value) (yk : Int) (yt : ByteArray) (ym ye : Int) (sy : Value) (w : World) : Prop :=
  (w.cell? ⟨pb, 0, none⟩ = some (.int .i64 xk) ∧ w.cell? ⟨pb, 1, none⟩ = some (.string xt) ∧ w.cell? ⟨pb, 2, none⟩ = some (.int .i64 xm) ∧ w.cell? ⟨pb, 3, none⟩ = some (.int .i64 xe) ∧ w.cell? ⟨pb, 4, none⟩ = some sx) ∧
  (w.cell? ⟨pb, 5, none⟩ = some (.int .i64 yk) ∧ w.cell? ⟨pb, 6, none⟩ = some (.string yt) ∧ w.cell? ⟨pb, 7, none⟩ = some (.int .i64 ym) ∧ w.cell? ⟨pb, 8, none⟩ = some (.int .i64 ye) ∧ w.cell? ⟨pb, 9, none⟩ = some sy)
theorem Ten.same {w w' : World} {pb : Nat} {xk : Int} {xt : ByteArray} {xm xe : Int} {sx : Value} {yk : Int} {yt : ByteArray} {ym ye : Int} {sy : Value} (h : Ten pb xk xt xm xe sx yk yt ym ye sy w) (hb : w'.heap[pb]? = w.heap[pb]?) : Ten pb xk xt xm xe sx yk yt ym ye sy w' := by
  have c : ∀ o, w'.cell? ⟨pb, o, none⟩ = w.cell? ⟨pb, o, none⟩ := fun o => World.cell?_of_block (a := ⟨pb, o, none⟩) hb
  obtain ⟨⟨a0, a1, a2, a3, a4⟩, a5, a6, a7, a8, a9⟩ := h
  exact ⟨⟨(c 0).trans a0, (c 1).trans a1, (c 2).trans a2, (c 3).trans a3, (c 4).trans a4⟩, (c 5).trans a5, (c 6).trans a6, (c 7).trans a7, (c 8).trans a8, (c 9).trans a9⟩
theorem Ten.lt {w : World} {pb : Nat} {xk : Int} {xt : ByteArray} {xm xe : Int} {sx : Value} {yk : Int} {yt : ByteArray} {ym ye : Int} {sy : Value} (h : Ten pb xk xt xm xe sx yk yt ym ye sy w) : pb < w.heap.size := World.block_lt_of_cell? _ _ h.1.1
end Go.Proofs.Ytalncebnahlmdaa
/- Two values that are the same, by the program: the region that makes the pair of places of two lists. -/
namespace Go.Proofs.Ytalncebnahlmdaa
open Go.RowKit
theorem len_orV {w : World} {F : Vo} {a : Option Addr} (h : F.In w a) : F.len = 0 ∨ ∃ b o, a = some ⟨b, o, none⟩ := by
  rcases h with rfl | ⟨b, o, e, _⟩
  · exact .inl rfl
  · exact .inr ⟨b, o, e⟩
/-- a pair in its box -/
abbrev TwoV (pb : Nat) (x : Hd) (sx : Value) (y : Hd) (sy : Value) (w : World) : Prop :=
  (w.cell? ⟨pb, 0, none⟩ = some (.int .i64 x.k) ∧ w.cell? ⟨pb, 1, none⟩ = some (.int .i64 x.m) ∧ w.cell? ⟨pb, 2, none⟩ = some (.int .i64 x.e) ∧ w.cell? ⟨pb, 3, none⟩ = some (.string x.t) ∧ w.cell? ⟨pb, 4, none⟩ = some sx ∧ w.cell? ⟨pb, 5, none⟩ = some (.slice x.na x.ns.length x.nc)) ∧
  (w.cell? ⟨pb, 6, none⟩ = some (.int .i64 y.k) ∧ w.cell? ⟨pb, 7, none⟩ = some (.int .i64 y.m) ∧ w.cell? ⟨pb, 8, none⟩ = some (.int .i64 y.e) ∧ w.cell? ⟨pb, 9, none⟩ = some (.string y.t) ∧ w.cell? ⟨pb, 10, none⟩ = some sy ∧ w.cell? ⟨pb, 11, none⟩ = some (.slice y.na y.ns.length y.nc))
theorem TwoV.same {w w' : World} {pb : Nat} {x y : Hd} {sx sy : Value} (h : TwoV pb x sx y sy w) (hb : w'.heap[pb]? = w.heap[pb]?) : TwoV pb x sx y sy w' := by
  have c : ∀ o, w'.cell? ⟨pb, o, none⟩ = w.cell? ⟨pb, o, none⟩ := fun o => World.cell?_of_block (a := ⟨pb, o, none⟩) hb
  obtain ⟨⟨a0, a1, a2, a3, a4, a5⟩, a6, a7, a8, a9, a10, a11⟩ := h
  exact ⟨⟨(c 0).trans a0, (c 1).trans a1, (c 2).trans a2, (c 3).trans a3, (c 4).trans a4, (c 5).trans a5⟩, (c 6).trans a6, (c 7).trans a7, (c 8).trans a8, (c 9).trans a9, (c 10).trans a10, (c 11).trans a11⟩
theorem TwoV.lt {w : World} {pb : Nat} {x y : Hd} {sx sy : Value} (h : TwoV pb x sx y sy w) : pb < w.heap.size := World.block_lt_of_cell? _ _ h.1.1
/-- a pair in its box, and nothing old changed -/
abbrev HeldB (W : World) (pb : Nat) (x : Hd) (sx : Value) (y : Hd) (sy : Value) (w : World) : Prop :=
  TwoV pb x sx y sy w ∧ Below W.heap.size W w
set_option maxRecDepth 100000 in
set_option maxHeartbeats 2000000 in
theorem sa8V {Q : Exit → Act → World → Prop} {t0 t1 t2 t3 t4 t5 t6 t8 t9 t10 t11 t12 t13 t14 t15 t16 t17 t18 t19 t20 t21 t22 t23 t24 t25 t26 t27 t28 t29 t30 t31 t32 t33 t34 t35 t36 t37 t38 t39 t40 t41 t42 t43 t44 t45 t46 t47 t48 t49 t50 t51 t52 t53 t54 t55 t56 t57 t58 t59 t60 t61 t62 t63 t64 t65 t66 : Value} {W : World} {pb : Nat} {xh : Hd} {xa : Option Addr} {xn xc : Nat} {yh : Hd} {ya : Option Addr} {yn yc : Nat}
    (hT : TwoV pb xh (.slice xa xn xc) yh (.slice ya yn yc) W) (hxa : xn = 0 ∨ ∃ b o, xa = some ⟨b, o, none⟩) (hya : yn = 0 ∨ ∃ b o, ya = some ⟨b, o, none⟩) (hxl : xn ≤ 2000000) (hyl : yn ≤ 2000000)
    (hp : ∀ p d v a w, Q (.panic p) (Act.put a d v) w → Q (.panic p) a w) (h : ∀ WE B v35 v36 v37 v38 v39 v40 v41 v42 v43 v44 v45, Below W.heap.size W WE → W.heap.size ≤ B → FourC B (.pointer (plOf xa xn).1) (.int .i64 (plOf xa xn).2) (.pointer (plOf ya yn).1) (.int .i64 (plOf ya yn).2) WE → Q .normal { tmps := (t0 :: t1 :: t2 :: t3 :: t4 :: t5 :: t6 :: .pointer (some ⟨pb, 0, none⟩) :: .pointer (some ⟨B, 0, none⟩) :: t9 :: t10 :: t11 :: t12 :: t13 :: t14 :: t15 :: t16 :: t17 :: t18 :: t19 :: t20 :: t21 :: t22 :: t23 :: t24 :: t25 :: t26 :: t27 :: t28 :: t29 :: t30 :: t31 :: t32 :: t33 :: t34 :: v35 :: v36 :: v37 :: v38 :: v39 :: v40 :: v41 :: v42 :: v43 :: v44 :: v45 :: t46 :: t47 :: t48 :: t49 :: t50 :: t51 :: t52 :: t53 :: t54 :: t55 :: t56 :: t57 :: t58 :: t59 :: t60 :: t61 :: t62 :: t63 :: t64 :: t65 :: t66 :: []).toArray, defers := [] } WE) :
    Code.wp Try.prog (Code.region 8 #[{ dst := some 35, op := Op.fieldAddr 90 (Operand.tmp 7) 0, type := 0, pos := "l3_tree.go:383", after := #[], guard := none }, { dst := some 36, op := Op.load 28 (Operand.tmp 35), type := 28, pos := "l3_tree.go:383", after := #[{ on := 0, ground := Ground.data }], guard := none }, { dst := some 37, op := Op.makeInterface 28 (Operand.tmp 36), type := 20, pos := "l3_tree.go:383", after := #[{ on := 1, ground := Ground.data }], guard := none }, { dst := some 38, op := Op.call { callee := Callee.invoke (Operand.tmp 37) "loop.example/chancery/impl.below", args := #[], argTypes := #[] }, type := 25, pos := "l3_tree.go:383", after := #[{ on := 2, ground := Ground.data }], guard := none }, { dst := some 39, op := Op.call { callee := Callee.value (Operand.func 51), args := #[Operand.tmp 38], argTypes := #[25] }, type := 84, pos := "l3_tree.go:383", after := #[{ on := 3, ground := Ground.data }, { on := 3, ground := Ground.chain }], guard := none }, { dst := some 40, op := Op.fieldAddr 90 (Operand.tmp 7) 1, type := 0, pos := "l3_tree.go:383", after := #[], guard := none }, { dst := some 41, op := Op.load 28 (Operand.tmp 40), type := 28, pos := "l3_tree.go:383", after := #[{ on := 5, ground := Ground.data }], guard := none }, { dst := some 42, op := Op.makeInterface 28 (Operand.tmp 41), type := 20, pos := "l3_tree.go:383", after := #[{ on := 6, ground := Ground.data }], guard := none }, { dst := some 43, op := Op.call { callee := Callee.invoke (Operand.tmp 42) "loop.example/chancery/impl.below", args := #[], argTypes := #[] }, type := 25, pos := "l3_tree.go:383", after := #[{ on := 7, ground := Ground.data }, { on := 4, ground := Ground.chain }], guard := none }, { dst := some 44, op := Op.call { callee := Callee.value (Operand.func 51), args := #[Operand.tmp 43], argTypes := #[25] }, type := 84, pos := "l3_tree.go:383", after := #[{ on := 8, ground := Ground.data }, { on := 8, ground := Ground.chain }], guard := none }, { dst := some 45, op := Op.build 93 #[(0, Operand.tmp 39), (1, Operand.tmp 44)], type := 93, pos := "l3_tree.go:383", after := #[{ on := 4, ground := Ground.data }, { on := 9, ground := Ground.data }], guard := none }, { dst := some 8, op := Op.alloc 93, type := 0, pos := "l3_tree.go:383", after := #[], guard := none }, { dst := none, op := Op.store 93 (Operand.tmp 8) (Operand.tmp 45), type := 0, pos := "l3_tree.go:383", after := #[{ on := 11, ground := Ground.data }, { on := 10, ground := Ground.data }, { on := 9, ground := Ground.chain }, { on := 0, ground := Ground.phase }, { on := 1, ground := Ground.phase }, { on := 2, ground := Ground.phase }, { on := 3, ground := Ground.phase }, { on := 4, ground := Ground.phase }, { on := 5, ground := Ground.phase }, { on := 6, ground := Ground.phase }, { on := 7, ground := Ground.phase }, { on := 8, ground := Ground.phase }, { on := 9, ground := Ground.phase }, { on := 10, ground := Ground.phase }, { on := 11, ground := Ground.phase }], guard := none }] true) Q { tmps := (t0 :: t1 :: t2 :: t3 :: t4 :: t5 :: t6 :: .pointer (some ⟨pb, 0, none⟩) :: t8 :: t9 :: t10 :: t11 :: t12 :: t13 :: t14 :: t15 :: t16 :: t17 :: t18 :: t19 :: t20 :: t21 :: t22 :: t23 :: t24 :: t25 :: t26 :: t27 :: t28 :: t29 :: t30 :: t31 :: t32 :: t33 :: t34 :: t35 :: t36 :: t37 :: t38 :: t39 :: t40 :: t41 :: t42 :: t43 :: t44 :: t45 :: t46 :: t47 :: t48 :: t49 :: t50 :: t51 :: t52 :: t53 :: t54 :: t55 :: t56 :: t57 :: t58 :: t59 :: t60 :: t61 :: t62 :: t63 :: t64 :: t65 :: t66 :: []).toArray, defers := [] } W := by
  have hmeth := belowV_method
  have hpl := hT.lt
  have HSof : Hid (∀ w', Below W.heap.size W w' → HeldB W pb xh (.slice xa xn xc) yh (.slice ya yn yc) w') := fun w' h => ⟨hT.same (h.block _ hpl), h⟩
  have hS0 := HSof.out _ ((Below.refl _ W).drew)
  clear hT
  refine wp_region_held_drew (S := fun w' => HeldB W pb xh (.slice xa xn xc) yh (.slice ya yn yc) w') (by kernel_rfl) hS0 (fun hHeld => ?_)
  refine wpAnyH_take (i := 0) (v := .pointer (some ⟨pb, 0, none⟩)) rfl (by kernel_rfl) (by kernel_rfl) (by kernel_rfl) (fun _ _ _ h => hp _ _ _ _ _ h) (Or.inl ⟨by rfl, ?_⟩) (by assumption) ?_
  · intro w hSw
    (try dsimp only at hSw)
    go_simp
  (try simp only [Act.put, List.getElem_toArray, List.getElem_cons_zero, List.setIfInBounds_toArray, List.set_cons_zero, List.set_cons_succ])
  refine wpAnyH_take (i := 1) (v := valV xh xa xn xc) rfl (by kernel_rfl) (by kernel_rfl) (by kernel_rfl) (fun _ _ _ h => hp _ _ _ _ _ h) (Or.inl ⟨by rfl, ?_⟩) (by assumption) ?_
  · intro w hSw
    (try dsimp only at hSw)
    go_simp
  (try simp only [Act.put, List.getElem_toArray, List.getElem_cons_zero, List.getElem_cons_succ, List.setIfInBounds_toArray, List.set_cons_zero, List.set_cons_succ])
  refine wpAnyH_take (i := 2) (v := .iface 28 (valV xh xa xn xc)) rfl (by kernel_rfl) (by kernel_rfl) (by kernel_rfl) (fun _ _ _ h => hp _ _ _ _ _ h) (Or.inl ⟨by rfl, ?_⟩) (by assumption) ?_
  · intro w hSw
    (try dsimp only at hSw)
    go_simp
  (try simp only [Act.put, List.getElem_toArray, List.getElem_cons_zero, List.getElem_cons_succ, List.setIfInBounds_toArray, List.set_cons_zero, List.set_cons_succ])
  refine wpAnyH_take (i := 5) (v := .pointer (some ⟨pb, 6, none⟩)) rfl (by kernel_rfl) (by kernel_rfl) (by kernel_rfl) (fun _ _ _ h => hp _ _ _ _ _ h) (Or.inl ⟨by rfl, ?_⟩) (by assumption) ?_
  · intro w hSw
    (try dsimp only at hSw)
    go_simp
  (try simp only [Act.put, List.getElem_toArray, List.getElem_cons_zero, List.getElem_cons_succ, List.setIfInBounds_toArray, List.set_cons_zero, List.set_cons_succ])
  refine wpAnyH_take (i := 6) (v := valV yh ya yn yc) rfl (by kernel_rfl) (by kernel_rfl) (by kernel_rfl) (fun _ _ _ h => hp _ _ _ _ _ h) (Or.inl ⟨by rfl, ?_⟩) (by assumption) ?_
  · intro w hSw
    (try dsimp only at hSw)
    go_simp
  (try simp only [Act.put, List.getElem_toArray, List.getElem_cons_zero, List.getElem_cons_succ, List.setIfInBounds_toArray, List.set_cons_zero, List.set_cons_succ])
  refine wpAnyH_take (i := 7) (v := .iface 28 (valV yh ya yn yc)) rfl (by kernel_rfl) (by kernel_rfl) (by kernel_rfl) (fun _ _ _ h => hp _ _ _ _ _ h) (Or.inl ⟨by rfl, ?_⟩) (by assumption) ?_
  · intro w hSw
    (try dsimp only at hSw)
    go_simp
  (try simp only [Act.put, List.getElem_toArray, List.getElem_cons_zero, List.getElem_cons_succ, List.setIfInBounds_toArray, List.set_cons_zero, List.set_cons_succ])
  have hBW := (Below.refl W.heap.size W).drew
  refine wpAnyH_ready (rs := [3, 11]) (by kernel_rfl) (by simp) ?_
  refine AllReadyH.cons rfl (fun K hK => ?_) (AllReadyH.cons rfl (fun K hK => ?_) AllReadyH.nil)
  · skip
    go_simp
    refine (belowV_any xh xa xn xc _).mono ?_
    rintro r wn0 ⟨rfl, hbn⟩
    have hBn := hBW.trans (hbn.mono hBW.size)
    go_wp2_with fail
    refine hK.out _ _ (HSof.out _ hBn) (fun hHeld => ?_)
    clear hK K hBW hbn
    have hBW := hBn
    clear hBn
    refine wpAnyH_ready (rs := [4, 11]) (by kernel_rfl) (by simp) ?_
    refine AllReadyH.cons rfl (fun K hK => ?_) (AllReadyH.cons rfl (fun K hK => ?_) AllReadyH.nil)
    · skip
      go_simp
      refine (placeOfV_any xa xn xc _ hxa hxl).mono ?_
      rintro r wn1 ⟨rfl, hbn⟩
      have hBn := hBW.trans (hbn.mono hBW.size)
      go_wp2_with fail
      refine hK.out _ _ (HSof.out _ hBn) (fun hHeld => ?_)
      clear hK K hBW hbn
      have hBW := hBn
      clear hBn
      refine wpAnyH_ready (rs := [8, 11]) (by kernel_rfl) (by simp) ?_
      refine AllReadyH.cons rfl (fun K hK => ?_) (AllReadyH.cons rfl (fun K hK => ?_) AllReadyH.nil)
      · skip
        go_simp
        refine (belowV_any yh ya yn yc _).mono ?_
        rintro r wn2 ⟨rfl, hbn⟩
        have hBn := hBW.trans (hbn.mono hBW.size)
        go_wp2_with fail
        refine hK.out _ _ (HSof.out _ hBn) (fun hHeld => ?_)
        clear hK K hBW hbn
        have hBW := hBn
        clear hBn
        refine wpAnyH_ready (rs := [9, 11]) (by kernel_rfl) (by simp) ?_
        refine AllReadyH.cons rfl (fun K hK => ?_) (AllReadyH.cons rfl (fun K hK => ?_) AllReadyH.nil)
        · skip
          go_simp
          refine (placeOfV_any ya yn yc _ hya hyl).mono ?_
          rintro r wn3 ⟨rfl, hbn⟩
          have hBn := hBW.trans (hbn.mono hBW.size)
          go_wp2_with fail
          refine hK.out _ _ (HSof.out _ hBn) (fun hHeld => ?_)
          clear hK K hBW hbn
          have hBW := hBn
          clear hBn
          refine wpAnyH_take (i := 10) (v := pl2V (plOf xa xn, plOf ya yn)) rfl (by kernel_rfl) (by kernel_rfl) (by kernel_rfl) (fun _ _ _ h => hp _ _ _ _ _ h) (Or.inl ⟨by rfl, ?_⟩) (by assumption) ?_
          · intro w hSw
            (try dsimp only at hSw)
            unfold plV pl2V
            go_simp
          (try simp only [Act.put, List.getElem_toArray, List.getElem_cons_zero, List.getElem_cons_succ, List.setIfInBounds_toArray, List.set_cons_zero, List.set_cons_succ])
          refine wpAnyH_ready (rs := [11]) (by kernel_rfl) (by simp) ?_
          refine AllReadyH.cons rfl (fun K hK => ?_) AllReadyH.nil
          go_simp
          have hBn : Below W.heap.size W (wn3.alloc (.cells #[.pointer none, .int .i64 0, .pointer none, .int .i64 0] 93)) := hBW.alloc hBW.size _
          have hfour : Four (wn3.alloc (.cells #[.pointer none, .int .i64 0, .pointer none, .int .i64 0] 93)) wn3.heap.size (.pointer none) (.int .i64 0) (.pointer none) (.int .i64 0) := Four.new wn3 _ _ _ _ _
          refine hK.out _ _ (HSof.out _ hBn) (fun hHeld => ?_)
          have hBsz := hBW.size
          clear hK K hBW
          have hBW := hBn
          clear hBn
          obtain ⟨B, hBd⟩ : ∃ B, wn3.heap.size = B := ⟨_, rfl⟩
          have hBge : W.heap.size ≤ B := by omega
          rw [hBd] at hfour ⊢
          clear hBd
          generalize (wn3.alloc (.cells #[.pointer none, .int .i64 0, .pointer none, .int .i64 0] 93)) = WA at *
          obtain ⟨⟨f0, f1, f2, f3⟩, g0, g1, g2, g3⟩ := hfour
          refine wpAnyH_ready (rs := [12]) (by kernel_rfl) (by simp) ?_
          refine AllReadyH.cons rfl (fun K hK => ?_) AllReadyH.nil
          unfold pl2V
          go_simp
          have hWE : Below W.heap.size W ((((WA.setCell ⟨B, 0, none⟩ (.pointer (plOf xa xn).1)).setCell ⟨B, 1, none⟩ (.int .i64 (plOf xa xn).2)).setCell ⟨B, 2, none⟩ (.pointer (plOf ya yn).1)).setCell ⟨B, 3, none⟩ (.int .i64 (plOf ya yn).2)) := (((hBW.setCell (p := ⟨B, 0, none⟩) hBge _).setCell (p := ⟨B, 1, none⟩) hBge _).setCell (p := ⟨B, 2, none⟩) hBge _).setCell (p := ⟨B, 3, none⟩) hBge _
          have e0 : ((((WA.setCell ⟨B, 0, none⟩ (.pointer (plOf xa xn).1)).setCell ⟨B, 1, none⟩ (.int .i64 (plOf xa xn).2)).setCell ⟨B, 2, none⟩ (.pointer (plOf ya yn).1)).setCell ⟨B, 3, none⟩ (.int .i64 (plOf ya yn).2)).cell? ⟨B, 0, none⟩ = some (.pointer (plOf xa xn).1) := by rw [set_far (by omega), set_far (by omega), set_far (by omega)]; exact set_near ⟨_, f0⟩
          have e1 : ((((WA.setCell ⟨B, 0, none⟩ (.pointer (plOf xa xn).1)).setCell ⟨B, 1, none⟩ (.int .i64 (plOf xa xn).2)).setCell ⟨B, 2, none⟩ (.pointer (plOf ya yn).1)).setCell ⟨B, 3, none⟩ (.int .i64 (plOf ya yn).2)).cell? ⟨B, 1, none⟩ = some (.int .i64 (plOf xa xn).2) := by rw [set_far (by omega), set_far (by omega)]; exact set_near (set_is ⟨_, f1⟩)
          have e2 : ((((WA.setCell ⟨B, 0, none⟩ (.pointer (plOf xa xn).1)).setCell ⟨B, 1, none⟩ (.int .i64 (plOf xa xn).2)).setCell ⟨B, 2, none⟩ (.pointer (plOf ya yn).1)).setCell ⟨B, 3, none⟩ (.int .i64 (plOf ya yn).2)).cell? ⟨B, 2, none⟩ = some (.pointer (plOf ya yn).1) := by rw [set_far (by omega)]; exact set_near (set_is (set_is ⟨_, f2⟩))
          have e3 : ((((WA.setCell ⟨B, 0, none⟩ (.pointer (plOf xa xn).1)).setCell ⟨B, 1, none⟩ (.int .i64 (plOf xa xn).2)).setCell ⟨B, 2, none⟩ (.pointer (plOf ya yn).1)).setCell ⟨B, 3, none⟩ (.int .i64 (plOf ya yn).2)).cell? ⟨B, 3, none⟩ = some (.int .i64 (plOf ya yn).2) := set_near (set_is (set_is (set_is ⟨_, f3⟩)))
          generalize (((WA.setCell ⟨B, 0, none⟩ (.pointer (plOf xa xn).1)).setCell ⟨B, 1, none⟩ (.int .i64 (plOf xa xn).2)).setCell ⟨B, 2, none⟩ (.pointer (plOf ya yn).1)).setCell ⟨B, 3, none⟩ (.int .i64 (plOf ya yn).2) = WE at *
          refine hK.out _ _ (HSof.out _ hWE) (fun hHeld => ?_)
          clear hK K f0 f1 f2 f3 g0 g1 g2 g3 hBW
          refine wpAnyH_done (by kernel_rfl) ?_ _
          exact h _ _ _ _ _ _ _ _ _ _ _ _ _ hWE hBge ⟨e0, e1, e2, e3⟩
        · skip
          go_simp
          have hBn : Below W.heap.size W (wn2.alloc (.cells #[.pointer none, .int .i64 0, .pointer none, .int .i64 0] 93)) := hBW.alloc hBW.size _
          have hfour : Four (wn2.alloc (.cells #[.pointer none, .int .i64 0, .pointer none, .int .i64 0] 93)) wn2.heap.size (.pointer none) (.int .i64 0) (.pointer none) (.int .i64 0) := Four.new wn2 _ _ _ _ _
          refine hK.out _ _ (HSof.out _ hBn) (fun hHeld => ?_)
          have hBsz := hBW.size
          clear hK K hBW
          have hBW := hBn
          clear hBn
          obtain ⟨B, hBd⟩ : ∃ B, wn2.heap.size = B := ⟨_, rfl⟩
          have hBge : W.heap.size ≤ B := by omega
          rw [hBd] at hfour ⊢
          clear hBd
          generalize (wn2.alloc (.cells #[.pointer none, .int .i64 0, .pointer none, .int .i64 0] 93)) = WA at *
          refine wpAnyH_ready (rs := [9]) (by kernel_rfl) (by simp) ?_
          refine AllReadyH.cons rfl (fun K hK => ?_) AllReadyH.nil
          go_simp
          refine (placeOfV_any ya yn yc _ hya hyl).mono ?_
          rintro r wn3 ⟨rfl, hbn⟩
          have hBn := hBW.trans (hbn.mono hBW.size)
          have hfn := hfour.below hbn hfour.lt
          clear hfour
          have hfour := hfn
          clear hfn
          go_wp2_with fail
          refine hK.out _ _ (HSof.out _ hBn) (fun hHeld => ?_)
          clear hK K hBW hbn
          have hBW := hBn
          clear hBn
          refine wpAnyH_take (i := 10) (v := pl2V (plOf xa xn, plOf ya yn)) rfl (by kernel_rfl) (by kernel_rfl) (by kernel_rfl) (fun _ _ _ h => hp _ _ _ _ _ h) (Or.inl ⟨by rfl, ?_⟩) (by assumption) ?_
          · intro w hSw
            (try dsimp only at hSw)
            unfold plV pl2V
            go_simp
          (try simp only [Act.put, List.getElem_toArray, List.getElem_cons_zero, List.getElem_cons_succ, List.setIfInBounds_toArray, List.set_cons_zero, List.set_cons_succ])
          obtain ⟨⟨f0, f1, f2, f3⟩, g0, g1, g2, g3⟩ := hfour
          refine wpAnyH_ready (rs := [12]) (by kernel_rfl) (by simp) ?_
          refine AllReadyH.cons rfl (fun K hK => ?_) AllReadyH.nil
          unfold pl2V
          go_simp
          have hWE : Below W.heap.size W ((((wn3.setCell ⟨B, 0, none⟩ (.pointer (plOf xa xn).1)).setCell ⟨B, 1, none⟩ (.int .i64 (plOf xa xn).2)).setCell ⟨B, 2, none⟩ (.pointer (plOf ya yn).1)).setCell ⟨B, 3, none⟩ (.int .i64 (plOf ya yn).2)) := (((hBW.setCell (p := ⟨B, 0, none⟩) hBge _).setCell (p := ⟨B, 1, none⟩) hBge _).setCell (p := ⟨B, 2, none⟩) hBge _).setCell (p := ⟨B, 3, none⟩) hBge _
          have e0 : ((((wn3.setCell ⟨B, 0, none⟩ (.pointer (plOf xa xn).1)).setCell ⟨B, 1, none⟩ (.int .i64 (plOf xa xn).2)).setCell ⟨B, 2, none⟩ (.pointer (plOf ya yn).1)).setCell ⟨B, 3, none⟩ (.int .i64 (plOf ya yn).2)).cell? ⟨B, 0, none⟩ = some (.pointer (plOf xa xn).1) := by rw [set_far (by omega), set_far (by omega), set_far (by omega)]; exact set_near ⟨_, f0⟩
          have e1 : ((((wn3.setCell ⟨B, 0, none⟩ (.pointer (plOf xa xn).1)).setCell ⟨B, 1, none⟩ (.int .i64 (plOf xa xn).2)).setCell ⟨B, 2, none⟩ (.pointer (plOf ya yn).1)).setCell ⟨B, 3, none⟩ (.int .i64 (plOf ya yn).2)).cell? ⟨B, 1, none⟩ = some (.int .i64 (plOf xa xn).2) := by rw [set_far (by omega), set_far (by omega)]; exact set_near (set_is ⟨_, f1⟩)
          have e2 : ((((wn3.setCell ⟨B, 0, none⟩ (.pointer (plOf xa xn).1)).setCell ⟨B, 1, none⟩ (.int .i64 (plOf xa xn).2)).setCell ⟨B, 2, none⟩ (.pointer (plOf ya yn).1)).setCell ⟨B, 3, none⟩ (.int .i64 (plOf ya yn).2)).cell? ⟨B, 2, none⟩ = some (.pointer (plOf ya yn).1) := by rw [set_far (by omega)]; exact set_near (set_is (set_is ⟨_, f2⟩))
          have e3 : ((((wn3.setCell ⟨B, 0, none⟩ (.pointer (plOf xa xn).1)).setCell ⟨B, 1, none⟩ (.int .i64 (plOf xa xn).2)).setCell ⟨B, 2, none⟩ (.pointer (plOf ya yn).1)).setCell ⟨B, 3, none⟩ (.int .i64 (plOf ya yn).2)).cell? ⟨B, 3, none⟩ = some (.int .i64 (plOf ya yn).2) := set_near (set_is (set_is (set_is ⟨_, f3⟩)))
          generalize (((wn3.setCell ⟨B, 0, none⟩ (.pointer (plOf xa xn).1)).setCell ⟨B, 1, none⟩ (.int .i64 (plOf xa xn).2)).setCell ⟨B, 2, none⟩ (.pointer (plOf ya yn).1)).setCell ⟨B, 3, none⟩ (.int .i64 (plOf ya yn).2) = WE at *
          refine hK.out _ _ (HSof.out _ hWE) (fun hHeld => ?_)
          clear hK K f0 f1 f2 f3 g0 g1 g2 g3 hBW
          refine wpAnyH_done (by kernel_rfl) ?_ _
          exact h _ _ _ _ _ _ _ _ _ _ _ _ _ hWE hBge ⟨e0, e1, e2, e3⟩
      · skip
        go_simp
        have hBn : Below W.heap.size W (wn1.alloc (.cells #[.pointer none, .int .i64 0, .pointer none, .int .i64 0] 93)) := hBW.alloc hBW.size _
        have hfour : Four (wn1.alloc (.cells #[.pointer none, .int .i64 0, .pointer none, .int .i64 0] 93)) wn1.heap.size (.pointer none) (.int .i64 0) (.pointer none) (.int .i64 0) := Four.new wn1 _ _ _ _ _
        refine hK.out _ _ (HSof.out _ hBn) (fun hHeld => ?_)
        have hBsz := hBW.size
        clear hK K hBW
        have hBW := hBn
        clear hBn
        obtain ⟨B, hBd⟩ : ∃ B, wn1.heap.size = B := ⟨_, rfl⟩
        have hBge : W.heap.size ≤ B := by omega
        rw [hBd] at hfour ⊢
        clear hBd
        generalize (wn1.alloc (.cells #[.pointer none, .int .i64 0, .pointer none, .int .i64 0] 93)) = WA at *
        refine wpAnyH_ready (rs := [8]) (by kernel_rfl) (by simp) ?_
        refine AllReadyH.cons rfl (fun K hK => ?_) AllReadyH.nil
        go_simp
        refine (belowV_any yh ya yn yc _).mono ?_
        rintro r wn2 ⟨rfl, hbn⟩
        have hBn := hBW.trans (hbn.mono hBW.size)
        have hfn := hfour.below hbn hfour.lt
        clear hfour
        have hfour := hfn
        clear hfn
        go_wp2_with fail
        refine hK.out _ _ (HSof.out _ hBn) (fun hHeld => ?_)
        clear hK K hBW hbn
        have hBW := hBn
        clear hBn
        refine wpAnyH_ready (rs := [9]) (by kernel_rfl) (by simp) ?_
        refine AllReadyH.cons rfl (fun K hK => ?_) AllReadyH.nil
        go_simp
        refine (placeOfV_any ya yn yc _ hya hyl).mono ?_
        rintro r wn3 ⟨rfl, hbn⟩
        have hBn := hBW.trans (hbn.mono hBW.size)
        have hfn := hfour.below hbn hfour.lt
        clear hfour
        have hfour := hfn
        clear hfn
        go_wp2_with fail
        refine hK.out _ _ (HSof.out _ hBn) (fun hHeld => ?_)
        clear hK K hBW hbn
        have hBW := hBn
        clear hBn
        refine wpAnyH_take (i := 10) (v := pl2V (plOf xa xn, plOf ya yn)) rfl (by kernel_rfl) (by kernel_rfl) (by kernel_rfl) (fun _ _ _ h => hp _ _ _ _ _ h) (Or.inl ⟨by rfl, ?_⟩) (by assumption) ?_
        · intro w hSw
          (try dsimp only at hSw)
          unfold plV pl2V
          go_simp
        (try simp only [Act.put, List.getElem_toArray, List.getElem_cons_zero, List.getElem_cons_succ, List.setIfInBounds_toArray, List.set_cons_zero, List.set_cons_succ])
        obtain ⟨⟨f0, f1, f2, f3⟩, g0, g1, g2, g3⟩ := hfour
        refine wpAnyH_ready (rs := [12]) (by kernel_rfl) (by simp) ?_
        refine AllReadyH.cons rfl (fun K hK => ?_) AllReadyH.nil
        unfold pl2V
        go_simp
        have hWE : Below W.heap.size W ((((wn3.setCell ⟨B, 0, none⟩ (.pointer (plOf xa xn).1)).setCell ⟨B, 1, none⟩ (.int .i64 (plOf xa xn).2)).setCell ⟨B, 2, none⟩ (.pointer (plOf ya yn).1)).setCell ⟨B, 3, none⟩ (.int .i64 (plOf ya yn).2)) := (((hBW.setCell (p := ⟨B, 0, none⟩) hBge _).setCell (p := ⟨B, 1, none⟩) hBge _).setCell (p := ⟨B, 2, none⟩) hBge _).setCell (p := ⟨B, 3, none⟩) hBge _
        have e0 : ((((wn3.setCell ⟨B, 0, none⟩ (.pointer (plOf xa xn).1)).setCell ⟨B, 1, none⟩ (.int .i64 (plOf xa xn).2)).setCell ⟨B, 2, none⟩ (.pointer (plOf ya yn).1)).setCell ⟨B, 3, none⟩ (.int .i64 (plOf ya yn).2)).cell? ⟨B, 0, none⟩ = some (.pointer (plOf xa xn).1) := by rw [set_far (by omega), set_far (by omega), set_far (by omega)]; exact set_near ⟨_, f0⟩
        have e1 : ((((wn3.setCell ⟨B, 0, none⟩ (.pointer (plOf xa xn).1)).setCell ⟨B, 1, none⟩ (.int .i64 (plOf xa xn).2)).setCell ⟨B, 2, none⟩ (.pointer (plOf ya yn).1)).setCell ⟨B, 3, none⟩ (.int .i64 (plOf ya yn).2)).cell? ⟨B, 1, none⟩ = some (.int .i64 (plOf xa xn).2) := by rw [set_far (by omega), set_far (by omega)]; exact set_near (set_is ⟨_, f1⟩)
        have e2 : ((((wn3.setCell ⟨B, 0, none⟩ (.pointer (plOf xa xn).1)).setCell ⟨B, 1, none⟩ (.int .i64 (plOf xa xn).2)).setCell ⟨B, 2, none⟩ (.pointer (plOf ya yn).1)).setCell ⟨B, 3, none⟩ (.int .i64 (plOf ya yn).2)).cell? ⟨B, 2, none⟩ = some (.pointer (plOf ya yn).1) := by rw [set_far (by omega)]; exact set_near (set_is (set_is ⟨_, f2⟩))
        have e3 : ((((wn3.setCell ⟨B, 0, none⟩ (.pointer (plOf xa xn).1)).setCell ⟨B, 1, none⟩ (.int .i64 (plOf xa xn).2)).setCell ⟨B, 2, none⟩ (.pointer (plOf ya yn).1)).setCell ⟨B, 3, none⟩ (.int .i64 (plOf ya yn).2)).cell? ⟨B, 3, none⟩ = some (.int .i64 (plOf ya yn).2) := set_near (set_is (set_is (set_is ⟨_, f3⟩)))
        generalize (((wn3.setCell ⟨B, 0, none⟩ (.pointer (plOf xa xn).1)).setCell ⟨B, 1, none⟩ (.int .i64 (plOf xa xn).2)).setCell ⟨B, 2, none⟩ (.pointer (plOf ya yn).1)).setCell ⟨B, 3, none⟩ (.int .i64 (plOf ya yn).2) = WE at *
        refine hK.out _ _ (HSof.out _ hWE) (fun hHeld => ?_)
        clear hK K f0 f1 f2 f3 g0 g1 g2 g3 hBW
        refine wpAnyH_done (by kernel_rfl) ?_ _
        exact h _ _ _ _ _ _ _ _ _ _ _ _ _ hWE hBge ⟨e0, e1, e2, e3⟩
    · skip
      go_simp
      have hBn : Below W.heap.size W (wn0.alloc (.cells #[.pointer none, .int .i64 0, .pointer none, .int .i64 0] 93)) := hBW.alloc hBW.size _
      have hfour : Four (wn0.alloc (.cells #[.pointer none, .int .i64 0, .pointer none, .int .i64 0] 93)) wn0.heap.size (.pointer none) (.int .i64 0) (.pointer none) (.int .i64 0) := Four.new wn0 _ _ _ _ _
      refine hK.out _ _ (HSof.out _ hBn) (fun hHeld => ?_)
      have hBsz := hBW.size
      clear hK K hBW
      have hBW := hBn
      clear hBn
      obtain ⟨B, hBd⟩ : ∃ B, wn0.heap.size = B := ⟨_, rfl⟩
      have hBge : W.heap.size ≤ B := by omega
      rw [hBd] at hfour ⊢
      clear hBd
      generalize (wn0.alloc (.cells #[.pointer none, .int .i64 0, .pointer none, .int .i64 0] 93)) = WA at *
      refine wpAnyH_ready (rs := [4]) (by kernel_rfl) (by simp) ?_
      refine AllReadyH.cons rfl (fun K hK => ?_) AllReadyH.nil
      go_simp
      refine (placeOfV_any xa xn xc _ hxa hxl).mono ?_
      rintro r wn1 ⟨rfl, hbn⟩
      have hBn := hBW.trans (hbn.mono hBW.size)
      have hfn := hfour.below hbn hfour.lt
      clear hfour
      have hfour := hfn
      clear hfn
      go_wp2_with fail
      refine hK.out _ _ (HSof.out _ hBn) (fun hHeld => ?_)
      clear hK K hBW hbn
      have hBW := hBn
      clear hBn
      refine wpAnyH_ready (rs := [8]) (by kernel_rfl) (by simp) ?_
      refine AllReadyH.cons rfl (fun K hK => ?_) AllReadyH.nil
      go_simp
      refine (belowV_any yh ya yn yc _).mono ?_
      rintro r wn2 ⟨rfl, hbn⟩
      have hBn := hBW.trans (hbn.mono hBW.size)
      have hfn := hfour.below hbn hfour.lt
      clear hfour
      have hfour := hfn
      clear hfn
      go_wp2_with fail
      refine hK.out _ _ (HSof.out _ hBn) (fun hHeld => ?_)
      clear hK K hBW hbn
      have hBW := hBn
      clear hBn
      refine wpAnyH_ready (rs := [9]) (by kernel_rfl) (by simp) ?_
      refine AllReadyH.cons rfl (fun K hK => ?_) AllReadyH.nil
      go_simp
      refine (placeOfV_any ya yn yc _ hya hyl).mono ?_
      rintro r wn3 ⟨rfl, hbn⟩
      have hBn := hBW.trans (hbn.mono hBW.size)
      have hfn := hfour.below hbn hfour.lt
      clear hfour
      have hfour := hfn
      clear hfn
      go_wp2_with fail
      refine hK.out _ _ (HSof.out _ hBn) (fun hHeld => ?_)
      clear hK K hBW hbn
      have hBW := hBn
      clear hBn
      refine wpAnyH_take (i := 10) (v := pl2V (plOf xa xn, plOf ya yn)) rfl (by kernel_rfl) (by kernel_rfl) (by kernel_rfl) (fun _ _ _ h => hp _ _ _ _ _ h) (Or.inl ⟨by rfl, ?_⟩) (by assumption) ?_
      · intro w hSw
        (try dsimp only at hSw)
        unfold plV pl2V
        go_simp
      (try simp only [Act.put, List.getElem_toArray, List.getElem_cons_zero, List.getElem_cons_succ, List.setIfInBounds_toArray, List.set_cons_zero, List.set_cons_succ])
      obtain ⟨⟨f0, f1, f2, f3⟩, g0, g1, g2, g3⟩ := hfour
      refine wpAnyH_ready (rs := [12]) (by kernel_rfl) (by simp) ?_
      refine AllReadyH.cons rfl (fun K hK => ?_) AllReadyH.nil
      unfold pl2V
      go_simp
      have hWE : Below W.heap.size W ((((wn3.setCell ⟨B, 0, none⟩ (.pointer (plOf xa xn).1)).setCell ⟨B, 1, none⟩ (.int .i64 (plOf xa xn).2)).setCell ⟨B, 2, none⟩ (.pointer (plOf ya yn).1)).setCell ⟨B, 3, none⟩ (.int .i64 (plOf ya yn).2)) := (((hBW.setCell (p := ⟨B, 0, none⟩) hBge _).setCell (p := ⟨B, 1, none⟩) hBge _).setCell (p := ⟨B, 2, none⟩) hBge _).setCell (p := ⟨B, 3, none⟩) hBge _
      have e0 : ((((wn3.setCell ⟨B, 0, none⟩ (.pointer (plOf xa xn).1)).setCell ⟨B, 1, none⟩ (.int .i64 (plOf xa xn).2)).setCell ⟨B, 2, none⟩ (.pointer (plOf ya yn).1)).setCell ⟨B, 3, none⟩ (.int .i64 (plOf ya yn).2)).cell? ⟨B, 0, none⟩ = some (.pointer (plOf xa xn).1) := by rw [set_far (by omega), set_far (by omega), set_far (by omega)]; exact set_near ⟨_, f0⟩
      have e1 : ((((wn3.setCell ⟨B, 0, none⟩ (.pointer (plOf xa xn).1)).setCell ⟨B, 1, none⟩ (.int .i64 (plOf xa xn).2)).setCell ⟨B, 2, none⟩ (.pointer (plOf ya yn).1)).setCell ⟨B, 3, none⟩ (.int .i64 (plOf ya yn).2)).cell? ⟨B, 1, none⟩ = some (.int .i64 (plOf xa xn).2) := by rw [set_far (by omega), set_far (by omega)]; exact set_near (set_is ⟨_, f1⟩)
      have e2 : ((((wn3.setCell ⟨B, 0, none⟩ (.pointer (plOf xa xn).1)).setCell ⟨B, 1, none⟩ (.int .i64 (plOf xa xn).2)).setCell ⟨B, 2, none⟩ (.pointer (plOf ya yn).1)).setCell ⟨B, 3, none⟩ (.int .i64 (plOf ya yn).2)).cell? ⟨B, 2, none⟩ = some (.pointer (plOf ya yn).1) := by rw [set_far (by omega)]; exact set_near (set_is (set_is ⟨_, f2⟩))
      have e3 : ((((wn3.setCell ⟨B, 0, none⟩ (.pointer (plOf xa xn).1)).setCell ⟨B, 1, none⟩ (.int .i64 (plOf xa xn).2)).setCell ⟨B, 2, none⟩ (.pointer (plOf ya yn).1)).setCell ⟨B, 3, none⟩ (.int .i64 (plOf ya yn).2)).cell? ⟨B, 3, none⟩ = some (.int .i64 (plOf ya yn).2) := set_near (set_is (set_is (set_is ⟨_, f3⟩)))
      generalize (((wn3.setCell ⟨B, 0, none⟩ (.pointer (plOf xa xn).1)).setCell ⟨B, 1, none⟩ (.int .i64 (plOf xa xn).2)).setCell ⟨B, 2, none⟩ (.pointer (plOf ya yn).1)).setCell ⟨B, 3, none⟩ (.int .i64 (plOf ya yn).2) = WE at *
      refine hK.out _ _ (HSof.out _ hWE) (fun hHeld => ?_)
      clear hK K f0 f1 f2 f3 g0 g1 g2 g3 hBW
      refine wpAnyH_done (by kernel_rfl) ?_ _
      exact h _ _ _ _ _ _ _ _ _ _ _ _ _ hWE hBge ⟨e0, e1, e2, e3⟩
  · skip
    go_simp
    have hBn : Below W.heap.size W (W.alloc (.cells #[.pointer none, .int .i64 0, .pointer none, .int .i64 0] 93)).drew := ((Below.refl _ W).alloc (Nat.le_refl _) _).drew
    have hfour : Four (W.alloc (.cells #[.pointer none, .int .i64 0, .pointer none, .int .i64 0] 93)).drew W.heap.size (.pointer none) (.int .i64 0) (.pointer none) (.int .i64 0) := (Four.new W _ _ _ _ _).drew
    refine hK.out _ _ (HSof.out _ hBn) (fun hHeld => ?_)
    have hBsz := hBW.size
    clear hK K hBW
    have hBW := hBn
    clear hBn
    obtain ⟨B, hBd⟩ : ∃ B, W.heap.size = B := ⟨_, rfl⟩
    have hBge : W.heap.size ≤ B := by omega
    rw [hBd] at hfour ⊢
    clear hBd
    generalize (W.alloc (.cells #[.pointer none, .int .i64 0, .pointer none, .int .i64 0] 93)).drew = WA at *
    refine wpAnyH_ready (rs := [3]) (by kernel_rfl) (by simp) ?_
    refine AllReadyH.cons rfl (fun K hK => ?_) AllReadyH.nil
    go_simp
    refine (belowV_any xh xa xn xc _).mono ?_
    rintro r wn0 ⟨rfl, hbn⟩
    have hBn := hBW.trans (hbn.mono hBW.size)
    have hfn := hfour.below hbn hfour.lt
    clear hfour
    have hfour := hfn
    clear hfn
    go_wp2_with fail
    refine hK.out _ _ (HSof.out _ hBn) (fun hHeld => ?_)
    clear hK K hBW hbn
    have hBW := hBn
    clear hBn
    refine wpAnyH_ready (rs := [4]) (by kernel_rfl) (by simp) ?_
    refine AllReadyH.cons rfl (fun K hK => ?_) AllReadyH.nil
    go_simp
    refine (placeOfV_any xa xn xc _ hxa hxl).mono ?_
    rintro r wn1 ⟨rfl, hbn⟩
    have hBn := hBW.trans (hbn.mono hBW.size)
    have hfn := hfour.below hbn hfour.lt
    clear hfour
    have hfour := hfn
    clear hfn
    go_wp2_with fail
    refine hK.out _ _ (HSof.out _ hBn) (fun hHeld => ?_)
    clear hK K hBW hbn
    have hBW := hBn
    clear hBn
    refine wpAnyH_ready (rs := [8]) (by kernel_rfl) (by simp) ?_
    refine AllReadyH.cons rfl (fun K hK => ?_) AllReadyH.nil
    go_simp
    refine (belowV_any yh ya yn yc _).mono ?_
    rintro r wn2 ⟨rfl, hbn⟩
    have hBn := hBW.trans (hbn.mono hBW.size)
    have hfn := hfour.below hbn hfour.lt
    clear hfour
    have hfour := hfn
    clear hfn
    go_wp2_with fail
    refine hK.out _ _ (HSof.out _ hBn) (fun hHeld => ?_)
    clear hK K hBW hbn
    have hBW := hBn
    clear hBn
    refine wpAnyH_ready (rs := [9]) (by kernel_rfl) (by simp) ?_
    refine AllReadyH.cons rfl (fun K hK => ?_) AllReadyH.nil
    go_simp
    refine (placeOfV_any ya yn yc _ hya hyl).mono ?_
    rintro r wn3 ⟨rfl, hbn⟩
    have hBn := hBW.trans (hbn.mono hBW.size)
    have hfn := hfour.below hbn hfour.lt
    clear hfour
    have hfour := hfn
    clear hfn
    go_wp2_with fail
    refine hK.out _ _ (HSof.out _ hBn) (fun hHeld => ?_)
    clear hK K hBW hbn
    have hBW := hBn
    clear hBn
    refine wpAnyH_take (i := 10) (v := pl2V (plOf xa xn, plOf ya yn)) rfl (by kernel_rfl) (by kernel_rfl) (by kernel_rfl) (fun _ _ _ h => hp _ _ _ _ _ h) (Or.inl ⟨by rfl, ?_⟩) (by assumption) ?_
    · intro w hSw
      (try dsimp only at hSw)
      unfold plV pl2V
      go_simp
    (try simp only [Act.put, List.getElem_toArray, List.getElem_cons_zero, List.getElem_cons_succ, List.setIfInBounds_toArray, List.set_cons_zero, List.set_cons_succ])
    obtain ⟨⟨f0, f1, f2, f3⟩, g0, g1, g2, g3⟩ := hfour
    refine wpAnyH_ready (rs := [12]) (by kernel_rfl) (by simp) ?_
    refine AllReadyH.cons rfl (fun K hK => ?_) AllReadyH.nil
    unfold pl2V
    go_simp
    have hWE : Below W.heap.size W ((((wn3.setCell ⟨B, 0, none⟩ (.pointer (plOf xa xn).1)).setCell ⟨B, 1, none⟩ (.int .i64 (plOf xa xn).2)).setCell ⟨B, 2, none⟩ (.pointer (plOf ya yn).1)).setCell ⟨B, 3, none⟩ (.int .i64 (plOf ya yn).2)) := (((hBW.setCell (p := ⟨B, 0, none⟩) hBge _).setCell (p := ⟨B, 1, none⟩) hBge _).setCell (p := ⟨B, 2, none⟩) hBge _).setCell (p := ⟨B, 3, none⟩) hBge _
    have e0 : ((((wn3.setCell ⟨B, 0, none⟩ (.pointer (plOf xa xn).1)).setCell ⟨B, 1, none⟩ (.int .i64 (plOf xa xn).2)).setCell ⟨B, 2, none⟩ (.pointer (plOf ya yn).1)).setCell ⟨B, 3, none⟩ (.int .i64 (plOf ya yn).2)).cell? ⟨B, 0, none⟩ = some (.pointer (plOf xa xn).1) := by rw [set_far (by omega), set_far (by omega), set_far (by omega)]; exact set_near ⟨_, f0⟩
    have e1 : ((((wn3.setCell ⟨B, 0, none⟩ (.pointer (plOf xa xn).1)).setCell ⟨B, 1, none⟩ (.int .i64 (plOf xa xn).2)).setCell ⟨B, 2, none⟩ (.pointer (plOf ya yn).1)).setCell ⟨B, 3, none⟩ (.int .i64 (plOf ya yn).2)).cell? ⟨B, 1, none⟩ = some (.int .i64 (plOf xa xn).2) := by rw [set_far (by omega), set_far (by omega)]; exact set_near (set_is ⟨_, f1⟩)
    have e2 : ((((wn3.setCell ⟨B, 0, none⟩ (.pointer (plOf xa xn).1)).setCell ⟨B, 1, none⟩ (.int .i64 (plOf xa xn).2)).setCell ⟨B, 2, none⟩ (.pointer (plOf ya yn).1)).setCell ⟨B, 3, none⟩ (.int .i64 (plOf ya yn).2)).cell? ⟨B, 2, none⟩ = some (.pointer (plOf ya yn).1) := by rw [set_far (by omega)]; exact set_near (set_is (set_is ⟨_, f2⟩))
    have e3 : ((((wn3.setCell ⟨B, 0, none⟩ (.pointer (plOf xa xn).1)).setCell ⟨B, 1, none⟩ (.int .i64 (plOf xa xn).2)).setCell ⟨B, 2, none⟩ (.pointer (plOf ya yn).1)).setCell ⟨B, 3, none⟩ (.int .i64 (plOf ya yn).2)).cell? ⟨B, 3, none⟩ = some (.int .i64 (plOf ya yn).2) := set_near (set_is (set_is (set_is ⟨_, f3⟩)))
    generalize (((wn3.setCell ⟨B, 0, none⟩ (.pointer (plOf xa xn).1)).setCell ⟨B, 1, none⟩ (.int .i64 (plOf xa xn).2)).setCell ⟨B, 2, none⟩ (.pointer (plOf ya yn).1)).setCell ⟨B, 3, none⟩ (.int .i64 (plOf ya yn).2) = WE at *
    refine hK.out _ _ (HSof.out _ hWE) (fun hHeld => ?_)
    clear hK K f0 f1 f2 f3 g0 g1 g2 g3 hBW
    refine wpAnyH_done (by kernel_rfl) ?_ _
    exact h _ _ _ _ _ _ _ _ _ _ _ _ _ hWE hBge ⟨e0, e1, e2, e3⟩
end Go.Proofs.Ytalncebnahlmdaa
/- Two trees that are the same, by the program: the region that puts the pairs of two lists behind what is to be done. -/
namespace Go.Proofs.Ytalncebnahlmdaa
open Go.RowKit
section
variable {P : Program}
theorem append_none_own (w : World) (base base2 : Nat) (t ty e : TypeId) (i : TypeInfo) (size : Nat) (ht : P.underlying t = some (.slice e)) (hi : P.info? e = some i)
    (v : Value) (n : Nat) (xs : List Value) (hown : w.ownsRow base e size v n xs) (v2 : Value) (ys : List Value) (hown2 : w.ownsRow base2 e size v2 0 ys) :
    (Builtin.append_ #[t, t] ty #[v, v2]).run P w = .ok v w := by
  rcases hown2.2 with ⟨rfl, _⟩ | ⟨g2, cap2, cur2, rfl, _⟩
  · exact run_append_owned_none w base t ty e i size ht hi v n xs hown
  · rcases hown.2 with ⟨rfl, rfl⟩ | ⟨g, cap, cur, rfl, _, _, hnc, _⟩
    · simp [Builtin.append_, run_underlying ht, sizeOf, typeInfo, hi, Builtin.lenOf, Builtin.firstCells, loadCells, loadCellsFrom]
    · simp [Builtin.append_, run_underlying ht, sizeOf, typeInfo, hi, Builtin.lenOf, Builtin.firstCells, loadCells, loadCellsFrom, hnc, storeCells]
/-- a slice that is owned behind another one -/
theorem append_two (w : World) (base base2 : Nat) (t ty e : TypeId) (i : TypeInfo) (z : Value) (size bytes : Nat) (ht : P.underlying t = some (.slice e)) (hi : P.info? e = some i) (hz : i.zero = some z)
    (hsize : i.size = size) (hby : i.bytes = bytes) (hzs : z.cells.size = size) (hsz : 0 < size)
    (v : Value) (n : Nat) (xs : List Value) (hown : w.ownsRow base e size v n xs) (v2 : Value) (m : Nat) (ys : List Value) (hown2 : w.ownsRow base2 e size v2 m ys)
    (h1 : ∀ u ∈ ys, u.oneCell' = true) (h63 : n + m ≤ maxLen) (hbytes : (n + m) * bytes ≤ 140737488355328) (hbase : base ≤ w.heap.size) :
    ∃ v' w', (Builtin.append_ #[t, t] ty #[v, v2]).run P w = .ok v' w' ∧ w'.ownsRow base e size v' (n + m) (xs ++ ys) ∧ w.grownBy w' v.ownBlock := by
  rcases Nat.eq_zero_or_pos m with rfl | hm
  · have hy : ys = [] := List.eq_nil_of_length_eq_zero (by rw [hown2.1, Nat.zero_mul])
    subst hy
    exact ⟨v, w, append_none_own w base base2 t ty e i size ht hi v n xs hown v2 [] hown2, by simpa using hown, ⟨rfl, rfl, rfl, Nat.le_refl _, fun _ _ _ => rfl⟩⟩
  · obtain ⟨g, cap, rfl, _, _⟩ := hown2.form hm
    obtain ⟨g', cap', w', hr, ho, hg, _⟩ := run_append_lies (P := P) w t ty base e i z size bytes ht hi hz hsize hby hzs hsz v n xs hown ⟨g, 0, none⟩ m cap ys hown2.1 (fun j u hj => by
      have hjl : j < m * size := by rw [← hown2.1]; exact (List.getElem?_eq_some_iff.1 hj).1
      have := hown2.cellAt j hjl
      rw [hj] at this
      simp [Addr.add]
      by_cases h0 : j = 0
      · subst h0; simpa using this
      · simpa [h0] using this) h1 hm h63 hbytes hbase _ rfl
    exact ⟨_, w', hr, ho, hg⟩
theorem wp_append_two {o : Oper} {a : Act} {K : Act → World → Prop} {Q : Exit → Act → World → Prop} (w : World) (s x : Operand) (t : TypeId)
    (ho : o.op = .call { callee := .builtin .append, args := #[s, x], argTypes := #[t, t] })
    (base base2 : Nat) (e : TypeId) (i : TypeInfo) (z : Value) (size bytes : Nat) (ht : P.underlying t = some (.slice e)) (hi : P.info? e = some i) (hz : i.zero = some z)
    (hsize : i.size = size) (hby : i.bytes = bytes) (hzs : z.cells.size = size) (hsz : 0 < size)
    (v : Value) (n : Nat) (xs : List Value) (hs : a.eval s = v) (hown : w.ownsRow base e size v n xs) (v2 : Value) (m : Nat) (ys : List Value) (hx : a.eval x = v2) (hown2 : w.ownsRow base2 e size v2 m ys)
    (h1 : ∀ u ∈ ys, u.oneCell' = true) (h63 : n + m ≤ maxLen) (hbytes : (n + m) * bytes ≤ 140737488355328) (hbase : base ≤ w.heap.size)
    (h : ∀ v' w', w'.ownsRow base e size v' (n + m) (xs ++ ys) → w.grownBy w' v.ownBlock → K (a.put o.dst v') w') : o.wp P a w K Q := by
  obtain ⟨v', w', hr, h2, h3⟩ := append_two (P := P) w base base2 t o.type e i z size bytes ht hi hz hsize hby hzs hsz v n xs hown v2 m ys hown2 h1 h63 hbytes hbase
  unfold Oper.wp execOp
  simp only [ho, resolve, invoke, builtin, Sem.run_bind, Sem.run_pure, Result.andThen_ok, List.map_toArray, List.map_cons, List.map_nil, hs, hx, hr]
  exact h v' w' h2 h3
end
theorem ob_or (v : Value) : v.ownBlock = none ∨ v.ownBlock ≠ none := by
  cases h : v.ownBlock with
  | none => exact .inl rfl
  | some b => exact .inr (fun e => by cases e)
end Go.Proofs.Ytalncebnahlmdaa
