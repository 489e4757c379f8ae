/- Two values that are the same, by the program: the pairs of two lists. -/
import Derived.Test.YtohldacplapjkaaWa
import Derived.Test.YtohldacplapjkaaSd
namespace Go.Proofs.Ytohldacplapjkaa
open Go.RowKit
def Hd.cells (h : Hd) (a : Option Addr) (n c : Nat) : List Value := [.int .i64 h.k, .int .i64 h.m, .int .i64 h.e, .string h.t, .slice a n c, .slice h.na h.ns.length h.nc]
def Vo.cellsAt (F : Vo) (i : Nat) : List Value := (F.hdAt i).cells (F.addrAt i) (F.kidsAt i).len (F.capAt i)
/-- the cells of the first n pairs -/
def pairCellsV (F G : Vo) : Nat → List Value
  | 0 => []
  | n + 1 => pairCellsV F G n ++ (F.cellsAt n ++ G.cellsAt n)
theorem pairCellsV_length (F G : Vo) (n : Nat) : (pairCellsV F G n).length = n * 12 := by
  induction n with
  | zero => rfl
  | succ n ih => show (pairCellsV F G n ++ (F.cellsAt n ++ G.cellsAt n)).length = _; rw [List.length_append, ih]; show _ + 12 = _; omega
theorem pairCellsV_one (F G : Vo) (n : Nat) : ∀ u ∈ pairCellsV F G n, u.oneCell' = true := by
  induction n with
  | zero => intro u hu; cases hu
  | succ n ih =>
    intro u hu
    rcases List.mem_append.1 (show u ∈ pairCellsV F G n ++ (F.cellsAt n ++ G.cellsAt n) from hu) with h | h
    · exact ih u h
    · simp [Vo.cellsAt, Hd.cells] at h
      rcases h with h | h | h | h | h | h | h | h | h | h | h | h <;> subst h <;> rfl
theorem pairInfoV : (Try.prog.info? 62).map (fun i => (i.zero, i.size, i.bytes)) = some (some (.agg #[.int .i64 0, .int .i64 0, .int .i64 0, .string ⟨#[]⟩, .slice none 0 0, .slice none 0 0, .int .i64 0, .int .i64 0, .int .i64 0, .string ⟨#[]⟩, .slice none 0 0, .slice none 0 0]), 12, 176) := by kernel_rfl
set_option maxRecDepth 100000 in
set_option maxHeartbeats 1000000 in
theorem po5 {Q : Exit → Act → World → Prop} {t2 t3 t4 t7 t8 t9 t10 t11 t12 t13 t14 t15 t16 t17 t18 t19 t20 t21 t22 t23 t24 t25 : Value} {w0 W : World} {b o n c b2 o2 n2 c2 j q nx cx ny cy : Nat} {hx hy : Hd} {ax ay : Option Addr} {v : Value} {xs : List Value}
    (hj : (j : Int) < (n : Int)) (hj2 : (j : Int) < (n2 : Int)) (h1 : Cells6 w0 b (o + j * 6) hx (.slice ax nx cx)) (h2 : Cells6 w0 b2 (o2 + j * 6) hy (.slice ay ny cy)) (hb : Below w0.heap.size w0 W) (hown : W.ownsRow w0.heap.size 62 12 v q xs) (hq : q ≤ 2000000)
    (hp : ∀ p d v a w, Q (.panic p) (Act.put a d v) w → Q (.panic p) a w) (h : ∀ ws v' v12 v13 v14 v15 v16 v17 v18 v19 v20 v21 v22 v23, ws.ownsRow w0.heap.size 62 12 v' (q + 1) (xs ++ (hx.cells ax nx cx ++ hy.cells ay ny cy)) → Below w0.heap.size w0 ws → Q .normal { tmps := ((.slice (some ⟨b, o, none⟩) n c) :: (.slice (some ⟨b2, o2, none⟩) n2 c2) :: t2 :: t3 :: t4 :: v' :: (.int .i64 (j : Nat)) :: t7 :: t8 :: t9 :: t10 :: t11 :: v12 :: v13 :: v14 :: v15 :: v16 :: v17 :: v18 :: v19 :: v20 :: v21 :: v22 :: v23 :: t24 :: t25 :: []).toArray, defers := [] } ws) :
    Code.wp Try.prog (Code.region 5 #[{ dst := some 12, op := Op.move (Operand.tmp 5), type := 63, pos := "l3_tree.go:396", after := #[], guard := none }, { dst := some 13, op := Op.move (Operand.tmp 0), type := 31, pos := "l3_tree.go:396", after := #[], guard := none }, { dst := some 14, op := Op.move (Operand.tmp 6), type := 3, pos := "l3_tree.go:396", after := #[], guard := none }, { dst := some 15, op := Op.indexAddr 31 (Operand.tmp 13) (Operand.tmp 14), type := 0, pos := "l3_tree.go:396", after := #[{ on := 1, ground := Ground.data }, { on := 2, ground := Ground.data }], guard := none }, { dst := some 16, op := Op.load 33 (Operand.tmp 15), type := 33, pos := "l3_tree.go:396", after := #[{ on := 3, ground := Ground.data }], guard := none }, { dst := some 17, op := Op.move (Operand.tmp 1), type := 31, pos := "l3_tree.go:396", after := #[], guard := none }, { dst := some 18, op := Op.move (Operand.tmp 6), type := 3, pos := "l3_tree.go:396", after := #[], guard := none }, { dst := some 19, op := Op.indexAddr 31 (Operand.tmp 17) (Operand.tmp 18), type := 0, pos := "l3_tree.go:396", after := #[{ on := 5, ground := Ground.data }, { on := 6, ground := Ground.data }], guard := none }, { dst := some 20, op := Op.load 33 (Operand.tmp 19), type := 33, pos := "l3_tree.go:396", after := #[{ on := 7, ground := Ground.data }], guard := none }, { dst := some 21, op := Op.build 62 #[(0, Operand.tmp 16), (1, Operand.tmp 20)], type := 62, pos := "l3_tree.go:396", after := #[{ on := 4, ground := Ground.data }, { on := 8, ground := Ground.data }], guard := none }, { dst := some 22, op := Op.buildSlice 63 1 #[(0, Operand.tmp 21)], type := 63, pos := "l3_tree.go:396", after := #[{ on := 9, ground := Ground.data }], guard := none }, { dst := some 23, op := Op.call { callee := Callee.builtin Builtin.append, args := #[Operand.tmp 12, Operand.tmp 22], argTypes := #[63, 63] }, type := 63, pos := "l3_tree.go:396", after := #[{ on := 0, ground := Ground.data }, { on := 10, ground := Ground.data }], guard := none }, { dst := some 5, op := Op.assign (Operand.tmp 23), type := 63, pos := "l3_tree.go:396", after := #[{ on := 11, ground := Ground.data }, { on := 11, ground := Ground.chain }, { on := 0, ground := Ground.phase }, { on := 1, ground := Ground.phase }, { on := 2, ground := Ground.phase }, { on := 3, ground := Ground.phase }, { on := 4, ground := Ground.phase }, { on := 5, ground := Ground.phase }, { on := 6, ground := Ground.phase }, { on := 7, ground := Ground.phase }, { on := 8, ground := Ground.phase }, { on := 9, ground := Ground.phase }, { on := 10, ground := Ground.phase }, { on := 11, ground := Ground.phase }], guard := none }] true) Q { tmps := ((.slice (some ⟨b, o, none⟩) n c) :: (.slice (some ⟨b2, o2, none⟩) n2 c2) :: t2 :: t3 :: t4 :: v :: (.int .i64 (j : Nat)) :: t7 :: t8 :: t9 :: t10 :: t11 :: t12 :: t13 :: t14 :: t15 :: t16 :: t17 :: t18 :: t19 :: t20 :: t21 :: t22 :: t23 :: t24 :: t25 :: []).toArray, defers := [] } W := by
  obtain ⟨i0, hi, hz0, hz1, hz2⟩ := info_parts pairInfoV
  have HSof : Hid (∀ w', Below w0.heap.size w0 w' → C6 w' b (o + j * 6) hx (.slice ax nx cx) ∧ C6 w' b2 (o2 + j * 6) hy (.slice ay ny cy)) := fun w' h => ⟨h1.grow h, h2.grow h⟩
  have hS0 := HSof.out _ hb.drew
  clear h1 h2
  refine wp_region_held_drew (S := fun w' => C6 w' b (o + j * 6) hx (.slice ax nx cx) ∧ C6 w' b2 (o2 + j * 6) hy (.slice ay ny cy)) (by kernel_rfl) hS0 (fun hHeld => ?_)
  refine wpAnyH_take (i := 0) (v := v) rfl (by kernel_rfl) (by kernel_rfl) (by kernel_rfl) (fun _ _ _ h => hp _ _ _ _ _ h) (Or.inl ⟨by rfl, ?_⟩) (by assumption) ?_
  · intro w hSw
    (try dsimp only at hSw)
    go_simp
  (try simp only [Act.put, List.getElem_toArray, List.getElem_cons_zero, List.setIfInBounds_toArray, List.set_cons_zero, List.set_cons_succ])
  refine wpAnyH_take (i := 1) (v := .slice (some ⟨b, o, none⟩) n c) rfl (by kernel_rfl) (by kernel_rfl) (by kernel_rfl) (fun _ _ _ h => hp _ _ _ _ _ h) (Or.inl ⟨by rfl, ?_⟩) (by assumption) ?_
  · intro w hSw
    (try dsimp only at hSw)
    go_simp
  (try simp only [Act.put, List.getElem_toArray, List.getElem_cons_zero, List.getElem_cons_succ, List.setIfInBounds_toArray, List.set_cons_zero, List.set_cons_succ])
  refine wpAnyH_take (i := 2) (v := .int .i64 (j : Nat)) rfl (by kernel_rfl) (by kernel_rfl) (by kernel_rfl) (fun _ _ _ h => hp _ _ _ _ _ h) (Or.inl ⟨by rfl, ?_⟩) (by assumption) ?_
  · intro w hSw
    (try dsimp only at hSw)
    go_simp
  (try simp only [Act.put, List.getElem_toArray, List.getElem_cons_zero, List.getElem_cons_succ, List.setIfInBounds_toArray, List.set_cons_zero, List.set_cons_succ])
  refine wpAnyH_take (i := 3) (v := .pointer (some ⟨b, o + j * 6, none⟩)) rfl (by kernel_rfl) (by kernel_rfl) (by kernel_rfl) (fun _ _ _ h => hp _ _ _ _ _ h) (Or.inl ⟨by rfl, ?_⟩) (by assumption) ?_
  · intro w hSw
    (try dsimp only at hSw)
    go_simp
  (try simp only [Act.put, List.getElem_toArray, List.getElem_cons_zero, List.getElem_cons_succ, List.setIfInBounds_toArray, List.set_cons_zero, List.set_cons_succ])
  refine wpAnyH_take (i := 4) (v := valV hx ax nx cx) rfl (by kernel_rfl) (by kernel_rfl) (by kernel_rfl) (fun _ _ _ h => hp _ _ _ _ _ h) (Or.inl ⟨by rfl, ?_⟩) (by assumption) ?_
  · intro w hSw
    (try dsimp only at hSw)
    go_simp
  (try simp only [Act.put, List.getElem_toArray, List.getElem_cons_zero, List.getElem_cons_succ, List.setIfInBounds_toArray, List.set_cons_zero, List.set_cons_succ])
  refine wpAnyH_take (i := 5) (v := .slice (some ⟨b2, o2, none⟩) n2 c2) rfl (by kernel_rfl) (by kernel_rfl) (by kernel_rfl) (fun _ _ _ h => hp _ _ _ _ _ h) (Or.inl ⟨by rfl, ?_⟩) (by assumption) ?_
  · intro w hSw
    (try dsimp only at hSw)
    go_simp
  (try simp only [Act.put, List.getElem_toArray, List.getElem_cons_zero, List.getElem_cons_succ, List.setIfInBounds_toArray, List.set_cons_zero, List.set_cons_succ])
  refine wpAnyH_take (i := 6) (v := .int .i64 (j : Nat)) rfl (by kernel_rfl) (by kernel_rfl) (by kernel_rfl) (fun _ _ _ h => hp _ _ _ _ _ h) (Or.inl ⟨by rfl, ?_⟩) (by assumption) ?_
  · intro w hSw
    (try dsimp only at hSw)
    go_simp
  (try simp only [Act.put, List.getElem_toArray, List.getElem_cons_zero, List.getElem_cons_succ, List.setIfInBounds_toArray, List.set_cons_zero, List.set_cons_succ])
  refine wpAnyH_take (i := 7) (v := .pointer (some ⟨b2, o2 + j * 6, none⟩)) rfl (by kernel_rfl) (by kernel_rfl) (by kernel_rfl) (fun _ _ _ h => hp _ _ _ _ _ h) (Or.inl ⟨by rfl, ?_⟩) (by assumption) ?_
  · intro w hSw
    (try dsimp only at hSw)
    go_simp
  (try simp only [Act.put, List.getElem_toArray, List.getElem_cons_zero, List.getElem_cons_succ, List.setIfInBounds_toArray, List.set_cons_zero, List.set_cons_succ])
  refine wpAnyH_take (i := 8) (v := valV hy ay ny cy) rfl (by kernel_rfl) (by kernel_rfl) (by kernel_rfl) (fun _ _ _ h => hp _ _ _ _ _ h) (Or.inl ⟨by rfl, ?_⟩) (by assumption) ?_
  · intro w hSw
    (try dsimp only at hSw)
    go_simp
  (try simp only [Act.put, List.getElem_toArray, List.getElem_cons_zero, List.getElem_cons_succ, List.setIfInBounds_toArray, List.set_cons_zero, List.set_cons_succ])
  refine wpAnyH_take (i := 9) (v := .agg #[.int .i64 hx.k, .int .i64 hx.m, .int .i64 hx.e, .string hx.t, .slice ax nx cx, .slice hx.na hx.ns.length hx.nc, .int .i64 hy.k, .int .i64 hy.m, .int .i64 hy.e, .string hy.t, .slice ay ny cy, .slice hy.na hy.ns.length hy.nc]) rfl (by kernel_rfl) (by kernel_rfl) (by kernel_rfl) (fun _ _ _ h => hp _ _ _ _ _ h) (Or.inl ⟨by rfl, ?_⟩) (by assumption) ?_
  · intro w hSw
    (try dsimp only at hSw)
    go_simp
  (try simp only [Act.put, List.getElem_toArray, List.getElem_cons_zero, List.getElem_cons_succ, List.setIfInBounds_toArray, List.set_cons_zero, List.set_cons_succ])
  refine wpAnyH_ready (rs := [10]) (by kernel_rfl) (by simp) ?_
  refine AllReadyH.cons rfl (fun K hK => ?_) AllReadyH.nil
  go_simp
  have hown1 : (W.alloc (.cells #[.int .i64 hx.k, .int .i64 hx.m, .int .i64 hx.e, .string hx.t, .slice ax nx cx, .slice hx.na hx.ns.length hx.nc, .int .i64 hy.k, .int .i64 hy.m, .int .i64 hy.e, .string hy.t, .slice ay ny cy, .slice hy.na hy.ns.length hy.nc] 62)).drew.ownsRow w0.heap.size 62 12 v q xs := hown.alloc _
  have hblk : (W.alloc (.cells #[.int .i64 hx.k, .int .i64 hx.m, .int .i64 hx.e, .string hx.t, .slice ax nx cx, .slice hx.na hx.ns.length hx.nc, .int .i64 hy.k, .int .i64 hy.m, .int .i64 hy.e, .string hy.t, .slice ay ny cy, .slice hy.na hy.ns.length hy.nc] 62)).drew.heap[W.heap.size]? = some (.cells #[.int .i64 hx.k, .int .i64 hx.m, .int .i64 hx.e, .string hx.t, .slice ax nx cx, .slice hx.na hx.ns.length hx.nc, .int .i64 hy.k, .int .i64 hy.m, .int .i64 hy.e, .string hy.t, .slice ay ny cy, .slice hy.na hy.ns.length hy.nc] 62 (0, 0)) := by show (W.heap.push _)[W.heap.size]? = _; rw [Array.getElem?_push, if_pos rfl]
  have hB1 : Below w0.heap.size w0 (W.alloc (.cells #[.int .i64 hx.k, .int .i64 hx.m, .int .i64 hx.e, .string hx.t, .slice ax nx cx, .slice hx.na hx.ns.length hx.nc, .int .i64 hy.k, .int .i64 hy.m, .int .i64 hy.e, .string hy.t, .slice ay ny cy, .slice hy.na hy.ns.length hy.nc] 62)).drew := (hb.alloc hb.size _).drew
  generalize (W.alloc (.cells #[.int .i64 hx.k, .int .i64 hx.m, .int .i64 hx.e, .string hx.t, .slice ax nx cx, .slice hx.na hx.ns.length hx.nc, .int .i64 hy.k, .int .i64 hy.m, .int .i64 hy.e, .string hy.t, .slice ay ny cy, .slice hy.na hy.ns.length hy.nc] 62)).drew = W1 at *
  have hz1' := hB1.size
  refine hK.out _ _ (HSof.out _ hB1) (fun hHeld => ?_)
  clear hK K
  refine wpAnyH_ready (rs := [11]) (by kernel_rfl) (by simp) ?_
  refine AllReadyH.cons rfl (fun K hK => ?_) AllReadyH.nil
  refine wp_append_lies W1 _ _ 63 rfl w0.heap.size 62 i0 _ 12 176 Try.underlying63 hi hz0 hz1 hz2 rfl (by decide) v q xs rfl hown1 ⟨W.heap.size, 0, none⟩ 1 1 (hx.cells ax nx cx ++ hy.cells ay ny cy) rfl rfl (World.news_of_block hblk) (fun u hu => by simp [Hd.cells] at hu; rcases hu with h | h | h | h | h | h | h | h | h | h | h | h <;> subst h <;> rfl) (by omega) (by unfold maxLen; omega) (by omega) hz1' _ rfl ?_
  intro g cap w2 hown2 hgrow2 hat hlt
  have hB2 : Below w0.heap.size w0 w2 := hB1.grown hgrow2 hz1' (fun k hk => (hown1.lt k hk).1)
  refine hK.out _ _ (HSof.out _ hB2) (fun hHeld2 => ?_)
  clear hK K
  (try simp only [Act.put, List.getElem_toArray, List.getElem_cons_zero, List.getElem_cons_succ, List.setIfInBounds_toArray, List.set_cons_zero, List.set_cons_succ])
  refine wpAnyH_take (i := 12) (v := .slice (some ⟨g, 0, none⟩) (q + 1) cap) rfl (by kernel_rfl) (by kernel_rfl) (by kernel_rfl) (fun _ _ _ h => hp _ _ _ _ _ h) (Or.inl ⟨by rfl, ?_⟩) (by assumption) ?_
  · intro w hSw
    (try dsimp only at hSw)
    go_simp
  (try simp only [Act.put, List.getElem_toArray, List.getElem_cons_zero, List.getElem_cons_succ, List.setIfInBounds_toArray, List.set_cons_zero, List.set_cons_succ])
  refine wpAnyH_done (by kernel_rfl) ?_ _
  exact h _ _ _ _ _ _ _ _ _ _ _ _ _ _ hown2 hB2
set_option maxRecDepth 100000 in
set_option maxHeartbeats 1000000 in
theorem pairsOfV_any (F G : Vo) (a a' : Option Addr) (c c' : Nat) (w : World) (hl : F.len = G.len) (hF : F.In w a) (hG : G.In w a') (hs : F.len ≤ 2000000) :
    Calls Try.prog 35 #[.slice a F.len c, .slice a' F.len c'] w fun e w' => (∃ v, e = .returned v ∧ w'.ownsRow w.heap.size 62 12 v F.len (pairCellsV F G F.len)) ∧ Below w.heap.size w w' := by
  obtain ⟨N, hN⟩ : ∃ N, F.len = N := ⟨_, rfl⟩
  have HNF : Hid (F.len = N) := hN
  have HNG : Hid (G.len = N) := hl.symm.trans hN
  rw [hN] at hs ⊢
  clear hN hl
  go_enter Try.func35, Try.ntmps35
  go_wp2_with fail
  go_loopw [5, 9] (fun v i wr => ∃ j : Nat, i = .int .i64 j ∧ j ≤ N ∧ wr.ownsRow w.heap.size 62 12 v j (pairCellsV F G j) ∧ Below w.heap.size w wr) (fun _ i _ => N - (intOf i).toNat)
  case atStart => exact ⟨0, rfl, Nat.zero_le _, ⟨rfl, .inl ⟨rfl, rfl⟩⟩, Below.refl _ _⟩
  case round =>
    obtain ⟨j, rfl, hj, hown, hb⟩ := hrel
    by_cases hjn : j < N
    · have hjl : (j : Int) < (N : Int) := by omega
      obtain ⟨b, o, rfl, hFr⟩ := Vo.from_of_len hF (show j < F.len by rw [HNF.out]; exact hjn)
      obtain ⟨b2, o2, rfl, hGr⟩ := Vo.from_of_len hG (show j < G.len by rw [HNG.out]; exact hjn)
      have HX : Hid (Cells6 w b (o + j * 6) (F.hdAt j) (.slice (F.addrAt j) (F.kidsAt j).len (F.capAt j)) ∧ Cells6 w b2 (o2 + j * 6) (G.hdAt j) (.slice (G.addrAt j) (G.kidsAt j).len (G.capAt j))) := ⟨(Vo.from_at hFr (show j < F.len by rw [HNF.out]; exact hjn)).1, (Vo.from_at hGr (show j < G.len by rw [HNG.out]; exact hjn)).1⟩
      clear hFr hGr
      have HO : Hid (wr.ownsRow w.heap.size 62 12 u5 j (pairCellsV F G j)) := hown
      clear hown
      go_wp2_with fail
      refine po5 hjl hjl HX.out.1 HX.out.2 hb HO.out (by omega) (fun _ d _ _ _ h => by cases d <;> exact h) ?_
      intro ws v' v12 v13 v14 v15 v16 v17 v18 v19 v20 v21 v22 v23 hown2 hB2
      have HO2 : Hid (ws.ownsRow w.heap.size 62 12 v' (j + 1) (pairCellsV F G (j + 1))) := hown2
      clear hown2 HX HO
      go_wp2_with fail
      go_round
      case rel => exact ⟨j + 1, by go_num, by omega, HO2.out, hB2⟩
      case measure => simp [intOf]; omega
    · have e : j = N := by omega
      subst e
      clear hF hG
      go_wp2_with fail
      go_ret
      exact ⟨⟨_, rfl, hown⟩, hb⟩
end Go.Proofs.Ytohldacplapjkaa
