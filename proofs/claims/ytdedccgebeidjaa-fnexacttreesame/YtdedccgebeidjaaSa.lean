/- Two trees that are the same, by the program: places of lists, heads, pairs. -/
import Derived.Test.YtdedccgebeidjaaKp
import Derived.Test.YtdedccgebeidjaaOkI
import Derived.Deep.AppendLies
import Derived.Deep.RegionHeld3
import Derived.Deep.DeepCutAuto
namespace Go.Proofs.Ytdedccgebeidjaa
open Go.RowKit
/-- what lies at one place with one length is one list -/
theorem Fo.from_inj {w : World} : ∀ (F G : Fo) (b o : Nat), F.From w b o → G.From w b o → F.len = G.len → F = G := by
  intro F
  induction F with
  | nil =>
    intro G b o _ _ h
    cases G with
    | nil => rfl
    | cons => exact absurd h.symm (Nat.succ_ne_zero _)
  | cons k t m e a c kids next ih1 ih2 =>
    intro G b o h1 h2 h
    cases G with
    | nil => exact absurd h (Nat.succ_ne_zero _)
    | cons k' t' m' e' a' c' kids' next' =>
      obtain ⟨⟨x0, x1, x2, x3, x4⟩, hk, _, _, _, hn⟩ := h1
      obtain ⟨⟨y0, y1, y2, y3, y4⟩, hk', _, _, _, hn'⟩ := h2
      rw [x0] at y0; rw [x1] at y1; rw [x2] at y2; rw [x3] at y3; rw [x4] at y4
      simp only [Option.some.injEq, Value.int.injEq, Value.string.injEq, Value.slice.injEq, true_and] at y0 y1 y2 y3 y4
      obtain ⟨ha, hl, hc⟩ := y4
      subst y0 y1 y2 y3 ha hc
      have hkk : kids = kids' := by
        rcases hk with hk | ⟨b', o', e1, hF⟩
        · subst hk
          cases kids' with
          | nil => rfl
          | cons => exact absurd hl.symm (Nat.succ_ne_zero _)
        · rcases hk' with hk' | ⟨b2, o2, e2, hG⟩
          · subst hk'
            cases kids with
            | nil => rfl
            | cons => exact absurd hl (Nat.succ_ne_zero _)
          · rw [e1] at e2
            cases e2
            exact ih1 _ _ _ hF hG hl
      subst hkk
      rw [ih2 next' b (o + 5) hn hn' (Nat.succ.inj h)]
/-- where a list lies -/
def plOf (a : Option Addr) (n : Nat) : Pl := if n = 0 then (none, 0) else (a, n)
set_option maxHeartbeats 400000 in
theorem placeOf_any (a : Option Addr) (n c : Nat) (w : World) (h : n = 0 ∨ ∃ b o, a = some ⟨b, o, none⟩) (hn : n ≤ 2000000) :
    Calls Try.prog 51 #[.slice a n c] w fun e w' => e = .returned (plV (plOf a n)) ∧ Below w.heap.size w w' := by
  by_cases h0 : n = 0
  · subst h0
    go_enter Try.func51, Try.ntmps51
    go_wp2_with fail
    exact bodyPost_ret (v := plV (plOf a 0)) (by simp [results, Try.results51, go_sem, plV, plOf]) rfl ⟨rfl, (by (repeat' (first | assumption | exact Below.refl _ _ | refine Below.alloc ?_ ?_ _ | refine Below.setCell ?_ ?_ _ | refine Below.drew ?_ | refine below_drewN ?_ _)) <;> (first | omega | (simp <;> omega)))⟩
  · obtain ⟨b, o, rfl⟩ : ∃ b o, a = some ⟨b, o, none⟩ := by rcases h with h | h; exact absurd h h0; exact h
    have g0 : ((n : Int) == 0) = false := by simp; omega
    have g1 : (0 : Int) < (n : Int) := by omega
    go_enter Try.func51, Try.ntmps51
    go_wp2_with fail
    exact bodyPost_ret (v := plV (plOf (some ⟨b, o, none⟩) n)) (by simp [results, Try.results51, go_sem, plV, plOf, h0]) rfl ⟨rfl, (by (repeat' (first | assumption | exact Below.refl _ _ | refine Below.alloc ?_ ?_ _ | refine Below.setCell ?_ ?_ _ | refine Below.drew ?_ | refine below_drewN ?_ _)) <;> (first | omega | (simp <;> omega)))⟩
/-- heads that are the same -/
def headSame (k : Int) (t : ByteArray) (m e : Int) (n : Nat) (k' : Int) (t' : ByteArray) (m' e' : Int) (n' : Nat) : Bool := decide (k = k') && (decide (t.toList = t'.toList) && ((decide (m = m') && decide (e = e')) && decide (n = n')))
set_option maxHeartbeats 1000000 in
theorem sameHead_any (k : Int) (t : ByteArray) (m e : Int) (a : Option Addr) (n c : Nat) (k' : Int) (t' : ByteArray) (m' e' : Int) (a' : Option Addr) (n' c' : Nat) (w : World) :
    Calls Try.prog 114 #[nodeV k t m e a n c, nodeV k' t' m' e' a' n' c'] w fun r w' => r = .returned (.bool (headSame k t m e n k' t' m' e' n')) ∧ Below w.heap.size w w' := by
  go_enter Try.func114, Try.ntmps114
  have hB := ((Below.refl _ w).alloc (Nat.le_refl _) (.cells #[.int .i64 k, .string t, .int .i64 m, .int .i64 e, .slice a n c] 32)).alloc (by simp) (.cells #[.int .i64 k', .string t', .int .i64 m', .int .i64 e', .slice a' n' c'] 32)
  go_wp2_with fail
  all_goals
    go_ret
    exact ⟨ret_bool (by simp_all [headSame]; try (rw [Bool.eq_iff_iff]; simp; omega)), by first | exact hB | (subst_vars; exact hB)⟩
theorem Fo.from_of_len' {F : Fo} {w : World} {a : Option Addr} (hin : F.In w a) {i : Nat} (hi : i < F.len) : ∃ b o, a = some ⟨b, o, none⟩ ∧ F.From w b o := by
  rcases hin with rfl | h
  · exact absurd hi (Nat.not_lt_zero _)
  · exact h
/-- the cells of the tree at a place -/
def Fo.cellsAt (F : Fo) (i : Nat) : List Value := [.int .i64 (F.kindAt i), .string (F.textAt i), .int .i64 (F.manAt i), .int .i64 (F.expAt i), .slice (F.addrAt i) (F.kidsAt i).len (F.capAt i)]
/-- the cells of the first n pairs -/
def pairCells (F G : Fo) : Nat → List Value
  | 0 => []
  | n + 1 => pairCells F G n ++ (F.cellsAt n ++ G.cellsAt n)
theorem pairCells_length (F G : Fo) (n : Nat) : (pairCells F G n).length = n * 10 := by
  induction n with
  | zero => rfl
  | succ n ih => show (pairCells F G n ++ (F.cellsAt n ++ G.cellsAt n)).length = _; rw [List.length_append, ih]; show _ + 10 = _; omega
theorem pairInfo : (Try.prog.info? 86).map (fun i => (i.zero, i.size, i.bytes)) = some (some (.agg #[.int .i64 0, .string ⟨#[]⟩, .int .i64 0, .int .i64 0, .slice none 0 0, .int .i64 0, .string ⟨#[]⟩, .int .i64 0, .int .i64 0, .slice none 0 0]), 10, 128) := by kernel_rfl
/-- two trees in memory, and nothing old changed -/
abbrev HeldV (W0 : World) (b o b2 o2 : Nat) (F G : Fo) (j : Nat) (w : World) : Prop :=
  (w.cell? ⟨b, o + j * 5, none⟩ = some (.int .i64 (F.kindAt j)) ∧ w.cell? ⟨b, o + j * 5 + 1, none⟩ = some (.string (F.textAt j)) ∧ w.cell? ⟨b, o + j * 5 + 2, none⟩ = some (.int .i64 (F.manAt j)) ∧ w.cell? ⟨b, o + j * 5 + 3, none⟩ = some (.int .i64 (F.expAt j)) ∧ w.cell? ⟨b, o + j * 5 + 4, none⟩ = some (.slice (F.addrAt j) (F.kidsAt j).len (F.capAt j))) ∧
  (w.cell? ⟨b2, o2 + j * 5, none⟩ = some (.int .i64 (G.kindAt j)) ∧ w.cell? ⟨b2, o2 + j * 5 + 1, none⟩ = some (.string (G.textAt j)) ∧ w.cell? ⟨b2, o2 + j * 5 + 2, none⟩ = some (.int .i64 (G.manAt j)) ∧ w.cell? ⟨b2, o2 + j * 5 + 3, none⟩ = some (.int .i64 (G.expAt j)) ∧ w.cell? ⟨b2, o2 + j * 5 + 4, none⟩ = some (.slice (G.addrAt j) (G.kidsAt j).len (G.capAt j))) ∧
  Below W0.heap.size W0 w
set_option maxRecDepth 100000 in
set_option maxHeartbeats 2000000 in
theorem pairsOf_any (F G : Fo) (a a' : Option Addr) (c c' : Nat) (w : World) (hl : F.len = G.len) (hF : F.In w a) (hG : G.In w a') (hs : F.len ≤ 2000000) :
    Calls Try.prog 53 #[.slice a F.len c, .slice a' F.len c'] w fun e w' => (∃ v, e = .returned v ∧ w'.ownsRow w.heap.size 86 10 v F.len (pairCells F G F.len)) ∧ Below w.heap.size w w' := by
  obtain ⟨i0, hi, hz0, hz1, hz2⟩ := info_parts pairInfo
  obtain ⟨N, hN⟩ : ∃ N, F.len = N := ⟨_, rfl⟩
  have HNF : Hid (F.len = N) := hN
  have HNG : Hid (G.len = N) := hl.symm.trans hN
  rw [hN] at hs ⊢
  clear hN hl
  go_enter Try.func53, Try.ntmps53
  go_wp2_with fail
  go_loopw [5, 9] (fun v i wr => ∃ j : Nat, i = .int .i64 j ∧ j ≤ N ∧ wr.ownsRow w.heap.size 86 10 v j (pairCells F G j) ∧ Below w.heap.size w wr) (fun _ i _ => N - (intOf i).toNat)
  case atStart => exact ⟨0, rfl, Nat.zero_le _, ⟨rfl, .inl ⟨rfl, rfl⟩⟩, Below.refl _ _⟩
  case round =>
    obtain ⟨j, rfl, hj, hown, hb⟩ := hrel
    by_cases hjn : j < N
    · have hjl : (j : Int) < (N : Int) := by omega
      obtain ⟨b, o, rfl, hFr⟩ := Fo.from_of_len' hF (show j < F.len by rw [HNF.out]; exact hjn)
      obtain ⟨b2, o2, rfl, hGr⟩ := Fo.from_of_len' hG (show j < G.len by rw [HNG.out]; exact hjn)
      obtain ⟨hx, _⟩ := Fo.from_at (Fo.from_grow hb F b o hFr) (show j < F.len by rw [HNF.out]; exact hjn)
      obtain ⟨hy, _⟩ := Fo.from_at (Fo.from_grow hb G b2 o2 hGr) (show j < G.len by rw [HNG.out]; exact hjn)
      have HSof : Hid (∀ W, Below w.heap.size w W → HeldV w b o b2 o2 F G j W) := fun W h => ⟨(Fo.from_at (Fo.from_grow h F b o hFr) (show j < F.len by rw [HNF.out]; exact hjn)).1, (Fo.from_at (Fo.from_grow h G b2 o2 hGr) (show j < G.len by rw [HNG.out]; exact hjn)).1, h⟩
      have hS0 := HSof.out _ hb.drew
      clear hx hy hFr hGr
      go_wp2_with fail
      refine wp_region_held_drew (S := fun w' => HeldV w b o b2 o2 F G j w') (by kernel_rfl) hS0 (fun hHeld => ?_)
      refine wpAnyH_take (i := 0) (v := u5) rfl (by kernel_rfl) (by kernel_rfl) (by kernel_rfl) (fun _ _ _ h => h) (Or.inl ⟨by rfl, ?_⟩) (by assumption) ?_
      · intro w hSw
        (try dsimp only at hSw)
        go_simp
      (try simp only [Act.put, List.getElem_toArray, List.getElem_cons_zero, List.setIfInBounds_toArray, List.set_cons_zero, List.set_cons_succ])
      refine wpAnyH_take (i := 1) (v := .slice (some ⟨b, o, none⟩) N c) rfl (by kernel_rfl) (by kernel_rfl) (by kernel_rfl) (fun _ _ _ h => h) (Or.inl ⟨by rfl, ?_⟩) (by assumption) ?_
      · intro w hSw
        (try dsimp only at hSw)
        go_simp
      (try simp only [Act.put, List.getElem_toArray, List.getElem_cons_zero, List.getElem_cons_succ, List.setIfInBounds_toArray, List.set_cons_zero, List.set_cons_succ])
      refine wpAnyH_take (i := 2) (v := .int .i64 j) rfl (by kernel_rfl) (by kernel_rfl) (by kernel_rfl) (fun _ _ _ h => h) (Or.inl ⟨by rfl, ?_⟩) (by assumption) ?_
      · intro w hSw
        (try dsimp only at hSw)
        go_simp
      (try simp only [Act.put, List.getElem_toArray, List.getElem_cons_zero, List.getElem_cons_succ, List.setIfInBounds_toArray, List.set_cons_zero, List.set_cons_succ])
      refine wpAnyH_take (i := 3) (v := .pointer (some ⟨b, o + j * 5, none⟩)) rfl (by kernel_rfl) (by kernel_rfl) (by kernel_rfl) (fun _ _ _ h => h) (Or.inl ⟨by rfl, ?_⟩) (by assumption) ?_
      · intro w hSw
        (try dsimp only at hSw)
        go_simp
      (try simp only [Act.put, List.getElem_toArray, List.getElem_cons_zero, List.getElem_cons_succ, List.setIfInBounds_toArray, List.set_cons_zero, List.set_cons_succ])
      refine wpAnyH_take (i := 4) (v := nodeV (F.kindAt j) (F.textAt j) (F.manAt j) (F.expAt j) (F.addrAt j) (F.kidsAt j).len (F.capAt j)) rfl (by kernel_rfl) (by kernel_rfl) (by kernel_rfl) (fun _ _ _ h => h) (Or.inl ⟨by rfl, ?_⟩) (by assumption) ?_
      · intro w hSw
        (try dsimp only at hSw)
        go_simp
      (try simp only [Act.put, List.getElem_toArray, List.getElem_cons_zero, List.getElem_cons_succ, List.setIfInBounds_toArray, List.set_cons_zero, List.set_cons_succ])
      refine wpAnyH_take (i := 5) (v := .slice (some ⟨b2, o2, none⟩) N c') rfl (by kernel_rfl) (by kernel_rfl) (by kernel_rfl) (fun _ _ _ h => h) (Or.inl ⟨by rfl, ?_⟩) (by assumption) ?_
      · intro w hSw
        (try dsimp only at hSw)
        go_simp
      (try simp only [Act.put, List.getElem_toArray, List.getElem_cons_zero, List.getElem_cons_succ, List.setIfInBounds_toArray, List.set_cons_zero, List.set_cons_succ])
      refine wpAnyH_take (i := 6) (v := .int .i64 j) rfl (by kernel_rfl) (by kernel_rfl) (by kernel_rfl) (fun _ _ _ h => h) (Or.inl ⟨by rfl, ?_⟩) (by assumption) ?_
      · intro w hSw
        (try dsimp only at hSw)
        go_simp
      (try simp only [Act.put, List.getElem_toArray, List.getElem_cons_zero, List.getElem_cons_succ, List.setIfInBounds_toArray, List.set_cons_zero, List.set_cons_succ])
      refine wpAnyH_take (i := 7) (v := .pointer (some ⟨b2, o2 + j * 5, none⟩)) rfl (by kernel_rfl) (by kernel_rfl) (by kernel_rfl) (fun _ _ _ h => h) (Or.inl ⟨by rfl, ?_⟩) (by assumption) ?_
      · intro w hSw
        (try dsimp only at hSw)
        go_simp
      (try simp only [Act.put, List.getElem_toArray, List.getElem_cons_zero, List.getElem_cons_succ, List.setIfInBounds_toArray, List.set_cons_zero, List.set_cons_succ])
      refine wpAnyH_take (i := 8) (v := nodeV (G.kindAt j) (G.textAt j) (G.manAt j) (G.expAt j) (G.addrAt j) (G.kidsAt j).len (G.capAt j)) rfl (by kernel_rfl) (by kernel_rfl) (by kernel_rfl) (fun _ _ _ h => h) (Or.inl ⟨by rfl, ?_⟩) (by assumption) ?_
      · intro w hSw
        (try dsimp only at hSw)
        go_simp
      (try simp only [Act.put, List.getElem_toArray, List.getElem_cons_zero, List.getElem_cons_succ, List.setIfInBounds_toArray, List.set_cons_zero, List.set_cons_succ])
      refine wpAnyH_take (i := 9) (v := .agg #[.int .i64 (F.kindAt j), .string (F.textAt j), .int .i64 (F.manAt j), .int .i64 (F.expAt j), .slice (F.addrAt j) (F.kidsAt j).len (F.capAt j), .int .i64 (G.kindAt j), .string (G.textAt j), .int .i64 (G.manAt j), .int .i64 (G.expAt j), .slice (G.addrAt j) (G.kidsAt j).len (G.capAt j)]) rfl (by kernel_rfl) (by kernel_rfl) (by kernel_rfl) (fun _ _ _ h => h) (Or.inl ⟨by rfl, ?_⟩) (by assumption) ?_
      · intro w hSw
        (try dsimp only at hSw)
        go_simp
      (try simp only [Act.put, List.getElem_toArray, List.getElem_cons_zero, List.getElem_cons_succ, List.setIfInBounds_toArray, List.set_cons_zero, List.set_cons_succ])
      refine wpAnyH_ready (rs := [10]) (by kernel_rfl) (by simp) ?_
      refine AllReadyH.cons rfl (fun K hK => ?_) AllReadyH.nil
      go_simp
      have hown1 : (wr.alloc (.cells #[.int .i64 (F.kindAt j), .string (F.textAt j), .int .i64 (F.manAt j), .int .i64 (F.expAt j), .slice (F.addrAt j) (F.kidsAt j).len (F.capAt j), .int .i64 (G.kindAt j), .string (G.textAt j), .int .i64 (G.manAt j), .int .i64 (G.expAt j), .slice (G.addrAt j) (G.kidsAt j).len (G.capAt j)] 86)).drew.ownsRow w.heap.size 86 10 u5 j (pairCells F G j) := hown.alloc _
      have hblk : (wr.alloc (.cells #[.int .i64 (F.kindAt j), .string (F.textAt j), .int .i64 (F.manAt j), .int .i64 (F.expAt j), .slice (F.addrAt j) (F.kidsAt j).len (F.capAt j), .int .i64 (G.kindAt j), .string (G.textAt j), .int .i64 (G.manAt j), .int .i64 (G.expAt j), .slice (G.addrAt j) (G.kidsAt j).len (G.capAt j)] 86)).drew.heap[wr.heap.size]? = some (.cells #[.int .i64 (F.kindAt j), .string (F.textAt j), .int .i64 (F.manAt j), .int .i64 (F.expAt j), .slice (F.addrAt j) (F.kidsAt j).len (F.capAt j), .int .i64 (G.kindAt j), .string (G.textAt j), .int .i64 (G.manAt j), .int .i64 (G.expAt j), .slice (G.addrAt j) (G.kidsAt j).len (G.capAt j)] 86 (0, 0)) := by show (wr.heap.push _)[wr.heap.size]? = _; rw [Array.getElem?_push, if_pos rfl]
      have hB1 : Below w.heap.size w (wr.alloc (.cells #[.int .i64 (F.kindAt j), .string (F.textAt j), .int .i64 (F.manAt j), .int .i64 (F.expAt j), .slice (F.addrAt j) (F.kidsAt j).len (F.capAt j), .int .i64 (G.kindAt j), .string (G.textAt j), .int .i64 (G.manAt j), .int .i64 (G.expAt j), .slice (G.addrAt j) (G.kidsAt j).len (G.capAt j)] 86)).drew := (hb.alloc hb.size _).drew
      generalize (wr.alloc (.cells #[.int .i64 (F.kindAt j), .string (F.textAt j), .int .i64 (F.manAt j), .int .i64 (F.expAt j), .slice (F.addrAt j) (F.kidsAt j).len (F.capAt j), .int .i64 (G.kindAt j), .string (G.textAt j), .int .i64 (G.manAt j), .int .i64 (G.expAt j), .slice (G.addrAt j) (G.kidsAt j).len (G.capAt j)] 86)).drew = W1 at *
      have hz1' := hB1.size
      refine hK.out _ _ (HSof.out _ hB1) (fun hHeld => ?_)
      clear hK K
      refine wpAnyH_ready (rs := [11]) (by kernel_rfl) (by simp) ?_
      refine AllReadyH.cons rfl (fun K hK => ?_) AllReadyH.nil
      refine wp_append_lies W1 _ _ 87 rfl w.heap.size 86 i0 _ 10 128 Try.underlying87 hi hz0 hz1 hz2 rfl (by decide) u5 j (pairCells F G j) rfl hown1 ⟨wr.heap.size, 0, none⟩ 1 1 (F.cellsAt j ++ G.cellsAt j) rfl rfl (World.news_of_block hblk) (fun u hu => by simp [Fo.cellsAt] at hu; rcases hu with h | h | h | h | h | h | h | h | h | h <;> subst h <;> rfl) (by omega) (by unfold maxLen; omega) (by omega) hz1' _ rfl ?_
      intro g cap w2 hown2 hgrow2 hat hlt
      have hB2 : Below w.heap.size w w2 := hB1.grown hgrow2 hz1' (fun k hk => (hown1.lt k hk).1)
      refine hK.out _ _ (HSof.out _ hB2) (fun hHeld2 => ?_)
      clear hK K
      (try simp only [Act.put, List.getElem_toArray, List.getElem_cons_zero, List.getElem_cons_succ, List.setIfInBounds_toArray, List.set_cons_zero, List.set_cons_succ])
      refine wpAnyH_take (i := 12) (v := .slice (some ⟨g, 0, none⟩) (j + 1) cap) rfl (by kernel_rfl) (by kernel_rfl) (by kernel_rfl) (fun _ _ _ h => h) (Or.inl ⟨by rfl, ?_⟩) (by assumption) ?_
      · intro w hSw
        (try dsimp only at hSw)
        go_simp
      (try simp only [Act.put, List.getElem_toArray, List.getElem_cons_zero, List.getElem_cons_succ, List.setIfInBounds_toArray, List.set_cons_zero, List.set_cons_succ])
      refine wpAnyH_done (by kernel_rfl) ?_ _
      go_wp2_with fail
      go_round
      case rel => exact ⟨j + 1, by go_num, by omega, hown2, hB2⟩
      case measure => simp [intOf]; omega
    · have hjl : ¬ (j : Int) < (N : Int) := by omega
      have e : j = N := by omega
      subst e
      go_wp2_with fail
      go_ret
      exact ⟨⟨_, rfl, hown⟩, hb⟩
end Go.Proofs.Ytdedccgebeidjaa
