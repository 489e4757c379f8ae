/- The law FnExactTreeDeep walked. -/
import Derived.Test.YtapdlnakbpociaaZn
import Derived.Test.YtapdlnakbpociaaFoA
import Derived.Test.YtapdlnakbpociaaFoB
import Derived.Test.YtapdlnakbpociaaFoE
import Derived.Test.YtapdlnakbpociaaFoO
import Derived.Test.YtapdlnakbpociaaDecX
namespace Go.Proofs.Ytapdlnakbpociaa
open Go.RowKit
theorem alike_sym : ∀ {G F : Fo}, F.alike G → G.alike F := by
  intro G
  induction G with
  | nil => intro F h; rw [Fo.alike_nil h]; trivial
  | cons k t m e a c kids next ih1 ih2 =>
    intro F h
    obtain ⟨a', c', kids', next', rfl, h1, h2⟩ := Fo.alike_cons h
    exact ⟨⟨rfl, rfl, rfl, rfl⟩, ih1 h1, ih2 h2⟩
theorem alike_trans : ∀ {G F E : Fo}, F.alike G → G.alike E → F.alike E := by
  intro G
  induction G with
  | nil => intro F E h1 h2; rw [Fo.alike_nil h1]; exact h2
  | cons k t m e a c kids next ih1 ih2 =>
    intro F E h1 h2
    obtain ⟨a', c', kids', next', rfl, h3, h4⟩ := Fo.alike_cons h1
    cases E with
    | nil => exact h2.elim
    | cons k2 t2 m2 e2 a2 c2 kids2 next2 =>
      obtain ⟨⟨rfl, rfl, rfl, rfl⟩, h5, h6⟩ := h2
      exact ⟨⟨rfl, rfl, rfl, rfl⟩, ih1 h3 h5, ih2 h4 h6⟩
/-- two boxes with a tree in each, and nothing old changed -/
abbrev HeldT (W0 : World) (b b2 : Nat) (k : Int) (t : ByteArray) (m e : Int) (v v2 : Value) (w : World) : Prop :=
  (w.cell? ⟨b, 0, none⟩ = some (.int .i64 k) ∧ w.cell? ⟨b, 1, none⟩ = some (.string t) ∧ w.cell? ⟨b, 2, none⟩ = some (.int .i64 m) ∧ w.cell? ⟨b, 3, none⟩ = some (.int .i64 e) ∧ w.cell? ⟨b, 4, none⟩ = some v) ∧
  (w.cell? ⟨b2, 0, none⟩ = some (.int .i64 k) ∧ w.cell? ⟨b2, 1, none⟩ = some (.string t) ∧ w.cell? ⟨b2, 2, none⟩ = some (.int .i64 m) ∧ w.cell? ⟨b2, 3, none⟩ = some (.int .i64 e) ∧ w.cell? ⟨b2, 4, none⟩ = some v2) ∧ Below W0.heap.size W0 w
theorem HeldT.grow {W0 w w' : World} {b b2 : Nat} {k : Int} {t : ByteArray} {m e : Int} {v v2 : Value} (h : HeldT W0 b b2 k t m e v v2 w) (hb : Below w.heap.size w w') : HeldT W0 b b2 k t m e v v2 w' := by
  obtain ⟨⟨x0, x1, x2, x3, x4⟩, ⟨y0, y1, y2, y3, y4⟩, h3⟩ := h
  have l1 := World.block_lt_of_cell? w _ x0
  have l2 := World.block_lt_of_cell? w _ y0
  exact ⟨⟨(hb.cell (p := ⟨b, 0, none⟩) l1).trans x0, (hb.cell (p := ⟨b, 1, none⟩) l1).trans x1, (hb.cell (p := ⟨b, 2, none⟩) l1).trans x2, (hb.cell (p := ⟨b, 3, none⟩) l1).trans x3, (hb.cell (p := ⟨b, 4, none⟩) l1).trans x4⟩,
    ⟨(hb.cell (p := ⟨b2, 0, none⟩) l2).trans y0, (hb.cell (p := ⟨b2, 1, none⟩) l2).trans y1, (hb.cell (p := ⟨b2, 2, none⟩) l2).trans y2, (hb.cell (p := ⟨b2, 3, none⟩) l2).trans y3, (hb.cell (p := ⟨b2, 4, none⟩) l2).trans y4⟩, h3.trans (hb.mono h3.size)⟩
theorem HeldT.drew {W0 w : World} {b b2 : Nat} {k : Int} {t : ByteArray} {m e : Int} {v v2 : Value} (h : HeldT W0 b b2 k t m e v v2 w) : HeldT W0 b b2 k t m e v v2 w.drew := h.grow ((Below.refl _ _).drew)
/-- two copies of one are alike -/
theorem alike_swap {E F G : Fo} (h : F.alike E) (k : G.alike E) : F.alike G := alike_trans h (alike_sym k)
theorem alike_deepZ : ∀ {G F : Fo}, F.alike G → F.deep = G.deep := by
  intro G
  induction G with
  | nil => intro F h; rw [Fo.alike_nil h]
  | cons k t m e a c kids next ih1 ih2 =>
    intro F h
    obtain ⟨a', c', kids', next', rfl, h1, h2⟩ := Fo.alike_cons h
    show max (kids'.deep + 1) next'.deep = max (kids.deep + 1) next.deep
    rw [ih1 h1, ih2 h2]
set_option maxRecDepth 100000 in
set_option maxHeartbeats 2000000 in
theorem walk_FnExactTreeDeep (k : Int) (t : ByteArray) (m e : Int) (a : Option Addr) (F : Fo) (c : Nat) (w : World) (hh : HeadOk k t m e) (hin : F.In w a) (hl : F.len ≤ c) (hc : c ≤ maxLen) (_hA : F.All HeadOk) :
    Calls Try.prog 4 #[nodeV k t m e a F.len c] w fun r w' => r = .returned (.bool true) ∧ Below w.heap.size w w' := by
  have ht := hh.2.1
  clear hh
  have hsw := F.size_wt
  have hB0 := (Below.refl _ w).alloc (Nat.le_refl _) (.cells #[.int .i64 k, .string t, .int .i64 m, .int .i64 e, .slice a F.len c] 26)
  have hf0 := Five.new w (.int .i64 k) (.string t) (.int .i64 m) (.int .i64 e) (.slice a F.len c) 26
  have HSz := fun W hW => szNode_any k t m e a c F W 1048576 hW hl hc ht (by omega)
  have HI : Hid (∀ W, Below w.heap.size w W → F.In W a) := fun W h => hin.grow h
  clear hin
  go_enter Try.func4, Try.ntmps4
  go_wp2_with fail
  refine (HSz _ (HI.out _ hB0)).mono ?_
  rintro r w1 ⟨rfl, hb1⟩
  have hB1 := hB0.trans (hb1.mono hB0.size)
  have hf1 := hf0.below hb1 hf0.lt
  obtain ⟨⟨x0, x1, x2, x3, x4⟩, _⟩ := hf1
  clear hb1 hB0 HSz hf0
  by_cases hneed : t.size + F.wt ≤ 1048576
  · obtain ⟨d, hd⟩ : ∃ d : Nat, leftOf (t.size + F.wt) 1048576 = (d : Int) := ⟨1048576 - (t.size + F.wt), by unfold leftOf; rw [if_pos hneed]⟩
    rw [hd]
    clear hd
    have hd0 : ¬ (d : Int) < 0 := by omega
    have hsz2 : F.size ≤ 1048576 := by omega
    have hlm : F.len ≤ maxLen := Nat.le_trans hl hc
    have HC := fun W hW => toNodeC_any k t m e a c F W (by omega) hW hl hc ht
    go_wp2_with fail
    refine (HC _ (HI.out _ hB1)).mono ?_
    rintro r w2 ⟨⟨nb1, F1, rfl, ha1, hF1, _⟩, hb2⟩
    have hB2 := hB1.trans (hb2.mono hB1.size)
    have hlt1 := World.block_lt_of_cell? _ _ x0
    have y0 := (hb2.cell (p := ⟨w.heap.size, 0, none⟩) hlt1).trans x0
    have y1 := (hb2.cell (p := ⟨w.heap.size, 1, none⟩) hlt1).trans x1
    have y2 := (hb2.cell (p := ⟨w.heap.size, 2, none⟩) hlt1).trans x2
    have y3 := (hb2.cell (p := ⟨w.heap.size, 3, none⟩) hlt1).trans x3
    have y4 := (hb2.cell (p := ⟨w.heap.size, 4, none⟩) hlt1).trans x4
    clear x0 x1 x2 x3 x4
    clear hb2 hB1 hlt1
    have hs1 : F1.size ≤ 1048576 := by rw [Fo.alike_size ha1]; exact hsz2
    have hl1 : F1.len ≤ maxLen := by rw [Fo.alike_len ha1]; exact hlm
    go_wp2_with fail
    refine (sTreeDeep_any (F1.size + 1) k t m e (some ⟨nb1, 0, none⟩) F1.len F1 _ (Nat.lt_succ_self _) (by omega) (.inr ⟨nb1, 0, rfl, hF1⟩) (Nat.le_refl _) (by omega)).mono ?_
    rintro r w3 ⟨rfl, hb3⟩
    rw [alike_deepZ ha1]
    have hB3 := hB2.trans (hb3.mono hB2.size)
    have hlt2 := World.block_lt_of_cell? _ _ y0
    have z0 := (hb3.cell (p := ⟨w.heap.size, 0, none⟩) hlt2).trans y0
    have z1 := (hb3.cell (p := ⟨w.heap.size, 1, none⟩) hlt2).trans y1
    have z2 := (hb3.cell (p := ⟨w.heap.size, 2, none⟩) hlt2).trans y2
    have z3 := (hb3.cell (p := ⟨w.heap.size, 3, none⟩) hlt2).trans y3
    have z4 := (hb3.cell (p := ⟨w.heap.size, 4, none⟩) hlt2).trans y4
    clear y0 y1 y2 y3 y4
    clear hb3 hB2 hlt2 hF1
    go_wp2_with fail
    refine (HC _ (HI.out _ hB3)).mono ?_
    rintro r w4 ⟨⟨nb2, F2, rfl, ha2, hF2a, hgd2⟩, hb4⟩
    have hB4a := hB3.trans (hb4.mono hB3.size)
    have hbx := (Below.refl _ w4).alloc (Nat.le_refl _) (.cells #[.int .i64 k, .string t, .int .i64 m, .int .i64 e, .slice (some ⟨nb2, 0, none⟩) F2.len F2.len] 32)
    have hB4 := hB4a.trans (hbx.mono hB4a.size)
    have hg0 := Five.new w4 (.int .i64 k) (.string t) (.int .i64 m) (.int .i64 e) (.slice (some ⟨nb2, 0, none⟩) F2.len F2.len) 32
    have hF2 := Fo.from_grow hbx F2 _ _ hF2a
    have hxx := hb4.trans (hbx.mono hb4.size)
    have hlt3 := World.block_lt_of_cell? _ _ z0
    have u0 := (hxx.cell (p := ⟨w.heap.size, 0, none⟩) hlt3).trans z0
    have u1 := (hxx.cell (p := ⟨w.heap.size, 1, none⟩) hlt3).trans z1
    have u2 := (hxx.cell (p := ⟨w.heap.size, 2, none⟩) hlt3).trans z2
    have u3 := (hxx.cell (p := ⟨w.heap.size, 3, none⟩) hlt3).trans z3
    have u4 := (hxx.cell (p := ⟨w.heap.size, 4, none⟩) hlt3).trans z4
    clear z0 z1 z2 z3 z4
    have hs2 : F2.size ≤ 1048576 := by rw [Fo.alike_size ha2]; exact hsz2
    have HGd : Hid (Li.Ok _ ⟨some ⟨nb2, 0, none⟩, F2, F2.len⟩) := ⟨.inr ⟨nb2, 0, rfl, hF2⟩, hgd2.1.below hbx, hgd2.2.below hbx, by show F2.size ≤ 1100000; omega⟩
    clear hb4 hB3 hlt3 hF2a hxx hbx hB4a hgd2
    have hl2 : F2.len ≤ maxLen := by rw [Fo.alike_len ha2]; exact hlm
    go_wp2_with fail
    refine (iTreeDeep_any k t m e (some ⟨nb2, 0, none⟩) F2 F2.len _ HGd.out).mono ?_
    rintro r w5 ⟨rfl, hb5⟩
    rw [alike_deepZ ha2]
    clear HGd
    have hB5 := hB4.trans (hb5.mono hB4.size)
    have hlt4 := World.block_lt_of_cell? _ _ u0
    have hF5 := Fo.from_grow hb5 F2 _ _ hF2
    have hg5 := hg0.below hb5 hg0.lt
    have v0 := (hb5.cell (p := ⟨w.heap.size, 0, none⟩) hlt4).trans u0
    have v1 := (hb5.cell (p := ⟨w.heap.size, 1, none⟩) hlt4).trans u1
    have v2 := (hb5.cell (p := ⟨w.heap.size, 2, none⟩) hlt4).trans u2
    have v3 := (hb5.cell (p := ⟨w.heap.size, 3, none⟩) hlt4).trans u3
    have v4 := (hb5.cell (p := ⟨w.heap.size, 4, none⟩) hlt4).trans u4
    clear u0 u1 u2 u3 u4
    clear hb5 hB4 hlt4 hF2 hg0
    have hqq : (((F.deep : Int) + 1) != ((F.deep : Int) + 1)) = false := by simp
    obtain ⟨⟨p0, p1, p2, p3, p4⟩, _⟩ := hg5
    have hS0 : HeldT w5 w.heap.size w4.heap.size k t m e (.slice a F.len c) (.slice (some ⟨nb2, 0, none⟩) F2.len F2.len) w5 := ⟨⟨v0, v1, v2, v3, v4⟩, ⟨p0, p1, p2, p3, p4⟩, Below.refl _ _⟩
    have HI5 : Hid (∀ W, Below w5.heap.size w5 W → F.In W a) := fun W h => HI.out W (hB5.trans (h.mono hB5.size))
    clear v0 v1 v2 v3 v4 p0 p1 p2 p3 p4 HI
    go_wp2_with fail
    refine wp_region_held_drew (S := fun w' => HeldT w5 w.heap.size w4.heap.size k t m e (.slice a F.len c) (.slice (some ⟨nb2, 0, none⟩) F2.len F2.len) w') (by kernel_rfl) (HeldT.drew hS0) (fun hHeld => ?_)
    refine wpAnyH_take (i := 0) (v := nodeV k t m e (some ⟨nb2, 0, none⟩) F2.len F2.len) rfl (by kernel_rfl) (by kernel_rfl) (by kernel_rfl) (fun _ _ _ h => h) (Or.inl ⟨by rfl, ?_⟩) (by assumption) ?_
    · intro w hSw
      (try dsimp only at hSw)
      go_simp
    (try simp only [Act.put, List.getElem_toArray, List.getElem_cons_zero, List.setIfInBounds_toArray, List.set_cons_zero, List.set_cons_succ])
    refine wpAnyH_take (i := 1) (v := nodeV k t m e a F.len c) rfl (by kernel_rfl) (by kernel_rfl) (by kernel_rfl) (fun _ _ _ h => h) (Or.inl ⟨by rfl, ?_⟩) (by assumption) ?_
    · intro w hSw
      (try dsimp only at hSw)
      go_simp
    (try simp only [Act.put, List.getElem_toArray, List.getElem_cons_zero, List.getElem_cons_succ, List.setIfInBounds_toArray, List.set_cons_zero, List.set_cons_succ])
    refine wpAnyH_ready (rs := [2]) (by kernel_rfl) (by simp) ?_
    refine AllReadyH.cons rfl (fun K hK => ?_) AllReadyH.nil
    go_simp
    refine (HC _ (HI5.out _ (by assumption : HeldT w5 w.heap.size w4.heap.size k t m e (.slice a F.len c) (.slice (some ⟨nb2, 0, none⟩) F2.len F2.len) _).2.2)).mono ?_
    rintro r w6 ⟨⟨nb3, F3, rfl, ha3, hF3, _⟩, hb6⟩
    have hl3 : F3.len ≤ maxLen := by rw [Fo.alike_len ha3]; exact hlm
    have ha23 := alike_swap ha2 ha3
    have hS := HeldT.grow (by assumption) hb6
    go_wp2_with fail
    refine hK.out _ _ hS (fun hHeld => ?_)
    clear hK K hS
    refine wpAnyH_ready (rs := [3]) (by kernel_rfl) (by simp) ?_
    refine AllReadyH.cons rfl (fun K hK => ?_) AllReadyH.nil
    go_simp
    refine (eqNode_all (F2.size + 1) k t m e (some ⟨nb2, 0, none⟩) (some ⟨nb3, 0, none⟩) F2.len F3.len F2 F3 _ (by omega) ha23 (.inr ⟨nb2, 0, rfl, Fo.from_grow hHeld.2.2 F2 _ _ hF5⟩) (.inr ⟨nb3, 0, rfl, hF3⟩) (Nat.le_refl _) (by omega) (Nat.le_refl _) (by omega)).mono ?_
    rintro r w7 ⟨rfl, hb7⟩
    have hS := HeldT.grow (by assumption) hb7
    go_wp2_with fail
    refine hK.out _ _ hS (fun hHeld => ?_)
    clear hK K hS
    refine wpAnyH_take (i := 4) (v := .bool false) rfl (by kernel_rfl) (by kernel_rfl) (by kernel_rfl) (fun _ _ _ h => h) (Or.inl ⟨by rfl, ?_⟩) (by assumption) ?_
    · intro w hSw
      (try dsimp only at hSw)
      go_simp
    (try simp only [Act.put, List.getElem_toArray, List.getElem_cons_zero, List.getElem_cons_succ, List.setIfInBounds_toArray, List.set_cons_zero, List.set_cons_succ])
    refine wpAnyH_done (by kernel_rfl) ?_ _
    have hB7 := hB5.trans (hHeld.2.2.mono hB5.size)
    clear hF5 hF3
    go_wp2_with fail
    go_ret
    exact ⟨rfl, hB7⟩
  · have hd : leftOf (t.size + F.wt) 1048576 = -1 := by unfold leftOf; rw [if_neg hneed]
    rw [hd]
    go_wp2_with fail
    go_ret
    exact ⟨rfl, hB1⟩
end Go.Proofs.Ytapdlnakbpociaa
