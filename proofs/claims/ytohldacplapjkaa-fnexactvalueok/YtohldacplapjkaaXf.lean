/- Contract: ValueOk of the program. -/
import Derived.Test.YtohldacplapjkaaXe
import Derived.Deep.WholeRow
namespace Go.Proofs.Ytohldacplapjkaa
open Go.RowKit Go.Shelf
attribute [local go_sem] Oper.semAt_some cell_alloc_is frozen_alloc_is
/-- all in a list so far are as they are to be -/
def GoodV {w : World} (pre : List (TV w)) : Prop := pre.length ≤ 200 ∧ ∀ x ∈ pre, x.d ≤ 20 ∧ one x.h x.kids.len
theorem own_blockV {B : Nat} {W W' : World} {row : Option Nat} (hg : W.grownBy W' row) (hr : ∀ r, row = some r → B ≤ r ∧ ∃ o : Obj, W.heap[r]? = some o ∧ o.isCells = false) {j : Nat} {o : Obj} (hj : W.heap[j]? = some o) (h : j < B ∨ o.isCells = true) : W'.heap[j]? = some o := by
  refine (hg.block j (Array.getElem?_eq_some_iff.1 hj).1 ?_).trans hj
  intro e
  obtain ⟨h1, o', h2, h3⟩ := hr j e.symm
  rcases h with h | h
  · omega
  · rw [hj] at h2; cases h2; rw [h] at h3; cases h3
/-- a value and all in it, at most 200, none deeper than 20, each with just what its kind has -/
def ValGood (h : Hd) (F : Vo) : Prop := ((1, h, F) :: F.flat 2).length ≤ 200 ∧ ∀ x ∈ ((1, h, F) :: F.flat 2), x.1 ≤ 20 ∧ one x.2.1 x.2.2.len
set_option maxRecDepth 100000 in
set_option maxHeartbeats 2000000 in
theorem iValueOk_any (h : Hd) (a : Option Addr) (c : Nat) (F : Vo) (w : World) (hF : F.size ≤ 2000000) (hin : F.In w a) (hl : F.len ≤ c) (hc : c ≤ maxLen) (hh : h.In w) :
    Calls Try.prog 9 #[valV h a F.len c] w fun r w' => SaysT (ValGood h F) r ∧ Below w.heap.size w w' := by
  refine (callsIn_wide (n := 5)).1 ?_
  refine callsIn_of_wp_marks Try.func9 rfl trivial ?_ rfl
  simp only [Try.ntmps9, List.size_toArray, List.length_cons, List.length_nil, Nat.reduceAdd, Nat.reduceSub, Array.replicate_succ, Array.replicate_zero, List.push_toArray, List.append_toArray, List.nil_append, List.cons_append]
  gi_wp2_with fail
  refine ⟨trivial, (callsIn_wide.2 (allOfV_any h a F.len c _)).mono ?_⟩
  rintro r W0' ⟨rfl, rfl⟩
  obtain ⟨W3, hW3⟩ : ∃ W3, ((w.alloc (.cells #[.int .i64 h.k, .int .i64 h.m, .int .i64 h.e, .string h.t, .slice a F.len c, .slice h.na h.ns.length h.nc] 33)).alloc (.cells #[.bool false] 4)).alloc (.cells #[.int .i64 0] 3) = W3 := ⟨_, rfl⟩
  have hs3 : W3.heap.size = w.heap.size + 3 := by rw [← hW3]; simp
  have hB3 : Below w.heap.size w W3 := by rw [← hW3]; exact (((Below.refl _ w).alloc (Nat.le_refl _) _).alloc (by simp) _).alloc (by simp; omega) _
  have hR3 : W3.heap[w.heap.size + 1]? = some (.cells #[.bool false] 4 (0, 0)) := by
    rw [← hW3]
    refine (Below.heap_alloc _ _ _ (by simp)).trans ?_
    have := World.alloc_heap_new (w.alloc (.cells #[.int .i64 h.k, .int .i64 h.m, .int .i64 h.e, .string h.t, .slice a F.len c, .slice h.na h.ns.length h.nc] 33)) (.cells #[.bool false] 4)
    rwa [World.size_alloc] at this
  have hS3 : W3.heap[w.heap.size + 2]? = some (.cells #[.int .i64 0] 3 (0, 0)) := by
    rw [← hW3]
    have := World.alloc_heap_new ((w.alloc (.cells #[.int .i64 h.k, .int .i64 h.m, .int .i64 h.e, .string h.t, .slice a F.len c, .slice h.na h.ns.length h.nc] 33)).alloc (.cells #[.bool false] 4)) (.cells #[.int .i64 0] 3)
    rwa [World.size_alloc, World.size_alloc] at this
  rw [hW3]
  clear hW3
  obtain ⟨W0, hW0⟩ : ∃ W0, W3.alloc (.cells #[.int .i64 h.k, .int .i64 h.m, .int .i64 h.e, .string h.t, .slice a F.len c, .slice h.na h.ns.length h.nc] 33) = W0 := ⟨_, rfl⟩
  have hbx : Below W3.heap.size W3 W0 := by rw [← hW0]; exact (Below.refl _ _).alloc (Nat.le_refl _) _
  have hX0 : BxV W3.heap.size h (.slice a F.len c) W0 := by rw [← hW0]; exact BxV.new W3 h (.slice a F.len c) 33
  obtain ⟨n0, n1, n2, n3, n4, n5⟩ := hX0
  have hsz : W0.heap.size = w.heap.size + 4 := by rw [← hW0]; simp; omega
  have hBW : Below w.heap.size w W0 := hB3.trans (hbx.mono (by omega))
  have hR0 := (hbx.block _ (by omega)).trans hR3
  have hS0 := (hbx.block _ (by omega)).trans hS3
  rw [hW0]
  clear hW0 hR3 hS3 hB3 hbx
  rw [hs3] at n0 n1 n2 n3 n4 n5 ⊢
  clear hs3
  gi_wp2_with fail
  refine wpIn_rangeFunc_ownH rfl (by omega) (gf := 30) (lb := #[.pointer (some ⟨w.heap.size + 3, 0, none⟩)]) rfl trivial (enters_of Try.func30 (by kernel_rfl) rfl)
    (allV_stops w 4 w.heap.size W0.heap.size (w.heap.size + 3) ⟨1, h, a, F, c, hin, hl, hc, hh⟩ W0 rfl (by show F.size ≤ 2000000; omega) (Nat.le_refl _) (Nat.le_refl _) (Sub.of_below hBW) n0 n1 n2 n3 n4 n5)
    Kept.trans (fun W l o o' hl' h hcl _ => ⟨(grownBy_putObj' W l o').size, fun j x hx hxc _ => ((grownBy_putObj' W l o').block j (Array.getElem?_eq_some_iff.1 hx).1 (by intro e; cases e; rw [h] at hx; cases hx; rw [hcl] at hxc; cases hxc)).trans hx⟩)
    (Below.refl _ _) (fun _ => rfl)
    (fun pre W => ((W.heap[w.heap.size + 1]? = some (.cells #[.bool false] 4 (0, 0)) ∧ W.heap[w.heap.size + 2]? = some (.cells #[.int .i64 pre.length] 3 (0, 0))) ∧ (GoodV pre ∧ W0.heap.size ≤ W.heap.size)) ∧ Below w.heap.size w W)
    (fun cd pre W => ((cd = .ret ∧ ¬ GoodV pre) ∧ W.heap[w.heap.size + 1]? = some (.cells #[.bool false] 4 (0, 0))) ∧ Below w.heap.size w W)
    (OwnFrom.and (fun s W W' row hs hg hr => ⟨⟨own_blockV hg hr hs.1.1 (.inl (by omega)), own_blockV hg hr hs.1.2 (.inl (by omega))⟩, hs.2.1, Nat.le_trans hs.2.2 hg.size⟩) (ownFrom_below (Nat.le_refl _) (by omega)))
    (fun cd => OwnFrom.and (fun s W W' row hs hg hr => ⟨hs.1, own_blockV hg hr hs.2 (.inl (by omega))⟩) (ownFrom_below (Nat.le_refl _) (by omega)))
    ⟨⟨⟨hR0, hS0⟩, by simp [GoodV], Nat.le_refl _⟩, hBW⟩
    (fun x a' W => ∃ Bx, W0.heap.size ≤ Bx ∧ W.heap[Bx]? = some (.cells #[.int .i64 x.h.k, .int .i64 x.h.m, .int .i64 x.h.e, .string x.h.t, .slice x.a x.kids.len x.c, .slice x.h.na x.h.ns.length x.h.nc] 33 (0, 0)) ∧ a' = { tmps := #[valV h a F.len c, .pointer (some ⟨w.heap.size, 0, none⟩), .pointer (some ⟨w.heap.size + 1, 0, none⟩), .pointer (some ⟨w.heap.size + 2, 0, none⟩), .int .i64 x.d, .pointer (some ⟨Bx, 0, none⟩), valV h a F.len c, .func (.func 30) #[] #[.pointer (some ⟨w.heap.size + 3, 0, none⟩)], .int .i64 x.d, .agg #[.int .i64 x.h.k, .int .i64 x.h.m, .int .i64 x.h.e, .string x.h.t, .slice x.a x.kids.len x.c, .slice x.h.na x.h.ns.length x.h.nc], undef, undef, undef, undef, undef, undef, undef, undef, undef, undef, undef, undef, undef], defers := [] })
    (fun x a' _ W W' row hs hg hr => by obtain ⟨Bx, e1, e2, e3⟩ := hs; exact ⟨Bx, e1, own_blockV hg hr e2 (.inr rfl), e3⟩)
    ?assign ?body ?done ?stop
  case assign =>
    rintro l pre x W K ⟨⟨⟨hR, hS⟩, hg, hz⟩, hB⟩ hK
    have hbA : Below W.heap.size W (W.alloc (.cells #[.int .i64 x.h.k, .int .i64 x.h.m, .int .i64 x.h.e, .string x.h.t, .slice x.a x.kids.len x.c, .slice x.h.na x.h.ns.length x.h.nc] 33)) := (Below.refl _ W).alloc (Nat.le_refl _) _
    dsimp only [TV.enc]
    gi_wp2
    exact hK _ _ ((KeepsOthers.alloc _ _).from _) (Kept.of_below hbA)
      ⟨⟨⟨(hbA.block _ (Array.getElem?_eq_some_iff.1 hR).1).trans hR, (hbA.block _ (Array.getElem?_eq_some_iff.1 hS).1).trans hS⟩, hg, Nat.le_trans hz hbA.size⟩, hB.trans (hbA.mono hB.size)⟩
      ⟨W.heap.size, hz, World.alloc_heap_new W _, rfl⟩
  case body =>
    rintro l pre x a' W hl' ⟨rr, hrr⟩ ⟨⟨⟨hR, hS⟩, hg, hz⟩, hB⟩ ⟨Bx, hBx, hX, rfl⟩ hlt
    have cS := (show Boxed W (w.heap.size + 2) 3 (.int .i64 pre.length) from hS).cell
    have fS := (show Boxed W (w.heap.size + 2) 3 (.int .i64 pre.length) from hS).frozen
    have hgl := hg.1
    have x0 : W.cell? ⟨Bx, 0, none⟩ = some (.int .i64 x.h.k) := by simp [World.cell?, hX]
    have x1 : W.cell? ⟨Bx, 1, none⟩ = some (.int .i64 x.h.m) := by simp [World.cell?, hX]
    have x2 : W.cell? ⟨Bx, 2, none⟩ = some (.int .i64 x.h.e) := by simp [World.cell?, hX]
    have x3 : W.cell? ⟨Bx, 3, none⟩ = some (.string x.h.t) := by simp [World.cell?, hX]
    have x4 : W.cell? ⟨Bx, 4, none⟩ = some (.slice x.a x.kids.len x.c) := by simp [World.cell?, hX]
    have x5 : W.cell? ⟨Bx, 5, none⟩ = some (.slice x.h.na x.h.ns.length x.h.nc) := by simp [World.cell?, hX]
    have cR := (show Boxed W (w.heap.size + 1) 4 (.bool false) from hR).cell
    have fR := (show Boxed W (w.heap.size + 1) 4 (.bool false) from hR).frozen
    have hne : ¬ w.heap.size + 2 = Bx := by omega
    have hne2 : ¬ w.heap.size + 2 = w.heap.size + 1 := by omega
    obtain ⟨Wn, hWn⟩ : ∃ Wn, Wn = W.setCell ⟨w.heap.size + 2, 0, none⟩ (.int .i64 ((pre.length : Int) + 1)) := ⟨_, rfl⟩
    have hSn : Wn.heap[w.heap.size + 2]? = some (.cells #[.int .i64 ((pre ++ [x]).length : Nat)] 3 (0, 0)) := by rw [hWn, show ((pre.length : Int) + 1) = (((pre ++ [x]).length : Nat) : Int) by simp]; exact Boxed.set _ (show Boxed W (w.heap.size + 2) 3 (.int .i64 pre.length) from hS)
    have hoth : ∀ j, j ≠ w.heap.size + 2 → Wn.heap[j]? = W.heap[j]? := fun j hj => by rw [hWn]; exact Below.heap_setCell _ _ _ j (fun e => hj e)
    have hKo : KeepsOthers W Wn := by rw [hWn]; exact KeepsOthers.setCell _ _ _
    have hBn : Below w.heap.size w Wn := by rw [hWn]; exact hB.setCell (p := ⟨w.heap.size + 2, 0, none⟩) (by show _ ≤ _ + 2; omega) _
    have hszn : Wn.heap.size = W.heap.size := by rw [hWn]; simp [World.setCell]
    have hKn : Kept w.heap.size W0.heap.size W Wn := ⟨by omega, fun j o ho _ hj => (hoth j (by omega)).trans ho⟩
    have hRn : Wn.heap[w.heap.size + 1]? = some (.cells #[.bool false] 4 (0, 0)) := (hoth _ (by omega)).trans hR
    by_cases q1 : pre.length + 1 ≤ 200
    · have q1' : ¬ (200 : Int) < (pre.length : Int) + 1 := by omega
      by_cases q2 : x.d ≤ 20
      · have q2' : ¬ (20 : Int) < (x.d : Int) := by omega
        gi_wp2_with fail
        rw [← hWn]
        clear hWn x0 x1 x2 x3 x4 x5 cS fS cR fR
        refine ⟨trivial, (CallsIn.inRound l (callsIn_wide.2 (fits_any x.h x.a x.kids.len x.c Wn (x.hh.sub (Sub.of_below hBn))))).mono ?_⟩
        rintro r W2 ⟨⟨ft, rfl, hft⟩, hb2⟩
        have HFt : Hid (ft = true ↔ one x.h x.kids.len) := hft
        clear hft
        have hB2 := hBn.trans (hb2.mono hBn.size)
        have cR2 : W2.heap[w.heap.size + 1]? = some (.cells #[.bool false] 4 (0, 0)) := (hb2.block _ (Array.getElem?_eq_some_iff.1 hRn).1).trans hRn
        have hKo2 : KeepsOthers W W2 := hKo.trans (KeepsOthers.of_grownBy (grown_below hb2) (fun j o e => by cases e))
        cases ft
        · have cR3 := (show Boxed W2 (w.heap.size + 1) 4 (.bool false) from cR2).cell
          have fR3 := (show Boxed W2 (w.heap.size + 1) 4 (.bool false) from cR2).frozen
          gi_wp2_with fail
          refine ⟨(hKo2.trans (KeepsOthers.setCell _ _ _)).from _, ⟨⟨rfl, fun hgd => ?_⟩, Boxed.set (.bool false) (show Boxed W2 (w.heap.size + 1) 4 (.bool false) from cR2)⟩, hB2.setCell (p := ⟨w.heap.size + 1, 0, none⟩) (by show _ ≤ _ + 1; omega) _⟩
          have := HFt.out.2 (hgd.2 x (by simp)).2
          cases this
        · gi_wp2_with fail
          refine ⟨hKo2.from _, hKn.trans (Kept.of_below hb2), ⟨⟨cR2, (hb2.block _ (Array.getElem?_eq_some_iff.1 hSn).1).trans hSn⟩, ⟨by simp; omega, fun y hy => ?_⟩, by have := hb2.size; omega⟩, hB2⟩
          rcases List.mem_append.1 hy with hy | hy
          · exact hg.2 y hy
          · obtain rfl : y = x := by simpa using hy
            exact ⟨q2, HFt.out.1 (by trivial)⟩
      · have q2' : (20 : Int) < (x.d : Int) := by omega
        gi_wp2_with fail
        refine ⟨trivial, ?_⟩
        gi_wp2_with fail
        rw [← hWn]
        refine ⟨(hKo.trans (KeepsOthers.setCell _ _ _)).from _, ⟨⟨rfl, fun hgd => ?_⟩, Boxed.set (.bool false) (show Boxed Wn (w.heap.size + 1) 4 (.bool false) from hRn)⟩, hBn.setCell (p := ⟨w.heap.size + 1, 0, none⟩) (by show _ ≤ _ + 1; omega) _⟩
        exact absurd (hgd.2 x (by simp)).1 q2
    · have q1' : (200 : Int) < (pre.length : Int) + 1 := by omega
      gi_wp2_with fail
      refine ⟨trivial, ?_⟩
      gi_wp2_with fail
      rw [← hWn]
      refine ⟨(hKo.trans (KeepsOthers.setCell _ _ _)).from _, ⟨⟨rfl, fun hgd => ?_⟩, Boxed.set (.bool false) (show Boxed Wn (w.heap.size + 1) 4 (.bool false) from hRn)⟩, hBn.setCell (p := ⟨w.heap.size + 1, 0, none⟩) (by show _ ≤ _ + 1; omega) _⟩
      have := hgd.1
      simp at this
      omega
  case done =>
    rintro D ys W hD hS ⟨⟨⟨hR, _⟩, hg, _⟩, hB⟩ hK
    have cR := (show Boxed W (w.heap.size + 1) 4 (.bool false) from hR).cell
    have fR := (show Boxed W (w.heap.size + 1) 4 (.bool false) from hR).frozen
    gi_wp2
    have hK' := (KeepsOthers.setCell W ⟨w.heap.size + 1, 0, none⟩ (.bool true)).same D _ hK rfl
    refine ⟨by simp, .inl ⟨_, _, rfl, run_takeDeferred hK', ?_⟩⟩
    have hc5 := cell_kept (Boxed.set (.bool true) (show Boxed W (w.heap.size + 1) 4 (.bool false) from hR)).cell (grownBy_putObj' _ D (.deferred none)) (fun r e => by cases e; exact ⟨_, hK', rfl⟩)
    refine ⟨.bool true, ?_, ⟨true, rfl, ?_⟩, (hB.setCell (p := ⟨w.heap.size + 1, 0, none⟩) (by show _ ≤ _ + 1; omega) _).trans (belowK_b (w := w) (Nat.le_refl _) _ D _ _ (by omega) hK' rfl rfl)⟩
    · simp [results, Try.results9, go_sem, hc5]
    · have hS' : ys.map TV.raw = (1, h, F) :: F.flat 2 := hS
      unfold ValGood
      rw [← hS']
      refine ⟨fun _ => ⟨by rw [List.length_map]; exact hg.1, fun z hz => ?_⟩, fun _ => rfl⟩
      obtain ⟨y, hy, rfl⟩ := List.mem_map.1 hz
      exact hg.2 y hy
  case stop =>
    rintro D cd pre W hD hpre ⟨⟨⟨rfl, hng⟩, hR⟩, hB⟩ hK
    gi_wp2
    refine ⟨by simp, .inl ⟨_, _, rfl, run_takeDeferred hK, ?_⟩⟩
    have hc5 := cell_kept (show Boxed W (w.heap.size + 1) 4 (.bool false) from hR).cell (grownBy_putObj' _ D (.deferred none)) (fun r e => by cases e; exact ⟨_, hK, rfl⟩)
    refine ⟨.bool false, ?_, ⟨false, rfl, ?_⟩, hB.trans (belowK_b (w := w) (Nat.le_refl _) W D _ _ (by omega) hK rfl rfl)⟩
    · simp [results, Try.results9, go_sem, hc5]
    · have hS' : pre.map TV.raw <+: (1, h, F) :: F.flat 2 := hpre
      refine ⟨fun h => (by cases h), fun h => absurd (⟨?_, fun y hy => ?_⟩ : GoodV pre) hng⟩
      · have := hS'.length_le
        have h1 := h.1
        rw [List.length_map] at this
        omega
      · exact h.2 y.raw (hS'.subset (List.mem_map.2 ⟨y, hy, rfl⟩))
end Go.Proofs.Ytohldacplapjkaa
