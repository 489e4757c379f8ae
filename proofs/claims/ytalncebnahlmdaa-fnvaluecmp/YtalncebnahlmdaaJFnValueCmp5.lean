/- My own texts, joined: Xf Xh Xi Dm4 Dm2 Dm3 Dm5 Dm6 Dm7. -/
import Derived.Test.YtalncebnahlmdaaJFnValueCmp4
import Derived.Deep.WholeRow
import Derived.Test.YtalncebnahlmdaaJFnValueCmp0
/- Contract: ValueOk of the program. -/
namespace Go.Proofs.Ytalncebnahlmdaa
open Go.RowKit Go.Shelf
attribute [local go_sem] Oper.semAt_some cell_alloc_is frozen_alloc_is
/-- all in a list so far are as they are to be -/
def GoodV {w : World} (pre : List (TV w)) : Prop := pre.length ≤ 200 ∧ ∀ x ∈ pre, x.d ≤ 20 ∧ one x.h x.kids.len
theorem own_blockV {B : Nat} {W W' : World} {row : Option Nat} (hg : W.grownBy W' row) (hr : ∀ r, row = some r → B ≤ r ∧ ∃ o : Obj, W.heap[r]? = some o ∧ o.isCells = false) {j : Nat} {o : Obj} (hj : W.heap[j]? = some o) (h : j < B ∨ o.isCells = true) : W'.heap[j]? = some o := by
  refine (hg.block j (Array.getElem?_eq_some_iff.1 hj).1 ?_).trans hj
  intro e
  obtain ⟨h1, o', h2, h3⟩ := hr j e.symm
  rcases h with h | h
  · omega
  · rw [hj] at h2; cases h2; rw [h] at h3; cases h3
/-- a value and all in it, at most 200, none deeper than 20, each with just what its kind has -/
def ValGood (h : Hd) (F : Vo) : Prop := ((1, h, F) :: F.flat 2).length ≤ 200 ∧ ∀ x ∈ ((1, h, F) :: F.flat 2), x.1 ≤ 20 ∧ one x.2.1 x.2.2.len
set_option maxRecDepth 100000 in
set_option maxHeartbeats 2000000 in
theorem iValueOk_any (h : Hd) (a : Option Addr) (c : Nat) (F : Vo) (w : World) (hF : F.size ≤ 2000000) (hin : F.In w a) (hl : F.len ≤ c) (hc : c ≤ maxLen) (hh : h.In w) :
    Calls Try.prog 8 #[valV h a F.len c] w fun r w' => SaysT (ValGood h F) r ∧ Below w.heap.size w w' := by
  refine (callsIn_wide (n := 5)).1 ?_
  refine callsIn_of_wp_marks Try.func8 rfl trivial ?_ rfl
  simp only [Try.ntmps8, List.size_toArray, List.length_cons, List.length_nil, Nat.reduceAdd, Nat.reduceSub, Array.replicate_succ, Array.replicate_zero, List.push_toArray, List.append_toArray, List.nil_append, List.cons_append]
  gi_wp2_with fail
  refine ⟨trivial, (callsIn_wide.2 (allOfV_any h a F.len c _)).mono ?_⟩
  rintro r W0' ⟨rfl, rfl⟩
  obtain ⟨W3, hW3⟩ : ∃ W3, ((w.alloc (.cells #[.int .i64 h.k, .int .i64 h.m, .int .i64 h.e, .string h.t, .slice a F.len c, .slice h.na h.ns.length h.nc] 28)).alloc (.cells #[.bool false] 4)).alloc (.cells #[.int .i64 0] 3) = W3 := ⟨_, rfl⟩
  have hs3 : W3.heap.size = w.heap.size + 3 := by rw [← hW3]; simp
  have hB3 : Below w.heap.size w W3 := by rw [← hW3]; exact (((Below.refl _ w).alloc (Nat.le_refl _) _).alloc (by simp) _).alloc (by simp; omega) _
  have hR3 : W3.heap[w.heap.size + 1]? = some (.cells #[.bool false] 4 (0, 0)) := by
    rw [← hW3]
    refine (Below.heap_alloc _ _ _ (by simp)).trans ?_
    have := World.alloc_heap_new (w.alloc (.cells #[.int .i64 h.k, .int .i64 h.m, .int .i64 h.e, .string h.t, .slice a F.len c, .slice h.na h.ns.length h.nc] 28)) (.cells #[.bool false] 4)
    rwa [World.size_alloc] at this
  have hS3 : W3.heap[w.heap.size + 2]? = some (.cells #[.int .i64 0] 3 (0, 0)) := by
    rw [← hW3]
    have := World.alloc_heap_new ((w.alloc (.cells #[.int .i64 h.k, .int .i64 h.m, .int .i64 h.e, .string h.t, .slice a F.len c, .slice h.na h.ns.length h.nc] 28)).alloc (.cells #[.bool false] 4)) (.cells #[.int .i64 0] 3)
    rwa [World.size_alloc, World.size_alloc] at this
  rw [hW3]
  clear hW3
  obtain ⟨W0, hW0⟩ : ∃ W0, W3.alloc (.cells #[.int .i64 h.k, .int .i64 h.m, .int .i64 h.e, .string h.t, .slice a F.len c, .slice h.na h.ns.length h.nc] 28) = W0 := ⟨_, rfl⟩
  have hbx : Below W3.heap.size W3 W0 := by rw [← hW0]; exact (Below.refl _ _).alloc (Nat.le_refl _) _
  have hX0 : BxV W3.heap.size h (.slice a F.len c) W0 := by rw [← hW0]; exact BxV.new W3 h (.slice a F.len c) 28
  obtain ⟨n0, n1, n2, n3, n4, n5⟩ := hX0
  have hsz : W0.heap.size = w.heap.size + 4 := by rw [← hW0]; simp; omega
  have hBW : Below w.heap.size w W0 := hB3.trans (hbx.mono (by omega))
  have hR0 := (hbx.block _ (by omega)).trans hR3
  have hS0 := (hbx.block _ (by omega)).trans hS3
  rw [hW0]
  clear hW0 hR3 hS3 hB3 hbx
  rw [hs3] at n0 n1 n2 n3 n4 n5 ⊢
  clear hs3
  gi_wp2_with fail
  refine wpIn_rangeFunc_ownH rfl (by omega) (gf := 45) (lb := #[.pointer (some ⟨w.heap.size + 3, 0, none⟩)]) rfl trivial (enters_of Try.func45 (by kernel_rfl) rfl)
    (allV_stops w 4 w.heap.size W0.heap.size (w.heap.size + 3) ⟨1, h, a, F, c, hin, hl, hc, hh⟩ W0 rfl (by show F.size ≤ 2000000; omega) (Nat.le_refl _) (Nat.le_refl _) (Sub.of_below hBW) n0 n1 n2 n3 n4 n5)
    Kept.trans (fun W l o o' hl' h hcl _ => ⟨(grownBy_putObj' W l o').size, fun j x hx hxc _ => ((grownBy_putObj' W l o').block j (Array.getElem?_eq_some_iff.1 hx).1 (by intro e; cases e; rw [h] at hx; cases hx; rw [hcl] at hxc; cases hxc)).trans hx⟩)
    (Below.refl _ _) (fun _ => rfl)
    (fun pre W => ((W.heap[w.heap.size + 1]? = some (.cells #[.bool false] 4 (0, 0)) ∧ W.heap[w.heap.size + 2]? = some (.cells #[.int .i64 pre.length] 3 (0, 0))) ∧ (GoodV pre ∧ W0.heap.size ≤ W.heap.size)) ∧ Below w.heap.size w W)
    (fun cd pre W => ((cd = .ret ∧ ¬ GoodV pre) ∧ W.heap[w.heap.size + 1]? = some (.cells #[.bool false] 4 (0, 0))) ∧ Below w.heap.size w W)
    (OwnFrom.and (fun s W W' row hs hg hr => ⟨⟨own_blockV hg hr hs.1.1 (.inl (by omega)), own_blockV hg hr hs.1.2 (.inl (by omega))⟩, hs.2.1, Nat.le_trans hs.2.2 hg.size⟩) (ownFrom_below (Nat.le_refl _) (by omega)))
    (fun cd => OwnFrom.and (fun s W W' row hs hg hr => ⟨hs.1, own_blockV hg hr hs.2 (.inl (by omega))⟩) (ownFrom_below (Nat.le_refl _) (by omega)))
    ⟨⟨⟨hR0, hS0⟩, by simp [GoodV], Nat.le_refl _⟩, hBW⟩
    (fun x a' W => ∃ Bx, W0.heap.size ≤ Bx ∧ W.heap[Bx]? = some (.cells #[.int .i64 x.h.k, .int .i64 x.h.m, .int .i64 x.h.e, .string x.h.t, .slice x.a x.kids.len x.c, .slice x.h.na x.h.ns.length x.h.nc] 28 (0, 0)) ∧ a' = { tmps := #[valV h a F.len c, .pointer (some ⟨w.heap.size, 0, none⟩), .pointer (some ⟨w.heap.size + 1, 0, none⟩), .pointer (some ⟨w.heap.size + 2, 0, none⟩), .int .i64 x.d, .pointer (some ⟨Bx, 0, none⟩), valV h a F.len c, .func (.func 45) #[] #[.pointer (some ⟨w.heap.size + 3, 0, none⟩)], .int .i64 x.d, .agg #[.int .i64 x.h.k, .int .i64 x.h.m, .int .i64 x.h.e, .string x.h.t, .slice x.a x.kids.len x.c, .slice x.h.na x.h.ns.length x.h.nc], undef, undef, undef, undef, undef, undef, undef, undef, undef, undef, undef, undef, undef], defers := [] })
    (fun x a' _ W W' row hs hg hr => by obtain ⟨Bx, e1, e2, e3⟩ := hs; exact ⟨Bx, e1, own_blockV hg hr e2 (.inr rfl), e3⟩)
    ?assign ?body ?done ?stop
  case assign =>
    rintro l pre x W K ⟨⟨⟨hR, hS⟩, hg, hz⟩, hB⟩ hK
    have hbA : Below W.heap.size W (W.alloc (.cells #[.int .i64 x.h.k, .int .i64 x.h.m, .int .i64 x.h.e, .string x.h.t, .slice x.a x.kids.len x.c, .slice x.h.na x.h.ns.length x.h.nc] 28)) := (Below.refl _ W).alloc (Nat.le_refl _) _
    dsimp only [TV.enc]
    gi_wp2
    exact hK _ _ ((KeepsOthers.alloc _ _).from _) (Kept.of_below hbA)
      ⟨⟨⟨(hbA.block _ (Array.getElem?_eq_some_iff.1 hR).1).trans hR, (hbA.block _ (Array.getElem?_eq_some_iff.1 hS).1).trans hS⟩, hg, Nat.le_trans hz hbA.size⟩, hB.trans (hbA.mono hB.size)⟩
      ⟨W.heap.size, hz, World.alloc_heap_new W _, rfl⟩
  case body =>
    rintro l pre x a' W hl' ⟨rr, hrr⟩ ⟨⟨⟨hR, hS⟩, hg, hz⟩, hB⟩ ⟨Bx, hBx, hX, rfl⟩ hlt
    have cS := (show Boxed W (w.heap.size + 2) 3 (.int .i64 pre.length) from hS).cell
    have fS := (show Boxed W (w.heap.size + 2) 3 (.int .i64 pre.length) from hS).frozen
    have hgl := hg.1
    have x0 : W.cell? ⟨Bx, 0, none⟩ = some (.int .i64 x.h.k) := by simp [World.cell?, hX]
    have x1 : W.cell? ⟨Bx, 1, none⟩ = some (.int .i64 x.h.m) := by simp [World.cell?, hX]
    have x2 : W.cell? ⟨Bx, 2, none⟩ = some (.int .i64 x.h.e) := by simp [World.cell?, hX]
    have x3 : W.cell? ⟨Bx, 3, none⟩ = some (.string x.h.t) := by simp [World.cell?, hX]
    have x4 : W.cell? ⟨Bx, 4, none⟩ = some (.slice x.a x.kids.len x.c) := by simp [World.cell?, hX]
    have x5 : W.cell? ⟨Bx, 5, none⟩ = some (.slice x.h.na x.h.ns.length x.h.nc) := by simp [World.cell?, hX]
    have cR := (show Boxed W (w.heap.size + 1) 4 (.bool false) from hR).cell
    have fR := (show Boxed W (w.heap.size + 1) 4 (.bool false) from hR).frozen
    have hne : ¬ w.heap.size + 2 = Bx := by omega
    have hne2 : ¬ w.heap.size + 2 = w.heap.size + 1 := by omega
    obtain ⟨Wn, hWn⟩ : ∃ Wn, Wn = W.setCell ⟨w.heap.size + 2, 0, none⟩ (.int .i64 ((pre.length : Int) + 1)) := ⟨_, rfl⟩
    have hSn : Wn.heap[w.heap.size + 2]? = some (.cells #[.int .i64 ((pre ++ [x]).length : Nat)] 3 (0, 0)) := by rw [hWn, show ((pre.length : Int) + 1) = (((pre ++ [x]).length : Nat) : Int) by simp]; exact Boxed.set _ (show Boxed W (w.heap.size + 2) 3 (.int .i64 pre.length) from hS)
    have hoth : ∀ j, j ≠ w.heap.size + 2 → Wn.heap[j]? = W.heap[j]? := fun j hj => by rw [hWn]; exact Below.heap_setCell _ _ _ j (fun e => hj e)
    have hKo : KeepsOthers W Wn := by rw [hWn]; exact KeepsOthers.setCell _ _ _
    have hBn : Below w.heap.size w Wn := by rw [hWn]; exact hB.setCell (p := ⟨w.heap.size + 2, 0, none⟩) (by show _ ≤ _ + 2; omega) _
    have hszn : Wn.heap.size = W.heap.size := by rw [hWn]; simp [World.setCell]
    have hKn : Kept w.heap.size W0.heap.size W Wn := ⟨by omega, fun j o ho _ hj => (hoth j (by omega)).trans ho⟩
    have hRn : Wn.heap[w.heap.size + 1]? = some (.cells #[.bool false] 4 (0, 0)) := (hoth _ (by omega)).trans hR
    by_cases q1 : pre.length + 1 ≤ 200
    · have q1' : ¬ (200 : Int) < (pre.length : Int) + 1 := by omega
      by_cases q2 : x.d ≤ 20
      · have q2' : ¬ (20 : Int) < (x.d : Int) := by omega
        gi_wp2_with fail
        rw [← hWn]
        clear hWn x0 x1 x2 x3 x4 x5 cS fS cR fR
        refine ⟨trivial, (CallsIn.inRound l (callsIn_wide.2 (fits_any x.h x.a x.kids.len x.c Wn (x.hh.sub (Sub.of_below hBn))))).mono ?_⟩
        rintro r W2 ⟨⟨ft, rfl, hft⟩, hb2⟩
        have HFt : Hid (ft = true ↔ one x.h x.kids.len) := hft
        clear hft
        have hB2 := hBn.trans (hb2.mono hBn.size)
        have cR2 : W2.heap[w.heap.size + 1]? = some (.cells #[.bool false] 4 (0, 0)) := (hb2.block _ (Array.getElem?_eq_some_iff.1 hRn).1).trans hRn
        have hKo2 : KeepsOthers W W2 := hKo.trans (KeepsOthers.of_grownBy (grown_below hb2) (fun j o e => by cases e))
        cases ft
        · have cR3 := (show Boxed W2 (w.heap.size + 1) 4 (.bool false) from cR2).cell
          have fR3 := (show Boxed W2 (w.heap.size + 1) 4 (.bool false) from cR2).frozen
          gi_wp2_with fail
          refine ⟨(hKo2.trans (KeepsOthers.setCell _ _ _)).from _, ⟨⟨rfl, fun hgd => ?_⟩, Boxed.set (.bool false) (show Boxed W2 (w.heap.size + 1) 4 (.bool false) from cR2)⟩, hB2.setCell (p := ⟨w.heap.size + 1, 0, none⟩) (by show _ ≤ _ + 1; omega) _⟩
          have := HFt.out.2 (hgd.2 x (by simp)).2
          cases this
        · gi_wp2_with fail
          refine ⟨hKo2.from _, hKn.trans (Kept.of_below hb2), ⟨⟨cR2, (hb2.block _ (Array.getElem?_eq_some_iff.1 hSn).1).trans hSn⟩, ⟨by simp; omega, fun y hy => ?_⟩, by have := hb2.size; omega⟩, hB2⟩
          rcases List.mem_append.1 hy with hy | hy
          · exact hg.2 y hy
          · obtain rfl : y = x := by simpa using hy
            exact ⟨q2, HFt.out.1 (by trivial)⟩
      · have q2' : (20 : Int) < (x.d : Int) := by omega
        gi_wp2_with fail
        refine ⟨trivial, ?_⟩
        gi_wp2_with fail
        rw [← hWn]
        refine ⟨(hKo.trans (KeepsOthers.setCell _ _ _)).from _, ⟨⟨rfl, fun hgd => ?_⟩, Boxed.set (.bool false) (show Boxed Wn (w.heap.size + 1) 4 (.bool false) from hRn)⟩, hBn.setCell (p := ⟨w.heap.size + 1, 0, none⟩) (by show _ ≤ _ + 1; omega) _⟩
        exact absurd (hgd.2 x (by simp)).1 q2
    · have q1' : (200 : Int) < (pre.length : Int) + 1 := by omega
      gi_wp2_with fail
      refine ⟨trivial, ?_⟩
      gi_wp2_with fail
      rw [← hWn]
      refine ⟨(hKo.trans (KeepsOthers.setCell _ _ _)).from _, ⟨⟨rfl, fun hgd => ?_⟩, Boxed.set (.bool false) (show Boxed Wn (w.heap.size + 1) 4 (.bool false) from hRn)⟩, hBn.setCell (p := ⟨w.heap.size + 1, 0, none⟩) (by show _ ≤ _ + 1; omega) _⟩
      have := hgd.1
      simp at this
      omega
  case done =>
    rintro D ys W hD hS ⟨⟨⟨hR, _⟩, hg, _⟩, hB⟩ hK
    have cR := (show Boxed W (w.heap.size + 1) 4 (.bool false) from hR).cell
    have fR := (show Boxed W (w.heap.size + 1) 4 (.bool false) from hR).frozen
    gi_wp2
    have hK' := (KeepsOthers.setCell W ⟨w.heap.size + 1, 0, none⟩ (.bool true)).same D _ hK rfl
    refine ⟨by simp, .inl ⟨_, _, rfl, run_takeDeferred hK', ?_⟩⟩
    have hc5 := cell_kept (Boxed.set (.bool true) (show Boxed W (w.heap.size + 1) 4 (.bool false) from hR)).cell (grownBy_putObj' _ D (.deferred none)) (fun r e => by cases e; exact ⟨_, hK', rfl⟩)
    refine ⟨.bool true, ?_, ⟨true, rfl, ?_⟩, (hB.setCell (p := ⟨w.heap.size + 1, 0, none⟩) (by show _ ≤ _ + 1; omega) _).trans (belowK_b (w := w) (Nat.le_refl _) _ D _ _ (by omega) hK' rfl rfl)⟩
    · simp [results, Try.results8, go_sem, hc5]
    · have hS' : ys.map TV.raw = (1, h, F) :: F.flat 2 := hS
      unfold ValGood
      rw [← hS']
      refine ⟨fun _ => ⟨by rw [List.length_map]; exact hg.1, fun z hz => ?_⟩, fun _ => rfl⟩
      obtain ⟨y, hy, rfl⟩ := List.mem_map.1 hz
      exact hg.2 y hy
  case stop =>
    rintro D cd pre W hD hpre ⟨⟨⟨rfl, hng⟩, hR⟩, hB⟩ hK
    gi_wp2
    refine ⟨by simp, .inl ⟨_, _, rfl, run_takeDeferred hK, ?_⟩⟩
    have hc5 := cell_kept (show Boxed W (w.heap.size + 1) 4 (.bool false) from hR).cell (grownBy_putObj' _ D (.deferred none)) (fun r e => by cases e; exact ⟨_, hK, rfl⟩)
    refine ⟨.bool false, ?_, ⟨false, rfl, ?_⟩, hB.trans (belowK_b (w := w) (Nat.le_refl _) W D _ _ (by omega) hK rfl rfl)⟩
    · simp [results, Try.results8, go_sem, hc5]
    · have hS' : pre.map TV.raw <+: (1, h, F) :: F.flat 2 := hpre
      refine ⟨fun h => (by cases h), fun h => absurd (⟨?_, fun y hy => ?_⟩ : GoodV pre) hng⟩
      · have := hS'.length_le
        have h1 := h.1
        rw [List.length_map] at this
        omega
      · exact h.2 y.raw (hS'.subset (List.mem_map.2 ⟨y, hy, rfl⟩))
end Go.Proofs.Ytalncebnahlmdaa
/- Values that are ok: whether a value has just what its kind has, by the specification. -/
namespace Go.Proofs.Ytalncebnahlmdaa
open Go.RowKit
theorem text_nil {t : ByteArray} (h : t.toList = []) : t = ⟨#[]⟩ := text_ext (h.trans (by simp [ByteArray.toList_eq]))
set_option maxRecDepth 100000 in
set_option maxHeartbeats 1000000 in
theorem l7One_0 (m e : Int) (t : ByteArray) (na : Option Addr) (nc : Nat) (ns : List ByteArray) (a : Option Addr) (n c nl : Nat) (w : World) (hlen : Hid (ns.length = nl)) (hI : Hd.In w ⟨0, m, e, t, na, nc, ns⟩) :
    Calls Try.prog 49 #[.agg #[.int .i64 0, .int .i64 m, .int .i64 e, .string t, .slice a n c, .slice na nl nc]] w fun r w' => SaysT (one ⟨0, m, e, t, na, nc, ns⟩ n) r ∧ Below w.heap.size w w' := by
  by_cases h_m : m = 0
  · subst h_m
    by_cases h_e : e = 0
    · subst h_e
      by_cases h_t : t = ⟨#[]⟩
      · subst h_t
        by_cases h_n : n = 0
        · subst h_n
          by_cases h_nl : nl = 0
          · subst h_nl
            have HS : Hid (one ⟨0, 0, 0, ⟨#[]⟩, na, nc, ns⟩ 0) := by have h0 : ns = [] := List.eq_nil_of_length_eq_zero hlen.out; subst h0; unfold Hid; simp [one]
            clear hI
            go_enter Try.func49, Try.ntmps49
            go_wp2_with fail
            go_ret
            exact ⟨⟨true, rfl, fun _ => HS.out, fun _ => rfl⟩, (by (repeat' (first | assumption | exact Below.refl _ _ | refine Below.alloc ?_ ?_ _ | refine Below.setCell ?_ ?_ _ | refine Below.drew ?_ | refine below_drewN ?_ _)) <;> (first | omega | (simp <;> omega)))⟩
          · have h_nl' : ((nl : Int) == 0) = false := by simp; omega
            have HS : Hid (¬ one ⟨0, 0, 0, ⟨#[]⟩, na, nc, ns⟩ 0) := fun x => h_nl (by have := hlen.out; simp [one] at x; rw [← this]; simp [x])
            clear hI
            go_enter Try.func49, Try.ntmps49
            go_wp2_with fail
            go_ret
            exact ⟨⟨false, rfl, fun h => (by cases h), fun h => absurd h HS.out⟩, (by (repeat' (first | assumption | exact Below.refl _ _ | refine Below.alloc ?_ ?_ _ | refine Below.setCell ?_ ?_ _ | refine Below.drew ?_ | refine below_drewN ?_ _)) <;> (first | omega | (simp <;> omega)))⟩
        · have h_n' : ((n : Int) == 0) = false := by simp; omega
          have HS : Hid (¬ one ⟨0, 0, 0, ⟨#[]⟩, na, nc, ns⟩ n) := fun x => by simp [one] at x; exact h_n (by simp [x])
          clear hI
          go_enter Try.func49, Try.ntmps49
          go_wp2_with fail
          go_ret
          exact ⟨⟨false, rfl, fun h => (by cases h), fun h => absurd h HS.out⟩, (by (repeat' (first | assumption | exact Below.refl _ _ | refine Below.alloc ?_ ?_ _ | refine Below.setCell ?_ ?_ _ | refine Below.drew ?_ | refine below_drewN ?_ _)) <;> (first | omega | (simp <;> omega)))⟩
      · have h_t' : (t.toList == []) = false := by rw [beq_eq_false_iff_ne]; exact fun e' => h_t (text_nil e')
        have HS : Hid (¬ one ⟨0, 0, 0, t, na, nc, ns⟩ n) := fun x => by simp [one] at x; exact h_t (by simp [x])
        clear hI
        go_enter Try.func49, Try.ntmps49
        go_wp2_with fail
        go_ret
        exact ⟨⟨false, rfl, fun h => (by cases h), fun h => absurd h HS.out⟩, (by (repeat' (first | assumption | exact Below.refl _ _ | refine Below.alloc ?_ ?_ _ | refine Below.setCell ?_ ?_ _ | refine Below.drew ?_ | refine below_drewN ?_ _)) <;> (first | omega | (simp <;> omega)))⟩
    · have h_e' : (e == 0) = false := by simp; omega
      have HS : Hid (¬ one ⟨0, 0, e, t, na, nc, ns⟩ n) := fun x => by simp [one] at x; exact h_e (by simp [x])
      clear hI
      go_enter Try.func49, Try.ntmps49
      go_wp2_with fail
      go_ret
      exact ⟨⟨false, rfl, fun h => (by cases h), fun h => absurd h HS.out⟩, (by (repeat' (first | assumption | exact Below.refl _ _ | refine Below.alloc ?_ ?_ _ | refine Below.setCell ?_ ?_ _ | refine Below.drew ?_ | refine below_drewN ?_ _)) <;> (first | omega | (simp <;> omega)))⟩
  · have h_m' : (m == 0) = false := by simp; omega
    have HS : Hid (¬ one ⟨0, m, e, t, na, nc, ns⟩ n) := fun x => by simp [one] at x; exact h_m (by simp [x])
    clear hI
    go_enter Try.func49, Try.ntmps49
    go_wp2_with fail
    go_ret
    exact ⟨⟨false, rfl, fun h => (by cases h), fun h => absurd h HS.out⟩, (by (repeat' (first | assumption | exact Below.refl _ _ | refine Below.alloc ?_ ?_ _ | refine Below.setCell ?_ ?_ _ | refine Below.drew ?_ | refine below_drewN ?_ _)) <;> (first | omega | (simp <;> omega)))⟩
set_option maxRecDepth 100000 in
set_option maxHeartbeats 1000000 in
theorem l7One_1 (m e : Int) (t : ByteArray) (na : Option Addr) (nc : Nat) (ns : List ByteArray) (a : Option Addr) (n c nl : Nat) (w : World) (hlen : Hid (ns.length = nl)) (hI : Hd.In w ⟨1, m, e, t, na, nc, ns⟩) :
    Calls Try.prog 49 #[.agg #[.int .i64 1, .int .i64 m, .int .i64 e, .string t, .slice a n c, .slice na nl nc]] w fun r w' => SaysT (one ⟨1, m, e, t, na, nc, ns⟩ n) r ∧ Below w.heap.size w w' := by
  by_cases h_m : m = 0
  · subst h_m
    by_cases h_e : e = 0
    · subst h_e
      by_cases h_t : t = ⟨#[]⟩
      · subst h_t
        by_cases h_n : n = 0
        · subst h_n
          by_cases h_nl : nl = 0
          · subst h_nl
            have HS : Hid (one ⟨1, 0, 0, ⟨#[]⟩, na, nc, ns⟩ 0) := by have h0 : ns = [] := List.eq_nil_of_length_eq_zero hlen.out; subst h0; unfold Hid; simp [one]
            clear hI
            go_enter Try.func49, Try.ntmps49
            go_wp2_with fail
            go_ret
            exact ⟨⟨true, rfl, fun _ => HS.out, fun _ => rfl⟩, (by (repeat' (first | assumption | exact Below.refl _ _ | refine Below.alloc ?_ ?_ _ | refine Below.setCell ?_ ?_ _ | refine Below.drew ?_ | refine below_drewN ?_ _)) <;> (first | omega | (simp <;> omega)))⟩
          · have h_nl' : ((nl : Int) == 0) = false := by simp; omega
            have HS : Hid (¬ one ⟨1, 0, 0, ⟨#[]⟩, na, nc, ns⟩ 0) := fun x => h_nl (by have := hlen.out; simp [one] at x; rw [← this]; simp [x])
            clear hI
            go_enter Try.func49, Try.ntmps49
            go_wp2_with fail
            go_ret
            exact ⟨⟨false, rfl, fun h => (by cases h), fun h => absurd h HS.out⟩, (by (repeat' (first | assumption | exact Below.refl _ _ | refine Below.alloc ?_ ?_ _ | refine Below.setCell ?_ ?_ _ | refine Below.drew ?_ | refine below_drewN ?_ _)) <;> (first | omega | (simp <;> omega)))⟩
        · have h_n' : ((n : Int) == 0) = false := by simp; omega
          have HS : Hid (¬ one ⟨1, 0, 0, ⟨#[]⟩, na, nc, ns⟩ n) := fun x => by simp [one] at x; exact h_n (by simp [x])
          clear hI
          go_enter Try.func49, Try.ntmps49
          go_wp2_with fail
          go_ret
          exact ⟨⟨false, rfl, fun h => (by cases h), fun h => absurd h HS.out⟩, (by (repeat' (first | assumption | exact Below.refl _ _ | refine Below.alloc ?_ ?_ _ | refine Below.setCell ?_ ?_ _ | refine Below.drew ?_ | refine below_drewN ?_ _)) <;> (first | omega | (simp <;> omega)))⟩
      · have h_t' : (t.toList == []) = false := by rw [beq_eq_false_iff_ne]; exact fun e' => h_t (text_nil e')
        have HS : Hid (¬ one ⟨1, 0, 0, t, na, nc, ns⟩ n) := fun x => by simp [one] at x; exact h_t (by simp [x])
        clear hI
        go_enter Try.func49, Try.ntmps49
        go_wp2_with fail
        go_ret
        exact ⟨⟨false, rfl, fun h => (by cases h), fun h => absurd h HS.out⟩, (by (repeat' (first | assumption | exact Below.refl _ _ | refine Below.alloc ?_ ?_ _ | refine Below.setCell ?_ ?_ _ | refine Below.drew ?_ | refine below_drewN ?_ _)) <;> (first | omega | (simp <;> omega)))⟩
    · have h_e' : (e == 0) = false := by simp; omega
      have HS : Hid (¬ one ⟨1, 0, e, t, na, nc, ns⟩ n) := fun x => by simp [one] at x; exact h_e (by simp [x])
      clear hI
      go_enter Try.func49, Try.ntmps49
      go_wp2_with fail
      go_ret
      exact ⟨⟨false, rfl, fun h => (by cases h), fun h => absurd h HS.out⟩, (by (repeat' (first | assumption | exact Below.refl _ _ | refine Below.alloc ?_ ?_ _ | refine Below.setCell ?_ ?_ _ | refine Below.drew ?_ | refine below_drewN ?_ _)) <;> (first | omega | (simp <;> omega)))⟩
  · have h_m' : (m == 0) = false := by simp; omega
    have HS : Hid (¬ one ⟨1, m, e, t, na, nc, ns⟩ n) := fun x => by simp [one] at x; exact h_m (by simp [x])
    clear hI
    go_enter Try.func49, Try.ntmps49
    go_wp2_with fail
    go_ret
    exact ⟨⟨false, rfl, fun h => (by cases h), fun h => absurd h HS.out⟩, (by (repeat' (first | assumption | exact Below.refl _ _ | refine Below.alloc ?_ ?_ _ | refine Below.setCell ?_ ?_ _ | refine Below.drew ?_ | refine below_drewN ?_ _)) <;> (first | omega | (simp <;> omega)))⟩
set_option maxRecDepth 100000 in
set_option maxHeartbeats 1000000 in
theorem l7One_2 (m e : Int) (t : ByteArray) (na : Option Addr) (nc : Nat) (ns : List ByteArray) (a : Option Addr) (n c nl : Nat) (w : World) (hlen : Hid (ns.length = nl)) (hI : Hd.In w ⟨2, m, e, t, na, nc, ns⟩) :
    Calls Try.prog 49 #[.agg #[.int .i64 2, .int .i64 m, .int .i64 e, .string t, .slice a n c, .slice na nl nc]] w fun r w' => SaysT (one ⟨2, m, e, t, na, nc, ns⟩ n) r ∧ Below w.heap.size w w' := by
  by_cases h_m : m = 0
  · subst h_m
    by_cases h_e : e = 0
    · subst h_e
      by_cases h_t : t = ⟨#[]⟩
      · subst h_t
        by_cases h_n : n = 0
        · subst h_n
          by_cases h_nl : nl = 0
          · subst h_nl
            have HS : Hid (one ⟨2, 0, 0, ⟨#[]⟩, na, nc, ns⟩ 0) := by have h0 : ns = [] := List.eq_nil_of_length_eq_zero hlen.out; subst h0; unfold Hid; simp [one]
            clear hI
            go_enter Try.func49, Try.ntmps49
            go_wp2_with fail
            go_ret
            exact ⟨⟨true, rfl, fun _ => HS.out, fun _ => rfl⟩, (by (repeat' (first | assumption | exact Below.refl _ _ | refine Below.alloc ?_ ?_ _ | refine Below.setCell ?_ ?_ _ | refine Below.drew ?_ | refine below_drewN ?_ _)) <;> (first | omega | (simp <;> omega)))⟩
          · have h_nl' : ((nl : Int) == 0) = false := by simp; omega
            have HS : Hid (¬ one ⟨2, 0, 0, ⟨#[]⟩, na, nc, ns⟩ 0) := fun x => h_nl (by have := hlen.out; simp [one] at x; rw [← this]; simp [x])
            clear hI
            go_enter Try.func49, Try.ntmps49
            go_wp2_with fail
            go_ret
            exact ⟨⟨false, rfl, fun h => (by cases h), fun h => absurd h HS.out⟩, (by (repeat' (first | assumption | exact Below.refl _ _ | refine Below.alloc ?_ ?_ _ | refine Below.setCell ?_ ?_ _ | refine Below.drew ?_ | refine below_drewN ?_ _)) <;> (first | omega | (simp <;> omega)))⟩
        · have h_n' : ((n : Int) == 0) = false := by simp; omega
          have HS : Hid (¬ one ⟨2, 0, 0, ⟨#[]⟩, na, nc, ns⟩ n) := fun x => by simp [one] at x; exact h_n (by simp [x])
          clear hI
          go_enter Try.func49, Try.ntmps49
          go_wp2_with fail
          go_ret
          exact ⟨⟨false, rfl, fun h => (by cases h), fun h => absurd h HS.out⟩, (by (repeat' (first | assumption | exact Below.refl _ _ | refine Below.alloc ?_ ?_ _ | refine Below.setCell ?_ ?_ _ | refine Below.drew ?_ | refine below_drewN ?_ _)) <;> (first | omega | (simp <;> omega)))⟩
      · have h_t' : (t.toList == []) = false := by rw [beq_eq_false_iff_ne]; exact fun e' => h_t (text_nil e')
        have HS : Hid (¬ one ⟨2, 0, 0, t, na, nc, ns⟩ n) := fun x => by simp [one] at x; exact h_t (by simp [x])
        clear hI
        go_enter Try.func49, Try.ntmps49
        go_wp2_with fail
        go_ret
        exact ⟨⟨false, rfl, fun h => (by cases h), fun h => absurd h HS.out⟩, (by (repeat' (first | assumption | exact Below.refl _ _ | refine Below.alloc ?_ ?_ _ | refine Below.setCell ?_ ?_ _ | refine Below.drew ?_ | refine below_drewN ?_ _)) <;> (first | omega | (simp <;> omega)))⟩
    · have h_e' : (e == 0) = false := by simp; omega
      have HS : Hid (¬ one ⟨2, 0, e, t, na, nc, ns⟩ n) := fun x => by simp [one] at x; exact h_e (by simp [x])
      clear hI
      go_enter Try.func49, Try.ntmps49
      go_wp2_with fail
      go_ret
      exact ⟨⟨false, rfl, fun h => (by cases h), fun h => absurd h HS.out⟩, (by (repeat' (first | assumption | exact Below.refl _ _ | refine Below.alloc ?_ ?_ _ | refine Below.setCell ?_ ?_ _ | refine Below.drew ?_ | refine below_drewN ?_ _)) <;> (first | omega | (simp <;> omega)))⟩
  · have h_m' : (m == 0) = false := by simp; omega
    have HS : Hid (¬ one ⟨2, m, e, t, na, nc, ns⟩ n) := fun x => by simp [one] at x; exact h_m (by simp [x])
    clear hI
    go_enter Try.func49, Try.ntmps49
    go_wp2_with fail
    go_ret
    exact ⟨⟨false, rfl, fun h => (by cases h), fun h => absurd h HS.out⟩, (by (repeat' (first | assumption | exact Below.refl _ _ | refine Below.alloc ?_ ?_ _ | refine Below.setCell ?_ ?_ _ | refine Below.drew ?_ | refine below_drewN ?_ _)) <;> (first | omega | (simp <;> omega)))⟩
set_option maxRecDepth 100000 in
set_option maxHeartbeats 1000000 in
theorem l7One_4 (m e : Int) (t : ByteArray) (na : Option Addr) (nc : Nat) (ns : List ByteArray) (a : Option Addr) (n c nl : Nat) (w : World) (hlen : Hid (ns.length = nl)) (hI : Hd.In w ⟨4, m, e, t, na, nc, ns⟩) :
    Calls Try.prog 49 #[.agg #[.int .i64 4, .int .i64 m, .int .i64 e, .string t, .slice a n c, .slice na nl nc]] w fun r w' => SaysT (one ⟨4, m, e, t, na, nc, ns⟩ n) r ∧ Below w.heap.size w w' := by
  have htm := hI.2.2
  unfold maxLen at htm
  by_cases h_m : m = 0
  · subst h_m
    by_cases h_e : e = 0
    · subst h_e
      by_cases h_sz : t.size ≤ 1500
      · have h_sz' : (t.size : Int) ≤ 1500 := by omega
        by_cases h_n : n = 0
        · subst h_n
          by_cases h_nl : nl = 0
          · subst h_nl
            have HS : Hid (one ⟨4, 0, 0, t, na, nc, ns⟩ 0) := by have h0 : ns = [] := List.eq_nil_of_length_eq_zero hlen.out; subst h0; unfold Hid; simp [one]; exact h_sz
            clear hI
            go_enter Try.func49, Try.ntmps49
            go_wp2_with fail
            go_ret
            exact ⟨⟨true, rfl, fun _ => HS.out, fun _ => rfl⟩, (by (repeat' (first | assumption | exact Below.refl _ _ | refine Below.alloc ?_ ?_ _ | refine Below.setCell ?_ ?_ _ | refine Below.drew ?_ | refine below_drewN ?_ _)) <;> (first | omega | (simp <;> omega)))⟩
          · have h_nl' : ((nl : Int) == 0) = false := by simp; omega
            have HS : Hid (¬ one ⟨4, 0, 0, t, na, nc, ns⟩ 0) := fun x => h_nl (by have := hlen.out; simp [one] at x; rw [← this]; simp [x])
            clear hI
            go_enter Try.func49, Try.ntmps49
            go_wp2_with fail
            go_ret
            exact ⟨⟨false, rfl, fun h => (by cases h), fun h => absurd h HS.out⟩, (by (repeat' (first | assumption | exact Below.refl _ _ | refine Below.alloc ?_ ?_ _ | refine Below.setCell ?_ ?_ _ | refine Below.drew ?_ | refine below_drewN ?_ _)) <;> (first | omega | (simp <;> omega)))⟩
        · have h_n' : ((n : Int) == 0) = false := by simp; omega
          have HS : Hid (¬ one ⟨4, 0, 0, t, na, nc, ns⟩ n) := fun x => by simp [one] at x; exact h_n (by simp [x])
          clear hI
          go_enter Try.func49, Try.ntmps49
          go_wp2_with fail
          go_ret
          exact ⟨⟨false, rfl, fun h => (by cases h), fun h => absurd h HS.out⟩, (by (repeat' (first | assumption | exact Below.refl _ _ | refine Below.alloc ?_ ?_ _ | refine Below.setCell ?_ ?_ _ | refine Below.drew ?_ | refine below_drewN ?_ _)) <;> (first | omega | (simp <;> omega)))⟩
      · have h_sz' : ¬ (t.size : Int) ≤ 1500 := by omega
        have HS : Hid (¬ one ⟨4, 0, 0, t, na, nc, ns⟩ n) := fun x => by simp [one] at x; exact h_sz x.1
        clear hI
        go_enter Try.func49, Try.ntmps49
        go_wp2_with fail
        go_ret
        exact ⟨⟨false, rfl, fun h => (by cases h), fun h => absurd h HS.out⟩, (by (repeat' (first | assumption | exact Below.refl _ _ | refine Below.alloc ?_ ?_ _ | refine Below.setCell ?_ ?_ _ | refine Below.drew ?_ | refine below_drewN ?_ _)) <;> (first | omega | (simp <;> omega)))⟩
    · have h_e' : (e == 0) = false := by simp; omega
      have HS : Hid (¬ one ⟨4, 0, e, t, na, nc, ns⟩ n) := fun x => by simp [one] at x; exact h_e (by simp [x])
      clear hI
      go_enter Try.func49, Try.ntmps49
      go_wp2_with fail
      go_ret
      exact ⟨⟨false, rfl, fun h => (by cases h), fun h => absurd h HS.out⟩, (by (repeat' (first | assumption | exact Below.refl _ _ | refine Below.alloc ?_ ?_ _ | refine Below.setCell ?_ ?_ _ | refine Below.drew ?_ | refine below_drewN ?_ _)) <;> (first | omega | (simp <;> omega)))⟩
  · have h_m' : (m == 0) = false := by simp; omega
    have HS : Hid (¬ one ⟨4, m, e, t, na, nc, ns⟩ n) := fun x => by simp [one] at x; exact h_m (by simp [x])
    clear hI
    go_enter Try.func49, Try.ntmps49
    go_wp2_with fail
    go_ret
    exact ⟨⟨false, rfl, fun h => (by cases h), fun h => absurd h HS.out⟩, (by (repeat' (first | assumption | exact Below.refl _ _ | refine Below.alloc ?_ ?_ _ | refine Below.setCell ?_ ?_ _ | refine Below.drew ?_ | refine below_drewN ?_ _)) <;> (first | omega | (simp <;> omega)))⟩
set_option maxRecDepth 100000 in
set_option maxHeartbeats 1000000 in
theorem l7One_5 (m e : Int) (t : ByteArray) (na : Option Addr) (nc : Nat) (ns : List ByteArray) (a : Option Addr) (n c nl : Nat) (w : World) (hlen : Hid (ns.length = nl)) (hI : Hd.In w ⟨5, m, e, t, na, nc, ns⟩) :
    Calls Try.prog 49 #[.agg #[.int .i64 5, .int .i64 m, .int .i64 e, .string t, .slice a n c, .slice na nl nc]] w fun r w' => SaysT (one ⟨5, m, e, t, na, nc, ns⟩ n) r ∧ Below w.heap.size w w' := by
  by_cases h_m : m = 0
  · subst h_m
    by_cases h_e : e = 0
    · subst h_e
      by_cases h_t : t = ⟨#[]⟩
      · subst h_t
        by_cases h_nl : nl = 0
        · subst h_nl
          have HS : Hid (one ⟨5, 0, 0, ⟨#[]⟩, na, nc, ns⟩ n) := by have h0 : ns = [] := List.eq_nil_of_length_eq_zero hlen.out; subst h0; unfold Hid; simp [one]
          clear hI
          go_enter Try.func49, Try.ntmps49
          go_wp2_with fail
          go_ret
          exact ⟨⟨true, rfl, fun _ => HS.out, fun _ => rfl⟩, (by (repeat' (first | assumption | exact Below.refl _ _ | refine Below.alloc ?_ ?_ _ | refine Below.setCell ?_ ?_ _ | refine Below.drew ?_ | refine below_drewN ?_ _)) <;> (first | omega | (simp <;> omega)))⟩
        · have h_nl' : ((nl : Int) == 0) = false := by simp; omega
          have HS : Hid (¬ one ⟨5, 0, 0, ⟨#[]⟩, na, nc, ns⟩ n) := fun x => h_nl (by have := hlen.out; simp [one] at x; rw [← this]; simp [x])
          clear hI
          go_enter Try.func49, Try.ntmps49
          go_wp2_with fail
          go_ret
          exact ⟨⟨false, rfl, fun h => (by cases h), fun h => absurd h HS.out⟩, (by (repeat' (first | assumption | exact Below.refl _ _ | refine Below.alloc ?_ ?_ _ | refine Below.setCell ?_ ?_ _ | refine Below.drew ?_ | refine below_drewN ?_ _)) <;> (first | omega | (simp <;> omega)))⟩
      · have h_t' : (t.toList == []) = false := by rw [beq_eq_false_iff_ne]; exact fun e' => h_t (text_nil e')
        have HS : Hid (¬ one ⟨5, 0, 0, t, na, nc, ns⟩ n) := fun x => by simp [one] at x; exact h_t (by simp [x])
        clear hI
        go_enter Try.func49, Try.ntmps49
        go_wp2_with fail
        go_ret
        exact ⟨⟨false, rfl, fun h => (by cases h), fun h => absurd h HS.out⟩, (by (repeat' (first | assumption | exact Below.refl _ _ | refine Below.alloc ?_ ?_ _ | refine Below.setCell ?_ ?_ _ | refine Below.drew ?_ | refine below_drewN ?_ _)) <;> (first | omega | (simp <;> omega)))⟩
    · have h_e' : (e == 0) = false := by simp; omega
      have HS : Hid (¬ one ⟨5, 0, e, t, na, nc, ns⟩ n) := fun x => by simp [one] at x; exact h_e (by simp [x])
      clear hI
      go_enter Try.func49, Try.ntmps49
      go_wp2_with fail
      go_ret
      exact ⟨⟨false, rfl, fun h => (by cases h), fun h => absurd h HS.out⟩, (by (repeat' (first | assumption | exact Below.refl _ _ | refine Below.alloc ?_ ?_ _ | refine Below.setCell ?_ ?_ _ | refine Below.drew ?_ | refine below_drewN ?_ _)) <;> (first | omega | (simp <;> omega)))⟩
  · have h_m' : (m == 0) = false := by simp; omega
    have HS : Hid (¬ one ⟨5, m, e, t, na, nc, ns⟩ n) := fun x => by simp [one] at x; exact h_m (by simp [x])
    clear hI
    go_enter Try.func49, Try.ntmps49
    go_wp2_with fail
    go_ret
    exact ⟨⟨false, rfl, fun h => (by cases h), fun h => absurd h HS.out⟩, (by (repeat' (first | assumption | exact Below.refl _ _ | refine Below.alloc ?_ ?_ _ | refine Below.setCell ?_ ?_ _ | refine Below.drew ?_ | refine below_drewN ?_ _)) <;> (first | omega | (simp <;> omega)))⟩
set_option maxRecDepth 100000 in
set_option maxHeartbeats 1000000 in
theorem l7One_3 (m e : Int) (t : ByteArray) (na : Option Addr) (nc : Nat) (ns : List ByteArray) (a : Option Addr) (n c nl : Nat) (w : World) (hlen : Hid (ns.length = nl)) (hI : Hd.In w ⟨3, m, e, t, na, nc, ns⟩) :
    Calls Try.prog 49 #[.agg #[.int .i64 3, .int .i64 m, .int .i64 e, .string t, .slice a n c, .slice na nl nc]] w fun r w' => SaysT (one ⟨3, m, e, t, na, nc, ns⟩ n) r ∧ Below w.heap.size w w' := by
  cases hd : Dm.ok m e
  · skip
    have HS : Hid (¬ one ⟨3, m, e, t, na, nc, ns⟩ n) := fun x => by simp [one, hd] at x
    clear hI
    have hB0 := (Below.refl _ w).alloc (Nat.le_refl _) (.cells #[.int .i64 3, .int .i64 m, .int .i64 e, .string t, .slice a n c, .slice na nl nc] 28)
    have R0 := Row.new w [.int .i64 3, .int .i64 m, .int .i64 e, .string t, .slice a n c, .slice na nl nc] 28
    go_enter Try.func49, Try.ntmps49
    go_wp2_with fail
    refine (sDecOk_any m e _).mono ?_
    rintro r w1 ⟨rfl, hb1⟩
    have hB1 := hB0.trans (hb1.mono hB0.size)
    have x3 := (R0.below hb1 R0.lt 3 _ rfl).1
    have x4 := (R0.below hb1 R0.lt 4 _ rfl).1
    have x5 := (R0.below hb1 R0.lt 5 _ rfl).1
    clear R0 hB0 hb1
    rw [hd]
    go_wp2_with fail
    go_ret
    exact ⟨⟨false, rfl, fun h => (by cases h), fun h => absurd h HS.out⟩, hB1⟩
  · by_cases h_t : t = ⟨#[]⟩
    · subst h_t
      by_cases h_n : n = 0
      · subst h_n
        by_cases h_nl : nl = 0
        · subst h_nl
          have HS : Hid (one ⟨3, m, e, ⟨#[]⟩, na, nc, ns⟩ 0) := by have h0 : ns = [] := List.eq_nil_of_length_eq_zero hlen.out; subst h0; unfold Hid; simp [one, hd]
          clear hI
          have hB0 := (Below.refl _ w).alloc (Nat.le_refl _) (.cells #[.int .i64 3, .int .i64 m, .int .i64 e, .string ⟨#[]⟩, .slice a 0 c, .slice na 0 nc] 28)
          have R0 := Row.new w [.int .i64 3, .int .i64 m, .int .i64 e, .string ⟨#[]⟩, .slice a 0 c, .slice na 0 nc] 28
          go_enter Try.func49, Try.ntmps49
          go_wp2_with fail
          refine (sDecOk_any m e _).mono ?_
          rintro r w1 ⟨rfl, hb1⟩
          have hB1 := hB0.trans (hb1.mono hB0.size)
          have x3 := (R0.below hb1 R0.lt 3 _ rfl).1
          have x4 := (R0.below hb1 R0.lt 4 _ rfl).1
          have x5 := (R0.below hb1 R0.lt 5 _ rfl).1
          clear R0 hB0 hb1
          rw [hd]
          go_wp2_with fail
          go_ret
          exact ⟨⟨true, rfl, fun _ => HS.out, fun _ => rfl⟩, hB1⟩
        · have h_nl' : ((nl : Int) == 0) = false := by simp; omega
          have HS : Hid (¬ one ⟨3, m, e, ⟨#[]⟩, na, nc, ns⟩ 0) := fun x => h_nl (by have := hlen.out; simp [one] at x; rw [← this]; simp [x])
          clear hI
          have hB0 := (Below.refl _ w).alloc (Nat.le_refl _) (.cells #[.int .i64 3, .int .i64 m, .int .i64 e, .string ⟨#[]⟩, .slice a 0 c, .slice na nl nc] 28)
          have R0 := Row.new w [.int .i64 3, .int .i64 m, .int .i64 e, .string ⟨#[]⟩, .slice a 0 c, .slice na nl nc] 28
          go_enter Try.func49, Try.ntmps49
          go_wp2_with fail
          refine (sDecOk_any m e _).mono ?_
          rintro r w1 ⟨rfl, hb1⟩
          have hB1 := hB0.trans (hb1.mono hB0.size)
          have x3 := (R0.below hb1 R0.lt 3 _ rfl).1
          have x4 := (R0.below hb1 R0.lt 4 _ rfl).1
          have x5 := (R0.below hb1 R0.lt 5 _ rfl).1
          clear R0 hB0 hb1
          rw [hd]
          go_wp2_with fail
          go_ret
          exact ⟨⟨false, rfl, fun h => (by cases h), fun h => absurd h HS.out⟩, hB1⟩
      · have h_n' : ((n : Int) == 0) = false := by simp; omega
        have HS : Hid (¬ one ⟨3, m, e, ⟨#[]⟩, na, nc, ns⟩ n) := fun x => by simp [one] at x; exact h_n (by simp [x])
        clear hI
        have hB0 := (Below.refl _ w).alloc (Nat.le_refl _) (.cells #[.int .i64 3, .int .i64 m, .int .i64 e, .string ⟨#[]⟩, .slice a n c, .slice na nl nc] 28)
        have R0 := Row.new w [.int .i64 3, .int .i64 m, .int .i64 e, .string ⟨#[]⟩, .slice a n c, .slice na nl nc] 28
        go_enter Try.func49, Try.ntmps49
        go_wp2_with fail
        refine (sDecOk_any m e _).mono ?_
        rintro r w1 ⟨rfl, hb1⟩
        have hB1 := hB0.trans (hb1.mono hB0.size)
        have x3 := (R0.below hb1 R0.lt 3 _ rfl).1
        have x4 := (R0.below hb1 R0.lt 4 _ rfl).1
        have x5 := (R0.below hb1 R0.lt 5 _ rfl).1
        clear R0 hB0 hb1
        rw [hd]
        go_wp2_with fail
        go_ret
        exact ⟨⟨false, rfl, fun h => (by cases h), fun h => absurd h HS.out⟩, hB1⟩
    · have h_t' : (t.toList == []) = false := by rw [beq_eq_false_iff_ne]; exact fun e' => h_t (text_nil e')
      have HS : Hid (¬ one ⟨3, m, e, t, na, nc, ns⟩ n) := fun x => by simp [one] at x; exact h_t (by simp [x])
      clear hI
      have hB0 := (Below.refl _ w).alloc (Nat.le_refl _) (.cells #[.int .i64 3, .int .i64 m, .int .i64 e, .string t, .slice a n c, .slice na nl nc] 28)
      have R0 := Row.new w [.int .i64 3, .int .i64 m, .int .i64 e, .string t, .slice a n c, .slice na nl nc] 28
      go_enter Try.func49, Try.ntmps49
      go_wp2_with fail
      refine (sDecOk_any m e _).mono ?_
      rintro r w1 ⟨rfl, hb1⟩
      have hB1 := hB0.trans (hb1.mono hB0.size)
      have x3 := (R0.below hb1 R0.lt 3 _ rfl).1
      have x4 := (R0.below hb1 R0.lt 4 _ rfl).1
      have x5 := (R0.below hb1 R0.lt 5 _ rfl).1
      clear R0 hB0 hb1
      rw [hd]
      go_wp2_with fail
      go_ret
      exact ⟨⟨false, rfl, fun h => (by cases h), fun h => absurd h HS.out⟩, hB1⟩
set_option maxRecDepth 100000 in
set_option maxHeartbeats 1000000 in
theorem l7One_6 (m e : Int) (t : ByteArray) (na : Option Addr) (nc : Nat) (ns : List ByteArray) (a : Option Addr) (n c nl : Nat) (w : World) (hlen : Hid (ns.length = nl)) (hI : Hd.In w ⟨6, m, e, t, na, nc, ns⟩) :
    Calls Try.prog 49 #[.agg #[.int .i64 6, .int .i64 m, .int .i64 e, .string t, .slice a n c, .slice na nl nc]] w fun r w' => SaysT (one ⟨6, m, e, t, na, nc, ns⟩ n) r ∧ Below w.heap.size w w' := by
  by_cases h_m : m = 0
  · subst h_m
    by_cases h_e : e = 0
    · subst h_e
      by_cases h_t : t = ⟨#[]⟩
      · subst h_t
        by_cases h_l : nl = n
        · subst h_l
          have hl := hI.2.1.1
          have hc := hI.2.1.2
          dsimp only at hl hc
          have HI : Hid (SIn w ns na) := hI.1
          have hB0 := (Below.refl _ w).alloc (Nat.le_refl _) (.cells #[.int .i64 6, .int .i64 0, .int .i64 0, .string ⟨#[]⟩, .slice a nl c, .slice na nl nc] 28)
          have HN := fun W (hW : SIn W ns na) => l7Names_any ns na nc W hW hl hc
          rw [hlen.out] at HN
          have HO : Hid (one ⟨6, 0, 0, ⟨#[]⟩, na, nc, ns⟩ nl ↔ nmAsc ns nl) := by have := hlen.out; unfold Hid; simp [one, this]
          clear hI
          go_enter Try.func49, Try.ntmps49
          go_wp2_with fail
          refine (HN _ (HI.out.grow hB0)).mono ?_
          rintro r w1 ⟨⟨q, rfl, hq⟩, hb1⟩
          have hB1 := hB0.trans (hb1.mono hB0.size)
          have HQ : Hid (q = true ↔ nmAsc ns nl) := hq
          clear hq
          go_wp2_with fail
          go_ret
          exact ⟨⟨q, rfl, HQ.out.trans HO.out.symm⟩, hB1⟩
        · have h_l' : ((nl : Int) == (n : Int)) = false := by simp; omega
          have HS : Hid (¬ one ⟨6, 0, 0, ⟨#[]⟩, na, nc, ns⟩ n) := fun x => h_l (by have := hlen.out; simp [one] at x; rw [← this]; exact x.1)
          clear hI
          go_enter Try.func49, Try.ntmps49
          go_wp2_with fail
          go_ret
          exact ⟨⟨false, rfl, fun h => (by cases h), fun h => absurd h HS.out⟩, (by (repeat' (first | assumption | exact Below.refl _ _ | refine Below.alloc ?_ ?_ _ | refine Below.setCell ?_ ?_ _ | refine Below.drew ?_ | refine below_drewN ?_ _)) <;> (first | omega | (simp <;> omega)))⟩
      · have h_t' : (t.toList == []) = false := by rw [beq_eq_false_iff_ne]; exact fun e' => h_t (text_nil e')
        have HS : Hid (¬ one ⟨6, 0, 0, t, na, nc, ns⟩ n) := fun x => by simp [one] at x; exact h_t (by simp [x])
        clear hI
        go_enter Try.func49, Try.ntmps49
        go_wp2_with fail
        go_ret
        exact ⟨⟨false, rfl, fun h => (by cases h), fun h => absurd h HS.out⟩, (by (repeat' (first | assumption | exact Below.refl _ _ | refine Below.alloc ?_ ?_ _ | refine Below.setCell ?_ ?_ _ | refine Below.drew ?_ | refine below_drewN ?_ _)) <;> (first | omega | (simp <;> omega)))⟩
    · have h_e' : (e == 0) = false := by simp; omega
      have HS : Hid (¬ one ⟨6, 0, e, t, na, nc, ns⟩ n) := fun x => by simp [one] at x; exact h_e (by simp [x])
      clear hI
      go_enter Try.func49, Try.ntmps49
      go_wp2_with fail
      go_ret
      exact ⟨⟨false, rfl, fun h => (by cases h), fun h => absurd h HS.out⟩, (by (repeat' (first | assumption | exact Below.refl _ _ | refine Below.alloc ?_ ?_ _ | refine Below.setCell ?_ ?_ _ | refine Below.drew ?_ | refine below_drewN ?_ _)) <;> (first | omega | (simp <;> omega)))⟩
  · have h_m' : (m == 0) = false := by simp; omega
    have HS : Hid (¬ one ⟨6, m, e, t, na, nc, ns⟩ n) := fun x => by simp [one] at x; exact h_m (by simp [x])
    clear hI
    go_enter Try.func49, Try.ntmps49
    go_wp2_with fail
    go_ret
    exact ⟨⟨false, rfl, fun h => (by cases h), fun h => absurd h HS.out⟩, (by (repeat' (first | assumption | exact Below.refl _ _ | refine Below.alloc ?_ ?_ _ | refine Below.setCell ?_ ?_ _ | refine Below.drew ?_ | refine below_drewN ?_ _)) <;> (first | omega | (simp <;> omega)))⟩
set_option maxRecDepth 100000 in
set_option maxHeartbeats 1000000 in
theorem l7One_any (h : Hd) (a : Option Addr) (n c : Nat) (w : World) (hh : h.In w) :
    Calls Try.prog 49 #[valV h a n c] w fun r w' => SaysT (one h n) r ∧ Below w.heap.size w w' := by
  obtain ⟨k, m, e, t, na, nc, ns⟩ := h
  dsimp only [valV]
  obtain ⟨nl, hnl⟩ : ∃ nl, ns.length = nl := ⟨_, rfl⟩
  rw [hnl]
  by_cases hk : 0 ≤ k ∧ k ≤ 6
  · have hc : k = 0 ∨ k = 1 ∨ k = 2 ∨ k = 3 ∨ k = 4 ∨ k = 5 ∨ k = 6 := by omega
    clear hk
    rcases hc with rfl | rfl | rfl | rfl | rfl | rfl | rfl
    · exact l7One_0 m e t na nc ns a n c nl w hnl hh
    · exact l7One_1 m e t na nc ns a n c nl w hnl hh
    · exact l7One_2 m e t na nc ns a n c nl w hnl hh
    · exact l7One_3 m e t na nc ns a n c nl w hnl hh
    · exact l7One_4 m e t na nc ns a n c nl w hnl hh
    · exact l7One_5 m e t na nc ns a n c nl w hnl hh
    · exact l7One_6 m e t na nc ns a n c nl w hnl hh
  · have HNO : Hid (¬ one ⟨k, m, e, t, na, nc, ns⟩ n) := by
      unfold Hid one
      dsimp only
      intro h
      rcases h with ⟨h, _⟩ | ⟨h, _⟩ | ⟨h, _⟩ | ⟨h, _⟩ | ⟨h, _⟩ <;> omega
    have h0 : (k == 0) = false := by simp; omega
    have h1 : (k == 1) = false := by simp; omega
    have h2 : (k == 2) = false := by simp; omega
    have h3 : (k == 3) = false := by simp; omega
    have h4 : (k == 4) = false := by simp; omega
    have h5 : (k == 5) = false := by simp; omega
    have h6 : (k == 6) = false := by simp; omega
    clear hh hk
    go_enter Try.func49, Try.ntmps49
    go_wp2_with fail
    go_ret
    exact ⟨⟨false, rfl, fun h => (by cases h), fun h => absurd h HNO.out⟩, (Below.refl _ w).alloc (Nat.le_refl _) _⟩
end Go.Proofs.Ytalncebnahlmdaa
/- Contract: ValueOk of the specification; both say the same. -/
namespace Go.Proofs.Ytalncebnahlmdaa
open Go.RowKit
theorem Vo.deep_le (F : Vo) : F.deep ≤ F.size := by
  induction F with
  | nil => exact Nat.le_refl _
  | cons h a c kids next ih1 ih2 => show max (kids.deep + 1) next.deep ≤ kids.size + 1 + next.size; omega
set_option maxHeartbeats 1000000 in
theorem sValueSize_any (N : Nat) : ∀ (h : Hd) (a : Option Addr) (c : Nat) (F : Vo) (w : World), F.size < N → N ≤ 2000000 → F.In w a → F.len ≤ c → c ≤ maxLen →
    Calls Try.prog 11 #[valV h a F.len c] w fun e w' => e = .returned (.int .i64 (F.size + 1 : Nat)) ∧ Below w.heap.size w w' := by
  induction N with
  | zero => intro h a c F w hF; omega
  | succ N ih =>
    intro h a c F w hF hN hin hl hc
    unfold maxLen at hc
    have hll := F.len_le
    go_enter Try.func11, Try.ntmps11
    go_wp2_with fail
    go_loopw [3, 4] (fun o i wr => ∃ (j s : Nat) (G : Vo), i = .int .i64 j ∧ o = .int .i64 s ∧ j + G.len = F.len ∧ s + G.size = F.size + 1 ∧ 1 ≤ s ∧ (G = .nil ∨ ∃ b o', a = some ⟨b, o', none⟩ ∧ G.From wr b (o' + j * 6)) ∧ wr.cell? ⟨w.heap.size, 4, none⟩ = some (.slice a F.len c) ∧ Below w.heap.size w wr) (fun _ i _ => F.len - (intOf i).toNat)
    case atStart =>
      refine ⟨0, 1, F, rfl, rfl, by omega, by omega, Nat.le_refl _, ?_, by simp, (Below.refl _ _).alloc (Nat.le_refl _) _⟩
      rcases hin with h | ⟨b, o', e1, e2⟩
      · exact .inl h
      · exact .inr ⟨b, o', e1, by simpa using Vo.from_grow ((Below.refl _ w).alloc (Nat.le_refl _) _) F b o' e2⟩
    case round =>
      obtain ⟨j, s, G, rfl, rfl, hj, hs, hs1, hG, hcell, hb⟩ := hrel
      cases G with
      | nil =>
        have hj' : j = F.len := by simpa [Vo.len] using hj
        have hs' : s = F.size + 1 := by simpa [Vo.size] using hs
        subst hj' hs'
        clear hG hj hs
        go_wp2_with fail
        go_ret
        exact ⟨rfl, hb⟩
      | cons h' a' c' kids next =>
        rcases hG with hG | ⟨b, o', rfl, ⟨h1, h2, h3, h4, h5, h6⟩, hk, ⟨hc1, hc2⟩, _, hn⟩
        · cases hG
        · have hlt : (j : Int) < (F.len : Int) := by have : j + (next.len + 1) = F.len := hj; omega
          have hjl : j < F.len := by omega
          have hsz : s + (kids.size + 1 + next.size) = F.size + 1 := hs
          have hln : j + (next.len + 1) = F.len := hj
          clear hj hs hin
          go_wp2_with fail
          refine (ih h' a' c' kids wr (by omega) (by omega) hk hc1 hc2).mono ?_
          rintro e w1 ⟨rfl, hb1⟩
          have hn1 := Vo.from_grow hb1 next b _ hn
          have hz := hb.size
          have hlw := World.block_lt_of_cell? wr _ hcell
          have hcell1 : w1.cell? ⟨w.heap.size, 4, none⟩ = some (.slice (some ⟨b, o', none⟩) F.len c) := (hb1.cell (p := ⟨w.heap.size, 4, none⟩) hlw).trans hcell
          have hb2 := hb.trans (hb1.mono hz)
          clear h1 h2 h3 h4 h5 h6 hk hn hcell hb1 hb ih
          go_wp2_with fail
          go_round
          case rel =>
            refine ⟨j + 1, s + (kids.size + 1), next, by go_num, by go_num, by omega, by omega, by omega, .inr ⟨b, o', rfl, ?_⟩, hcell1, hb2⟩
            rw [show o' + (j + 1) * 6 = o' + j * 6 + 6 by omega]; exact hn1
          case measure => simp [intOf]; omega
set_option maxHeartbeats 1000000 in
theorem sDeepV_any (N : Nat) : ∀ (h : Hd) (a : Option Addr) (c : Nat) (F : Vo) (w : World), F.size < N → N ≤ 2000000 → F.In w a → F.len ≤ c → c ≤ maxLen →
    Calls Try.prog 26 #[valV h a F.len c] w fun e w' => e = .returned (.int .i64 (F.deep + 1 : Nat)) ∧ Below w.heap.size w w' := by
  induction N with
  | zero => intro h a c F w hF; omega
  | succ N ih =>
    intro h a c F w hF hN hin hl hc
    unfold maxLen at hc
    have hll := F.len_le
    have hdd := F.deep_le
    go_enter Try.func26, Try.ntmps26
    go_wp2_with fail
    go_loopw [3, 4] (fun o i wr => ∃ (j s : Nat) (G : Vo), i = .int .i64 j ∧ o = .int .i64 s ∧ j + G.len = F.len ∧ max s G.deep = F.deep ∧ G.size ≤ F.size ∧ (G = .nil ∨ ∃ b o', a = some ⟨b, o', none⟩ ∧ G.From wr b (o' + j * 6)) ∧ wr.cell? ⟨w.heap.size, 4, none⟩ = some (.slice a F.len c) ∧ Below w.heap.size w wr) (fun _ i _ => F.len - (intOf i).toNat)
    case atStart =>
      refine ⟨0, 0, F, rfl, rfl, by omega, by omega, Nat.le_refl _, ?_, by simp, (Below.refl _ _).alloc (Nat.le_refl _) _⟩
      rcases hin with h | ⟨b, o', e1, e2⟩
      · exact .inl h
      · exact .inr ⟨b, o', e1, by simpa using Vo.from_grow ((Below.refl _ w).alloc (Nat.le_refl _) _) F b o' e2⟩
    case round =>
      obtain ⟨j, s, G, rfl, rfl, hj, hs, hs1, hG, hcell, hb⟩ := hrel
      cases G with
      | nil =>
        have hj' : j = F.len := by simpa [Vo.len] using hj
        have hs' : s = F.deep := by simpa [Vo.deep] using hs
        subst hj' hs'
        clear hG hj hs
        go_wp2_with fail
        go_ret
        exact ⟨rfl, hb⟩
      | cons h' a' c' kids next =>
        rcases hG with hG | ⟨b, o', rfl, ⟨h1, h2, h3, h4, h5, h6⟩, hk, ⟨hc1, hc2⟩, _, hn⟩
        · cases hG
        · have hlt : (j : Int) < (F.len : Int) := by have : j + (next.len + 1) = F.len := hj; omega
          have hjl : j < F.len := by omega
          have hsz : kids.size + 1 + next.size ≤ F.size := hs1
          have hds : max s (max (kids.deep + 1) next.deep) = F.deep := hs
          have hln : j + (next.len + 1) = F.len := hj
          clear hj hs hin hs1
          go_wp2_with fail
          refine (ih h' a' c' kids wr (by omega) (by omega) hk hc1 hc2).mono ?_
          rintro e w1 ⟨rfl, hb1⟩
          have hn1 := Vo.from_grow hb1 next b _ hn
          have hz := hb.size
          have hlw := World.block_lt_of_cell? wr _ hcell
          have hcell1 : w1.cell? ⟨w.heap.size, 4, none⟩ = some (.slice (some ⟨b, o', none⟩) F.len c) := (hb1.cell (p := ⟨w.heap.size, 4, none⟩) hlw).trans hcell
          have hb2 := hb.trans (hb1.mono hz)
          have hkd : kids.deep + 1 ≤ F.deep := by omega
          clear h1 h2 h3 h4 h5 h6 hk hn hcell hb1 hb ih
          have HD : Hid (max s (max (kids.deep + 1) next.deep) = F.deep) := hds
          clear hds
          by_cases hd : s < kids.deep + 1
          · have hd' : (s : Int) < (kids.deep : Int) + 1 := by omega
            go_wp2_with fail
            go_round
            case rel =>
              refine ⟨j + 1, kids.deep + 1, next, by go_num, by go_num, by omega, ?_, by omega, .inr ⟨b, o', rfl, ?_⟩, hcell1, hb2⟩
              · have := HD.out; omega
              · rw [show o' + (j + 1) * 6 = o' + j * 6 + 6 by omega]; exact hn1
            case measure => simp [intOf]; omega
          · have hd' : ¬ (s : Int) < (kids.deep : Int) + 1 := by omega
            go_wp2_with fail
            go_round
            case rel =>
              refine ⟨j + 1, s, next, by go_num, by go_num, by omega, ?_, by omega, .inr ⟨b, o', rfl, ?_⟩, hcell1, hb2⟩
              · have := HD.out; omega
              · rw [show o' + (j + 1) * 6 = o' + j * 6 + 6 by omega]; exact hn1
            case measure => simp [intOf]; omega
/-- all in a list, and all in these, have just what their kinds have -/
def Vo.allOne : Vo → Prop
  | .nil => True
  | .cons h _ _ kids next => one h kids.len ∧ kids.allOne ∧ next.allOne
set_option maxRecDepth 100000 in
set_option maxHeartbeats 1000000 in
theorem l7All_any (N : Nat) : ∀ (h : Hd) (a : Option Addr) (c : Nat) (F : Vo) (w : World), F.size < N → N ≤ 2000000 → F.In w a → F.len ≤ c → c ≤ maxLen → h.In w →
    Calls Try.prog 27 #[valV h a F.len c] w fun r w' => SaysT (one h F.len ∧ F.allOne) r ∧ Below w.heap.size w w' := by
  induction N with
  | zero => intro h a c F w hF; omega
  | succ N ih =>
    intro h a c F w hF hN hin hl hc hh
    unfold maxLen at hc
    have hll := F.len_le
    have hB0 := (Below.refl _ w).alloc (Nat.le_refl _) (.cells #[.int .i64 h.k, .int .i64 h.m, .int .i64 h.e, .string h.t, .slice a F.len c, .slice h.na h.ns.length h.nc] 28)
    have R0 := Row.new w [.int .i64 h.k, .int .i64 h.m, .int .i64 h.e, .string h.t, .slice a F.len c, .slice h.na h.ns.length h.nc] 28
    have HO := fun W (hW : h.In W) => l7One_any h a F.len c W hW
    go_enter Try.func27, Try.ntmps27
    go_wp2_with fail
    refine (HO _ (hh.grow hB0)).mono ?_
    rintro r w1 ⟨⟨q, rfl, hq⟩, hb1⟩
    have hB1 := hB0.trans (hb1.mono hB0.size)
    have hcell0 := (R0.below hb1 R0.lt 4 _ rfl).1
    have HQ : Hid (q = true ↔ one h F.len) := hq
    clear hq R0 hB0 hb1 HO
    cases q
    · have HN : Hid (¬ (one h F.len ∧ F.allOne)) := fun x => by have := HQ.out.2 x.1; cases this
      clear ih hin
      go_wp2_with fail
      go_ret
      exact ⟨⟨false, rfl, fun h => (by cases h), fun h => absurd h HN.out⟩, hB1⟩
    · have HY : Hid (one h F.len) := HQ.out.1 rfl
      clear HQ
      go_wp2_with fail
      go_loopw [3] (fun i wr => ∃ (j : Nat) (G : Vo), i = .int .i64 j ∧ j + G.len = F.len ∧ (F.allOne ↔ G.allOne) ∧ G.size ≤ F.size ∧ (G = .nil ∨ ∃ b o', a = some ⟨b, o', none⟩ ∧ G.From wr b (o' + j * 6)) ∧ wr.cell? ⟨w.heap.size, 4, none⟩ = some (.slice a F.len c) ∧ Below w.heap.size w wr) (fun i _ => F.len - (intOf i).toNat)
      case atStart =>
        refine ⟨0, F, rfl, by omega, Iff.rfl, Nat.le_refl _, ?_, hcell0, hB1⟩
        rcases hin with h | ⟨b, o', e1, e2⟩
        · exact .inl h
        · exact .inr ⟨b, o', e1, by simpa using Vo.from_grow hB1 F b o' e2⟩
      case round =>
        obtain ⟨j, G, rfl, hj, hs, hs1, hG, hcell, hb⟩ := hrel
        have HA : Hid (F.allOne ↔ G.allOne) := hs
        clear hs hcell0
        cases G with
        | nil =>
          have hj' : j = F.len := by simpa [Vo.len] using hj
          have HR : Hid (one h F.len ∧ F.allOne) := ⟨HY.out, HA.out.2 trivial⟩
          subst hj'
          clear hG hj HA ih
          go_wp2_with fail
          go_ret
          exact ⟨⟨true, rfl, fun _ => HR.out, fun _ => rfl⟩, hb⟩
        | cons h' a' c' kids next =>
          rcases hG with hG | ⟨b, o', rfl, ⟨h1, h2, h3, h4, h5, h6⟩, hk, ⟨hc1, hc2⟩, hh', hn⟩
          · cases hG
          · have hln : j + (next.len + 1) = F.len := hj
            have hlt : (j : Int) < (F.len : Int) := by omega
            have hjl : j < F.len := by omega
            have hsz : kids.size + 1 + next.size ≤ F.size := hs1
            clear hj hs1 hin
            go_wp2_with fail
            refine (ih h' a' c' kids wr (by omega) (by omega) hk hc1 hc2 hh').mono ?_
            rintro r w2 ⟨⟨q, rfl, hq⟩, hb2⟩
            have HQ : Hid (q = true ↔ (one h' kids.len ∧ kids.allOne)) := hq
            have hn2 := Vo.from_grow hb2 next b _ hn
            have hcell2 : w2.cell? ⟨w.heap.size, 4, none⟩ = some (.slice (some ⟨b, o', none⟩) F.len c) := (hb2.cell (p := ⟨w.heap.size, 4, none⟩) (World.block_lt_of_cell? wr _ hcell)).trans hcell
            have hb3 := hb.trans (hb2.mono hb.size)
            clear h1 h2 h3 h4 h5 h6 hk hn hcell hb2 hb ih hq hh'
            cases q
            · have HN : Hid (¬ (one h F.len ∧ F.allOne)) := fun x => by
                have hx := HA.out.1 x.2
                have := HQ.out.2 ⟨hx.1, hx.2.1⟩
                cases this
              go_wp2_with fail
              go_ret
              exact ⟨⟨false, rfl, fun h => (by cases h), fun h => absurd h HN.out⟩, hb3⟩
            · have HA2 : Hid (F.allOne ↔ next.allOne) := HA.out.trans ⟨fun x => x.2.2, fun x => ⟨(HQ.out.1 rfl).1, (HQ.out.1 rfl).2, x⟩⟩
              clear HQ HA
              go_wp2_with fail
              go_round
              case rel =>
                refine ⟨j + 1, next, by go_num, by omega, HA2.out, by omega, .inr ⟨b, o', rfl, ?_⟩, hcell2, hb3⟩
                rw [show o' + (j + 1) * 6 = o' + j * 6 + 6 by omega]; exact hn2
              case measure => simp [intOf]; omega
/-- a value that is ok, as the specification has it -/
def ValOk (h : Hd) (F : Vo) : Prop := F.size + 1 ≤ 200 ∧ F.deep + 1 ≤ 20 ∧ one h F.len ∧ F.allOne
set_option maxRecDepth 100000 in
set_option maxHeartbeats 1000000 in
theorem sValueOk_any (h : Hd) (a : Option Addr) (c : Nat) (F : Vo) (w : World) (hF : F.size ≤ 1900000) (hin : F.In w a) (hl : F.len ≤ c) (hc : c ≤ maxLen) (hh : h.In w) :
    Calls Try.prog 9 #[valV h a F.len c] w fun r w' => SaysT (ValOk h F) r ∧ Below w.heap.size w w' := by
  have hdd := F.deep_le
  have hB0 := (Below.refl _ w).alloc (Nat.le_refl _) (.cells #[.int .i64 h.k, .int .i64 h.m, .int .i64 h.e, .string h.t, .slice a F.len c, .slice h.na h.ns.length h.nc] 28)
  have X0 := BxV.new w h (.slice a F.len c) 28
  have HI : Hid (∀ W, Below w.heap.size w W → F.In W a ∧ h.In W) := fun W h' => ⟨hin.grow h', hh.grow h'⟩
  clear hin hh
  go_enter Try.func9, Try.ntmps9
  go_wp2_with fail
  refine (sValueSize_any (F.size + 1) h a c F _ (Nat.lt_succ_self _) (by omega) (HI.out _ hB0).1 hl hc).mono ?_
  rintro r w1 ⟨rfl, hb1⟩
  have hB1 := hB0.trans (hb1.mono hB0.size)
  have X1 := X0.below hb1
  clear X0 hB0 hb1
  by_cases h1 : F.size + 1 ≤ 200
  · have h1' : (F.size : Int) + 1 ≤ 200 := by omega
    obtain ⟨x0, x1, x2, x3, x4, x5⟩ := id X1
    go_wp2_with fail
    refine (sDeepV_any (F.size + 1) h a c F _ (Nat.lt_succ_self _) (by omega) (HI.out _ hB1).1 hl hc).mono ?_
    rintro r w2 ⟨rfl, hb2⟩
    have hB2 := hB1.trans (hb2.mono hB1.size)
    have X2 := X1.below hb2
    clear X1 hB1 hb2 x0 x1 x2 x3 x4 x5
    by_cases h2 : F.deep + 1 ≤ 20
    · have h2' : (F.deep : Int) + 1 ≤ 20 := by omega
      obtain ⟨x0, x1, x2, x3, x4, x5⟩ := id X2
      go_wp2_with fail
      refine (l7All_any (F.size + 1) h a c F _ (Nat.lt_succ_self _) (by omega) (HI.out _ hB2).1 hl hc (HI.out _ hB2).2).mono ?_
      rintro r w3 ⟨⟨q, rfl, hq⟩, hb3⟩
      have hB3 := hB2.trans (hb3.mono hB2.size)
      have HQ : Hid (q = true ↔ ValOk h F) := hq.trans ⟨fun x => ⟨h1, h2, x.1, x.2⟩, fun x => ⟨x.2.2.1, x.2.2.2⟩⟩
      clear hq X2 x0 x1 x2 x3 x4 x5
      go_wp2_with fail
      go_ret
      exact ⟨⟨q, rfl, HQ.out⟩, hB3⟩
    · have h2' : ¬ (F.deep : Int) + 1 ≤ 20 := by omega
      have HN : Hid (¬ ValOk h F) := fun x => h2 x.2.1
      go_wp2_with fail
      go_ret
      exact ⟨⟨false, rfl, fun h => (by cases h), fun h => absurd h HN.out⟩, hB2⟩
  · have h1' : ¬ (F.size : Int) + 1 ≤ 200 := by omega
    have HN : Hid (¬ ValOk h F) := fun x => h1 x.1
    go_wp2_with fail
    go_ret
    exact ⟨⟨false, rfl, fun h => (by cases h), fun h => absurd h HN.out⟩, hB1⟩
theorem all_flat (B : Nat) : ∀ (F : Vo) (d : Nat), (∀ x ∈ F.flat d, x.1 ≤ B ∧ one x.2.1 x.2.2.len) ↔ ((F.deep = 0 ∨ d + F.deep ≤ B + 1) ∧ F.allOne) := by
  intro F
  induction F with
  | nil => intro d; exact ⟨fun _ => ⟨.inl rfl, trivial⟩, fun _ x hx => absurd hx List.not_mem_nil⟩
  | cons h a c kids next ih1 ih2 =>
    intro d
    have e : (Vo.cons h a c kids next).deep = max (kids.deep + 1) next.deep := rfl
    have i1 := ih1 (d + 1)
    have i2 := ih2 d
    constructor
    · intro hx
      have x0 := hx (d, h, kids) (List.mem_cons_self)
      have x1 := i1.1 fun x m => hx x (List.mem_cons_of_mem _ (List.mem_append_left _ m))
      have x2 := i2.1 fun x m => hx x (List.mem_cons_of_mem _ (List.mem_append_right _ m))
      refine ⟨.inr ?_, x0.2, x1.2, x2.2⟩
      have := x0.1
      rw [e]
      dsimp only at this
      omega
    · rintro ⟨hd, h1, h2, h3⟩ x hx
      rw [e] at hd
      rcases List.mem_cons.1 hx with rfl | hx
      · exact ⟨by show d ≤ B; omega, h1⟩
      · rcases List.mem_append.1 hx with hx | hx
        · exact i1.2 ⟨by omega, h2⟩ x hx
        · exact i2.2 ⟨by omega, h3⟩ x hx
/-- both say the same -/
theorem good_ok (h : Hd) (F : Vo) : ValGood h F ↔ ValOk h F := by
  unfold ValGood ValOk
  have hl : ((1, h, F) :: F.flat 2).length = F.size + 1 := by rw [List.length_cons, F.flat_len]
  rw [hl]
  have ha := all_flat 20 F 2
  constructor
  · rintro ⟨h1, h2⟩
    have x0 := h2 (1, h, F) List.mem_cons_self
    have x1 := ha.1 fun x m => h2 x (List.mem_cons_of_mem _ m)
    exact ⟨h1, by omega, x0.2, x1.2⟩
  · rintro ⟨h1, h2, h3, h4⟩
    refine ⟨h1, fun x hx => ?_⟩
    rcases List.mem_cons.1 hx with rfl | hx
    · exact ⟨by show 1 ≤ 20; omega, h3⟩
    · exact ha.2 ⟨by omega, h4⟩ x hx
theorem Vo.alike_deep : ∀ {G F : Vo}, F.alike G → F.deep = G.deep := by
  intro G
  induction G with
  | nil => intro F h; rw [Vo.alike_nil h]
  | cons h a c kids next ih1 ih2 =>
    intro F x
    obtain ⟨h', a', c', kids', next', rfl, _, h1, h2⟩ := Vo.alike_cons x
    show max (kids'.deep + 1) next'.deep = max (kids.deep + 1) next.deep
    rw [ih1 h1, ih2 h2]
theorem one_same {h g : Hd} (x : h.same g) (n : Nat) : one h n ↔ one g n := by
  obtain ⟨⟨e1, e2, e3, e4⟩, e5⟩ := x
  unfold one
  rw [e1, e2, e3, e4, e5]
theorem Vo.alike_one : ∀ {G F : Vo}, F.alike G → (F.allOne ↔ G.allOne) := by
  intro G
  induction G with
  | nil => intro F h; rw [Vo.alike_nil h]
  | cons h a c kids next ih1 ih2 =>
    intro F x
    obtain ⟨h', a', c', kids', next', rfl, h0, h1, h2⟩ := Vo.alike_cons x
    show (one h' kids'.len ∧ kids'.allOne ∧ next'.allOne) ↔ (one h kids.len ∧ kids.allOne ∧ next.allOne)
    rw [Vo.alike_len h1, one_same h0, ih1 h1, ih2 h2]
/-- a copy is ok just if what it was made of is -/
theorem ok_copy {h : Hd} {m : Nat} {F F1 : Vo} (x : F1.alike F) : ValOk (h.to m) F1 ↔ ValOk h F := by
  unfold ValOk
  rw [Vo.alike_size x, Vo.alike_deep x, Vo.alike_len x, one_same (h.to_same m), Vo.alike_one x]
end Go.Proofs.Ytalncebnahlmdaa
/- Plain mathematics of figures and of the order of decimals: no program in it. -/
namespace Go.Proofs.Ytalncebnahlmdaa.Dm
/-- the figures of a whole number, so many at most -/
def digs : Nat → Nat → List UInt8
  | 0, _ => []
  | k + 1, n => if n < 10 then [UInt8.ofNat (48 + n)] else digs k (n / 10) ++ [UInt8.ofNat (48 + n % 10)]

theorem digs_len (k : Nat) : ∀ n, (digs k n).length ≤ k := by
  induction k with
  | zero => intro n; exact Nat.le_refl _
  | succ k ih =>
    intro n
    rw [digs]
    by_cases h : n < 10
    · rw [if_pos h]; simp
    · rw [if_neg h]; have := ih (n / 10); simp; omega

theorem digs_log (k : Nat) : ∀ n, 1 ≤ n → n < 10 ^ k → 1 ≤ (digs k n).length ∧ 10 ^ ((digs k n).length - 1) ≤ n ∧ n < 10 ^ (digs k n).length := by
  induction k with
  | zero => intro n h1 h2; simp at h2; omega
  | succ k ih =>
    intro n h1 h2
    rw [digs]
    by_cases h : n < 10
    · rw [if_pos h]; simp; omega
    · rw [if_neg h]
      have e := ih (n / 10) (by omega) (by rw [Nat.pow_succ] at h2; omega)
      obtain ⟨e1, e2, e3⟩ := e
      simp only [List.length_append, List.length_cons, List.length_nil, Nat.zero_add, Nat.add_sub_cancel]
      refine ⟨by omega, ?_, ?_⟩
      · have : 10 ^ (digs k (n / 10)).length = 10 ^ ((digs k (n / 10)).length - 1) * 10 := by rw [← Nat.pow_succ]; congr 1; omega
        omega
      · rw [Nat.pow_succ]; omega
def sgn (v : Int) : Int := if v < 0 then -1 else if 0 < v then 1 else 0
theorem sgn_neg {v : Int} (h : v < 0) : sgn v = -1 := by rw [sgn, if_pos h]
theorem sgn_pos {v : Int} (h : 0 < v) : sgn v = 1 := by rw [sgn, if_neg (by omega), if_pos h]
theorem sgn_zero : sgn 0 = 0 := rfl
theorem sgn_mul {v c : Int} (hc : 1 ≤ c) : sgn (v * c) = sgn v := by
  rcases Int.lt_trichotomy v 0 with h | h | h
  · rw [sgn_neg h, sgn_neg (Int.mul_neg_of_neg_of_pos h (by omega))]
  · subst h; simp [sgn]
  · rw [sgn_pos h, sgn_pos (Int.mul_pos h (by omega))]
theorem p10_add {a b : Int} (ha : 0 ≤ a) (hb : 0 ≤ b) : p10 (a + b) = p10 a * p10 b := by
  unfold p10; rw [show (a + b).toNat = a.toNat + b.toNat from by omega, Int.pow_add]
/-- what a decimal is worth at the last place -/
def val (m x : Int) : Int := m * p10 (x + 8)
/-- DecCmp -/
def cmp (m x n y : Int) : Int := if ok m x = true ∧ ok n y = true then sgn (val m x - val n y) else 0
theorem val_at {m x p : Int} (hp : p ≤ x) (hp8 : -8 ≤ p) : val m x = m * p10 (x - p) * p10 (p + 8) := by
  rw [val, Int.mul_assoc, ← p10_add (by omega) (by omega)]; congr 2; omega
theorem manAt_val {m x p : Int} (hp : p ≤ x) (hp8 : -8 ≤ p) (h : (manAt m x p).2 = true) : (manAt m x p).1 * p10 (p + 8) = val m x := by
  rw [val_at hp hp8]
  unfold manAt at h ⊢
  by_cases h0 : m = 0
  · rw [if_pos h0]; subst h0; simp
  · rw [if_neg h0] at h ⊢
    by_cases h8 : 8 < x - p
    · rw [if_pos h8] at h; simp at h
    · rw [if_neg h8]
theorem cmp_near {m x n y : Int} (hm : ok m x = true) (hn : ok n y = true) (h1 : (manAt m x (min x y)).2 = true) (h2 : (manAt n y (min x y)).2 = true) :
    cmp m x n y = sgn ((manAt m x (min x y)).1 - (manAt n y (min x y)).1) := by
  have bm := ok_bd hm
  have bn := ok_bd hn
  rw [cmp, if_pos ⟨hm, hn⟩, ← manAt_val (p := min x y) (by omega) (by omega) h1, ← manAt_val (p := min x y) (by omega) (by omega) h2, ← Int.sub_mul, sgn_mul (p10_pos _)]
theorem far_sgn {m n c : Int} (hm : m ≠ 0) (h1 : -99999999 ≤ n) (h2 : n ≤ 99999999) (hc : 1000000000 ≤ c) : sgn (m * c - n) = sgn m := by
  rcases Int.lt_or_gt_of_ne hm with h | h
  · have : 1 * c ≤ (-m) * c := Int.mul_le_mul_of_nonneg_right (by omega) (by omega)
    have e : (-m) * c = -(m * c) := Int.neg_mul _ _
    rw [sgn_neg h, sgn_neg (by omega)]
  · have : 1 * c ≤ m * c := Int.mul_le_mul_of_nonneg_right (by omega) (by omega)
    rw [sgn_pos h, sgn_pos (by omega)]
theorem manAt_far {m x p : Int} (h : (manAt m x p).2 = false) : m ≠ 0 ∧ 8 < x - p := by
  unfold manAt at h
  by_cases h0 : m = 0
  · rw [if_pos h0] at h; simp at h
  · refine ⟨h0, ?_⟩
    rw [if_neg h0] at h
    by_cases h8 : 8 < x - p
    · exact h8
    · rw [if_neg h8] at h; simp at h
theorem p10_nine {k : Int} (h : 8 < k) : 1000000000 ≤ p10 k := by
  have := p10_mono (j := 9) (k := k) (by omega)
  rw [show p10 9 = 1000000000 from rfl] at this; exact this
theorem cmp_far1 {m x n y : Int} (hm : ok m x = true) (hn : ok n y = true) (h1 : (manAt m x (min x y)).2 = false) : cmp m x n y = sgn m := by
  have bm := ok_bd hm
  have bn := ok_bd hn
  obtain ⟨h0, h8⟩ := manAt_far h1
  have e : min x y = y := by omega
  rw [e] at h8
  rw [cmp, if_pos ⟨hm, hn⟩, val_at (m := m) (p := y) (by omega) (by omega), val, ← Int.sub_mul, sgn_mul (p10_pos _)]
  exact far_sgn h0 (by omega) (by omega) (p10_nine h8)
theorem sgn_sub (a b : Int) : sgn (a - b) = -sgn (b - a) := by
  rcases Int.lt_trichotomy a b with h | h | h
  · rw [sgn_neg (by omega), sgn_pos (by omega)]
  · subst h; simp [sgn]
  · rw [sgn_pos (by omega), sgn_neg (by omega)]; rfl
theorem cmp_swap (m x n y : Int) : cmp m x n y = -cmp n y m x := by
  unfold cmp
  by_cases h : ok m x = true ∧ ok n y = true
  · rw [if_pos h, if_pos ⟨h.2, h.1⟩, sgn_sub]
  · rw [if_neg h, if_neg (fun k => h ⟨k.2, k.1⟩)]; rfl
theorem sgn_neg_eq (a : Int) : sgn (-a) = -sgn a := by
  have := sgn_sub 0 a
  simpa using this
theorem cmp_far2 {m x n y : Int} (hm : ok m x = true) (hn : ok n y = true) (h2 : (manAt n y (min x y)).2 = false) : cmp m x n y = sgn (0 - n) := by
  rw [cmp_swap, cmp_far1 hn hm (by rw [Int.min_comm]; exact h2), show 0 - n = -n from by omega, sgn_neg_eq]
/-- how many figures -/
def dn (m : Int) : Int := ((digs 19 m.natAbs).length : Int)
theorem dn_bd {m x : Int} (hm : ok m x = true) (h0 : m ≠ 0) : 1 ≤ dn m ∧ dn m ≤ 19 ∧ p10 (dn m - 1) ≤ m.natAbs ∧ (m.natAbs : Int) < p10 (dn m) := by
  have b := ok_bd hm
  have hl := digs_log 19 m.natAbs (by omega) (by omega)
  have hle := digs_len 19 m.natAbs
  unfold dn p10
  rw [show ((digs 19 m.natAbs).length : Int).toNat = (digs 19 m.natAbs).length from by omega, show (((digs 19 m.natAbs).length : Int) - 1).toNat = (digs 19 m.natAbs).length - 1 from by omega]
  refine ⟨by omega, by omega, ?_, ?_⟩
  · exact_mod_cast hl.2.1
  · exact_mod_cast hl.2.2
theorem dn_le8 {m x : Int} (hm : ok m x = true) (h0 : m ≠ 0) : dn m ≤ 8 := by
  obtain ⟨h1, h2, h3, h4⟩ := dn_bd hm h0
  have b := ok_bd hm
  by_cases h : dn m ≤ 8
  · exact h
  · have := p10_mono (j := 8) (k := dn m - 1) (by omega)
    rw [show p10 8 = 100000000 from rfl] at this
    omega
theorem abs_gt {m x n y : Int} (hm : ok m x = true) (hn : ok n y = true) (hm0 : m ≠ 0) (hn0 : n ≠ 0) (h : dn n + y < dn m + x) : (n.natAbs : Int) * p10 (y + 8) < (m.natAbs : Int) * p10 (x + 8) := by
  have bm := ok_bd hm
  have bn := ok_bd hn
  obtain ⟨m1, m2, m3, m4⟩ := dn_bd hm hm0
  obtain ⟨n1, n2, n3, n4⟩ := dn_bd hn hn0
  have a1 : p10 (dn m - 1) * p10 (x + 8) ≤ (m.natAbs : Int) * p10 (x + 8) := Int.mul_le_mul_of_nonneg_right m3 (by have := p10_pos (x + 8); omega)
  have a2 : (n.natAbs : Int) * p10 (y + 8) < p10 (dn n) * p10 (y + 8) := Int.mul_lt_mul_of_pos_right n4 (by have := p10_pos (y + 8); omega)
  rw [← p10_add (by omega) (by omega)] at a1 a2
  have a3 : p10 (dn n + (y + 8)) ≤ p10 (dn m - 1 + (x + 8)) := p10_mono (by omega)
  omega
/-- l1Cmp -/
def cmpS (m x n y : Int) : Int :=
  if sgn m ≠ sgn n then sgn (sgn m - sgn n) else if m = 0 then 0 else
    if dn m + x ≠ dn n + y then sgn (dn m + x - (dn n + y)) * sgn m else sgn (m * p10 (x - y) - n * p10 (y - x))
theorem sgn_cases (v : Int) : (v < 0 ∧ sgn v = -1) ∨ (v = 0 ∧ sgn v = 0) ∨ (0 < v ∧ sgn v = 1) := by
  rcases Int.lt_trichotomy v 0 with h | h | h
  · exact .inl ⟨h, sgn_neg h⟩
  · exact .inr (.inl ⟨h, by subst h; rfl⟩)
  · exact .inr (.inr ⟨h, sgn_pos h⟩)
theorem val_sgn (m x : Int) : sgn (val m x) = sgn m := sgn_mul (p10_pos _)
theorem cmpS_eq {m x n y : Int} (hm : ok m x = true) (hn : ok n y = true) : cmpS m x n y = cmp m x n y := by
  have bm := ok_bd hm
  have bn := ok_bd hn
  have vm := val_sgn m x
  have vn := val_sgn n y
  rw [cmp, if_pos ⟨hm, hn⟩, cmpS]
  by_cases hs : sgn m ≠ sgn n
  · rw [if_pos hs]
    rw [← vm, ← vn] at hs ⊢
    generalize val m x = a at *
    generalize val n y = b at *
    rcases sgn_cases a with ⟨ha, ea⟩ | ⟨ha, ea⟩ | ⟨ha, ea⟩ <;> rcases sgn_cases b with ⟨hb, eb⟩ | ⟨hb, eb⟩ | ⟨hb, eb⟩ <;> rw [ea, eb] at hs ⊢ <;> first | (exfalso; exact hs rfl) | (rw [sgn_pos (v := a - b) (by omega)]; rfl) | (rw [sgn_neg (v := a - b) (by omega)]; rfl)
  · rw [if_neg hs]
    have hs' : sgn m = sgn n := by omega
    by_cases hm0 : m = 0
    · rw [if_pos hm0]
      have hn0 : n = 0 := by
        subst hm0
        rcases sgn_cases n with ⟨hb, eb⟩ | ⟨hb, eb⟩ | ⟨hb, eb⟩
        · rw [eb] at hs'; simp [sgn] at hs'
        · exact hb
        · rw [eb] at hs'; simp [sgn] at hs'
      subst hm0 hn0; simp [val, sgn]
    · rw [if_neg hm0]
      have hn0 : n ≠ 0 := by
        intro h; subst h
        rcases sgn_cases m with ⟨hb, eb⟩ | ⟨hb, eb⟩ | ⟨hb, eb⟩
        · rw [eb] at hs'; simp [sgn] at hs'
        · exact hm0 hb
        · rw [eb] at hs'; simp [sgn] at hs'
      by_cases hd : dn m + x ≠ dn n + y
      · rw [if_pos hd]
        have em : val m x = m * p10 (x + 8) := rfl
        have en : val n y = n * p10 (y + 8) := rfl
        rcases sgn_cases m with ⟨ha, ea⟩ | ⟨ha, ea⟩ | ⟨ha, ea⟩
        · have hnn : n < 0 := by
            rcases sgn_cases n with ⟨hb, eb⟩ | ⟨hb, eb⟩ | ⟨hb, eb⟩
            · exact hb
            · exact absurd hb hn0
            · rw [ea, eb] at hs'; simp at hs'
          have e1 : (m.natAbs : Int) * p10 (x + 8) = -(m * p10 (x + 8)) := by rw [show (m.natAbs : Int) = -m from by omega, Int.neg_mul]
          have e2 : (n.natAbs : Int) * p10 (y + 8) = -(n * p10 (y + 8)) := by rw [show (n.natAbs : Int) = -n from by omega, Int.neg_mul]
          rcases Int.lt_or_gt_of_ne hd with h | h
          · have := abs_gt hn hm hn0 hm0 h
            rw [ea, sgn_neg (by omega), sgn_pos (by omega)]; rfl
          · have := abs_gt hm hn hm0 hn0 h
            rw [ea, sgn_pos (by omega), sgn_neg (by omega)]; rfl
        · exact absurd ha hm0
        · have hnn : 0 < n := by
            rcases sgn_cases n with ⟨hb, eb⟩ | ⟨hb, eb⟩ | ⟨hb, eb⟩
            · rw [ea, eb] at hs'; simp at hs'
            · exact absurd hb hn0
            · exact hb
          have e1 : (m.natAbs : Int) = m := by omega
          have e2 : (n.natAbs : Int) = n := by omega
          rcases Int.lt_or_gt_of_ne hd with h | h
          · have := abs_gt hn hm hn0 hm0 h
            rw [e1, e2] at this
            rw [ea, sgn_neg (by omega), sgn_neg (by omega)]; rfl
          · have := abs_gt hm hn hm0 hn0 h
            rw [e1, e2] at this
            rw [ea, sgn_pos (by omega), sgn_pos (by omega)]; rfl
      · rw [if_neg hd]
        by_cases hxy : y ≤ x
        · rw [val_at (m := m) (p := y) hxy (by omega), val, ← Int.sub_mul, sgn_mul (p10_pos _), p10_nonpos (y - x) (by omega), Int.mul_one]
        · rw [val_at (m := n) (p := x) (by omega) (by omega), val, ← Int.sub_mul, sgn_mul (p10_pos _), p10_nonpos (x - y) (by omega), Int.mul_one]
end Go.Proofs.Ytalncebnahlmdaa.Dm
/- Plain mathematics of the quotient: no program in it. -/
namespace Go.Proofs.Ytalncebnahlmdaa.Dm
/-- so many noughts brought down, one by one -/
def qloop : Nat → Int → Int → Int → Int × Bool
  | 0, c, _, _ => (c, true)
  | k + 1, c, r, m => if -100000000000000000 ≤ c * 10 + (r * 10).tdiv m ∧ c * 10 + (r * 10).tdiv m ≤ 100000000000000000 then qloop k (c * 10 + (r * 10).tdiv m) ((r * 10).tmod m) m else (0, false)
def qdown : Nat → Int → Int
  | 0, c => c
  | k + 1, c => qdown k (c.tdiv 10)
def quotFrom (p c r m : Int) : Int × Bool := if 0 < p then qloop p.toNat c r m else (qdown (-p).toNat c, true)
def quot (n m e : Int) : Int × Bool := quotFrom e (n.tdiv m) (n.tmod m) m
theorem quotFrom_up {p c r m : Int} (h : 0 < p) : quotFrom p c r m = if -100000000000000000 ≤ c * 10 + (r * 10).tdiv m ∧ c * 10 + (r * 10).tdiv m ≤ 100000000000000000 then quotFrom (p - 1) (c * 10 + (r * 10).tdiv m) ((r * 10).tmod m) m else (0, false) := by
  rw [quotFrom, if_pos h, show p.toNat = (p - 1).toNat + 1 from by omega, qloop]
  by_cases hc : -100000000000000000 ≤ c * 10 + (r * 10).tdiv m ∧ c * 10 + (r * 10).tdiv m ≤ 100000000000000000
  · rw [if_pos hc, if_pos hc, quotFrom]
    by_cases h1 : 0 < p - 1
    · rw [if_pos h1]
    · rw [if_neg h1, show (p - 1).toNat = 0 from by omega, show (-(p - 1)).toNat = 0 from by omega, qloop, qdown]
  · rw [if_neg hc, if_neg hc]
theorem quotFrom_down {p c r m : Int} (h : p < 0) : quotFrom p c r m = quotFrom (p + 1) (c.tdiv 10) r m := by
  rw [quotFrom, if_neg (by omega), quotFrom, if_neg (by omega), show (-p).toNat = (-(p + 1)).toNat + 1 from by omega, qdown]
theorem quotFrom_end (c r m : Int) : quotFrom 0 c r m = (c, true) := rfl
theorem tdiv_bd (a m : Int) (h : m ≠ 0) : (a.tdiv m).natAbs ≤ a.natAbs ∧ (a.tmod m).natAbs < m.natAbs := by
  refine ⟨?_, ?_⟩
  · rw [Int.natAbs_tdiv]; exact Nat.div_le_self _ _
  · rw [Int.natAbs_tmod]; exact Nat.mod_lt _ (by omega)
theorem step_bd (r m : Int) (hr : r.natAbs < m.natAbs) : -10 ≤ (r * 10).tdiv m ∧ (r * 10).tdiv m ≤ 10 := by
  have e : ((r * 10).tdiv m).natAbs = (r.natAbs * 10) / m.natAbs := by rw [Int.natAbs_tdiv, Int.natAbs_mul]; rfl
  have : (r.natAbs * 10) / m.natAbs ≤ 10 := by
    apply Nat.div_le_of_le_mul; rw [Nat.mul_comm]; exact Nat.mul_le_mul_left 10 (Nat.le_of_lt hr) |> (fun h => by omega)
  omega
theorem qloop_negl (k : Nat) : ∀ c r m : Int, qloop k (-c) (-r) m = (-(qloop k c r m).1, (qloop k c r m).2) := by
  induction k with
  | zero => intro c r m; rfl
  | succ k ih =>
    intro c r m
    have e : -c * 10 + (-r * 10).tdiv m = -(c * 10 + (r * 10).tdiv m) := by
      rw [Int.neg_mul r 10, Int.neg_tdiv]; omega
    have e2 : (-r * 10).tmod m = -((r * 10).tmod m) := by rw [Int.neg_mul, Int.neg_tmod]
    rw [qloop, qloop, e, e2]
    by_cases hc : -100000000000000000 ≤ c * 10 + (r * 10).tdiv m ∧ c * 10 + (r * 10).tdiv m ≤ 100000000000000000
    · rw [if_pos hc, if_pos (by omega), ih]
    · rw [if_neg hc, if_neg (by omega)]; rfl
theorem qloop_negr (k : Nat) : ∀ c r m : Int, qloop k (-c) r (-m) = (-(qloop k c r m).1, (qloop k c r m).2) := by
  induction k with
  | zero => intro c r m; rfl
  | succ k ih =>
    intro c r m
    have e : -c * 10 + (r * 10).tdiv (-m) = -(c * 10 + (r * 10).tdiv m) := by
      rw [Int.tdiv_neg]; omega
    have e2 : (r * 10).tmod (-m) = (r * 10).tmod m := Int.tmod_neg _ _
    rw [qloop, qloop, e, e2]
    by_cases hc : -100000000000000000 ≤ c * 10 + (r * 10).tdiv m ∧ c * 10 + (r * 10).tdiv m ≤ 100000000000000000
    · rw [if_pos hc, if_pos (by omega), ih]
    · rw [if_neg hc, if_neg (by omega)]; rfl
theorem qdown_neg (k : Nat) : ∀ c : Int, qdown k (-c) = -(qdown k c) := by
  induction k with
  | zero => intro c; rfl
  | succ k ih => intro c; rw [qdown, qdown, Int.neg_tdiv, ih]
theorem quot_negl (n m e : Int) : quot (-n) m e = (-(quot n m e).1, (quot n m e).2) := by
  rw [quot, quot, quotFrom, quotFrom, Int.neg_tdiv, Int.neg_tmod]
  by_cases h : 0 < e
  · rw [if_pos h, if_pos h, qloop_negl]
  · rw [if_neg h, if_neg h, qdown_neg]
theorem quot_negr (n m e : Int) : quot n (-m) e = (-(quot n m e).1, (quot n m e).2) := by
  rw [quot, quot, quotFrom, quotFrom, Int.tdiv_neg, Int.tmod_neg]
  by_cases h : 0 < e
  · rw [if_pos h, if_pos h, qloop_negr]
  · rw [if_neg h, if_neg h, qdown_neg]
/-- DecDiv of two in their form, the second not 0 -/
def div1 (m x n y p : Int) : Int × Int × Bool := if (quot m n (x - y + p)).2 = true then norm (quot m n (x - y + p)).1 (-p) else (0, 0, false)
def div (m x n y p : Int) : Int × Int × Bool := if ok m x = true ∧ ok n y = true ∧ n ≠ 0 ∧ 0 ≤ p ∧ p ≤ 8 then div1 m x n y p else (0, 0, false)
theorem qloop_bd (k : Nat) : ∀ c r m : Int, -100000000000000000 ≤ c → c ≤ 100000000000000000 → -100000000000000000 ≤ (qloop k c r m).1 ∧ (qloop k c r m).1 ≤ 100000000000000000 := by
  induction k with
  | zero => intro c r m h1 h2; exact ⟨h1, h2⟩
  | succ k ih =>
    intro c r m h1 h2
    rw [qloop]
    by_cases hc : -100000000000000000 ≤ c * 10 + (r * 10).tdiv m ∧ c * 10 + (r * 10).tdiv m ≤ 100000000000000000
    · rw [if_pos hc]; exact ih _ _ _ hc.1 hc.2
    · rw [if_neg hc]; exact ⟨by decide, by decide⟩
theorem qdown_bd (k : Nat) : ∀ c : Int, -100000000000000000 ≤ c → c ≤ 100000000000000000 → -100000000000000000 ≤ qdown k c ∧ qdown k c ≤ 100000000000000000 := by
  induction k with
  | zero => intro c h1 h2; exact ⟨h1, h2⟩
  | succ k ih =>
    intro c h1 h2
    have := tdiv_bd c 10 (by omega)
    rw [qdown]; exact ih _ (by omega) (by omega)
theorem quot_bd {n m : Int} (e : Int) (hm : m ≠ 0) (h1 : -99999999 ≤ n) (h2 : n ≤ 99999999) : -100000000000000000 ≤ (quot n m e).1 ∧ (quot n m e).1 ≤ 100000000000000000 := by
  have := tdiv_bd n m hm
  rw [quot, quotFrom]
  by_cases h : 0 < e
  · rw [if_pos h]; exact qloop_bd _ _ _ _ (by omega) (by omega)
  · rw [if_neg h]; exact qdown_bd _ _ (by omega) (by omega)
end Go.Proofs.Ytalncebnahlmdaa.Dm
/- Plain mathematics of what is left: no program in it. -/
namespace Go.Proofs.Ytalncebnahlmdaa.Dm
/-- DecMod -/
def mod (m x n y : Int) : Int × Int × Bool :=
  if (div m x n y 0).2.2 = true then
    if (mul n y (div m x n y 0).1 (div m x n y 0).2.1).2.2 = true then sub m x (mul n y (div m x n y 0).1 (div m x n y 0).2.1).1 (mul n y (div m x n y 0).1 (div m x n y 0).2.1).2.1 else (0, 0, false)
  else (0, 0, false)
theorem norm_ok {m e : Int} (h : (norm m e).2.2 = true) : ok (norm m e).1 (norm m e).2.1 = true := by
  unfold norm at h ⊢
  by_cases h0 : m = 0
  · rw [if_pos h0]; rfl
  · rw [if_neg h0] at h ⊢
    by_cases ho : ok (strip 20 m e).1 (strip 20 m e).2 = true
    · rw [if_pos ho]; exact ho
    · rw [if_neg ho] at h; simp at h
theorem div1_ok {m x n y p : Int} (h : (div1 m x n y p).2.2 = true) : ok (div1 m x n y p).1 (div1 m x n y p).2.1 = true := by
  unfold div1 at h ⊢
  by_cases hq : (quot m n (x - y + p)).2 = true
  · rw [if_pos hq] at h ⊢; exact norm_ok h
  · rw [if_neg hq] at h; simp at h
theorem mod_no {m x n y : Int} (h : ¬ (ok m x = true ∧ ok n y = true ∧ n ≠ 0)) : mod m x n y = (0, 0, false) := by
  have e : div m x n y 0 = (0, 0, false) := by rw [div, if_neg (fun k => h ⟨k.1, k.2.1, k.2.2.1⟩)]
  rw [mod, e]; rfl
theorem mod_div {m x n y : Int} (hm : ok m x = true) (hn : ok n y = true) (h0 : n ≠ 0) : div m x n y 0 = div1 m x n y 0 := by
  rw [div, if_pos ⟨hm, hn, h0, by omega, by omega⟩]
theorem mod_no1 {m x n y : Int} (hm : ok m x = true) (hn : ok n y = true) (h0 : n ≠ 0) (h : (div1 m x n y 0).2.2 = false) : mod m x n y = (0, 0, false) := by
  rw [mod, mod_div hm hn h0, h]; rfl
theorem mod_mul {m x n y : Int} (hn : ok n y = true) (h : (div1 m x n y 0).2.2 = true) : mul n y (div1 m x n y 0).1 (div1 m x n y 0).2.1 = norm ((div1 m x n y 0).1 * n) ((div1 m x n y 0).2.1 + y) := by
  rw [mul, if_pos ⟨hn, div1_ok h⟩, Int.mul_comm, Int.add_comm]
theorem mod_no2 {m x n y : Int} (hm : ok m x = true) (hn : ok n y = true) (h0 : n ≠ 0) (h : (div1 m x n y 0).2.2 = true) (h2 : (norm ((div1 m x n y 0).1 * n) ((div1 m x n y 0).2.1 + y)).2.2 = false) : mod m x n y = (0, 0, false) := by
  rw [mod, mod_div hm hn h0, if_pos h, mod_mul hn h, h2]; rfl
theorem mod_yes {m x n y : Int} (hm : ok m x = true) (hn : ok n y = true) (h0 : n ≠ 0) (h : (div1 m x n y 0).2.2 = true) (h2 : (norm ((div1 m x n y 0).1 * n) ((div1 m x n y 0).2.1 + y)).2.2 = true) :
    mod m x n y = add1 m x (-(norm ((div1 m x n y 0).1 * n) ((div1 m x n y 0).2.1 + y)).1) (norm ((div1 m x n y 0).1 * n) ((div1 m x n y 0).2.1 + y)).2.1 := by
  rw [mod, mod_div hm hn h0, if_pos h, mod_mul hn h, if_pos h2, sub, if_pos ⟨hm, norm_ok h2⟩]
theorem norm_i64 (m e : Int) : -99999999 ≤ (norm m e).1 ∧ (norm m e).1 ≤ 99999999 := by
  by_cases h : (norm m e).2.2 = true
  · have := ok_bd (norm_ok h); omega
  · have : norm m e = (0, 0, false) := by
      unfold norm at h ⊢
      by_cases h0 : m = 0
      · rw [if_pos h0] at h; simp at h
      · rw [if_neg h0] at h ⊢
        by_cases ho : ok (strip 20 m e).1 (strip 20 m e).2 = true
        · rw [if_pos ho] at h; simp at h
        · rw [if_neg ho]
    rw [this]; exact ⟨by decide, by decide⟩
theorem mul_i64 (m x n y : Int) : -99999999 ≤ (mul m x n y).1 ∧ (mul m x n y).1 ≤ 99999999 := by
  unfold mul
  by_cases h : ok m x = true ∧ ok n y = true
  · rw [if_pos h]; exact norm_i64 _ _
  · rw [if_neg h]; exact ⟨by decide, by decide⟩
end Go.Proofs.Ytalncebnahlmdaa.Dm
/- Plain mathematics for the laws of sums and differences: no program in it. -/
namespace Go.Proofs.Ytalncebnahlmdaa.Dm
def neg3 (r : Int × Int × Bool) : Int × Int × Bool := (-r.1, r.2.1, r.2.2)
theorem strip_neg (k : Nat) : ∀ m e : Int, strip k (-m) e = (-(strip k m e).1, (strip k m e).2) := by
  induction k with
  | zero => intro m e; rfl
  | succ k ih =>
    intro m e
    rw [strip, strip, Int.neg_tmod, Int.neg_tdiv]
    by_cases h : m.tmod 10 = 0
    · rw [if_pos h, if_pos (by omega), ih]
    · rw [if_neg h, if_neg (by omega)]
theorem norm_neg (m e : Int) : norm (-m) e = neg3 (norm m e) := by
  unfold norm neg3
  by_cases h : m = 0
  · subst h; simp
  · rw [if_neg h, if_neg (by omega), strip_neg, ok_neg]
    by_cases ho : ok (strip 20 m e).1 (strip 20 m e).2 = true
    · rw [if_pos ho, if_pos ho]
    · rw [if_neg ho, if_neg ho]; rfl
theorem new_neg (m e : Int) : new (-m) e = neg3 (new m e) := by
  unfold new
  by_cases h : (-100000000000000000 ≤ m ∧ m ≤ 100000000000000000) ∧ (-32 ≤ e ∧ e ≤ 32)
  · rw [if_pos h, if_pos (by omega), norm_neg]
  · rw [if_neg h, if_neg (by omega)]; rfl
theorem manAt_neg (m x p : Int) : manAt (-m) x p = (-(manAt m x p).1, (manAt m x p).2) := by
  unfold manAt
  by_cases h : m = 0
  · subst h; simp
  · rw [if_neg h, if_neg (by omega)]
    by_cases h8 : 8 < x - p
    · rw [if_pos h8, if_pos h8]; rfl
    · rw [if_neg h8, if_neg h8, Int.neg_mul]
theorem add1_neg (m x n y : Int) : add1 (-m) x (-n) y = neg3 (add1 m x n y) := by
  unfold add1
  rw [manAt_neg, manAt_neg]
  by_cases h : (manAt m x (min x y)).2 = true ∧ (manAt n y (min x y)).2 = true
  · rw [if_pos h, if_pos h, ← Int.neg_add, new_neg]
  · rw [if_neg h, if_neg h]; rfl
theorem sub_swap (m x n y : Int) : sub n y m x = neg3 (sub m x n y) := by
  unfold sub
  by_cases h : ok m x = true ∧ ok n y = true
  · rw [if_pos h, if_pos ⟨h.2, h.1⟩, add_comm1, show n = -(-n) from by omega, add1_neg, Int.neg_neg]
  · rw [if_neg h, if_neg (fun k => h ⟨k.2, k.1⟩)]; rfl
theorem new_zero {x : Int} (h : -32 ≤ x ∧ x ≤ 32) : new 0 x = (0, 0, true) := by
  rw [new, if_pos ⟨⟨by omega, by omega⟩, h⟩]; rfl
theorem sub_self {m x : Int} (h : ok m x = true) : sub m x m x = (0, 0, true) := by
  have b := ok_bd h
  have e : min x x = x := by omega
  have hm : (manAt m x x).2 = true := by unfold manAt; by_cases h0 : m = 0 <;> simp [h0]
  rw [sub, if_pos ⟨h, h⟩, add1, e, manAt_neg, if_pos ⟨hm, hm⟩]
  rw [show (manAt m x x).1 + (-(manAt m x x).1, (manAt m x x).2).1 = 0 from by simp only; omega]
  exact new_zero (by omega)
theorem sub_ok {m x n y : Int} (h : (sub m x n y).2.2 = true) : ok m x = true ∧ ok n y = true := by
  unfold sub at h
  by_cases hh : ok m x = true ∧ ok n y = true
  · exact hh
  · rw [if_neg hh] at h; simp at h
theorem new_i64 (m e : Int) : -99999999 ≤ (new m e).1 ∧ (new m e).1 ≤ 99999999 := by
  unfold new
  by_cases h : (-100000000000000000 ≤ m ∧ m ≤ 100000000000000000) ∧ (-32 ≤ e ∧ e ≤ 32)
  · rw [if_pos h]; exact norm_i64 _ _
  · rw [if_neg h]; exact ⟨by decide, by decide⟩
theorem add1_i64 (m x n y : Int) : -99999999 ≤ (add1 m x n y).1 ∧ (add1 m x n y).1 ≤ 99999999 := by
  unfold add1
  by_cases h : (manAt m x (min x y)).2 = true ∧ (manAt n y (min x y)).2 = true
  · rw [if_pos h]; exact new_i64 _ _
  · rw [if_neg h]; exact ⟨by decide, by decide⟩
theorem sub_i64 (m x n y : Int) : -99999999 ≤ (sub m x n y).1 ∧ (sub m x n y).1 ≤ 99999999 := by
  unfold sub
  by_cases h : ok m x = true ∧ ok n y = true
  · rw [if_pos h]; exact add1_i64 _ _ _ _
  · rw [if_neg h]; exact ⟨by decide, by decide⟩
theorem mul_comm3 (m x n y : Int) : mul n y m x = mul m x n y := by
  unfold mul
  by_cases h : ok m x = true ∧ ok n y = true
  · rw [if_pos h, if_pos ⟨h.2, h.1⟩, Int.mul_comm, Int.add_comm]
  · rw [if_neg h, if_neg (fun k => h ⟨k.2, k.1⟩)]
theorem mul_one3 {m x : Int} (h : ok m x = true) : mul m x 1 0 = (m, x, true) := by
  rw [mul, if_pos ⟨h, by decide⟩, Int.mul_one, Int.add_zero, norm_self h]
theorem mul_zero3 {m x : Int} (h : ok m x = true) : mul m x 0 0 = (0, 0, true) := by
  rw [mul, if_pos ⟨h, by decide⟩, Int.mul_zero]; rfl
theorem add_comm3 (m x n y : Int) : add n y m x = add m x n y := by
  unfold add
  by_cases h : ok m x = true ∧ ok n y = true
  · rw [if_pos h, if_pos ⟨h.2, h.1⟩, add_comm1]
  · rw [if_neg h, if_neg (fun k => h ⟨k.2, k.1⟩)]
theorem add_zero3 {m x : Int} (h : ok m x = true) : add m x 0 0 = (m, x, true) := by
  rw [add, if_pos ⟨h, by decide⟩, add_comm1, add_zero_left h]
theorem add_ok {m x n y : Int} (h : (add m x n y).2.2 = true) : ok m x = true ∧ ok n y = true := by
  unfold add at h
  by_cases hh : ok m x = true ∧ ok n y = true
  · exact hh
  · rw [if_neg hh] at h; simp at h
end Go.Proofs.Ytalncebnahlmdaa.Dm
/- Plain mathematics of what a decimal is worth: no program in it. -/
namespace Go.Proofs.Ytalncebnahlmdaa.Dm
/-- what it is worth, far behind the last place -/
def big (m e : Int) : Int := m * p10 (e + 40)
theorem p10_ne (k : Int) : p10 k ≠ 0 := by have := p10_pos k; omega
theorem strip_big (k : Nat) : ∀ m e : Int, -40 ≤ e → big (strip k m e).1 (strip k m e).2 = big m e ∧ e ≤ (strip k m e).2 := by
  induction k with
  | zero => intro m e h; exact ⟨rfl, Int.le_refl _⟩
  | succ k ih =>
    intro m e h
    rw [strip]
    by_cases hz : m.tmod 10 = 0
    · rw [if_pos hz]
      obtain ⟨h1, h2⟩ := ih (m.tdiv 10) (e + 1) (by omega)
      refine ⟨?_, by omega⟩
      rw [h1, big, big, show e + 1 + 40 = (e + 40) + 1 from by omega, p10_succ _ (by omega), Int.mul_comm (p10 (e + 40)) 10, ← Int.mul_assoc]
      have := tm m
      rw [hz] at this
      rw [show m.tdiv 10 * 10 = m from by omega]
    · rw [if_neg hz]; exact ⟨rfl, Int.le_refl _⟩
theorem norm_big_eq {m e : Int} (he : -40 ≤ e) (h : (norm m e).2.2 = true) : big (norm m e).1 (norm m e).2.1 = big m e := by
  unfold norm at h ⊢
  by_cases h0 : m = 0
  · rw [if_pos h0]; subst h0; simp [big]
  · rw [if_neg h0] at h ⊢
    by_cases ho : ok (strip 20 m e).1 (strip 20 m e).2 = true
    · rw [if_pos ho]; exact (strip_big 20 m e he).1
    · rw [if_neg ho] at h; simp at h
theorem big_at {m x p : Int} (hp : p ≤ x) (hp2 : -40 ≤ p) : big m x = m * p10 (x - p) * p10 (p + 40) := by
  rw [big, Int.mul_assoc, ← p10_add (by omega) (by omega)]; congr 2; omega
theorem p10_cancel {a b k : Int} (h : a * p10 k = b * p10 k) : a = b := Int.eq_of_mul_eq_mul_right (p10_ne k) h
/-- two in their form that are worth the same are the same -/
theorem ok_unique {m x n y : Int} (hm : ok m x = true) (hn : ok n y = true) (h : big m x = big n y) : m = n ∧ x = y := by
  have bm := ok_bd hm
  have bn := ok_bd hn
  have key : ∀ {m x n y : Int}, ok m x = true → ok n y = true → big m x = big n y → x < y → m = n ∧ x = y := by
    intro m x n y hm hn h hlt
    have bm := ok_bd hm
    have bn := ok_bd hn
    rw [big_at (m := n) (x := y) (p := x) (by omega) (by omega), big] at h
    have e := p10_cancel h
    by_cases hm0 : m = 0
    · have hn0 : n = 0 := by
        rw [hm0] at e
        rcases Int.mul_eq_zero.1 e.symm with h | h
        · exact h
        · exact absurd h (p10_ne _)
      rw [ok_iff] at hm hn; omega
    · exact absurd (e ▸ p10_tmod (y - x) (by omega) n) (ok_ne hm hm0)
  rcases Int.lt_trichotomy x y with h1 | h1 | h1
  · exact key hm hn h h1
  · subst h1; exact ⟨p10_cancel h, rfl⟩
  · obtain ⟨a, b⟩ := key hn hm h.symm h1; exact ⟨a.symm, b.symm⟩
/-- of what the number was made: so many noughts more -/
theorem norm_pow_eq {m e : Int} (he : -40 ≤ e) (hm : m ≠ 0) (h : (norm m e).2.2 = true) : e ≤ (norm m e).2.1 ∧ m = (norm m e).1 * p10 ((norm m e).2.1 - e) := by
  have hb := norm_big_eq he h
  have hle : e ≤ (norm m e).2.1 := by
    unfold norm at h ⊢
    rw [if_neg hm] at h ⊢
    by_cases ho : ok (strip 20 m e).1 (strip 20 m e).2 = true
    · rw [if_pos ho]; exact (strip_big 20 m e he).2
    · rw [if_neg ho] at h; simp at h
  refine ⟨hle, ?_⟩
  rw [big_at (p := e) hle he, big] at hb
  exact (p10_cancel hb).symm
theorem mul_mono {k a b : Int} (h : a ≤ b) : (k * p10 a).natAbs ≤ (k * p10 b).natAbs := by
  rw [Int.natAbs_mul, Int.natAbs_mul]
  have h1 := p10_mono h
  have h2 := p10_pos a
  exact Nat.mul_le_mul_left _ (by omega)
theorem new_facts {m x : Int} (h : (new m x).2.2 = true) : (m ≠ 0 → x ≤ (new m x).2.1 ∧ m = (new m x).1 * p10 ((new m x).2.1 - x)) ∧ ok (new m x).1 (new m x).2.1 = true ∧ (m ≠ 0 → (new m x).1.tmod 10 ≠ 0) ∧ (m = 0 → (new m x).1 = 0 ∧ (new m x).2.1 = 0) := by
  have hr : (-100000000000000000 ≤ m ∧ m ≤ 100000000000000000) ∧ (-32 ≤ x ∧ x ≤ 32) := by
    unfold new at h
    by_cases hh : (-100000000000000000 ≤ m ∧ m ≤ 100000000000000000) ∧ (-32 ≤ x ∧ x ≤ 32)
    · exact hh
    · rw [if_neg hh] at h; simp at h
  have e : new m x = norm m x := by rw [new, if_pos hr]
  rw [e] at h ⊢
  refine ⟨fun h0 => norm_pow_eq (by omega) h0 h, norm_ok h, fun h0 => ?_, fun h0 => ?_⟩
  · refine ok_ne (norm_ok h) (fun hz => ?_)
    have := (norm_pow_eq (e := x) (by omega) h0 h).2
    rw [hz] at this; omega
  · subst h0; exact ⟨rfl, rfl⟩
end Go.Proofs.Ytalncebnahlmdaa.Dm
/- Plain mathematics of sums of three and of products of sums: no program in it. -/
namespace Go.Proofs.Ytalncebnahlmdaa.Dm
theorem new_norm_of {m e : Int} (h : (new m e).2.2 = true) : new m e = norm m e := by
  unfold new at h ⊢
  by_cases hh : (-100000000000000000 ≤ m ∧ m ≤ 100000000000000000) ∧ (-32 ≤ e ∧ e ≤ 32)
  · rw [if_pos hh]
  · rw [if_neg hh] at h; simp at h
theorem manAt_bigv {m x p : Int} (hp : p ≤ x) (hp2 : -40 ≤ p) (h : (manAt m x p).2 = true) : (manAt m x p).1 * p10 (p + 40) = big m x := by
  rw [big_at hp hp2]
  unfold manAt at h ⊢
  by_cases h0 : m = 0
  · rw [if_pos h0]; subst h0; simp
  · rw [if_neg h0] at h ⊢
    by_cases h8 : 8 < x - p
    · rw [if_pos h8] at h; simp at h
    · rw [if_neg h8]
theorem add_val {m x n y : Int} (h : (add m x n y).2.2 = true) : ok m x = true ∧ ok n y = true ∧ ok (add m x n y).1 (add m x n y).2.1 = true ∧ big (add m x n y).1 (add m x n y).2.1 = big m x + big n y := by
  obtain ⟨hm, hn⟩ := add_ok h
  have bm := ok_bd hm
  have bn := ok_bd hn
  refine ⟨hm, hn, ?_⟩
  have e : add m x n y = add1 m x n y := by rw [add, if_pos ⟨hm, hn⟩]
  rw [e] at h ⊢
  unfold add1 at h ⊢
  by_cases hc : (manAt m x (min x y)).2 = true ∧ (manAt n y (min x y)).2 = true
  · rw [if_pos hc] at h ⊢
    have en := new_norm_of h
    rw [en] at h ⊢
    refine ⟨norm_ok h, ?_⟩
    rw [norm_big_eq (by omega) h, big, Int.add_mul, manAt_bigv (by omega) (by omega) hc.1, manAt_bigv (by omega) (by omega) hc.2]
  · rw [if_neg hc] at h; simp at h
theorem mul_val {m x n y : Int} (h : (mul m x n y).2.2 = true) : ok m x = true ∧ ok n y = true ∧ ok (mul m x n y).1 (mul m x n y).2.1 = true ∧ big (mul m x n y).1 (mul m x n y).2.1 * p10 40 = big m x * big n y := by
  have hh : ok m x = true ∧ ok n y = true := by
    unfold mul at h
    by_cases hh : ok m x = true ∧ ok n y = true
    · exact hh
    · rw [if_neg hh] at h; simp at h
  obtain ⟨hm, hn⟩ := hh
  have bm := ok_bd hm
  have bn := ok_bd hn
  refine ⟨hm, hn, ?_⟩
  have e : mul m x n y = norm (m * n) (x + y) := by rw [mul, if_pos ⟨hm, hn⟩]
  rw [e] at h ⊢
  refine ⟨norm_ok h, ?_⟩
  rw [norm_big_eq (by omega) h]
  unfold big
  have e1 : p10 (x + 40) * p10 (y + 40) = p10 (x + y + 40) * p10 40 := by
    rw [← p10_add (by omega) (by omega), ← p10_add (by omega) (by omega)]; congr 1; omega
  rw [Int.mul_assoc (m * n), ← e1, Int.mul_assoc, Int.mul_assoc, ← Int.mul_assoc n, Int.mul_comm n (p10 (x + 40)), Int.mul_assoc]
theorem eq_of_big {r s : Int × Int × Bool} (hr : r.2.2 = true) (hs : s.2.2 = true) (h1 : ok r.1 r.2.1 = true) (h2 : ok s.1 s.2.1 = true) (h : big r.1 r.2.1 = big s.1 s.2.1) : r = s := by
  obtain ⟨a, b, c⟩ := r
  obtain ⟨d, e, f⟩ := s
  simp only at *
  obtain ⟨e1, e2⟩ := ok_unique h1 h2 h
  rw [e1, e2, hr, hs]
/-- three together, whichever two are first -/
theorem add_assoc3 {m x n y c z : Int} (h1 : (add m x n y).2.2 = true) (h2 : (add n y c z).2.2 = true)
    (h3 : (add (add m x n y).1 (add m x n y).2.1 c z).2.2 = true) (h4 : (add m x (add n y c z).1 (add n y c z).2.1).2.2 = true) :
    add m x (add n y c z).1 (add n y c z).2.1 = add (add m x n y).1 (add m x n y).2.1 c z := by
  obtain ⟨_, _, _, a4⟩ := add_val h1
  obtain ⟨_, _, _, b4⟩ := add_val h2
  obtain ⟨_, _, c3, c4⟩ := add_val h3
  obtain ⟨_, _, d3, d4⟩ := add_val h4
  exact eq_of_big h4 h3 d3 c3 (by rw [c4, d4, a4, b4]; omega)
/-- a sum taken so often is both taken so often, together -/
theorem mul_add3 {m x n y c z : Int} (h1 : (add m x n y).2.2 = true) (h2 : (mul (add m x n y).1 (add m x n y).2.1 c z).2.2 = true)
    (h3 : (mul m x c z).2.2 = true) (h4 : (mul n y c z).2.2 = true) (h5 : (add (mul m x c z).1 (mul m x c z).2.1 (mul n y c z).1 (mul n y c z).2.1).2.2 = true) :
    add (mul m x c z).1 (mul m x c z).2.1 (mul n y c z).1 (mul n y c z).2.1 = mul (add m x n y).1 (add m x n y).2.1 c z := by
  obtain ⟨_, _, _, a4⟩ := add_val h1
  obtain ⟨_, _, b3, b4⟩ := mul_val h2
  obtain ⟨_, _, _, c4⟩ := mul_val h3
  obtain ⟨_, _, _, d4⟩ := mul_val h4
  obtain ⟨_, _, e3, e4⟩ := add_val h5
  refine eq_of_big h5 h2 e3 b3 (p10_cancel (k := 40) ?_)
  rw [e4, Int.add_mul, c4, d4, b4, a4, Int.add_mul]
end Go.Proofs.Ytalncebnahlmdaa.Dm
