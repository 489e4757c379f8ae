/- My own texts, joined: Xf Xh Xi Dm2 Dm3 Dm5 Dm6 Dm7 Dm8 Ca. -/
import Derived.Test.YtalncebnahlmdaaJFnValueSame7
import Derived.Deep.WholeRow
import Derived.Test.YtalncebnahlmdaaJFnValueSame0
import Derived.Lib.Bytealg
/- Contract: ValueOk of the program. -/
namespace Go.Proofs.Ytalncebnahlmdaa
open Go.RowKit Go.Shelf
attribute [local go_sem] Oper.semAt_some cell_alloc_is frozen_alloc_is
/-- all in a list so far are as they are to be -/
def GoodV {w : World} (pre : List (TV w)) : Prop := pre.length ≤ 200 ∧ ∀ x ∈ pre, x.d ≤ 20 ∧ one x.h x.kids.len
theorem own_blockV {B : Nat} {W W' : World} {row : Option Nat} (hg : W.grownBy W' row) (hr : ∀ r, row = some r → B ≤ r ∧ ∃ o : Obj, W.heap[r]? = some o ∧ o.isCells = false) {j : Nat} {o : Obj} (hj : W.heap[j]? = some o) (h : j < B ∨ o.isCells = true) : W'.heap[j]? = some o := by
  refine (hg.block j (Array.getElem?_eq_some_iff.1 hj).1 ?_).trans hj
  intro e
  obtain ⟨h1, o', h2, h3⟩ := hr j e.symm
  rcases h with h | h
  · omega
  · rw [hj] at h2; cases h2; rw [h] at h3; cases h3
/-- a value and all in it, at most 200, none deeper than 20, each with just what its kind has -/
def ValGood (h : Hd) (F : Vo) : Prop := ((1, h, F) :: F.flat 2).length ≤ 200 ∧ ∀ x ∈ ((1, h, F) :: F.flat 2), x.1 ≤ 20 ∧ one x.2.1 x.2.2.len
set_option maxRecDepth 100000 in
set_option maxHeartbeats 2000000 in
theorem iValueOk_any (h : Hd) (a : Option Addr) (c : Nat) (F : Vo) (w : World) (hF : F.size ≤ 2000000) (hin : F.In w a) (hl : F.len ≤ c) (hc : c ≤ maxLen) (hh : h.In w) :
    Calls Try.prog 8 #[valV h a F.len c] w fun r w' => SaysT (ValGood h F) r ∧ Below w.heap.size w w' := by
  refine (callsIn_wide (n := 5)).1 ?_
  refine callsIn_of_wp_marks Try.func8 rfl trivial ?_ rfl
  simp only [Try.ntmps8, List.size_toArray, List.length_cons, List.length_nil, Nat.reduceAdd, Nat.reduceSub, Array.replicate_succ, Array.replicate_zero, List.push_toArray, List.append_toArray, List.nil_append, List.cons_append]
  gi_wp2_with fail
  refine ⟨trivial, (callsIn_wide.2 (allOfV_any h a F.len c _)).mono ?_⟩
  rintro r W0' ⟨rfl, rfl⟩
  obtain ⟨W3, hW3⟩ : ∃ W3, ((w.alloc (.cells #[.int .i64 h.k, .int .i64 h.m, .int .i64 h.e, .string h.t, .slice a F.len c, .slice h.na h.ns.length h.nc] 28)).alloc (.cells #[.bool false] 4)).alloc (.cells #[.int .i64 0] 3) = W3 := ⟨_, rfl⟩
  have hs3 : W3.heap.size = w.heap.size + 3 := by rw [← hW3]; simp
  have hB3 : Below w.heap.size w W3 := by rw [← hW3]; exact (((Below.refl _ w).alloc (Nat.le_refl _) _).alloc (by simp) _).alloc (by simp; omega) _
  have hR3 : W3.heap[w.heap.size + 1]? = some (.cells #[.bool false] 4 (0, 0)) := by
    rw [← hW3]
    refine (Below.heap_alloc _ _ _ (by simp)).trans ?_
    have := World.alloc_heap_new (w.alloc (.cells #[.int .i64 h.k, .int .i64 h.m, .int .i64 h.e, .string h.t, .slice a F.len c, .slice h.na h.ns.length h.nc] 28)) (.cells #[.bool false] 4)
    rwa [World.size_alloc] at this
  have hS3 : W3.heap[w.heap.size + 2]? = some (.cells #[.int .i64 0] 3 (0, 0)) := by
    rw [← hW3]
    have := World.alloc_heap_new ((w.alloc (.cells #[.int .i64 h.k, .int .i64 h.m, .int .i64 h.e, .string h.t, .slice a F.len c, .slice h.na h.ns.length h.nc] 28)).alloc (.cells #[.bool false] 4)) (.cells #[.int .i64 0] 3)
    rwa [World.size_alloc, World.size_alloc] at this
  rw [hW3]
  clear hW3
  obtain ⟨W0, hW0⟩ : ∃ W0, W3.alloc (.cells #[.int .i64 h.k, .int .i64 h.m, .int .i64 h.e, .string h.t, .slice a F.len c, .slice h.na h.ns.length h.nc] 28) = W0 := ⟨_, rfl⟩
  have hbx : Below W3.heap.size W3 W0 := by rw [← hW0]; exact (Below.refl _ _).alloc (Nat.le_refl _) _
  have hX0 : BxV W3.heap.size h (.slice a F.len c) W0 := by rw [← hW0]; exact BxV.new W3 h (.slice a F.len c) 28
  obtain ⟨n0, n1, n2, n3, n4, n5⟩ := hX0
  have hsz : W0.heap.size = w.heap.size + 4 := by rw [← hW0]; simp; omega
  have hBW : Below w.heap.size w W0 := hB3.trans (hbx.mono (by omega))
  have hR0 := (hbx.block _ (by omega)).trans hR3
  have hS0 := (hbx.block _ (by omega)).trans hS3
  rw [hW0]
  clear hW0 hR3 hS3 hB3 hbx
  rw [hs3] at n0 n1 n2 n3 n4 n5 ⊢
  clear hs3
  gi_wp2_with fail
  refine wpIn_rangeFunc_ownH rfl (by omega) (gf := 45) (lb := #[.pointer (some ⟨w.heap.size + 3, 0, none⟩)]) rfl trivial (enters_of Try.func45 (by kernel_rfl) rfl)
    (allV_stops w 4 w.heap.size W0.heap.size (w.heap.size + 3) ⟨1, h, a, F, c, hin, hl, hc, hh⟩ W0 rfl (by show F.size ≤ 2000000; omega) (Nat.le_refl _) (Nat.le_refl _) (Sub.of_below hBW) n0 n1 n2 n3 n4 n5)
    Kept.trans (fun W l o o' hl' h hcl _ => ⟨(grownBy_putObj' W l o').size, fun j x hx hxc _ => ((grownBy_putObj' W l o').block j (Array.getElem?_eq_some_iff.1 hx).1 (by intro e; cases e; rw [h] at hx; cases hx; rw [hcl] at hxc; cases hxc)).trans hx⟩)
    (Below.refl _ _) (fun _ => rfl)
    (fun pre W => ((W.heap[w.heap.size + 1]? = some (.cells #[.bool false] 4 (0, 0)) ∧ W.heap[w.heap.size + 2]? = some (.cells #[.int .i64 pre.length] 3 (0, 0))) ∧ (GoodV pre ∧ W0.heap.size ≤ W.heap.size)) ∧ Below w.heap.size w W)
    (fun cd pre W => ((cd = .ret ∧ ¬ GoodV pre) ∧ W.heap[w.heap.size + 1]? = some (.cells #[.bool false] 4 (0, 0))) ∧ Below w.heap.size w W)
    (OwnFrom.and (fun s W W' row hs hg hr => ⟨⟨own_blockV hg hr hs.1.1 (.inl (by omega)), own_blockV hg hr hs.1.2 (.inl (by omega))⟩, hs.2.1, Nat.le_trans hs.2.2 hg.size⟩) (ownFrom_below (Nat.le_refl _) (by omega)))
    (fun cd => OwnFrom.and (fun s W W' row hs hg hr => ⟨hs.1, own_blockV hg hr hs.2 (.inl (by omega))⟩) (ownFrom_below (Nat.le_refl _) (by omega)))
    ⟨⟨⟨hR0, hS0⟩, by simp [GoodV], Nat.le_refl _⟩, hBW⟩
    (fun x a' W => ∃ Bx, W0.heap.size ≤ Bx ∧ W.heap[Bx]? = some (.cells #[.int .i64 x.h.k, .int .i64 x.h.m, .int .i64 x.h.e, .string x.h.t, .slice x.a x.kids.len x.c, .slice x.h.na x.h.ns.length x.h.nc] 28 (0, 0)) ∧ a' = { tmps := #[valV h a F.len c, .pointer (some ⟨w.heap.size, 0, none⟩), .pointer (some ⟨w.heap.size + 1, 0, none⟩), .pointer (some ⟨w.heap.size + 2, 0, none⟩), .int .i64 x.d, .pointer (some ⟨Bx, 0, none⟩), valV h a F.len c, .func (.func 45) #[] #[.pointer (some ⟨w.heap.size + 3, 0, none⟩)], .int .i64 x.d, .agg #[.int .i64 x.h.k, .int .i64 x.h.m, .int .i64 x.h.e, .string x.h.t, .slice x.a x.kids.len x.c, .slice x.h.na x.h.ns.length x.h.nc], undef, undef, undef, undef, undef, undef, undef, undef, undef, undef, undef, undef, undef], defers := [] })
    (fun x a' _ W W' row hs hg hr => by obtain ⟨Bx, e1, e2, e3⟩ := hs; exact ⟨Bx, e1, own_blockV hg hr e2 (.inr rfl), e3⟩)
    ?assign ?body ?done ?stop
  case assign =>
    rintro l pre x W K ⟨⟨⟨hR, hS⟩, hg, hz⟩, hB⟩ hK
    have hbA : Below W.heap.size W (W.alloc (.cells #[.int .i64 x.h.k, .int .i64 x.h.m, .int .i64 x.h.e, .string x.h.t, .slice x.a x.kids.len x.c, .slice x.h.na x.h.ns.length x.h.nc] 28)) := (Below.refl _ W).alloc (Nat.le_refl _) _
    dsimp only [TV.enc]
    gi_wp2
    exact hK _ _ ((KeepsOthers.alloc _ _).from _) (Kept.of_below hbA)
      ⟨⟨⟨(hbA.block _ (Array.getElem?_eq_some_iff.1 hR).1).trans hR, (hbA.block _ (Array.getElem?_eq_some_iff.1 hS).1).trans hS⟩, hg, Nat.le_trans hz hbA.size⟩, hB.trans (hbA.mono hB.size)⟩
      ⟨W.heap.size, hz, World.alloc_heap_new W _, rfl⟩
  case body =>
    rintro l pre x a' W hl' ⟨rr, hrr⟩ ⟨⟨⟨hR, hS⟩, hg, hz⟩, hB⟩ ⟨Bx, hBx, hX, rfl⟩ hlt
    have cS := (show Boxed W (w.heap.size + 2) 3 (.int .i64 pre.length) from hS).cell
    have fS := (show Boxed W (w.heap.size + 2) 3 (.int .i64 pre.length) from hS).frozen
    have hgl := hg.1
    have x0 : W.cell? ⟨Bx, 0, none⟩ = some (.int .i64 x.h.k) := by simp [World.cell?, hX]
    have x1 : W.cell? ⟨Bx, 1, none⟩ = some (.int .i64 x.h.m) := by simp [World.cell?, hX]
    have x2 : W.cell? ⟨Bx, 2, none⟩ = some (.int .i64 x.h.e) := by simp [World.cell?, hX]
    have x3 : W.cell? ⟨Bx, 3, none⟩ = some (.string x.h.t) := by simp [World.cell?, hX]
    have x4 : W.cell? ⟨Bx, 4, none⟩ = some (.slice x.a x.kids.len x.c) := by simp [World.cell?, hX]
    have x5 : W.cell? ⟨Bx, 5, none⟩ = some (.slice x.h.na x.h.ns.length x.h.nc) := by simp [World.cell?, hX]
    have cR := (show Boxed W (w.heap.size + 1) 4 (.bool false) from hR).cell
    have fR := (show Boxed W (w.heap.size + 1) 4 (.bool false) from hR).frozen
    have hne : ¬ w.heap.size + 2 = Bx := by omega
    have hne2 : ¬ w.heap.size + 2 = w.heap.size + 1 := by omega
    obtain ⟨Wn, hWn⟩ : ∃ Wn, Wn = W.setCell ⟨w.heap.size + 2, 0, none⟩ (.int .i64 ((pre.length : Int) + 1)) := ⟨_, rfl⟩
    have hSn : Wn.heap[w.heap.size + 2]? = some (.cells #[.int .i64 ((pre ++ [x]).length : Nat)] 3 (0, 0)) := by rw [hWn, show ((pre.length : Int) + 1) = (((pre ++ [x]).length : Nat) : Int) by simp]; exact Boxed.set _ (show Boxed W (w.heap.size + 2) 3 (.int .i64 pre.length) from hS)
    have hoth : ∀ j, j ≠ w.heap.size + 2 → Wn.heap[j]? = W.heap[j]? := fun j hj => by rw [hWn]; exact Below.heap_setCell _ _ _ j (fun e => hj e)
    have hKo : KeepsOthers W Wn := by rw [hWn]; exact KeepsOthers.setCell _ _ _
    have hBn : Below w.heap.size w Wn := by rw [hWn]; exact hB.setCell (p := ⟨w.heap.size + 2, 0, none⟩) (by show _ ≤ _ + 2; omega) _
    have hszn : Wn.heap.size = W.heap.size := by rw [hWn]; simp [World.setCell]
    have hKn : Kept w.heap.size W0.heap.size W Wn := ⟨by omega, fun j o ho _ hj => (hoth j (by omega)).trans ho⟩
    have hRn : Wn.heap[w.heap.size + 1]? = some (.cells #[.bool false] 4 (0, 0)) := (hoth _ (by omega)).trans hR
    by_cases q1 : pre.length + 1 ≤ 200
    · have q1' : ¬ (200 : Int) < (pre.length : Int) + 1 := by omega
      by_cases q2 : x.d ≤ 20
      · have q2' : ¬ (20 : Int) < (x.d : Int) := by omega
        gi_wp2_with fail
        rw [← hWn]
        clear hWn x0 x1 x2 x3 x4 x5 cS fS cR fR
        refine ⟨trivial, (CallsIn.inRound l (callsIn_wide.2 (fits_any x.h x.a x.kids.len x.c Wn (x.hh.sub (Sub.of_below hBn))))).mono ?_⟩
        rintro r W2 ⟨⟨ft, rfl, hft⟩, hb2⟩
        have HFt : Hid (ft = true ↔ one x.h x.kids.len) := hft
        clear hft
        have hB2 := hBn.trans (hb2.mono hBn.size)
        have cR2 : W2.heap[w.heap.size + 1]? = some (.cells #[.bool false] 4 (0, 0)) := (hb2.block _ (Array.getElem?_eq_some_iff.1 hRn).1).trans hRn
        have hKo2 : KeepsOthers W W2 := hKo.trans (KeepsOthers.of_grownBy (grown_below hb2) (fun j o e => by cases e))
        cases ft
        · have cR3 := (show Boxed W2 (w.heap.size + 1) 4 (.bool false) from cR2).cell
          have fR3 := (show Boxed W2 (w.heap.size + 1) 4 (.bool false) from cR2).frozen
          gi_wp2_with fail
          refine ⟨(hKo2.trans (KeepsOthers.setCell _ _ _)).from _, ⟨⟨rfl, fun hgd => ?_⟩, Boxed.set (.bool false) (show Boxed W2 (w.heap.size + 1) 4 (.bool false) from cR2)⟩, hB2.setCell (p := ⟨w.heap.size + 1, 0, none⟩) (by show _ ≤ _ + 1; omega) _⟩
          have := HFt.out.2 (hgd.2 x (by simp)).2
          cases this
        · gi_wp2_with fail
          refine ⟨hKo2.from _, hKn.trans (Kept.of_below hb2), ⟨⟨cR2, (hb2.block _ (Array.getElem?_eq_some_iff.1 hSn).1).trans hSn⟩, ⟨by simp; omega, fun y hy => ?_⟩, by have := hb2.size; omega⟩, hB2⟩
          rcases List.mem_append.1 hy with hy | hy
          · exact hg.2 y hy
          · obtain rfl : y = x := by simpa using hy
            exact ⟨q2, HFt.out.1 (by trivial)⟩
      · have q2' : (20 : Int) < (x.d : Int) := by omega
        gi_wp2_with fail
        refine ⟨trivial, ?_⟩
        gi_wp2_with fail
        rw [← hWn]
        refine ⟨(hKo.trans (KeepsOthers.setCell _ _ _)).from _, ⟨⟨rfl, fun hgd => ?_⟩, Boxed.set (.bool false) (show Boxed Wn (w.heap.size + 1) 4 (.bool false) from hRn)⟩, hBn.setCell (p := ⟨w.heap.size + 1, 0, none⟩) (by show _ ≤ _ + 1; omega) _⟩
        exact absurd (hgd.2 x (by simp)).1 q2
    · have q1' : (200 : Int) < (pre.length : Int) + 1 := by omega
      gi_wp2_with fail
      refine ⟨trivial, ?_⟩
      gi_wp2_with fail
      rw [← hWn]
      refine ⟨(hKo.trans (KeepsOthers.setCell _ _ _)).from _, ⟨⟨rfl, fun hgd => ?_⟩, Boxed.set (.bool false) (show Boxed Wn (w.heap.size + 1) 4 (.bool false) from hRn)⟩, hBn.setCell (p := ⟨w.heap.size + 1, 0, none⟩) (by show _ ≤ _ + 1; omega) _⟩
      have := hgd.1
      simp at this
      omega
  case done =>
    rintro D ys W hD hS ⟨⟨⟨hR, _⟩, hg, _⟩, hB⟩ hK
    have cR := (show Boxed W (w.heap.size + 1) 4 (.bool false) from hR).cell
    have fR := (show Boxed W (w.heap.size + 1) 4 (.bool false) from hR).frozen
    gi_wp2
    have hK' := (KeepsOthers.setCell W ⟨w.heap.size + 1, 0, none⟩ (.bool true)).same D _ hK rfl
    refine ⟨by simp, .inl ⟨_, _, rfl, run_takeDeferred hK', ?_⟩⟩
    have hc5 := cell_kept (Boxed.set (.bool true) (show Boxed W (w.heap.size + 1) 4 (.bool false) from hR)).cell (grownBy_putObj' _ D (.deferred none)) (fun r e => by cases e; exact ⟨_, hK', rfl⟩)
    refine ⟨.bool true, ?_, ⟨true, rfl, ?_⟩, (hB.setCell (p := ⟨w.heap.size + 1, 0, none⟩) (by show _ ≤ _ + 1; omega) _).trans (belowK_b (w := w) (Nat.le_refl _) _ D _ _ (by omega) hK' rfl rfl)⟩
    · simp [results, Try.results8, go_sem, hc5]
    · have hS' : ys.map TV.raw = (1, h, F) :: F.flat 2 := hS
      unfold ValGood
      rw [← hS']
      refine ⟨fun _ => ⟨by rw [List.length_map]; exact hg.1, fun z hz => ?_⟩, fun _ => rfl⟩
      obtain ⟨y, hy, rfl⟩ := List.mem_map.1 hz
      exact hg.2 y hy
  case stop =>
    rintro D cd pre W hD hpre ⟨⟨⟨rfl, hng⟩, hR⟩, hB⟩ hK
    gi_wp2
    refine ⟨by simp, .inl ⟨_, _, rfl, run_takeDeferred hK, ?_⟩⟩
    have hc5 := cell_kept (show Boxed W (w.heap.size + 1) 4 (.bool false) from hR).cell (grownBy_putObj' _ D (.deferred none)) (fun r e => by cases e; exact ⟨_, hK, rfl⟩)
    refine ⟨.bool false, ?_, ⟨false, rfl, ?_⟩, hB.trans (belowK_b (w := w) (Nat.le_refl _) W D _ _ (by omega) hK rfl rfl)⟩
    · simp [results, Try.results8, go_sem, hc5]
    · have hS' : pre.map TV.raw <+: (1, h, F) :: F.flat 2 := hpre
      refine ⟨fun h => (by cases h), fun h => absurd (⟨?_, fun y hy => ?_⟩ : GoodV pre) hng⟩
      · have := hS'.length_le
        have h1 := h.1
        rw [List.length_map] at this
        omega
      · exact h.2 y.raw (hS'.subset (List.mem_map.2 ⟨y, hy, rfl⟩))
end Go.Proofs.Ytalncebnahlmdaa
/- Values that are ok: whether a value has just what its kind has, by the specification. -/
namespace Go.Proofs.Ytalncebnahlmdaa
open Go.RowKit
theorem text_nil {t : ByteArray} (h : t.toList = []) : t = ⟨#[]⟩ := text_ext (h.trans (by simp [ByteArray.toList_eq]))
set_option maxRecDepth 100000 in
set_option maxHeartbeats 1000000 in
theorem l7One_0 (m e : Int) (t : ByteArray) (na : Option Addr) (nc : Nat) (ns : List ByteArray) (a : Option Addr) (n c nl : Nat) (w : World) (hlen : Hid (ns.length = nl)) (hI : Hd.In w ⟨0, m, e, t, na, nc, ns⟩) :
    Calls Try.prog 49 #[.agg #[.int .i64 0, .int .i64 m, .int .i64 e, .string t, .slice a n c, .slice na nl nc]] w fun r w' => SaysT (one ⟨0, m, e, t, na, nc, ns⟩ n) r ∧ Below w.heap.size w w' := by
  by_cases h_m : m = 0
  · subst h_m
    by_cases h_e : e = 0
    · subst h_e
      by_cases h_t : t = ⟨#[]⟩
      · subst h_t
        by_cases h_n : n = 0
        · subst h_n
          by_cases h_nl : nl = 0
          · subst h_nl
            have HS : Hid (one ⟨0, 0, 0, ⟨#[]⟩, na, nc, ns⟩ 0) := by have h0 : ns = [] := List.eq_nil_of_length_eq_zero hlen.out; subst h0; unfold Hid; simp [one]
            clear hI
            go_enter Try.func49, Try.ntmps49
            go_wp2_with fail
            go_ret
            exact ⟨⟨true, rfl, fun _ => HS.out, fun _ => rfl⟩, (by (repeat' (first | assumption | exact Below.refl _ _ | refine Below.alloc ?_ ?_ _ | refine Below.setCell ?_ ?_ _ | refine Below.drew ?_ | refine below_drewN ?_ _)) <;> (first | omega | (simp <;> omega)))⟩
          · have h_nl' : ((nl : Int) == 0) = false := by simp; omega
            have HS : Hid (¬ one ⟨0, 0, 0, ⟨#[]⟩, na, nc, ns⟩ 0) := fun x => h_nl (by have := hlen.out; simp [one] at x; rw [← this]; simp [x])
            clear hI
            go_enter Try.func49, Try.ntmps49
            go_wp2_with fail
            go_ret
            exact ⟨⟨false, rfl, fun h => (by cases h), fun h => absurd h HS.out⟩, (by (repeat' (first | assumption | exact Below.refl _ _ | refine Below.alloc ?_ ?_ _ | refine Below.setCell ?_ ?_ _ | refine Below.drew ?_ | refine below_drewN ?_ _)) <;> (first | omega | (simp <;> omega)))⟩
        · have h_n' : ((n : Int) == 0) = false := by simp; omega
          have HS : Hid (¬ one ⟨0, 0, 0, ⟨#[]⟩, na, nc, ns⟩ n) := fun x => by simp [one] at x; exact h_n (by simp [x])
          clear hI
          go_enter Try.func49, Try.ntmps49
          go_wp2_with fail
          go_ret
          exact ⟨⟨false, rfl, fun h => (by cases h), fun h => absurd h HS.out⟩, (by (repeat' (first | assumption | exact Below.refl _ _ | refine Below.alloc ?_ ?_ _ | refine Below.setCell ?_ ?_ _ | refine Below.drew ?_ | refine below_drewN ?_ _)) <;> (first | omega | (simp <;> omega)))⟩
      · have h_t' : (t.toList == []) = false := by rw [beq_eq_false_iff_ne]; exact fun e' => h_t (text_nil e')
        have HS : Hid (¬ one ⟨0, 0, 0, t, na, nc, ns⟩ n) := fun x => by simp [one] at x; exact h_t (by simp [x])
        clear hI
        go_enter Try.func49, Try.ntmps49
        go_wp2_with fail
        go_ret
        exact ⟨⟨false, rfl, fun h => (by cases h), fun h => absurd h HS.out⟩, (by (repeat' (first | assumption | exact Below.refl _ _ | refine Below.alloc ?_ ?_ _ | refine Below.setCell ?_ ?_ _ | refine Below.drew ?_ | refine below_drewN ?_ _)) <;> (first | omega | (simp <;> omega)))⟩
    · have h_e' : (e == 0) = false := by simp; omega
      have HS : Hid (¬ one ⟨0, 0, e, t, na, nc, ns⟩ n) := fun x => by simp [one] at x; exact h_e (by simp [x])
      clear hI
      go_enter Try.func49, Try.ntmps49
      go_wp2_with fail
      go_ret
      exact ⟨⟨false, rfl, fun h => (by cases h), fun h => absurd h HS.out⟩, (by (repeat' (first | assumption | exact Below.refl _ _ | refine Below.alloc ?_ ?_ _ | refine Below.setCell ?_ ?_ _ | refine Below.drew ?_ | refine below_drewN ?_ _)) <;> (first | omega | (simp <;> omega)))⟩
  · have h_m' : (m == 0) = false := by simp; omega
    have HS : Hid (¬ one ⟨0, m, e, t, na, nc, ns⟩ n) := fun x => by simp [one] at x; exact h_m (by simp [x])
    clear hI
    go_enter Try.func49, Try.ntmps49
    go_wp2_with fail
    go_ret
    exact ⟨⟨false, rfl, fun h => (by cases h), fun h => absurd h HS.out⟩, (by (repeat' (first | assumption | exact Below.refl _ _ | refine Below.alloc ?_ ?_ _ | refine Below.setCell ?_ ?_ _ | refine Below.drew ?_ | refine below_drewN ?_ _)) <;> (first | omega | (simp <;> omega)))⟩
set_option maxRecDepth 100000 in
set_option maxHeartbeats 1000000 in
theorem l7One_1 (m e : Int) (t : ByteArray) (na : Option Addr) (nc : Nat) (ns : List ByteArray) (a : Option Addr) (n c nl : Nat) (w : World) (hlen : Hid (ns.length = nl)) (hI : Hd.In w ⟨1, m, e, t, na, nc, ns⟩) :
    Calls Try.prog 49 #[.agg #[.int .i64 1, .int .i64 m, .int .i64 e, .string t, .slice a n c, .slice na nl nc]] w fun r w' => SaysT (one ⟨1, m, e, t, na, nc, ns⟩ n) r ∧ Below w.heap.size w w' := by
  by_cases h_m : m = 0
  · subst h_m
    by_cases h_e : e = 0
    · subst h_e
      by_cases h_t : t = ⟨#[]⟩
      · subst h_t
        by_cases h_n : n = 0
        · subst h_n
          by_cases h_nl : nl = 0
          · subst h_nl
            have HS : Hid (one ⟨1, 0, 0, ⟨#[]⟩, na, nc, ns⟩ 0) := by have h0 : ns = [] := List.eq_nil_of_length_eq_zero hlen.out; subst h0; unfold Hid; simp [one]
            clear hI
            go_enter Try.func49, Try.ntmps49
            go_wp2_with fail
            go_ret
            exact ⟨⟨true, rfl, fun _ => HS.out, fun _ => rfl⟩, (by (repeat' (first | assumption | exact Below.refl _ _ | refine Below.alloc ?_ ?_ _ | refine Below.setCell ?_ ?_ _ | refine Below.drew ?_ | refine below_drewN ?_ _)) <;> (first | omega | (simp <;> omega)))⟩
          · have h_nl' : ((nl : Int) == 0) = false := by simp; omega
            have HS : Hid (¬ one ⟨1, 0, 0, ⟨#[]⟩, na, nc, ns⟩ 0) := fun x => h_nl (by have := hlen.out; simp [one] at x; rw [← this]; simp [x])
            clear hI
            go_enter Try.func49, Try.ntmps49
            go_wp2_with fail
            go_ret
            exact ⟨⟨false, rfl, fun h => (by cases h), fun h => absurd h HS.out⟩, (by (repeat' (first | assumption | exact Below.refl _ _ | refine Below.alloc ?_ ?_ _ | refine Below.setCell ?_ ?_ _ | refine Below.drew ?_ | refine below_drewN ?_ _)) <;> (first | omega | (simp <;> omega)))⟩
        · have h_n' : ((n : Int) == 0) = false := by simp; omega
          have HS : Hid (¬ one ⟨1, 0, 0, ⟨#[]⟩, na, nc, ns⟩ n) := fun x => by simp [one] at x; exact h_n (by simp [x])
          clear hI
          go_enter Try.func49, Try.ntmps49
          go_wp2_with fail
          go_ret
          exact ⟨⟨false, rfl, fun h => (by cases h), fun h => absurd h HS.out⟩, (by (repeat' (first | assumption | exact Below.refl _ _ | refine Below.alloc ?_ ?_ _ | refine Below.setCell ?_ ?_ _ | refine Below.drew ?_ | refine below_drewN ?_ _)) <;> (first | omega | (simp <;> omega)))⟩
      · have h_t' : (t.toList == []) = false := by rw [beq_eq_false_iff_ne]; exact fun e' => h_t (text_nil e')
        have HS : Hid (¬ one ⟨1, 0, 0, t, na, nc, ns⟩ n) := fun x => by simp [one] at x; exact h_t (by simp [x])
        clear hI
        go_enter Try.func49, Try.ntmps49
        go_wp2_with fail
        go_ret
        exact ⟨⟨false, rfl, fun h => (by cases h), fun h => absurd h HS.out⟩, (by (repeat' (first | assumption | exact Below.refl _ _ | refine Below.alloc ?_ ?_ _ | refine Below.setCell ?_ ?_ _ | refine Below.drew ?_ | refine below_drewN ?_ _)) <;> (first | omega | (simp <;> omega)))⟩
    · have h_e' : (e == 0) = false := by simp; omega
      have HS : Hid (¬ one ⟨1, 0, e, t, na, nc, ns⟩ n) := fun x => by simp [one] at x; exact h_e (by simp [x])
      clear hI
      go_enter Try.func49, Try.ntmps49
      go_wp2_with fail
      go_ret
      exact ⟨⟨false, rfl, fun h => (by cases h), fun h => absurd h HS.out⟩, (by (repeat' (first | assumption | exact Below.refl _ _ | refine Below.alloc ?_ ?_ _ | refine Below.setCell ?_ ?_ _ | refine Below.drew ?_ | refine below_drewN ?_ _)) <;> (first | omega | (simp <;> omega)))⟩
  · have h_m' : (m == 0) = false := by simp; omega
    have HS : Hid (¬ one ⟨1, m, e, t, na, nc, ns⟩ n) := fun x => by simp [one] at x; exact h_m (by simp [x])
    clear hI
    go_enter Try.func49, Try.ntmps49
    go_wp2_with fail
    go_ret
    exact ⟨⟨false, rfl, fun h => (by cases h), fun h => absurd h HS.out⟩, (by (repeat' (first | assumption | exact Below.refl _ _ | refine Below.alloc ?_ ?_ _ | refine Below.setCell ?_ ?_ _ | refine Below.drew ?_ | refine below_drewN ?_ _)) <;> (first | omega | (simp <;> omega)))⟩
set_option maxRecDepth 100000 in
set_option maxHeartbeats 1000000 in
theorem l7One_2 (m e : Int) (t : ByteArray) (na : Option Addr) (nc : Nat) (ns : List ByteArray) (a : Option Addr) (n c nl : Nat) (w : World) (hlen : Hid (ns.length = nl)) (hI : Hd.In w ⟨2, m, e, t, na, nc, ns⟩) :
    Calls Try.prog 49 #[.agg #[.int .i64 2, .int .i64 m, .int .i64 e, .string t, .slice a n c, .slice na nl nc]] w fun r w' => SaysT (one ⟨2, m, e, t, na, nc, ns⟩ n) r ∧ Below w.heap.size w w' := by
  by_cases h_m : m = 0
  · subst h_m
    by_cases h_e : e = 0
    · subst h_e
      by_cases h_t : t = ⟨#[]⟩
      · subst h_t
        by_cases h_n : n = 0
        · subst h_n
          by_cases h_nl : nl = 0
          · subst h_nl
            have HS : Hid (one ⟨2, 0, 0, ⟨#[]⟩, na, nc, ns⟩ 0) := by have h0 : ns = [] := List.eq_nil_of_length_eq_zero hlen.out; subst h0; unfold Hid; simp [one]
            clear hI
            go_enter Try.func49, Try.ntmps49
            go_wp2_with fail
            go_ret
            exact ⟨⟨true, rfl, fun _ => HS.out, fun _ => rfl⟩, (by (repeat' (first | assumption | exact Below.refl _ _ | refine Below.alloc ?_ ?_ _ | refine Below.setCell ?_ ?_ _ | refine Below.drew ?_ | refine below_drewN ?_ _)) <;> (first | omega | (simp <;> omega)))⟩
          · have h_nl' : ((nl : Int) == 0) = false := by simp; omega
            have HS : Hid (¬ one ⟨2, 0, 0, ⟨#[]⟩, na, nc, ns⟩ 0) := fun x => h_nl (by have := hlen.out; simp [one] at x; rw [← this]; simp [x])
            clear hI
            go_enter Try.func49, Try.ntmps49
            go_wp2_with fail
            go_ret
            exact ⟨⟨false, rfl, fun h => (by cases h), fun h => absurd h HS.out⟩, (by (repeat' (first | assumption | exact Below.refl _ _ | refine Below.alloc ?_ ?_ _ | refine Below.setCell ?_ ?_ _ | refine Below.drew ?_ | refine below_drewN ?_ _)) <;> (first | omega | (simp <;> omega)))⟩
        · have h_n' : ((n : Int) == 0) = false := by simp; omega
          have HS : Hid (¬ one ⟨2, 0, 0, ⟨#[]⟩, na, nc, ns⟩ n) := fun x => by simp [one] at x; exact h_n (by simp [x])
          clear hI
          go_enter Try.func49, Try.ntmps49
          go_wp2_with fail
          go_ret
          exact ⟨⟨false, rfl, fun h => (by cases h), fun h => absurd h HS.out⟩, (by (repeat' (first | assumption | exact Below.refl _ _ | refine Below.alloc ?_ ?_ _ | refine Below.setCell ?_ ?_ _ | refine Below.drew ?_ | refine below_drewN ?_ _)) <;> (first | omega | (simp <;> omega)))⟩
      · have h_t' : (t.toList == []) = false := by rw [beq_eq_false_iff_ne]; exact fun e' => h_t (text_nil e')
        have HS : Hid (¬ one ⟨2, 0, 0, t, na, nc, ns⟩ n) := fun x => by simp [one] at x; exact h_t (by simp [x])
        clear hI
        go_enter Try.func49, Try.ntmps49
        go_wp2_with fail
        go_ret
        exact ⟨⟨false, rfl, fun h => (by cases h), fun h => absurd h HS.out⟩, (by (repeat' (first | assumption | exact Below.refl _ _ | refine Below.alloc ?_ ?_ _ | refine Below.setCell ?_ ?_ _ | refine Below.drew ?_ | refine below_drewN ?_ _)) <;> (first | omega | (simp <;> omega)))⟩
    · have h_e' : (e == 0) = false := by simp; omega
      have HS : Hid (¬ one ⟨2, 0, e, t, na, nc, ns⟩ n) := fun x => by simp [one] at x; exact h_e (by simp [x])
      clear hI
      go_enter Try.func49, Try.ntmps49
      go_wp2_with fail
      go_ret
      exact ⟨⟨false, rfl, fun h => (by cases h), fun h => absurd h HS.out⟩, (by (repeat' (first | assumption | exact Below.refl _ _ | refine Below.alloc ?_ ?_ _ | refine Below.setCell ?_ ?_ _ | refine Below.drew ?_ | refine below_drewN ?_ _)) <;> (first | omega | (simp <;> omega)))⟩
  · have h_m' : (m == 0) = false := by simp; omega
    have HS : Hid (¬ one ⟨2, m, e, t, na, nc, ns⟩ n) := fun x => by simp [one] at x; exact h_m (by simp [x])
    clear hI
    go_enter Try.func49, Try.ntmps49
    go_wp2_with fail
    go_ret
    exact ⟨⟨false, rfl, fun h => (by cases h), fun h => absurd h HS.out⟩, (by (repeat' (first | assumption | exact Below.refl _ _ | refine Below.alloc ?_ ?_ _ | refine Below.setCell ?_ ?_ _ | refine Below.drew ?_ | refine below_drewN ?_ _)) <;> (first | omega | (simp <;> omega)))⟩
set_option maxRecDepth 100000 in
set_option maxHeartbeats 1000000 in
theorem l7One_4 (m e : Int) (t : ByteArray) (na : Option Addr) (nc : Nat) (ns : List ByteArray) (a : Option Addr) (n c nl : Nat) (w : World) (hlen : Hid (ns.length = nl)) (hI : Hd.In w ⟨4, m, e, t, na, nc, ns⟩) :
    Calls Try.prog 49 #[.agg #[.int .i64 4, .int .i64 m, .int .i64 e, .string t, .slice a n c, .slice na nl nc]] w fun r w' => SaysT (one ⟨4, m, e, t, na, nc, ns⟩ n) r ∧ Below w.heap.size w w' := by
  have htm := hI.2.2
  unfold maxLen at htm
  by_cases h_m : m = 0
  · subst h_m
    by_cases h_e : e = 0
    · subst h_e
      by_cases h_sz : t.size ≤ 1500
      · have h_sz' : (t.size : Int) ≤ 1500 := by omega
        by_cases h_n : n = 0
        · subst h_n
          by_cases h_nl : nl = 0
          · subst h_nl
            have HS : Hid (one ⟨4, 0, 0, t, na, nc, ns⟩ 0) := by have h0 : ns = [] := List.eq_nil_of_length_eq_zero hlen.out; subst h0; unfold Hid; simp [one]; exact h_sz
            clear hI
            go_enter Try.func49, Try.ntmps49
            go_wp2_with fail
            go_ret
            exact ⟨⟨true, rfl, fun _ => HS.out, fun _ => rfl⟩, (by (repeat' (first | assumption | exact Below.refl _ _ | refine Below.alloc ?_ ?_ _ | refine Below.setCell ?_ ?_ _ | refine Below.drew ?_ | refine below_drewN ?_ _)) <;> (first | omega | (simp <;> omega)))⟩
          · have h_nl' : ((nl : Int) == 0) = false := by simp; omega
            have HS : Hid (¬ one ⟨4, 0, 0, t, na, nc, ns⟩ 0) := fun x => h_nl (by have := hlen.out; simp [one] at x; rw [← this]; simp [x])
            clear hI
            go_enter Try.func49, Try.ntmps49
            go_wp2_with fail
            go_ret
            exact ⟨⟨false, rfl, fun h => (by cases h), fun h => absurd h HS.out⟩, (by (repeat' (first | assumption | exact Below.refl _ _ | refine Below.alloc ?_ ?_ _ | refine Below.setCell ?_ ?_ _ | refine Below.drew ?_ | refine below_drewN ?_ _)) <;> (first | omega | (simp <;> omega)))⟩
        · have h_n' : ((n : Int) == 0) = false := by simp; omega
          have HS : Hid (¬ one ⟨4, 0, 0, t, na, nc, ns⟩ n) := fun x => by simp [one] at x; exact h_n (by simp [x])
          clear hI
          go_enter Try.func49, Try.ntmps49
          go_wp2_with fail
          go_ret
          exact ⟨⟨false, rfl, fun h => (by cases h), fun h => absurd h HS.out⟩, (by (repeat' (first | assumption | exact Below.refl _ _ | refine Below.alloc ?_ ?_ _ | refine Below.setCell ?_ ?_ _ | refine Below.drew ?_ | refine below_drewN ?_ _)) <;> (first | omega | (simp <;> omega)))⟩
      · have h_sz' : ¬ (t.size : Int) ≤ 1500 := by omega
        have HS : Hid (¬ one ⟨4, 0, 0, t, na, nc, ns⟩ n) := fun x => by simp [one] at x; exact h_sz x.1
        clear hI
        go_enter Try.func49, Try.ntmps49
        go_wp2_with fail
        go_ret
        exact ⟨⟨false, rfl, fun h => (by cases h), fun h => absurd h HS.out⟩, (by (repeat' (first | assumption | exact Below.refl _ _ | refine Below.alloc ?_ ?_ _ | refine Below.setCell ?_ ?_ _ | refine Below.drew ?_ | refine below_drewN ?_ _)) <;> (first | omega | (simp <;> omega)))⟩
    · have h_e' : (e == 0) = false := by simp; omega
      have HS : Hid (¬ one ⟨4, 0, e, t, na, nc, ns⟩ n) := fun x => by simp [one] at x; exact h_e (by simp [x])
      clear hI
      go_enter Try.func49, Try.ntmps49
      go_wp2_with fail
      go_ret
      exact ⟨⟨false, rfl, fun h => (by cases h), fun h => absurd h HS.out⟩, (by (repeat' (first | assumption | exact Below.refl _ _ | refine Below.alloc ?_ ?_ _ | refine Below.setCell ?_ ?_ _ | refine Below.drew ?_ | refine below_drewN ?_ _)) <;> (first | omega | (simp <;> omega)))⟩
  · have h_m' : (m == 0) = false := by simp; omega
    have HS : Hid (¬ one ⟨4, m, e, t, na, nc, ns⟩ n) := fun x => by simp [one] at x; exact h_m (by simp [x])
    clear hI
    go_enter Try.func49, Try.ntmps49
    go_wp2_with fail
    go_ret
    exact ⟨⟨false, rfl, fun h => (by cases h), fun h => absurd h HS.out⟩, (by (repeat' (first | assumption | exact Below.refl _ _ | refine Below.alloc ?_ ?_ _ | refine Below.setCell ?_ ?_ _ | refine Below.drew ?_ | refine below_drewN ?_ _)) <;> (first | omega | (simp <;> omega)))⟩
set_option maxRecDepth 100000 in
set_option maxHeartbeats 1000000 in
theorem l7One_5 (m e : Int) (t : ByteArray) (na : Option Addr) (nc : Nat) (ns : List ByteArray) (a : Option Addr) (n c nl : Nat) (w : World) (hlen : Hid (ns.length = nl)) (hI : Hd.In w ⟨5, m, e, t, na, nc, ns⟩) :
    Calls Try.prog 49 #[.agg #[.int .i64 5, .int .i64 m, .int .i64 e, .string t, .slice a n c, .slice na nl nc]] w fun r w' => SaysT (one ⟨5, m, e, t, na, nc, ns⟩ n) r ∧ Below w.heap.size w w' := by
  by_cases h_m : m = 0
  · subst h_m
    by_cases h_e : e = 0
    · subst h_e
      by_cases h_t : t = ⟨#[]⟩
      · subst h_t
        by_cases h_nl : nl = 0
        · subst h_nl
          have HS : Hid (one ⟨5, 0, 0, ⟨#[]⟩, na, nc, ns⟩ n) := by have h0 : ns = [] := List.eq_nil_of_length_eq_zero hlen.out; subst h0; unfold Hid; simp [one]
          clear hI
          go_enter Try.func49, Try.ntmps49
          go_wp2_with fail
          go_ret
          exact ⟨⟨true, rfl, fun _ => HS.out, fun _ => rfl⟩, (by (repeat' (first | assumption | exact Below.refl _ _ | refine Below.alloc ?_ ?_ _ | refine Below.setCell ?_ ?_ _ | refine Below.drew ?_ | refine below_drewN ?_ _)) <;> (first | omega | (simp <;> omega)))⟩
        · have h_nl' : ((nl : Int) == 0) = false := by simp; omega
          have HS : Hid (¬ one ⟨5, 0, 0, ⟨#[]⟩, na, nc, ns⟩ n) := fun x => h_nl (by have := hlen.out; simp [one] at x; rw [← this]; simp [x])
          clear hI
          go_enter Try.func49, Try.ntmps49
          go_wp2_with fail
          go_ret
          exact ⟨⟨false, rfl, fun h => (by cases h), fun h => absurd h HS.out⟩, (by (repeat' (first | assumption | exact Below.refl _ _ | refine Below.alloc ?_ ?_ _ | refine Below.setCell ?_ ?_ _ | refine Below.drew ?_ | refine below_drewN ?_ _)) <;> (first | omega | (simp <;> omega)))⟩
      · have h_t' : (t.toList == []) = false := by rw [beq_eq_false_iff_ne]; exact fun e' => h_t (text_nil e')
        have HS : Hid (¬ one ⟨5, 0, 0, t, na, nc, ns⟩ n) := fun x => by simp [one] at x; exact h_t (by simp [x])
        clear hI
        go_enter Try.func49, Try.ntmps49
        go_wp2_with fail
        go_ret
        exact ⟨⟨false, rfl, fun h => (by cases h), fun h => absurd h HS.out⟩, (by (repeat' (first | assumption | exact Below.refl _ _ | refine Below.alloc ?_ ?_ _ | refine Below.setCell ?_ ?_ _ | refine Below.drew ?_ | refine below_drewN ?_ _)) <;> (first | omega | (simp <;> omega)))⟩
    · have h_e' : (e == 0) = false := by simp; omega
      have HS : Hid (¬ one ⟨5, 0, e, t, na, nc, ns⟩ n) := fun x => by simp [one] at x; exact h_e (by simp [x])
      clear hI
      go_enter Try.func49, Try.ntmps49
      go_wp2_with fail
      go_ret
      exact ⟨⟨false, rfl, fun h => (by cases h), fun h => absurd h HS.out⟩, (by (repeat' (first | assumption | exact Below.refl _ _ | refine Below.alloc ?_ ?_ _ | refine Below.setCell ?_ ?_ _ | refine Below.drew ?_ | refine below_drewN ?_ _)) <;> (first | omega | (simp <;> omega)))⟩
  · have h_m' : (m == 0) = false := by simp; omega
    have HS : Hid (¬ one ⟨5, m, e, t, na, nc, ns⟩ n) := fun x => by simp [one] at x; exact h_m (by simp [x])
    clear hI
    go_enter Try.func49, Try.ntmps49
    go_wp2_with fail
    go_ret
    exact ⟨⟨false, rfl, fun h => (by cases h), fun h => absurd h HS.out⟩, (by (repeat' (first | assumption | exact Below.refl _ _ | refine Below.alloc ?_ ?_ _ | refine Below.setCell ?_ ?_ _ | refine Below.drew ?_ | refine below_drewN ?_ _)) <;> (first | omega | (simp <;> omega)))⟩
set_option maxRecDepth 100000 in
set_option maxHeartbeats 1000000 in
theorem l7One_3 (m e : Int) (t : ByteArray) (na : Option Addr) (nc : Nat) (ns : List ByteArray) (a : Option Addr) (n c nl : Nat) (w : World) (hlen : Hid (ns.length = nl)) (hI : Hd.In w ⟨3, m, e, t, na, nc, ns⟩) :
    Calls Try.prog 49 #[.agg #[.int .i64 3, .int .i64 m, .int .i64 e, .string t, .slice a n c, .slice na nl nc]] w fun r w' => SaysT (one ⟨3, m, e, t, na, nc, ns⟩ n) r ∧ Below w.heap.size w w' := by
  cases hd : Dm.ok m e
  · skip
    have HS : Hid (¬ one ⟨3, m, e, t, na, nc, ns⟩ n) := fun x => by simp [one, hd] at x
    clear hI
    have hB0 := (Below.refl _ w).alloc (Nat.le_refl _) (.cells #[.int .i64 3, .int .i64 m, .int .i64 e, .string t, .slice a n c, .slice na nl nc] 28)
    have R0 := Row.new w [.int .i64 3, .int .i64 m, .int .i64 e, .string t, .slice a n c, .slice na nl nc] 28
    go_enter Try.func49, Try.ntmps49
    go_wp2_with fail
    refine (sDecOk_any m e _).mono ?_
    rintro r w1 ⟨rfl, hb1⟩
    have hB1 := hB0.trans (hb1.mono hB0.size)
    have x3 := (R0.below hb1 R0.lt 3 _ rfl).1
    have x4 := (R0.below hb1 R0.lt 4 _ rfl).1
    have x5 := (R0.below hb1 R0.lt 5 _ rfl).1
    clear R0 hB0 hb1
    rw [hd]
    go_wp2_with fail
    go_ret
    exact ⟨⟨false, rfl, fun h => (by cases h), fun h => absurd h HS.out⟩, hB1⟩
  · by_cases h_t : t = ⟨#[]⟩
    · subst h_t
      by_cases h_n : n = 0
      · subst h_n
        by_cases h_nl : nl = 0
        · subst h_nl
          have HS : Hid (one ⟨3, m, e, ⟨#[]⟩, na, nc, ns⟩ 0) := by have h0 : ns = [] := List.eq_nil_of_length_eq_zero hlen.out; subst h0; unfold Hid; simp [one, hd]
          clear hI
          have hB0 := (Below.refl _ w).alloc (Nat.le_refl _) (.cells #[.int .i64 3, .int .i64 m, .int .i64 e, .string ⟨#[]⟩, .slice a 0 c, .slice na 0 nc] 28)
          have R0 := Row.new w [.int .i64 3, .int .i64 m, .int .i64 e, .string ⟨#[]⟩, .slice a 0 c, .slice na 0 nc] 28
          go_enter Try.func49, Try.ntmps49
          go_wp2_with fail
          refine (sDecOk_any m e _).mono ?_
          rintro r w1 ⟨rfl, hb1⟩
          have hB1 := hB0.trans (hb1.mono hB0.size)
          have x3 := (R0.below hb1 R0.lt 3 _ rfl).1
          have x4 := (R0.below hb1 R0.lt 4 _ rfl).1
          have x5 := (R0.below hb1 R0.lt 5 _ rfl).1
          clear R0 hB0 hb1
          rw [hd]
          go_wp2_with fail
          go_ret
          exact ⟨⟨true, rfl, fun _ => HS.out, fun _ => rfl⟩, hB1⟩
        · have h_nl' : ((nl : Int) == 0) = false := by simp; omega
          have HS : Hid (¬ one ⟨3, m, e, ⟨#[]⟩, na, nc, ns⟩ 0) := fun x => h_nl (by have := hlen.out; simp [one] at x; rw [← this]; simp [x])
          clear hI
          have hB0 := (Below.refl _ w).alloc (Nat.le_refl _) (.cells #[.int .i64 3, .int .i64 m, .int .i64 e, .string ⟨#[]⟩, .slice a 0 c, .slice na nl nc] 28)
          have R0 := Row.new w [.int .i64 3, .int .i64 m, .int .i64 e, .string ⟨#[]⟩, .slice a 0 c, .slice na nl nc] 28
          go_enter Try.func49, Try.ntmps49
          go_wp2_with fail
          refine (sDecOk_any m e _).mono ?_
          rintro r w1 ⟨rfl, hb1⟩
          have hB1 := hB0.trans (hb1.mono hB0.size)
          have x3 := (R0.below hb1 R0.lt 3 _ rfl).1
          have x4 := (R0.below hb1 R0.lt 4 _ rfl).1
          have x5 := (R0.below hb1 R0.lt 5 _ rfl).1
          clear R0 hB0 hb1
          rw [hd]
          go_wp2_with fail
          go_ret
          exact ⟨⟨false, rfl, fun h => (by cases h), fun h => absurd h HS.out⟩, hB1⟩
      · have h_n' : ((n : Int) == 0) = false := by simp; omega
        have HS : Hid (¬ one ⟨3, m, e, ⟨#[]⟩, na, nc, ns⟩ n) := fun x => by simp [one] at x; exact h_n (by simp [x])
        clear hI
        have hB0 := (Below.refl _ w).alloc (Nat.le_refl _) (.cells #[.int .i64 3, .int .i64 m, .int .i64 e, .string ⟨#[]⟩, .slice a n c, .slice na nl nc] 28)
        have R0 := Row.new w [.int .i64 3, .int .i64 m, .int .i64 e, .string ⟨#[]⟩, .slice a n c, .slice na nl nc] 28
        go_enter Try.func49, Try.ntmps49
        go_wp2_with fail
        refine (sDecOk_any m e _).mono ?_
        rintro r w1 ⟨rfl, hb1⟩
        have hB1 := hB0.trans (hb1.mono hB0.size)
        have x3 := (R0.below hb1 R0.lt 3 _ rfl).1
        have x4 := (R0.below hb1 R0.lt 4 _ rfl).1
        have x5 := (R0.below hb1 R0.lt 5 _ rfl).1
        clear R0 hB0 hb1
        rw [hd]
        go_wp2_with fail
        go_ret
        exact ⟨⟨false, rfl, fun h => (by cases h), fun h => absurd h HS.out⟩, hB1⟩
    · have h_t' : (t.toList == []) = false := by rw [beq_eq_false_iff_ne]; exact fun e' => h_t (text_nil e')
      have HS : Hid (¬ one ⟨3, m, e, t, na, nc, ns⟩ n) := fun x => by simp [one] at x; exact h_t (by simp [x])
      clear hI
      have hB0 := (Below.refl _ w).alloc (Nat.le_refl _) (.cells #[.int .i64 3, .int .i64 m, .int .i64 e, .string t, .slice a n c, .slice na nl nc] 28)
      have R0 := Row.new w [.int .i64 3, .int .i64 m, .int .i64 e, .string t, .slice a n c, .slice na nl nc] 28
      go_enter Try.func49, Try.ntmps49
      go_wp2_with fail
      refine (sDecOk_any m e _).mono ?_
      rintro r w1 ⟨rfl, hb1⟩
      have hB1 := hB0.trans (hb1.mono hB0.size)
      have x3 := (R0.below hb1 R0.lt 3 _ rfl).1
      have x4 := (R0.below hb1 R0.lt 4 _ rfl).1
      have x5 := (R0.below hb1 R0.lt 5 _ rfl).1
      clear R0 hB0 hb1
      rw [hd]
      go_wp2_with fail
      go_ret
      exact ⟨⟨false, rfl, fun h => (by cases h), fun h => absurd h HS.out⟩, hB1⟩
set_option maxRecDepth 100000 in
set_option maxHeartbeats 1000000 in
theorem l7One_6 (m e : Int) (t : ByteArray) (na : Option Addr) (nc : Nat) (ns : List ByteArray) (a : Option Addr) (n c nl : Nat) (w : World) (hlen : Hid (ns.length = nl)) (hI : Hd.In w ⟨6, m, e, t, na, nc, ns⟩) :
    Calls Try.prog 49 #[.agg #[.int .i64 6, .int .i64 m, .int .i64 e, .string t, .slice a n c, .slice na nl nc]] w fun r w' => SaysT (one ⟨6, m, e, t, na, nc, ns⟩ n) r ∧ Below w.heap.size w w' := by
  by_cases h_m : m = 0
  · subst h_m
    by_cases h_e : e = 0
    · subst h_e
      by_cases h_t : t = ⟨#[]⟩
      · subst h_t
        by_cases h_l : nl = n
        · subst h_l
          have hl := hI.2.1.1
          have hc := hI.2.1.2
          dsimp only at hl hc
          have HI : Hid (SIn w ns na) := hI.1
          have hB0 := (Below.refl _ w).alloc (Nat.le_refl _) (.cells #[.int .i64 6, .int .i64 0, .int .i64 0, .string ⟨#[]⟩, .slice a nl c, .slice na nl nc] 28)
          have HN := fun W (hW : SIn W ns na) => l7Names_any ns na nc W hW hl hc
          rw [hlen.out] at HN
          have HO : Hid (one ⟨6, 0, 0, ⟨#[]⟩, na, nc, ns⟩ nl ↔ nmAsc ns nl) := by have := hlen.out; unfold Hid; simp [one, this]
          clear hI
          go_enter Try.func49, Try.ntmps49
          go_wp2_with fail
          refine (HN _ (HI.out.grow hB0)).mono ?_
          rintro r w1 ⟨⟨q, rfl, hq⟩, hb1⟩
          have hB1 := hB0.trans (hb1.mono hB0.size)
          have HQ : Hid (q = true ↔ nmAsc ns nl) := hq
          clear hq
          go_wp2_with fail
          go_ret
          exact ⟨⟨q, rfl, HQ.out.trans HO.out.symm⟩, hB1⟩
        · have h_l' : ((nl : Int) == (n : Int)) = false := by simp; omega
          have HS : Hid (¬ one ⟨6, 0, 0, ⟨#[]⟩, na, nc, ns⟩ n) := fun x => h_l (by have := hlen.out; simp [one] at x; rw [← this]; exact x.1)
          clear hI
          go_enter Try.func49, Try.ntmps49
          go_wp2_with fail
          go_ret
          exact ⟨⟨false, rfl, fun h => (by cases h), fun h => absurd h HS.out⟩, (by (repeat' (first | assumption | exact Below.refl _ _ | refine Below.alloc ?_ ?_ _ | refine Below.setCell ?_ ?_ _ | refine Below.drew ?_ | refine below_drewN ?_ _)) <;> (first | omega | (simp <;> omega)))⟩
      · have h_t' : (t.toList == []) = false := by rw [beq_eq_false_iff_ne]; exact fun e' => h_t (text_nil e')
        have HS : Hid (¬ one ⟨6, 0, 0, t, na, nc, ns⟩ n) := fun x => by simp [one] at x; exact h_t (by simp [x])
        clear hI
        go_enter Try.func49, Try.ntmps49
        go_wp2_with fail
        go_ret
        exact ⟨⟨false, rfl, fun h => (by cases h), fun h => absurd h HS.out⟩, (by (repeat' (first | assumption | exact Below.refl _ _ | refine Below.alloc ?_ ?_ _ | refine Below.setCell ?_ ?_ _ | refine Below.drew ?_ | refine below_drewN ?_ _)) <;> (first | omega | (simp <;> omega)))⟩
    · have h_e' : (e == 0) = false := by simp; omega
      have HS : Hid (¬ one ⟨6, 0, e, t, na, nc, ns⟩ n) := fun x => by simp [one] at x; exact h_e (by simp [x])
      clear hI
      go_enter Try.func49, Try.ntmps49
      go_wp2_with fail
      go_ret
      exact ⟨⟨false, rfl, fun h => (by cases h), fun h => absurd h HS.out⟩, (by (repeat' (first | assumption | exact Below.refl _ _ | refine Below.alloc ?_ ?_ _ | refine Below.setCell ?_ ?_ _ | refine Below.drew ?_ | refine below_drewN ?_ _)) <;> (first | omega | (simp <;> omega)))⟩
  · have h_m' : (m == 0) = false := by simp; omega
    have HS : Hid (¬ one ⟨6, m, e, t, na, nc, ns⟩ n) := fun x => by simp [one] at x; exact h_m (by simp [x])
    clear hI
    go_enter Try.func49, Try.ntmps49
    go_wp2_with fail
    go_ret
    exact ⟨⟨false, rfl, fun h => (by cases h), fun h => absurd h HS.out⟩, (by (repeat' (first | assumption | exact Below.refl _ _ | refine Below.alloc ?_ ?_ _ | refine Below.setCell ?_ ?_ _ | refine Below.drew ?_ | refine below_drewN ?_ _)) <;> (first | omega | (simp <;> omega)))⟩
set_option maxRecDepth 100000 in
set_option maxHeartbeats 1000000 in
theorem l7One_any (h : Hd) (a : Option Addr) (n c : Nat) (w : World) (hh : h.In w) :
    Calls Try.prog 49 #[valV h a n c] w fun r w' => SaysT (one h n) r ∧ Below w.heap.size w w' := by
  obtain ⟨k, m, e, t, na, nc, ns⟩ := h
  dsimp only [valV]
  obtain ⟨nl, hnl⟩ : ∃ nl, ns.length = nl := ⟨_, rfl⟩
  rw [hnl]
  by_cases hk : 0 ≤ k ∧ k ≤ 6
  · have hc : k = 0 ∨ k = 1 ∨ k = 2 ∨ k = 3 ∨ k = 4 ∨ k = 5 ∨ k = 6 := by omega
    clear hk
    rcases hc with rfl | rfl | rfl | rfl | rfl | rfl | rfl
    · exact l7One_0 m e t na nc ns a n c nl w hnl hh
    · exact l7One_1 m e t na nc ns a n c nl w hnl hh
    · exact l7One_2 m e t na nc ns a n c nl w hnl hh
    · exact l7One_3 m e t na nc ns a n c nl w hnl hh
    · exact l7One_4 m e t na nc ns a n c nl w hnl hh
    · exact l7One_5 m e t na nc ns a n c nl w hnl hh
    · exact l7One_6 m e t na nc ns a n c nl w hnl hh
  · have HNO : Hid (¬ one ⟨k, m, e, t, na, nc, ns⟩ n) := by
      unfold Hid one
      dsimp only
      intro h
      rcases h with ⟨h, _⟩ | ⟨h, _⟩ | ⟨h, _⟩ | ⟨h, _⟩ | ⟨h, _⟩ <;> omega
    have h0 : (k == 0) = false := by simp; omega
    have h1 : (k == 1) = false := by simp; omega
    have h2 : (k == 2) = false := by simp; omega
    have h3 : (k == 3) = false := by simp; omega
    have h4 : (k == 4) = false := by simp; omega
    have h5 : (k == 5) = false := by simp; omega
    have h6 : (k == 6) = false := by simp; omega
    clear hh hk
    go_enter Try.func49, Try.ntmps49
    go_wp2_with fail
    go_ret
    exact ⟨⟨false, rfl, fun h => (by cases h), fun h => absurd h HNO.out⟩, (Below.refl _ w).alloc (Nat.le_refl _) _⟩
end Go.Proofs.Ytalncebnahlmdaa
/- Contract: ValueOk of the specification; both say the same. -/
namespace Go.Proofs.Ytalncebnahlmdaa
open Go.RowKit
theorem Vo.deep_le (F : Vo) : F.deep ≤ F.size := by
  induction F with
  | nil => exact Nat.le_refl _
  | cons h a c kids next ih1 ih2 => show max (kids.deep + 1) next.deep ≤ kids.size + 1 + next.size; omega
set_option maxHeartbeats 1000000 in
theorem sValueSize_any (N : Nat) : ∀ (h : Hd) (a : Option Addr) (c : Nat) (F : Vo) (w : World), F.size < N → N ≤ 2000000 → F.In w a → F.len ≤ c → c ≤ maxLen →
    Calls Try.prog 11 #[valV h a F.len c] w fun e w' => e = .returned (.int .i64 (F.size + 1 : Nat)) ∧ Below w.heap.size w w' := by
  induction N with
  | zero => intro h a c F w hF; omega
  | succ N ih =>
    intro h a c F w hF hN hin hl hc
    unfold maxLen at hc
    have hll := F.len_le
    go_enter Try.func11, Try.ntmps11
    go_wp2_with fail
    go_loopw [3, 4] (fun o i wr => ∃ (j s : Nat) (G : Vo), i = .int .i64 j ∧ o = .int .i64 s ∧ j + G.len = F.len ∧ s + G.size = F.size + 1 ∧ 1 ≤ s ∧ (G = .nil ∨ ∃ b o', a = some ⟨b, o', none⟩ ∧ G.From wr b (o' + j * 6)) ∧ wr.cell? ⟨w.heap.size, 4, none⟩ = some (.slice a F.len c) ∧ Below w.heap.size w wr) (fun _ i _ => F.len - (intOf i).toNat)
    case atStart =>
      refine ⟨0, 1, F, rfl, rfl, by omega, by omega, Nat.le_refl _, ?_, by simp, (Below.refl _ _).alloc (Nat.le_refl _) _⟩
      rcases hin with h | ⟨b, o', e1, e2⟩
      · exact .inl h
      · exact .inr ⟨b, o', e1, by simpa using Vo.from_grow ((Below.refl _ w).alloc (Nat.le_refl _) _) F b o' e2⟩
    case round =>
      obtain ⟨j, s, G, rfl, rfl, hj, hs, hs1, hG, hcell, hb⟩ := hrel
      cases G with
      | nil =>
        have hj' : j = F.len := by simpa [Vo.len] using hj
        have hs' : s = F.size + 1 := by simpa [Vo.size] using hs
        subst hj' hs'
        clear hG hj hs
        go_wp2_with fail
        go_ret
        exact ⟨rfl, hb⟩
      | cons h' a' c' kids next =>
        rcases hG with hG | ⟨b, o', rfl, ⟨h1, h2, h3, h4, h5, h6⟩, hk, ⟨hc1, hc2⟩, _, hn⟩
        · cases hG
        · have hlt : (j : Int) < (F.len : Int) := by have : j + (next.len + 1) = F.len := hj; omega
          have hjl : j < F.len := by omega
          have hsz : s + (kids.size + 1 + next.size) = F.size + 1 := hs
          have hln : j + (next.len + 1) = F.len := hj
          clear hj hs hin
          go_wp2_with fail
          refine (ih h' a' c' kids wr (by omega) (by omega) hk hc1 hc2).mono ?_
          rintro e w1 ⟨rfl, hb1⟩
          have hn1 := Vo.from_grow hb1 next b _ hn
          have hz := hb.size
          have hlw := World.block_lt_of_cell? wr _ hcell
          have hcell1 : w1.cell? ⟨w.heap.size, 4, none⟩ = some (.slice (some ⟨b, o', none⟩) F.len c) := (hb1.cell (p := ⟨w.heap.size, 4, none⟩) hlw).trans hcell
          have hb2 := hb.trans (hb1.mono hz)
          clear h1 h2 h3 h4 h5 h6 hk hn hcell hb1 hb ih
          go_wp2_with fail
          go_round
          case rel =>
            refine ⟨j + 1, s + (kids.size + 1), next, by go_num, by go_num, by omega, by omega, by omega, .inr ⟨b, o', rfl, ?_⟩, hcell1, hb2⟩
            rw [show o' + (j + 1) * 6 = o' + j * 6 + 6 by omega]; exact hn1
          case measure => simp [intOf]; omega
set_option maxHeartbeats 1000000 in
theorem sDeepV_any (N : Nat) : ∀ (h : Hd) (a : Option Addr) (c : Nat) (F : Vo) (w : World), F.size < N → N ≤ 2000000 → F.In w a → F.len ≤ c → c ≤ maxLen →
    Calls Try.prog 26 #[valV h a F.len c] w fun e w' => e = .returned (.int .i64 (F.deep + 1 : Nat)) ∧ Below w.heap.size w w' := by
  induction N with
  | zero => intro h a c F w hF; omega
  | succ N ih =>
    intro h a c F w hF hN hin hl hc
    unfold maxLen at hc
    have hll := F.len_le
    have hdd := F.deep_le
    go_enter Try.func26, Try.ntmps26
    go_wp2_with fail
    go_loopw [3, 4] (fun o i wr => ∃ (j s : Nat) (G : Vo), i = .int .i64 j ∧ o = .int .i64 s ∧ j + G.len = F.len ∧ max s G.deep = F.deep ∧ G.size ≤ F.size ∧ (G = .nil ∨ ∃ b o', a = some ⟨b, o', none⟩ ∧ G.From wr b (o' + j * 6)) ∧ wr.cell? ⟨w.heap.size, 4, none⟩ = some (.slice a F.len c) ∧ Below w.heap.size w wr) (fun _ i _ => F.len - (intOf i).toNat)
    case atStart =>
      refine ⟨0, 0, F, rfl, rfl, by omega, by omega, Nat.le_refl _, ?_, by simp, (Below.refl _ _).alloc (Nat.le_refl _) _⟩
      rcases hin with h | ⟨b, o', e1, e2⟩
      · exact .inl h
      · exact .inr ⟨b, o', e1, by simpa using Vo.from_grow ((Below.refl _ w).alloc (Nat.le_refl _) _) F b o' e2⟩
    case round =>
      obtain ⟨j, s, G, rfl, rfl, hj, hs, hs1, hG, hcell, hb⟩ := hrel
      cases G with
      | nil =>
        have hj' : j = F.len := by simpa [Vo.len] using hj
        have hs' : s = F.deep := by simpa [Vo.deep] using hs
        subst hj' hs'
        clear hG hj hs
        go_wp2_with fail
        go_ret
        exact ⟨rfl, hb⟩
      | cons h' a' c' kids next =>
        rcases hG with hG | ⟨b, o', rfl, ⟨h1, h2, h3, h4, h5, h6⟩, hk, ⟨hc1, hc2⟩, _, hn⟩
        · cases hG
        · have hlt : (j : Int) < (F.len : Int) := by have : j + (next.len + 1) = F.len := hj; omega
          have hjl : j < F.len := by omega
          have hsz : kids.size + 1 + next.size ≤ F.size := hs1
          have hds : max s (max (kids.deep + 1) next.deep) = F.deep := hs
          have hln : j + (next.len + 1) = F.len := hj
          clear hj hs hin hs1
          go_wp2_with fail
          refine (ih h' a' c' kids wr (by omega) (by omega) hk hc1 hc2).mono ?_
          rintro e w1 ⟨rfl, hb1⟩
          have hn1 := Vo.from_grow hb1 next b _ hn
          have hz := hb.size
          have hlw := World.block_lt_of_cell? wr _ hcell
          have hcell1 : w1.cell? ⟨w.heap.size, 4, none⟩ = some (.slice (some ⟨b, o', none⟩) F.len c) := (hb1.cell (p := ⟨w.heap.size, 4, none⟩) hlw).trans hcell
          have hb2 := hb.trans (hb1.mono hz)
          have hkd : kids.deep + 1 ≤ F.deep := by omega
          clear h1 h2 h3 h4 h5 h6 hk hn hcell hb1 hb ih
          have HD : Hid (max s (max (kids.deep + 1) next.deep) = F.deep) := hds
          clear hds
          by_cases hd : s < kids.deep + 1
          · have hd' : (s : Int) < (kids.deep : Int) + 1 := by omega
            go_wp2_with fail
            go_round
            case rel =>
              refine ⟨j + 1, kids.deep + 1, next, by go_num, by go_num, by omega, ?_, by omega, .inr ⟨b, o', rfl, ?_⟩, hcell1, hb2⟩
              · have := HD.out; omega
              · rw [show o' + (j + 1) * 6 = o' + j * 6 + 6 by omega]; exact hn1
            case measure => simp [intOf]; omega
          · have hd' : ¬ (s : Int) < (kids.deep : Int) + 1 := by omega
            go_wp2_with fail
            go_round
            case rel =>
              refine ⟨j + 1, s, next, by go_num, by go_num, by omega, ?_, by omega, .inr ⟨b, o', rfl, ?_⟩, hcell1, hb2⟩
              · have := HD.out; omega
              · rw [show o' + (j + 1) * 6 = o' + j * 6 + 6 by omega]; exact hn1
            case measure => simp [intOf]; omega
/-- all in a list, and all in these, have just what their kinds have -/
def Vo.allOne : Vo → Prop
  | .nil => True
  | .cons h _ _ kids next => one h kids.len ∧ kids.allOne ∧ next.allOne
set_option maxRecDepth 100000 in
set_option maxHeartbeats 1000000 in
theorem l7All_any (N : Nat) : ∀ (h : Hd) (a : Option Addr) (c : Nat) (F : Vo) (w : World), F.size < N → N ≤ 2000000 → F.In w a → F.len ≤ c → c ≤ maxLen → h.In w →
    Calls Try.prog 27 #[valV h a F.len c] w fun r w' => SaysT (one h F.len ∧ F.allOne) r ∧ Below w.heap.size w w' := by
  induction N with
  | zero => intro h a c F w hF; omega
  | succ N ih =>
    intro h a c F w hF hN hin hl hc hh
    unfold maxLen at hc
    have hll := F.len_le
    have hB0 := (Below.refl _ w).alloc (Nat.le_refl _) (.cells #[.int .i64 h.k, .int .i64 h.m, .int .i64 h.e, .string h.t, .slice a F.len c, .slice h.na h.ns.length h.nc] 28)
    have R0 := Row.new w [.int .i64 h.k, .int .i64 h.m, .int .i64 h.e, .string h.t, .slice a F.len c, .slice h.na h.ns.length h.nc] 28
    have HO := fun W (hW : h.In W) => l7One_any h a F.len c W hW
    go_enter Try.func27, Try.ntmps27
    go_wp2_with fail
    refine (HO _ (hh.grow hB0)).mono ?_
    rintro r w1 ⟨⟨q, rfl, hq⟩, hb1⟩
    have hB1 := hB0.trans (hb1.mono hB0.size)
    have hcell0 := (R0.below hb1 R0.lt 4 _ rfl).1
    have HQ : Hid (q = true ↔ one h F.len) := hq
    clear hq R0 hB0 hb1 HO
    cases q
    · have HN : Hid (¬ (one h F.len ∧ F.allOne)) := fun x => by have := HQ.out.2 x.1; cases this
      clear ih hin
      go_wp2_with fail
      go_ret
      exact ⟨⟨false, rfl, fun h => (by cases h), fun h => absurd h HN.out⟩, hB1⟩
    · have HY : Hid (one h F.len) := HQ.out.1 rfl
      clear HQ
      go_wp2_with fail
      go_loopw [3] (fun i wr => ∃ (j : Nat) (G : Vo), i = .int .i64 j ∧ j + G.len = F.len ∧ (F.allOne ↔ G.allOne) ∧ G.size ≤ F.size ∧ (G = .nil ∨ ∃ b o', a = some ⟨b, o', none⟩ ∧ G.From wr b (o' + j * 6)) ∧ wr.cell? ⟨w.heap.size, 4, none⟩ = some (.slice a F.len c) ∧ Below w.heap.size w wr) (fun i _ => F.len - (intOf i).toNat)
      case atStart =>
        refine ⟨0, F, rfl, by omega, Iff.rfl, Nat.le_refl _, ?_, hcell0, hB1⟩
        rcases hin with h | ⟨b, o', e1, e2⟩
        · exact .inl h
        · exact .inr ⟨b, o', e1, by simpa using Vo.from_grow hB1 F b o' e2⟩
      case round =>
        obtain ⟨j, G, rfl, hj, hs, hs1, hG, hcell, hb⟩ := hrel
        have HA : Hid (F.allOne ↔ G.allOne) := hs
        clear hs hcell0
        cases G with
        | nil =>
          have hj' : j = F.len := by simpa [Vo.len] using hj
          have HR : Hid (one h F.len ∧ F.allOne) := ⟨HY.out, HA.out.2 trivial⟩
          subst hj'
          clear hG hj HA ih
          go_wp2_with fail
          go_ret
          exact ⟨⟨true, rfl, fun _ => HR.out, fun _ => rfl⟩, hb⟩
        | cons h' a' c' kids next =>
          rcases hG with hG | ⟨b, o', rfl, ⟨h1, h2, h3, h4, h5, h6⟩, hk, ⟨hc1, hc2⟩, hh', hn⟩
          · cases hG
          · have hln : j + (next.len + 1) = F.len := hj
            have hlt : (j : Int) < (F.len : Int) := by omega
            have hjl : j < F.len := by omega
            have hsz : kids.size + 1 + next.size ≤ F.size := hs1
            clear hj hs1 hin
            go_wp2_with fail
            refine (ih h' a' c' kids wr (by omega) (by omega) hk hc1 hc2 hh').mono ?_
            rintro r w2 ⟨⟨q, rfl, hq⟩, hb2⟩
            have HQ : Hid (q = true ↔ (one h' kids.len ∧ kids.allOne)) := hq
            have hn2 := Vo.from_grow hb2 next b _ hn
            have hcell2 : w2.cell? ⟨w.heap.size, 4, none⟩ = some (.slice (some ⟨b, o', none⟩) F.len c) := (hb2.cell (p := ⟨w.heap.size, 4, none⟩) (World.block_lt_of_cell? wr _ hcell)).trans hcell
            have hb3 := hb.trans (hb2.mono hb.size)
            clear h1 h2 h3 h4 h5 h6 hk hn hcell hb2 hb ih hq hh'
            cases q
            · have HN : Hid (¬ (one h F.len ∧ F.allOne)) := fun x => by
                have hx := HA.out.1 x.2
                have := HQ.out.2 ⟨hx.1, hx.2.1⟩
                cases this
              go_wp2_with fail
              go_ret
              exact ⟨⟨false, rfl, fun h => (by cases h), fun h => absurd h HN.out⟩, hb3⟩
            · have HA2 : Hid (F.allOne ↔ next.allOne) := HA.out.trans ⟨fun x => x.2.2, fun x => ⟨(HQ.out.1 rfl).1, (HQ.out.1 rfl).2, x⟩⟩
              clear HQ HA
              go_wp2_with fail
              go_round
              case rel =>
                refine ⟨j + 1, next, by go_num, by omega, HA2.out, by omega, .inr ⟨b, o', rfl, ?_⟩, hcell2, hb3⟩
                rw [show o' + (j + 1) * 6 = o' + j * 6 + 6 by omega]; exact hn2
              case measure => simp [intOf]; omega
/-- a value that is ok, as the specification has it -/
def ValOk (h : Hd) (F : Vo) : Prop := F.size + 1 ≤ 200 ∧ F.deep + 1 ≤ 20 ∧ one h F.len ∧ F.allOne
set_option maxRecDepth 100000 in
set_option maxHeartbeats 1000000 in
theorem sValueOk_any (h : Hd) (a : Option Addr) (c : Nat) (F : Vo) (w : World) (hF : F.size ≤ 1900000) (hin : F.In w a) (hl : F.len ≤ c) (hc : c ≤ maxLen) (hh : h.In w) :
    Calls Try.prog 9 #[valV h a F.len c] w fun r w' => SaysT (ValOk h F) r ∧ Below w.heap.size w w' := by
  have hdd := F.deep_le
  have hB0 := (Below.refl _ w).alloc (Nat.le_refl _) (.cells #[.int .i64 h.k, .int .i64 h.m, .int .i64 h.e, .string h.t, .slice a F.len c, .slice h.na h.ns.length h.nc] 28)
  have X0 := BxV.new w h (.slice a F.len c) 28
  have HI : Hid (∀ W, Below w.heap.size w W → F.In W a ∧ h.In W) := fun W h' => ⟨hin.grow h', hh.grow h'⟩
  clear hin hh
  go_enter Try.func9, Try.ntmps9
  go_wp2_with fail
  refine (sValueSize_any (F.size + 1) h a c F _ (Nat.lt_succ_self _) (by omega) (HI.out _ hB0).1 hl hc).mono ?_
  rintro r w1 ⟨rfl, hb1⟩
  have hB1 := hB0.trans (hb1.mono hB0.size)
  have X1 := X0.below hb1
  clear X0 hB0 hb1
  by_cases h1 : F.size + 1 ≤ 200
  · have h1' : (F.size : Int) + 1 ≤ 200 := by omega
    obtain ⟨x0, x1, x2, x3, x4, x5⟩ := id X1
    go_wp2_with fail
    refine (sDeepV_any (F.size + 1) h a c F _ (Nat.lt_succ_self _) (by omega) (HI.out _ hB1).1 hl hc).mono ?_
    rintro r w2 ⟨rfl, hb2⟩
    have hB2 := hB1.trans (hb2.mono hB1.size)
    have X2 := X1.below hb2
    clear X1 hB1 hb2 x0 x1 x2 x3 x4 x5
    by_cases h2 : F.deep + 1 ≤ 20
    · have h2' : (F.deep : Int) + 1 ≤ 20 := by omega
      obtain ⟨x0, x1, x2, x3, x4, x5⟩ := id X2
      go_wp2_with fail
      refine (l7All_any (F.size + 1) h a c F _ (Nat.lt_succ_self _) (by omega) (HI.out _ hB2).1 hl hc (HI.out _ hB2).2).mono ?_
      rintro r w3 ⟨⟨q, rfl, hq⟩, hb3⟩
      have hB3 := hB2.trans (hb3.mono hB2.size)
      have HQ : Hid (q = true ↔ ValOk h F) := hq.trans ⟨fun x => ⟨h1, h2, x.1, x.2⟩, fun x => ⟨x.2.2.1, x.2.2.2⟩⟩
      clear hq X2 x0 x1 x2 x3 x4 x5
      go_wp2_with fail
      go_ret
      exact ⟨⟨q, rfl, HQ.out⟩, hB3⟩
    · have h2' : ¬ (F.deep : Int) + 1 ≤ 20 := by omega
      have HN : Hid (¬ ValOk h F) := fun x => h2 x.2.1
      go_wp2_with fail
      go_ret
      exact ⟨⟨false, rfl, fun h => (by cases h), fun h => absurd h HN.out⟩, hB2⟩
  · have h1' : ¬ (F.size : Int) + 1 ≤ 200 := by omega
    have HN : Hid (¬ ValOk h F) := fun x => h1 x.1
    go_wp2_with fail
    go_ret
    exact ⟨⟨false, rfl, fun h => (by cases h), fun h => absurd h HN.out⟩, hB1⟩
theorem all_flat (B : Nat) : ∀ (F : Vo) (d : Nat), (∀ x ∈ F.flat d, x.1 ≤ B ∧ one x.2.1 x.2.2.len) ↔ ((F.deep = 0 ∨ d + F.deep ≤ B + 1) ∧ F.allOne) := by
  intro F
  induction F with
  | nil => intro d; exact ⟨fun _ => ⟨.inl rfl, trivial⟩, fun _ x hx => absurd hx List.not_mem_nil⟩
  | cons h a c kids next ih1 ih2 =>
    intro d
    have e : (Vo.cons h a c kids next).deep = max (kids.deep + 1) next.deep := rfl
    have i1 := ih1 (d + 1)
    have i2 := ih2 d
    constructor
    · intro hx
      have x0 := hx (d, h, kids) (List.mem_cons_self)
      have x1 := i1.1 fun x m => hx x (List.mem_cons_of_mem _ (List.mem_append_left _ m))
      have x2 := i2.1 fun x m => hx x (List.mem_cons_of_mem _ (List.mem_append_right _ m))
      refine ⟨.inr ?_, x0.2, x1.2, x2.2⟩
      have := x0.1
      rw [e]
      dsimp only at this
      omega
    · rintro ⟨hd, h1, h2, h3⟩ x hx
      rw [e] at hd
      rcases List.mem_cons.1 hx with rfl | hx
      · exact ⟨by show d ≤ B; omega, h1⟩
      · rcases List.mem_append.1 hx with hx | hx
        · exact i1.2 ⟨by omega, h2⟩ x hx
        · exact i2.2 ⟨by omega, h3⟩ x hx
/-- both say the same -/
theorem good_ok (h : Hd) (F : Vo) : ValGood h F ↔ ValOk h F := by
  unfold ValGood ValOk
  have hl : ((1, h, F) :: F.flat 2).length = F.size + 1 := by rw [List.length_cons, F.flat_len]
  rw [hl]
  have ha := all_flat 20 F 2
  constructor
  · rintro ⟨h1, h2⟩
    have x0 := h2 (1, h, F) List.mem_cons_self
    have x1 := ha.1 fun x m => h2 x (List.mem_cons_of_mem _ m)
    exact ⟨h1, by omega, x0.2, x1.2⟩
  · rintro ⟨h1, h2, h3, h4⟩
    refine ⟨h1, fun x hx => ?_⟩
    rcases List.mem_cons.1 hx with rfl | hx
    · exact ⟨by show 1 ≤ 20; omega, h3⟩
    · exact ha.2 ⟨by omega, h4⟩ x hx
end Go.Proofs.Ytalncebnahlmdaa
/- Plain mathematics of the quotient: no program in it. -/
namespace Go.Proofs.Ytalncebnahlmdaa.Dm
/-- so many noughts brought down, one by one -/
def qloop : Nat → Int → Int → Int → Int × Bool
  | 0, c, _, _ => (c, true)
  | k + 1, c, r, m => if -100000000000000000 ≤ c * 10 + (r * 10).tdiv m ∧ c * 10 + (r * 10).tdiv m ≤ 100000000000000000 then qloop k (c * 10 + (r * 10).tdiv m) ((r * 10).tmod m) m else (0, false)
def qdown : Nat → Int → Int
  | 0, c => c
  | k + 1, c => qdown k (c.tdiv 10)
def quotFrom (p c r m : Int) : Int × Bool := if 0 < p then qloop p.toNat c r m else (qdown (-p).toNat c, true)
def quot (n m e : Int) : Int × Bool := quotFrom e (n.tdiv m) (n.tmod m) m
/-- DecDiv of two in their form, the second not 0 -/
def div1 (m x n y p : Int) : Int × Int × Bool := if (quot m n (x - y + p)).2 = true then norm (quot m n (x - y + p)).1 (-p) else (0, 0, false)
end Go.Proofs.Ytalncebnahlmdaa.Dm
/- Plain mathematics of what is left: no program in it. -/
namespace Go.Proofs.Ytalncebnahlmdaa.Dm
theorem norm_ok {m e : Int} (h : (norm m e).2.2 = true) : ok (norm m e).1 (norm m e).2.1 = true := by
  unfold norm at h ⊢
  by_cases h0 : m = 0
  · rw [if_pos h0]; rfl
  · rw [if_neg h0] at h ⊢
    by_cases ho : ok (strip 20 m e).1 (strip 20 m e).2 = true
    · rw [if_pos ho]; exact ho
    · rw [if_neg ho] at h; simp at h
theorem div1_ok {m x n y p : Int} (h : (div1 m x n y p).2.2 = true) : ok (div1 m x n y p).1 (div1 m x n y p).2.1 = true := by
  unfold div1 at h ⊢
  by_cases hq : (quot m n (x - y + p)).2 = true
  · rw [if_pos hq] at h ⊢; exact norm_ok h
  · rw [if_neg hq] at h; simp at h
theorem mod_mul {m x n y : Int} (hn : ok n y = true) (h : (div1 m x n y 0).2.2 = true) : mul n y (div1 m x n y 0).1 (div1 m x n y 0).2.1 = norm ((div1 m x n y 0).1 * n) ((div1 m x n y 0).2.1 + y) := by
  rw [mul, if_pos ⟨hn, div1_ok h⟩, Int.mul_comm, Int.add_comm]
theorem norm_i64 (m e : Int) : -99999999 ≤ (norm m e).1 ∧ (norm m e).1 ≤ 99999999 := by
  by_cases h : (norm m e).2.2 = true
  · have := ok_bd (norm_ok h); omega
  · have : norm m e = (0, 0, false) := by
      unfold norm at h ⊢
      by_cases h0 : m = 0
      · rw [if_pos h0] at h; simp at h
      · rw [if_neg h0] at h ⊢
        by_cases ho : ok (strip 20 m e).1 (strip 20 m e).2 = true
        · rw [if_pos ho] at h; simp at h
        · rw [if_neg ho]
    rw [this]; exact ⟨by decide, by decide⟩
end Go.Proofs.Ytalncebnahlmdaa.Dm
/- Plain mathematics for the laws of sums and differences: no program in it. -/
namespace Go.Proofs.Ytalncebnahlmdaa.Dm
def neg3 (r : Int × Int × Bool) : Int × Int × Bool := (-r.1, r.2.1, r.2.2)
end Go.Proofs.Ytalncebnahlmdaa.Dm
/- Plain mathematics of what a decimal is worth: no program in it. -/
namespace Go.Proofs.Ytalncebnahlmdaa.Dm
/-- what it is worth, far behind the last place -/
def big (m e : Int) : Int := m * p10 (e + 40)
theorem p10_ne (k : Int) : p10 k ≠ 0 := by have := p10_pos k; omega
theorem big_at {m x p : Int} (hp : p ≤ x) (hp2 : -40 ≤ p) : big m x = m * p10 (x - p) * p10 (p + 40) := by
  rw [big, Int.mul_assoc, ← p10_add (by omega) (by omega)]; congr 2; omega
theorem p10_cancel {a b k : Int} (h : a * p10 k = b * p10 k) : a = b := Int.eq_of_mul_eq_mul_right (p10_ne k) h
/-- two in their form that are worth the same are the same -/
theorem ok_unique {m x n y : Int} (hm : ok m x = true) (hn : ok n y = true) (h : big m x = big n y) : m = n ∧ x = y := by
  have bm := ok_bd hm
  have bn := ok_bd hn
  have key : ∀ {m x n y : Int}, ok m x = true → ok n y = true → big m x = big n y → x < y → m = n ∧ x = y := by
    intro m x n y hm hn h hlt
    have bm := ok_bd hm
    have bn := ok_bd hn
    rw [big_at (m := n) (x := y) (p := x) (by omega) (by omega), big] at h
    have e := p10_cancel h
    by_cases hm0 : m = 0
    · have hn0 : n = 0 := by
        rw [hm0] at e
        rcases Int.mul_eq_zero.1 e.symm with h | h
        · exact h
        · exact absurd h (p10_ne _)
      rw [ok_iff] at hm hn; omega
    · exact absurd (e ▸ p10_tmod (y - x) (by omega) n) (ok_ne hm hm0)
  rcases Int.lt_trichotomy x y with h1 | h1 | h1
  · exact key hm hn h h1
  · subst h1; exact ⟨p10_cancel h, rfl⟩
  · obtain ⟨a, b⟩ := key hn hm h.symm h1; exact ⟨a.symm, b.symm⟩
end Go.Proofs.Ytalncebnahlmdaa.Dm
/- Plain mathematics of sums of three and of products of sums: no program in it. -/
namespace Go.Proofs.Ytalncebnahlmdaa.Dm
end Go.Proofs.Ytalncebnahlmdaa.Dm
/- Plain mathematics: how the order of decimals goes with sums and differences. No program in it. -/
namespace Go.Proofs.Ytalncebnahlmdaa.Dm
theorem big_val {m x : Int} (h : ok m x = true) : big m x = val m x * p10 32 := by
  have b := ok_bd h
  rw [big, val, Int.mul_assoc, ← p10_add (by omega) (by omega)]; congr 2; omega
theorem cmp_big {m x n y : Int} (hm : ok m x = true) (hn : ok n y = true) : cmp m x n y = sgn (big m x - big n y) := by
  rw [cmp, if_pos ⟨hm, hn⟩, big_val hm, big_val hn, ← Int.sub_mul, sgn_mul (p10_pos _)]
theorem sgn_iff (v : Int) : (sgn v < 0 ↔ v < 0) ∧ (0 < sgn v ↔ 0 < v) ∧ (sgn v = 0 ↔ v = 0) := by
  rcases Int.lt_trichotomy v 0 with h | h | h
  · rw [sgn_neg h]; omega
  · subst h; rw [sgn_zero]; omega
  · rw [sgn_pos h]; omega
theorem cmp_zero {m x n y : Int} (hm : ok m x = true) (hn : ok n y = true) : cmp m x n y = 0 ↔ (m = n ∧ x = y) := by
  rw [cmp_big hm hn, (sgn_iff _).2.2]
  constructor
  · intro h; exact ok_unique hm hn (by omega)
  · rintro ⟨rfl, rfl⟩; omega
end Go.Proofs.Ytalncebnahlmdaa.Dm
/- How two values stand to each other: the mathematics. -/
namespace Go.Proofs.Ytalncebnahlmdaa
open Go.RowKit
/-- how two texts stand to each other -/
def tord (a b : ByteArray) : Int := Lib.compareBytes a.data.toList b.data.toList
theorem cb_cases : ∀ (a b : List UInt8), (Lib.compareBytes a b = -1 ∧ Op.bytesLess a b = true ∧ Op.bytesLess b a = false ∧ a ≠ b) ∨ (Lib.compareBytes a b = 1 ∧ Op.bytesLess a b = false ∧ Op.bytesLess b a = true ∧ a ≠ b) ∨ (Lib.compareBytes a b = 0 ∧ Op.bytesLess a b = false ∧ Op.bytesLess b a = false ∧ a = b) := by
  intro a
  induction a with
  | nil => intro b; cases b with
    | nil => exact .inr (.inr ⟨rfl, rfl, rfl, rfl⟩)
    | cons y b => exact .inl ⟨rfl, rfl, rfl, fun e => by cases e⟩
  | cons x a ih =>
    intro b
    cases b with
    | nil => exact .inr (.inl ⟨rfl, rfl, rfl, fun e => by cases e⟩)
    | cons y b =>
      have e1 : Lib.compareBytes (x :: a) (y :: b) = if x < y then -1 else if y < x then 1 else Lib.compareBytes a b := rfl
      have e2 : Op.bytesLess (x :: a) (y :: b) = (decide (x < y) || (x == y && Op.bytesLess a b)) := rfl
      have e3 : Op.bytesLess (y :: b) (x :: a) = (decide (y < x) || (y == x && Op.bytesLess b a)) := rfl
      rw [e1, e2, e3]
      by_cases h1 : x < y
      · have h2 : ¬ y < x := by rw [UInt8.lt_iff_toNat_lt] at h1 ⊢; omega
        have h3 : ¬ x = y := fun e => by subst e; rw [UInt8.lt_iff_toNat_lt] at h1; omega
        have h4 : ¬ y = x := fun e => h3 e.symm
        exact .inl ⟨by simp [h1], by simp [h1], by simp [h2, h4], fun e => h3 (by cases e; rfl)⟩
      · by_cases h2 : y < x
        · have h3 : ¬ x = y := fun e => by subst e; exact h1 h2
          have h4 : ¬ y = x := fun e => h3 e.symm
          exact .inr (.inl ⟨by simp [h1, h2], by simp [h1, h3], by simp [h2], fun e => h3 (by cases e; rfl)⟩)
        · have h3 : x = y := by
            apply UInt8.toNat_inj.1
            rw [UInt8.lt_iff_toNat_lt] at h1 h2
            omega
          subst h3
          rcases ih b with ⟨p1, p2, p3, p4⟩ | ⟨p1, p2, p3, p4⟩ | ⟨p1, p2, p3, p4⟩
          · exact .inl ⟨by simp [p1, h1], by simp [p2], by simp [p3, h1], fun e => p4 (by cases e; rfl)⟩
          · exact .inr (.inl ⟨by simp [p1, h1], by simp [p2, h1], by simp [p3], fun e => p4 (by cases e; rfl)⟩)
          · exact .inr (.inr ⟨by simp [p1, h1], by simp [p2, h1], by simp [p3, h1], by rw [p4]⟩)
theorem tord_cases (a b : ByteArray) : (tord a b = -1 ∧ Op.bytesLess a.toList b.toList = true ∧ Op.bytesLess b.toList a.toList = false ∧ a ≠ b) ∨ (tord a b = 1 ∧ Op.bytesLess a.toList b.toList = false ∧ Op.bytesLess b.toList a.toList = true ∧ a ≠ b) ∨ (tord a b = 0 ∧ Op.bytesLess a.toList b.toList = false ∧ Op.bytesLess b.toList a.toList = false ∧ a = b) := by
  unfold tord
  rw [ByteArray.toList_eq, ByteArray.toList_eq]
  rcases cb_cases a.data.toList b.data.toList with ⟨p1, p2, p3, p4⟩ | ⟨p1, p2, p3, p4⟩ | ⟨p1, p2, p3, p4⟩
  · exact .inl ⟨p1, p2, p3, fun e => p4 (by rw [e])⟩
  · exact .inr (.inl ⟨p1, p2, p3, fun e => p4 (by rw [e])⟩)
  · exact .inr (.inr ⟨p1, p2, p3, ByteArray.ext (Array.toList_inj.1 p4)⟩)
theorem tord_zero {a b : ByteArray} : tord a b = 0 ↔ a = b := by
  rcases tord_cases a b with ⟨p1, _, _, p4⟩ | ⟨p1, _, _, p4⟩ | ⟨p1, _, _, p4⟩
  · rw [p1]; exact ⟨fun h => by omega, fun h => absurd h p4⟩
  · rw [p1]; exact ⟨fun h => by omega, fun h => absurd h p4⟩
  · exact ⟨fun _ => p4, fun _ => p1⟩
/-- the heads of two values -/
def hord (h g : Hd) : Int := if h.k = g.k then (if h.m = g.m ∧ h.e = g.e then tord h.t g.t else Dm.cmp h.m h.e g.m g.e) else Dm.sgn (h.k - g.k)
def nmAt (ns : List ByteArray) (i : Nat) : ByteArray := ns.getD i ⟨#[]⟩
theorem nmAt_some {ns : List ByteArray} {i : Nat} (h : i < ns.length) : ns[i]? = some (nmAt ns i) := by
  unfold nmAt
  rw [List.getElem?_eq_getElem h, List.getD_eq_getElem?_getD, List.getElem?_eq_getElem h]; rfl
/-- one place of two lists -/
def pord (f : Hd → Vo → Hd → Vo → Int) (ob : Bool) (ns ms : List ByteArray) (F G : Vo) (i : Nat) : Int :=
  if ob = true ∧ nmAt ns i ≠ nmAt ms i then tord (nmAt ns i) (nmAt ms i) else f (F.hdAt i) (F.kidsAt i) (G.hdAt i) (G.kidsAt i)
/-- so many places, from this one on -/
def ford (f : Hd → Vo → Hd → Vo → Int) (ob : Bool) (ns ms : List ByteArray) (F G : Vo) : Nat → Nat → Int
  | 0, _ => Dm.sgn ((F.len : Int) - (G.len : Int))
  | n + 1, i => if pord f ob ns ms F G i = 0 then ford f ob ns ms F G n (i + 1) else pord f ob ns ms F G i
/-- two values -/
def vord : Nat → Hd → Vo → Hd → Vo → Int
  | 0, _, _, _, _ => 0
  | N + 1, h, F, g, G => if hord h g = 0 then ford (vord N) (h.k == 6) h.ns g.ns F G (min F.len G.len) 0 else hord h g
theorem hord_same {h h' g g' : Hd} (x : h.same h') (y : g.same g') : hord h g = hord h' g' := by
  obtain ⟨⟨a, b, c, d⟩, _⟩ := x
  obtain ⟨⟨a', b', c', d'⟩, _⟩ := y
  unfold hord
  rw [a, b, c, d, a', b', c', d']
theorem alike_at : ∀ {F G : Vo} (i : Nat), F.alike G → (F.hdAt i).same (G.hdAt i) ∧ (F.kidsAt i).alike (G.kidsAt i) := by
  intro F
  induction F with
  | nil => intro G i h; cases G with
    | nil => exact ⟨Hd.same_refl _, trivial⟩
    | cons => exact h.elim
  | cons h a c kids next _ ih =>
    intro G i x
    cases G with
    | nil => exact x.elim
    | cons h' a' c' kids' next' =>
      cases i with
      | zero => exact ⟨x.1, x.2.1⟩
      | succ i => exact ih i x.2.2
theorem vord_alike : ∀ (N : Nat) {h h' g g' : Hd} {F F' G G' : Vo}, h.same h' → F.alike F' → g.same g' → G.alike G' → vord N h F g G = vord N h' F' g' G' := by
  intro N
  induction N with
  | zero => intros; rfl
  | succ N ih =>
    intro h h' g g' F F' G G' x1 x2 y1 y2
    have e : ∀ n i, ford (vord N) (h.k == 6) h.ns g.ns F G n i = ford (vord N) (h'.k == 6) h'.ns g'.ns F' G' n i := by
      intro n
      induction n with
      | zero => intro i; show Dm.sgn _ = Dm.sgn _; rw [Vo.alike_len x2, Vo.alike_len y2]
      | succ n ih2 =>
        intro i
        have e1 : pord (vord N) (h.k == 6) h.ns g.ns F G i = pord (vord N) (h'.k == 6) h'.ns g'.ns F' G' i := by
          unfold pord
          rw [x1.1.1, x1.2, y1.2, ih (alike_at i x2).1 (alike_at i x2).2 (alike_at i y2).1 (alike_at i y2).2]
        show (if _ then _ else _) = (if _ then _ else _)
        rw [e1, ih2]
    show (if _ then _ else _) = (if _ then _ else _)
    rw [hord_same x1 y1, e, Vo.alike_len x2, Vo.alike_len y2]
theorem one_dec {h : Hd} {n : Nat} (x : one h n) : Dm.ok h.m h.e = true := by
  rcases x with ⟨_, ⟨⟨h1, h2, _⟩, _⟩, _⟩ | ⟨_, h1, _⟩ | ⟨_, _, ⟨h1, h2, _⟩, _⟩ | ⟨_, ⟨h1, h2, _⟩, _⟩ | ⟨_, _, h1, h2, _⟩
  · rw [h1, h2]; rfl
  · exact h1
  · rw [h1, h2]; rfl
  · rw [h1, h2]; rfl
  · rw [h1, h2]; rfl
theorem one_names {h : Hd} {n : Nat} (x : one h n) (hk : h.k = 6) : h.ns.length = n := by
  rcases x with ⟨h1, _⟩ | ⟨h1, _⟩ | ⟨h1, _⟩ | ⟨h1, _⟩ | ⟨_, ⟨h1, _⟩, _⟩
  · omega
  · omega
  · omega
  · omega
  · exact h1
theorem one_kind {h : Hd} {n : Nat} (x : one h n) : 0 ≤ h.k ∧ h.k ≤ 6 := by
  rcases x with ⟨h1, _⟩ | ⟨h1, _⟩ | ⟨h1, _⟩ | ⟨h1, _⟩ | ⟨h1, _⟩ <;> omega
theorem allOne_at : ∀ {F : Vo} {i : Nat}, i < F.len → F.allOne → one (F.hdAt i) (F.kidsAt i).len ∧ (F.kidsAt i).allOne := by
  intro F
  induction F with
  | nil => intro i h; exact absurd h (Nat.not_lt_zero _)
  | cons h a c kids next _ ih =>
    rintro i hi ⟨h1, h2, h3⟩
    cases i with
    | zero => exact ⟨h1, h2⟩
    | succ i => exact ih (show i < next.len from Nat.lt_of_succ_lt_succ hi) h3
theorem hord_dec {h g : Hd} (hk : h.k = g.k) (hm : Dm.ok h.m h.e = true) (hn : Dm.ok g.m g.e = true) : hord h g = if Dm.cmp h.m h.e g.m g.e = 0 then tord h.t g.t else Dm.cmp h.m h.e g.m g.e := by
  unfold hord
  rw [if_pos hk]
  by_cases e : h.m = g.m ∧ h.e = g.e
  · rw [if_pos e, if_pos ((Dm.cmp_zero hm hn).2 e)]
  · rw [if_neg e, if_neg (fun x => e ((Dm.cmp_zero hm hn).1 x))]
end Go.Proofs.Ytalncebnahlmdaa
