/- My own texts, joined: Xf Xh Xi Dm4 Tm Je DecC. -/
import Derived.Test.YtpgpkdeiapeoiaaJJsonPut4
import Derived.Deep.WholeRow
import Derived.Test.YtpgpkdeiapeoiaaJJsonPut0
import Derived.Test.YtpgpkdeiapeoiaaJJsonPut1
import Derived.Deep.LoopGhost
/- Contract: ValueOk of the program. -/
namespace Go.Proofs.Ytpgpkdeiapeoiaa
open Go.RowKit Go.Shelf
attribute [local go_sem] Oper.semAt_some cell_alloc_is frozen_alloc_is
/-- all in a list so far are as they are to be -/
def GoodV {w : World} (pre : List (TV w)) : Prop := pre.length ≤ 200 ∧ ∀ x ∈ pre, x.d ≤ 20 ∧ one x.h x.kids.len
theorem own_blockV {B : Nat} {W W' : World} {row : Option Nat} (hg : W.grownBy W' row) (hr : ∀ r, row = some r → B ≤ r ∧ ∃ o : Obj, W.heap[r]? = some o ∧ o.isCells = false) {j : Nat} {o : Obj} (hj : W.heap[j]? = some o) (h : j < B ∨ o.isCells = true) : W'.heap[j]? = some o := by
  refine (hg.block j (Array.getElem?_eq_some_iff.1 hj).1 ?_).trans hj
  intro e
  obtain ⟨h1, o', h2, h3⟩ := hr j e.symm
  rcases h with h | h
  · omega
  · rw [hj] at h2; cases h2; rw [h] at h3; cases h3
/-- a value and all in it, at most 200, none deeper than 20, each with just what its kind has -/
def ValGood (h : Hd) (F : Vo) : Prop := ((1, h, F) :: F.flat 2).length ≤ 200 ∧ ∀ x ∈ ((1, h, F) :: F.flat 2), x.1 ≤ 20 ∧ one x.2.1 x.2.2.len
set_option maxRecDepth 100000 in
set_option maxHeartbeats 2000000 in
theorem iValueOk_any (h : Hd) (a : Option Addr) (c : Nat) (F : Vo) (w : World) (hF : F.size ≤ 2000000) (hin : F.In w a) (hl : F.len ≤ c) (hc : c ≤ maxLen) (hh : h.In w) :
    Calls Try.prog 25 #[valV h a F.len c] w fun r w' => SaysT (ValGood h F) r ∧ Below w.heap.size w w' := by
  refine (callsIn_wide (n := 5)).1 ?_
  refine callsIn_of_wp_marks Try.func25 rfl trivial ?_ rfl
  simp only [Try.ntmps25, List.size_toArray, List.length_cons, List.length_nil, Nat.reduceAdd, Nat.reduceSub, Array.replicate_succ, Array.replicate_zero, List.push_toArray, List.append_toArray, List.nil_append, List.cons_append]
  gi_wp2_with fail
  refine ⟨trivial, (callsIn_wide.2 (allOfV_any h a F.len c _)).mono ?_⟩
  rintro r W0' ⟨rfl, rfl⟩
  obtain ⟨W3, hW3⟩ : ∃ W3, ((w.alloc (.cells #[.int .i64 h.k, .int .i64 h.m, .int .i64 h.e, .string h.t, .slice a F.len c, .slice h.na h.ns.length h.nc] 33)).alloc (.cells #[.bool false] 4)).alloc (.cells #[.int .i64 0] 3) = W3 := ⟨_, rfl⟩
  have hs3 : W3.heap.size = w.heap.size + 3 := by rw [← hW3]; simp
  have hB3 : Below w.heap.size w W3 := by rw [← hW3]; exact (((Below.refl _ w).alloc (Nat.le_refl _) _).alloc (by simp) _).alloc (by simp; omega) _
  have hR3 : W3.heap[w.heap.size + 1]? = some (.cells #[.bool false] 4 (0, 0)) := by
    rw [← hW3]
    refine (Below.heap_alloc _ _ _ (by simp)).trans ?_
    have := World.alloc_heap_new (w.alloc (.cells #[.int .i64 h.k, .int .i64 h.m, .int .i64 h.e, .string h.t, .slice a F.len c, .slice h.na h.ns.length h.nc] 33)) (.cells #[.bool false] 4)
    rwa [World.size_alloc] at this
  have hS3 : W3.heap[w.heap.size + 2]? = some (.cells #[.int .i64 0] 3 (0, 0)) := by
    rw [← hW3]
    have := World.alloc_heap_new ((w.alloc (.cells #[.int .i64 h.k, .int .i64 h.m, .int .i64 h.e, .string h.t, .slice a F.len c, .slice h.na h.ns.length h.nc] 33)).alloc (.cells #[.bool false] 4)) (.cells #[.int .i64 0] 3)
    rwa [World.size_alloc, World.size_alloc] at this
  rw [hW3]
  clear hW3
  obtain ⟨W0, hW0⟩ : ∃ W0, W3.alloc (.cells #[.int .i64 h.k, .int .i64 h.m, .int .i64 h.e, .string h.t, .slice a F.len c, .slice h.na h.ns.length h.nc] 33) = W0 := ⟨_, rfl⟩
  have hbx : Below W3.heap.size W3 W0 := by rw [← hW0]; exact (Below.refl _ _).alloc (Nat.le_refl _) _
  have hX0 : BxV W3.heap.size h (.slice a F.len c) W0 := by rw [← hW0]; exact BxV.new W3 h (.slice a F.len c) 33
  obtain ⟨n0, n1, n2, n3, n4, n5⟩ := hX0
  have hsz : W0.heap.size = w.heap.size + 4 := by rw [← hW0]; simp; omega
  have hBW : Below w.heap.size w W0 := hB3.trans (hbx.mono (by omega))
  have hR0 := (hbx.block _ (by omega)).trans hR3
  have hS0 := (hbx.block _ (by omega)).trans hS3
  rw [hW0]
  clear hW0 hR3 hS3 hB3 hbx
  rw [hs3] at n0 n1 n2 n3 n4 n5 ⊢
  clear hs3
  gi_wp2_with fail
  refine wpIn_rangeFunc_ownH rfl (by omega) (gf := 64) (lb := #[.pointer (some ⟨w.heap.size + 3, 0, none⟩)]) rfl trivial (enters_of Try.func64 (by kernel_rfl) rfl)
    (allV_stops w 4 w.heap.size W0.heap.size (w.heap.size + 3) ⟨1, h, a, F, c, hin, hl, hc, hh⟩ W0 rfl (by show F.size ≤ 2000000; omega) (Nat.le_refl _) (Nat.le_refl _) (Sub.of_below hBW) n0 n1 n2 n3 n4 n5)
    Kept.trans (fun W l o o' hl' h hcl _ => ⟨(grownBy_putObj' W l o').size, fun j x hx hxc _ => ((grownBy_putObj' W l o').block j (Array.getElem?_eq_some_iff.1 hx).1 (by intro e; cases e; rw [h] at hx; cases hx; rw [hcl] at hxc; cases hxc)).trans hx⟩)
    (Below.refl _ _) (fun _ => rfl)
    (fun pre W => ((W.heap[w.heap.size + 1]? = some (.cells #[.bool false] 4 (0, 0)) ∧ W.heap[w.heap.size + 2]? = some (.cells #[.int .i64 pre.length] 3 (0, 0))) ∧ (GoodV pre ∧ W0.heap.size ≤ W.heap.size)) ∧ Below w.heap.size w W)
    (fun cd pre W => ((cd = .ret ∧ ¬ GoodV pre) ∧ W.heap[w.heap.size + 1]? = some (.cells #[.bool false] 4 (0, 0))) ∧ Below w.heap.size w W)
    (OwnFrom.and (fun s W W' row hs hg hr => ⟨⟨own_blockV hg hr hs.1.1 (.inl (by omega)), own_blockV hg hr hs.1.2 (.inl (by omega))⟩, hs.2.1, Nat.le_trans hs.2.2 hg.size⟩) (ownFrom_below (Nat.le_refl _) (by omega)))
    (fun cd => OwnFrom.and (fun s W W' row hs hg hr => ⟨hs.1, own_blockV hg hr hs.2 (.inl (by omega))⟩) (ownFrom_below (Nat.le_refl _) (by omega)))
    ⟨⟨⟨hR0, hS0⟩, by simp [GoodV], Nat.le_refl _⟩, hBW⟩
    (fun x a' W => ∃ Bx, W0.heap.size ≤ Bx ∧ W.heap[Bx]? = some (.cells #[.int .i64 x.h.k, .int .i64 x.h.m, .int .i64 x.h.e, .string x.h.t, .slice x.a x.kids.len x.c, .slice x.h.na x.h.ns.length x.h.nc] 33 (0, 0)) ∧ a' = { tmps := #[valV h a F.len c, .pointer (some ⟨w.heap.size, 0, none⟩), .pointer (some ⟨w.heap.size + 1, 0, none⟩), .pointer (some ⟨w.heap.size + 2, 0, none⟩), .int .i64 x.d, .pointer (some ⟨Bx, 0, none⟩), valV h a F.len c, .func (.func 64) #[] #[.pointer (some ⟨w.heap.size + 3, 0, none⟩)], .int .i64 x.d, .agg #[.int .i64 x.h.k, .int .i64 x.h.m, .int .i64 x.h.e, .string x.h.t, .slice x.a x.kids.len x.c, .slice x.h.na x.h.ns.length x.h.nc], undef, undef, undef, undef, undef, undef, undef, undef, undef, undef, undef, undef, undef], defers := [] })
    (fun x a' _ W W' row hs hg hr => by obtain ⟨Bx, e1, e2, e3⟩ := hs; exact ⟨Bx, e1, own_blockV hg hr e2 (.inr rfl), e3⟩)
    ?assign ?body ?done ?stop
  case assign =>
    rintro l pre x W K ⟨⟨⟨hR, hS⟩, hg, hz⟩, hB⟩ hK
    have hbA : Below W.heap.size W (W.alloc (.cells #[.int .i64 x.h.k, .int .i64 x.h.m, .int .i64 x.h.e, .string x.h.t, .slice x.a x.kids.len x.c, .slice x.h.na x.h.ns.length x.h.nc] 33)) := (Below.refl _ W).alloc (Nat.le_refl _) _
    dsimp only [TV.enc]
    gi_wp2
    exact hK _ _ ((KeepsOthers.alloc _ _).from _) (Kept.of_below hbA)
      ⟨⟨⟨(hbA.block _ (Array.getElem?_eq_some_iff.1 hR).1).trans hR, (hbA.block _ (Array.getElem?_eq_some_iff.1 hS).1).trans hS⟩, hg, Nat.le_trans hz hbA.size⟩, hB.trans (hbA.mono hB.size)⟩
      ⟨W.heap.size, hz, World.alloc_heap_new W _, rfl⟩
  case body =>
    rintro l pre x a' W hl' ⟨rr, hrr⟩ ⟨⟨⟨hR, hS⟩, hg, hz⟩, hB⟩ ⟨Bx, hBx, hX, rfl⟩ hlt
    have cS := (show Boxed W (w.heap.size + 2) 3 (.int .i64 pre.length) from hS).cell
    have fS := (show Boxed W (w.heap.size + 2) 3 (.int .i64 pre.length) from hS).frozen
    have hgl := hg.1
    have x0 : W.cell? ⟨Bx, 0, none⟩ = some (.int .i64 x.h.k) := by simp [World.cell?, hX]
    have x1 : W.cell? ⟨Bx, 1, none⟩ = some (.int .i64 x.h.m) := by simp [World.cell?, hX]
    have x2 : W.cell? ⟨Bx, 2, none⟩ = some (.int .i64 x.h.e) := by simp [World.cell?, hX]
    have x3 : W.cell? ⟨Bx, 3, none⟩ = some (.string x.h.t) := by simp [World.cell?, hX]
    have x4 : W.cell? ⟨Bx, 4, none⟩ = some (.slice x.a x.kids.len x.c) := by simp [World.cell?, hX]
    have x5 : W.cell? ⟨Bx, 5, none⟩ = some (.slice x.h.na x.h.ns.length x.h.nc) := by simp [World.cell?, hX]
    have cR := (show Boxed W (w.heap.size + 1) 4 (.bool false) from hR).cell
    have fR := (show Boxed W (w.heap.size + 1) 4 (.bool false) from hR).frozen
    have hne : ¬ w.heap.size + 2 = Bx := by omega
    have hne2 : ¬ w.heap.size + 2 = w.heap.size + 1 := by omega
    obtain ⟨Wn, hWn⟩ : ∃ Wn, Wn = W.setCell ⟨w.heap.size + 2, 0, none⟩ (.int .i64 ((pre.length : Int) + 1)) := ⟨_, rfl⟩
    have hSn : Wn.heap[w.heap.size + 2]? = some (.cells #[.int .i64 ((pre ++ [x]).length : Nat)] 3 (0, 0)) := by rw [hWn, show ((pre.length : Int) + 1) = (((pre ++ [x]).length : Nat) : Int) by simp]; exact Boxed.set _ (show Boxed W (w.heap.size + 2) 3 (.int .i64 pre.length) from hS)
    have hoth : ∀ j, j ≠ w.heap.size + 2 → Wn.heap[j]? = W.heap[j]? := fun j hj => by rw [hWn]; exact Below.heap_setCell _ _ _ j (fun e => hj e)
    have hKo : KeepsOthers W Wn := by rw [hWn]; exact KeepsOthers.setCell _ _ _
    have hBn : Below w.heap.size w Wn := by rw [hWn]; exact hB.setCell (p := ⟨w.heap.size + 2, 0, none⟩) (by show _ ≤ _ + 2; omega) _
    have hszn : Wn.heap.size = W.heap.size := by rw [hWn]; simp [World.setCell]
    have hKn : Kept w.heap.size W0.heap.size W Wn := ⟨by omega, fun j o ho _ hj => (hoth j (by omega)).trans ho⟩
    have hRn : Wn.heap[w.heap.size + 1]? = some (.cells #[.bool false] 4 (0, 0)) := (hoth _ (by omega)).trans hR
    by_cases q1 : pre.length + 1 ≤ 200
    · have q1' : ¬ (200 : Int) < (pre.length : Int) + 1 := by omega
      by_cases q2 : x.d ≤ 20
      · have q2' : ¬ (20 : Int) < (x.d : Int) := by omega
        gi_wp2_with fail
        rw [← hWn]
        clear hWn x0 x1 x2 x3 x4 x5 cS fS cR fR
        refine ⟨trivial, (CallsIn.inRound l (callsIn_wide.2 (fits_any x.h x.a x.kids.len x.c Wn (x.hh.sub (Sub.of_below hBn))))).mono ?_⟩
        rintro r W2 ⟨⟨ft, rfl, hft⟩, hb2⟩
        have HFt : Hid (ft = true ↔ one x.h x.kids.len) := hft
        clear hft
        have hB2 := hBn.trans (hb2.mono hBn.size)
        have cR2 : W2.heap[w.heap.size + 1]? = some (.cells #[.bool false] 4 (0, 0)) := (hb2.block _ (Array.getElem?_eq_some_iff.1 hRn).1).trans hRn
        have hKo2 : KeepsOthers W W2 := hKo.trans (KeepsOthers.of_grownBy (grown_below hb2) (fun j o e => by cases e))
        cases ft
        · have cR3 := (show Boxed W2 (w.heap.size + 1) 4 (.bool false) from cR2).cell
          have fR3 := (show Boxed W2 (w.heap.size + 1) 4 (.bool false) from cR2).frozen
          gi_wp2_with fail
          refine ⟨(hKo2.trans (KeepsOthers.setCell _ _ _)).from _, ⟨⟨rfl, fun hgd => ?_⟩, Boxed.set (.bool false) (show Boxed W2 (w.heap.size + 1) 4 (.bool false) from cR2)⟩, hB2.setCell (p := ⟨w.heap.size + 1, 0, none⟩) (by show _ ≤ _ + 1; omega) _⟩
          have := HFt.out.2 (hgd.2 x (by simp)).2
          cases this
        · gi_wp2_with fail
          refine ⟨hKo2.from _, hKn.trans (Kept.of_below hb2), ⟨⟨cR2, (hb2.block _ (Array.getElem?_eq_some_iff.1 hSn).1).trans hSn⟩, ⟨by simp; omega, fun y hy => ?_⟩, by have := hb2.size; omega⟩, hB2⟩
          rcases List.mem_append.1 hy with hy | hy
          · exact hg.2 y hy
          · obtain rfl : y = x := by simpa using hy
            exact ⟨q2, HFt.out.1 (by trivial)⟩
      · have q2' : (20 : Int) < (x.d : Int) := by omega
        gi_wp2_with fail
        refine ⟨trivial, ?_⟩
        gi_wp2_with fail
        rw [← hWn]
        refine ⟨(hKo.trans (KeepsOthers.setCell _ _ _)).from _, ⟨⟨rfl, fun hgd => ?_⟩, Boxed.set (.bool false) (show Boxed Wn (w.heap.size + 1) 4 (.bool false) from hRn)⟩, hBn.setCell (p := ⟨w.heap.size + 1, 0, none⟩) (by show _ ≤ _ + 1; omega) _⟩
        exact absurd (hgd.2 x (by simp)).1 q2
    · have q1' : (200 : Int) < (pre.length : Int) + 1 := by omega
      gi_wp2_with fail
      refine ⟨trivial, ?_⟩
      gi_wp2_with fail
      rw [← hWn]
      refine ⟨(hKo.trans (KeepsOthers.setCell _ _ _)).from _, ⟨⟨rfl, fun hgd => ?_⟩, Boxed.set (.bool false) (show Boxed Wn (w.heap.size + 1) 4 (.bool false) from hRn)⟩, hBn.setCell (p := ⟨w.heap.size + 1, 0, none⟩) (by show _ ≤ _ + 1; omega) _⟩
      have := hgd.1
      simp at this
      omega
  case done =>
    rintro D ys W hD hS ⟨⟨⟨hR, _⟩, hg, _⟩, hB⟩ hK
    have cR := (show Boxed W (w.heap.size + 1) 4 (.bool false) from hR).cell
    have fR := (show Boxed W (w.heap.size + 1) 4 (.bool false) from hR).frozen
    gi_wp2
    have hK' := (KeepsOthers.setCell W ⟨w.heap.size + 1, 0, none⟩ (.bool true)).same D _ hK rfl
    refine ⟨by simp, .inl ⟨_, _, rfl, run_takeDeferred hK', ?_⟩⟩
    have hc5 := cell_kept (Boxed.set (.bool true) (show Boxed W (w.heap.size + 1) 4 (.bool false) from hR)).cell (grownBy_putObj' _ D (.deferred none)) (fun r e => by cases e; exact ⟨_, hK', rfl⟩)
    refine ⟨.bool true, ?_, ⟨true, rfl, ?_⟩, (hB.setCell (p := ⟨w.heap.size + 1, 0, none⟩) (by show _ ≤ _ + 1; omega) _).trans (belowK_b (w := w) (Nat.le_refl _) _ D _ _ (by omega) hK' rfl rfl)⟩
    · simp [results, Try.results25, go_sem, hc5]
    · have hS' : ys.map TV.raw = (1, h, F) :: F.flat 2 := hS
      unfold ValGood
      rw [← hS']
      refine ⟨fun _ => ⟨by rw [List.length_map]; exact hg.1, fun z hz => ?_⟩, fun _ => rfl⟩
      obtain ⟨y, hy, rfl⟩ := List.mem_map.1 hz
      exact hg.2 y hy
  case stop =>
    rintro D cd pre W hD hpre ⟨⟨⟨rfl, hng⟩, hR⟩, hB⟩ hK
    gi_wp2
    refine ⟨by simp, .inl ⟨_, _, rfl, run_takeDeferred hK, ?_⟩⟩
    have hc5 := cell_kept (show Boxed W (w.heap.size + 1) 4 (.bool false) from hR).cell (grownBy_putObj' _ D (.deferred none)) (fun r e => by cases e; exact ⟨_, hK, rfl⟩)
    refine ⟨.bool false, ?_, ⟨false, rfl, ?_⟩, hB.trans (belowK_b (w := w) (Nat.le_refl _) W D _ _ (by omega) hK rfl rfl)⟩
    · simp [results, Try.results25, go_sem, hc5]
    · have hS' : pre.map TV.raw <+: (1, h, F) :: F.flat 2 := hpre
      refine ⟨fun h => (by cases h), fun h => absurd (⟨?_, fun y hy => ?_⟩ : GoodV pre) hng⟩
      · have := hS'.length_le
        have h1 := h.1
        rw [List.length_map] at this
        omega
      · exact h.2 y.raw (hS'.subset (List.mem_map.2 ⟨y, hy, rfl⟩))
end Go.Proofs.Ytpgpkdeiapeoiaa
/- Values that are ok: whether a value has just what its kind has, by the specification. -/
namespace Go.Proofs.Ytpgpkdeiapeoiaa
open Go.RowKit
theorem text_nil {t : ByteArray} (h : t.toList = []) : t = ⟨#[]⟩ := text_ext (h.trans (by simp [ByteArray.toList_eq]))
set_option maxRecDepth 100000 in
set_option maxHeartbeats 1000000 in
theorem l7One_0 (m e : Int) (t : ByteArray) (na : Option Addr) (nc : Nat) (ns : List ByteArray) (a : Option Addr) (n c nl : Nat) (w : World) (hlen : Hid (ns.length = nl)) (hI : Hd.In w ⟨0, m, e, t, na, nc, ns⟩) :
    Calls Try.prog 59 #[.agg #[.int .i64 0, .int .i64 m, .int .i64 e, .string t, .slice a n c, .slice na nl nc]] w fun r w' => SaysT (one ⟨0, m, e, t, na, nc, ns⟩ n) r ∧ Below w.heap.size w w' := by
  by_cases h_m : m = 0
  · subst h_m
    by_cases h_e : e = 0
    · subst h_e
      by_cases h_t : t = ⟨#[]⟩
      · subst h_t
        by_cases h_n : n = 0
        · subst h_n
          by_cases h_nl : nl = 0
          · subst h_nl
            have HS : Hid (one ⟨0, 0, 0, ⟨#[]⟩, na, nc, ns⟩ 0) := by have h0 : ns = [] := List.eq_nil_of_length_eq_zero hlen.out; subst h0; unfold Hid; simp [one]
            clear hI
            go_enter Try.func59, Try.ntmps59
            go_wp2_with fail
            go_ret
            exact ⟨⟨true, rfl, fun _ => HS.out, fun _ => rfl⟩, (by (repeat' (first | assumption | exact Below.refl _ _ | refine Below.alloc ?_ ?_ _ | refine Below.setCell ?_ ?_ _ | refine Below.drew ?_ | refine below_drewN ?_ _)) <;> (first | omega | (simp <;> omega)))⟩
          · have h_nl' : ((nl : Int) == 0) = false := by simp; omega
            have HS : Hid (¬ one ⟨0, 0, 0, ⟨#[]⟩, na, nc, ns⟩ 0) := fun x => h_nl (by have := hlen.out; simp [one] at x; rw [← this]; simp [x])
            clear hI
            go_enter Try.func59, Try.ntmps59
            go_wp2_with fail
            go_ret
            exact ⟨⟨false, rfl, fun h => (by cases h), fun h => absurd h HS.out⟩, (by (repeat' (first | assumption | exact Below.refl _ _ | refine Below.alloc ?_ ?_ _ | refine Below.setCell ?_ ?_ _ | refine Below.drew ?_ | refine below_drewN ?_ _)) <;> (first | omega | (simp <;> omega)))⟩
        · have h_n' : ((n : Int) == 0) = false := by simp; omega
          have HS : Hid (¬ one ⟨0, 0, 0, ⟨#[]⟩, na, nc, ns⟩ n) := fun x => by simp [one] at x; exact h_n (by simp [x])
          clear hI
          go_enter Try.func59, Try.ntmps59
          go_wp2_with fail
          go_ret
          exact ⟨⟨false, rfl, fun h => (by cases h), fun h => absurd h HS.out⟩, (by (repeat' (first | assumption | exact Below.refl _ _ | refine Below.alloc ?_ ?_ _ | refine Below.setCell ?_ ?_ _ | refine Below.drew ?_ | refine below_drewN ?_ _)) <;> (first | omega | (simp <;> omega)))⟩
      · have h_t' : (t.toList == []) = false := by rw [beq_eq_false_iff_ne]; exact fun e' => h_t (text_nil e')
        have HS : Hid (¬ one ⟨0, 0, 0, t, na, nc, ns⟩ n) := fun x => by simp [one] at x; exact h_t (by simp [x])
        clear hI
        go_enter Try.func59, Try.ntmps59
        go_wp2_with fail
        go_ret
        exact ⟨⟨false, rfl, fun h => (by cases h), fun h => absurd h HS.out⟩, (by (repeat' (first | assumption | exact Below.refl _ _ | refine Below.alloc ?_ ?_ _ | refine Below.setCell ?_ ?_ _ | refine Below.drew ?_ | refine below_drewN ?_ _)) <;> (first | omega | (simp <;> omega)))⟩
    · have h_e' : (e == 0) = false := by simp; omega
      have HS : Hid (¬ one ⟨0, 0, e, t, na, nc, ns⟩ n) := fun x => by simp [one] at x; exact h_e (by simp [x])
      clear hI
      go_enter Try.func59, Try.ntmps59
      go_wp2_with fail
      go_ret
      exact ⟨⟨false, rfl, fun h => (by cases h), fun h => absurd h HS.out⟩, (by (repeat' (first | assumption | exact Below.refl _ _ | refine Below.alloc ?_ ?_ _ | refine Below.setCell ?_ ?_ _ | refine Below.drew ?_ | refine below_drewN ?_ _)) <;> (first | omega | (simp <;> omega)))⟩
  · have h_m' : (m == 0) = false := by simp; omega
    have HS : Hid (¬ one ⟨0, m, e, t, na, nc, ns⟩ n) := fun x => by simp [one] at x; exact h_m (by simp [x])
    clear hI
    go_enter Try.func59, Try.ntmps59
    go_wp2_with fail
    go_ret
    exact ⟨⟨false, rfl, fun h => (by cases h), fun h => absurd h HS.out⟩, (by (repeat' (first | assumption | exact Below.refl _ _ | refine Below.alloc ?_ ?_ _ | refine Below.setCell ?_ ?_ _ | refine Below.drew ?_ | refine below_drewN ?_ _)) <;> (first | omega | (simp <;> omega)))⟩
set_option maxRecDepth 100000 in
set_option maxHeartbeats 1000000 in
theorem l7One_1 (m e : Int) (t : ByteArray) (na : Option Addr) (nc : Nat) (ns : List ByteArray) (a : Option Addr) (n c nl : Nat) (w : World) (hlen : Hid (ns.length = nl)) (hI : Hd.In w ⟨1, m, e, t, na, nc, ns⟩) :
    Calls Try.prog 59 #[.agg #[.int .i64 1, .int .i64 m, .int .i64 e, .string t, .slice a n c, .slice na nl nc]] w fun r w' => SaysT (one ⟨1, m, e, t, na, nc, ns⟩ n) r ∧ Below w.heap.size w w' := by
  by_cases h_m : m = 0
  · subst h_m
    by_cases h_e : e = 0
    · subst h_e
      by_cases h_t : t = ⟨#[]⟩
      · subst h_t
        by_cases h_n : n = 0
        · subst h_n
          by_cases h_nl : nl = 0
          · subst h_nl
            have HS : Hid (one ⟨1, 0, 0, ⟨#[]⟩, na, nc, ns⟩ 0) := by have h0 : ns = [] := List.eq_nil_of_length_eq_zero hlen.out; subst h0; unfold Hid; simp [one]
            clear hI
            go_enter Try.func59, Try.ntmps59
            go_wp2_with fail
            go_ret
            exact ⟨⟨true, rfl, fun _ => HS.out, fun _ => rfl⟩, (by (repeat' (first | assumption | exact Below.refl _ _ | refine Below.alloc ?_ ?_ _ | refine Below.setCell ?_ ?_ _ | refine Below.drew ?_ | refine below_drewN ?_ _)) <;> (first | omega | (simp <;> omega)))⟩
          · have h_nl' : ((nl : Int) == 0) = false := by simp; omega
            have HS : Hid (¬ one ⟨1, 0, 0, ⟨#[]⟩, na, nc, ns⟩ 0) := fun x => h_nl (by have := hlen.out; simp [one] at x; rw [← this]; simp [x])
            clear hI
            go_enter Try.func59, Try.ntmps59
            go_wp2_with fail
            go_ret
            exact ⟨⟨false, rfl, fun h => (by cases h), fun h => absurd h HS.out⟩, (by (repeat' (first | assumption | exact Below.refl _ _ | refine Below.alloc ?_ ?_ _ | refine Below.setCell ?_ ?_ _ | refine Below.drew ?_ | refine below_drewN ?_ _)) <;> (first | omega | (simp <;> omega)))⟩
        · have h_n' : ((n : Int) == 0) = false := by simp; omega
          have HS : Hid (¬ one ⟨1, 0, 0, ⟨#[]⟩, na, nc, ns⟩ n) := fun x => by simp [one] at x; exact h_n (by simp [x])
          clear hI
          go_enter Try.func59, Try.ntmps59
          go_wp2_with fail
          go_ret
          exact ⟨⟨false, rfl, fun h => (by cases h), fun h => absurd h HS.out⟩, (by (repeat' (first | assumption | exact Below.refl _ _ | refine Below.alloc ?_ ?_ _ | refine Below.setCell ?_ ?_ _ | refine Below.drew ?_ | refine below_drewN ?_ _)) <;> (first | omega | (simp <;> omega)))⟩
      · have h_t' : (t.toList == []) = false := by rw [beq_eq_false_iff_ne]; exact fun e' => h_t (text_nil e')
        have HS : Hid (¬ one ⟨1, 0, 0, t, na, nc, ns⟩ n) := fun x => by simp [one] at x; exact h_t (by simp [x])
        clear hI
        go_enter Try.func59, Try.ntmps59
        go_wp2_with fail
        go_ret
        exact ⟨⟨false, rfl, fun h => (by cases h), fun h => absurd h HS.out⟩, (by (repeat' (first | assumption | exact Below.refl _ _ | refine Below.alloc ?_ ?_ _ | refine Below.setCell ?_ ?_ _ | refine Below.drew ?_ | refine below_drewN ?_ _)) <;> (first | omega | (simp <;> omega)))⟩
    · have h_e' : (e == 0) = false := by simp; omega
      have HS : Hid (¬ one ⟨1, 0, e, t, na, nc, ns⟩ n) := fun x => by simp [one] at x; exact h_e (by simp [x])
      clear hI
      go_enter Try.func59, Try.ntmps59
      go_wp2_with fail
      go_ret
      exact ⟨⟨false, rfl, fun h => (by cases h), fun h => absurd h HS.out⟩, (by (repeat' (first | assumption | exact Below.refl _ _ | refine Below.alloc ?_ ?_ _ | refine Below.setCell ?_ ?_ _ | refine Below.drew ?_ | refine below_drewN ?_ _)) <;> (first | omega | (simp <;> omega)))⟩
  · have h_m' : (m == 0) = false := by simp; omega
    have HS : Hid (¬ one ⟨1, m, e, t, na, nc, ns⟩ n) := fun x => by simp [one] at x; exact h_m (by simp [x])
    clear hI
    go_enter Try.func59, Try.ntmps59
    go_wp2_with fail
    go_ret
    exact ⟨⟨false, rfl, fun h => (by cases h), fun h => absurd h HS.out⟩, (by (repeat' (first | assumption | exact Below.refl _ _ | refine Below.alloc ?_ ?_ _ | refine Below.setCell ?_ ?_ _ | refine Below.drew ?_ | refine below_drewN ?_ _)) <;> (first | omega | (simp <;> omega)))⟩
set_option maxRecDepth 100000 in
set_option maxHeartbeats 1000000 in
theorem l7One_2 (m e : Int) (t : ByteArray) (na : Option Addr) (nc : Nat) (ns : List ByteArray) (a : Option Addr) (n c nl : Nat) (w : World) (hlen : Hid (ns.length = nl)) (hI : Hd.In w ⟨2, m, e, t, na, nc, ns⟩) :
    Calls Try.prog 59 #[.agg #[.int .i64 2, .int .i64 m, .int .i64 e, .string t, .slice a n c, .slice na nl nc]] w fun r w' => SaysT (one ⟨2, m, e, t, na, nc, ns⟩ n) r ∧ Below w.heap.size w w' := by
  by_cases h_m : m = 0
  · subst h_m
    by_cases h_e : e = 0
    · subst h_e
      by_cases h_t : t = ⟨#[]⟩
      · subst h_t
        by_cases h_n : n = 0
        · subst h_n
          by_cases h_nl : nl = 0
          · subst h_nl
            have HS : Hid (one ⟨2, 0, 0, ⟨#[]⟩, na, nc, ns⟩ 0) := by have h0 : ns = [] := List.eq_nil_of_length_eq_zero hlen.out; subst h0; unfold Hid; simp [one]
            clear hI
            go_enter Try.func59, Try.ntmps59
            go_wp2_with fail
            go_ret
            exact ⟨⟨true, rfl, fun _ => HS.out, fun _ => rfl⟩, (by (repeat' (first | assumption | exact Below.refl _ _ | refine Below.alloc ?_ ?_ _ | refine Below.setCell ?_ ?_ _ | refine Below.drew ?_ | refine below_drewN ?_ _)) <;> (first | omega | (simp <;> omega)))⟩
          · have h_nl' : ((nl : Int) == 0) = false := by simp; omega
            have HS : Hid (¬ one ⟨2, 0, 0, ⟨#[]⟩, na, nc, ns⟩ 0) := fun x => h_nl (by have := hlen.out; simp [one] at x; rw [← this]; simp [x])
            clear hI
            go_enter Try.func59, Try.ntmps59
            go_wp2_with fail
            go_ret
            exact ⟨⟨false, rfl, fun h => (by cases h), fun h => absurd h HS.out⟩, (by (repeat' (first | assumption | exact Below.refl _ _ | refine Below.alloc ?_ ?_ _ | refine Below.setCell ?_ ?_ _ | refine Below.drew ?_ | refine below_drewN ?_ _)) <;> (first | omega | (simp <;> omega)))⟩
        · have h_n' : ((n : Int) == 0) = false := by simp; omega
          have HS : Hid (¬ one ⟨2, 0, 0, ⟨#[]⟩, na, nc, ns⟩ n) := fun x => by simp [one] at x; exact h_n (by simp [x])
          clear hI
          go_enter Try.func59, Try.ntmps59
          go_wp2_with fail
          go_ret
          exact ⟨⟨false, rfl, fun h => (by cases h), fun h => absurd h HS.out⟩, (by (repeat' (first | assumption | exact Below.refl _ _ | refine Below.alloc ?_ ?_ _ | refine Below.setCell ?_ ?_ _ | refine Below.drew ?_ | refine below_drewN ?_ _)) <;> (first | omega | (simp <;> omega)))⟩
      · have h_t' : (t.toList == []) = false := by rw [beq_eq_false_iff_ne]; exact fun e' => h_t (text_nil e')
        have HS : Hid (¬ one ⟨2, 0, 0, t, na, nc, ns⟩ n) := fun x => by simp [one] at x; exact h_t (by simp [x])
        clear hI
        go_enter Try.func59, Try.ntmps59
        go_wp2_with fail
        go_ret
        exact ⟨⟨false, rfl, fun h => (by cases h), fun h => absurd h HS.out⟩, (by (repeat' (first | assumption | exact Below.refl _ _ | refine Below.alloc ?_ ?_ _ | refine Below.setCell ?_ ?_ _ | refine Below.drew ?_ | refine below_drewN ?_ _)) <;> (first | omega | (simp <;> omega)))⟩
    · have h_e' : (e == 0) = false := by simp; omega
      have HS : Hid (¬ one ⟨2, 0, e, t, na, nc, ns⟩ n) := fun x => by simp [one] at x; exact h_e (by simp [x])
      clear hI
      go_enter Try.func59, Try.ntmps59
      go_wp2_with fail
      go_ret
      exact ⟨⟨false, rfl, fun h => (by cases h), fun h => absurd h HS.out⟩, (by (repeat' (first | assumption | exact Below.refl _ _ | refine Below.alloc ?_ ?_ _ | refine Below.setCell ?_ ?_ _ | refine Below.drew ?_ | refine below_drewN ?_ _)) <;> (first | omega | (simp <;> omega)))⟩
  · have h_m' : (m == 0) = false := by simp; omega
    have HS : Hid (¬ one ⟨2, m, e, t, na, nc, ns⟩ n) := fun x => by simp [one] at x; exact h_m (by simp [x])
    clear hI
    go_enter Try.func59, Try.ntmps59
    go_wp2_with fail
    go_ret
    exact ⟨⟨false, rfl, fun h => (by cases h), fun h => absurd h HS.out⟩, (by (repeat' (first | assumption | exact Below.refl _ _ | refine Below.alloc ?_ ?_ _ | refine Below.setCell ?_ ?_ _ | refine Below.drew ?_ | refine below_drewN ?_ _)) <;> (first | omega | (simp <;> omega)))⟩
set_option maxRecDepth 100000 in
set_option maxHeartbeats 1000000 in
theorem l7One_4 (m e : Int) (t : ByteArray) (na : Option Addr) (nc : Nat) (ns : List ByteArray) (a : Option Addr) (n c nl : Nat) (w : World) (hlen : Hid (ns.length = nl)) (hI : Hd.In w ⟨4, m, e, t, na, nc, ns⟩) :
    Calls Try.prog 59 #[.agg #[.int .i64 4, .int .i64 m, .int .i64 e, .string t, .slice a n c, .slice na nl nc]] w fun r w' => SaysT (one ⟨4, m, e, t, na, nc, ns⟩ n) r ∧ Below w.heap.size w w' := by
  have htm := hI.2.2
  unfold maxLen at htm
  by_cases h_m : m = 0
  · subst h_m
    by_cases h_e : e = 0
    · subst h_e
      by_cases h_sz : t.size ≤ 1500
      · have h_sz' : (t.size : Int) ≤ 1500 := by omega
        by_cases h_n : n = 0
        · subst h_n
          by_cases h_nl : nl = 0
          · subst h_nl
            have HS : Hid (one ⟨4, 0, 0, t, na, nc, ns⟩ 0) := by have h0 : ns = [] := List.eq_nil_of_length_eq_zero hlen.out; subst h0; unfold Hid; simp [one]; exact h_sz
            clear hI
            go_enter Try.func59, Try.ntmps59
            go_wp2_with fail
            go_ret
            exact ⟨⟨true, rfl, fun _ => HS.out, fun _ => rfl⟩, (by (repeat' (first | assumption | exact Below.refl _ _ | refine Below.alloc ?_ ?_ _ | refine Below.setCell ?_ ?_ _ | refine Below.drew ?_ | refine below_drewN ?_ _)) <;> (first | omega | (simp <;> omega)))⟩
          · have h_nl' : ((nl : Int) == 0) = false := by simp; omega
            have HS : Hid (¬ one ⟨4, 0, 0, t, na, nc, ns⟩ 0) := fun x => h_nl (by have := hlen.out; simp [one] at x; rw [← this]; simp [x])
            clear hI
            go_enter Try.func59, Try.ntmps59
            go_wp2_with fail
            go_ret
            exact ⟨⟨false, rfl, fun h => (by cases h), fun h => absurd h HS.out⟩, (by (repeat' (first | assumption | exact Below.refl _ _ | refine Below.alloc ?_ ?_ _ | refine Below.setCell ?_ ?_ _ | refine Below.drew ?_ | refine below_drewN ?_ _)) <;> (first | omega | (simp <;> omega)))⟩
        · have h_n' : ((n : Int) == 0) = false := by simp; omega
          have HS : Hid (¬ one ⟨4, 0, 0, t, na, nc, ns⟩ n) := fun x => by simp [one] at x; exact h_n (by simp [x])
          clear hI
          go_enter Try.func59, Try.ntmps59
          go_wp2_with fail
          go_ret
          exact ⟨⟨false, rfl, fun h => (by cases h), fun h => absurd h HS.out⟩, (by (repeat' (first | assumption | exact Below.refl _ _ | refine Below.alloc ?_ ?_ _ | refine Below.setCell ?_ ?_ _ | refine Below.drew ?_ | refine below_drewN ?_ _)) <;> (first | omega | (simp <;> omega)))⟩
      · have h_sz' : ¬ (t.size : Int) ≤ 1500 := by omega
        have HS : Hid (¬ one ⟨4, 0, 0, t, na, nc, ns⟩ n) := fun x => by simp [one] at x; exact h_sz x.1
        clear hI
        go_enter Try.func59, Try.ntmps59
        go_wp2_with fail
        go_ret
        exact ⟨⟨false, rfl, fun h => (by cases h), fun h => absurd h HS.out⟩, (by (repeat' (first | assumption | exact Below.refl _ _ | refine Below.alloc ?_ ?_ _ | refine Below.setCell ?_ ?_ _ | refine Below.drew ?_ | refine below_drewN ?_ _)) <;> (first | omega | (simp <;> omega)))⟩
    · have h_e' : (e == 0) = false := by simp; omega
      have HS : Hid (¬ one ⟨4, 0, e, t, na, nc, ns⟩ n) := fun x => by simp [one] at x; exact h_e (by simp [x])
      clear hI
      go_enter Try.func59, Try.ntmps59
      go_wp2_with fail
      go_ret
      exact ⟨⟨false, rfl, fun h => (by cases h), fun h => absurd h HS.out⟩, (by (repeat' (first | assumption | exact Below.refl _ _ | refine Below.alloc ?_ ?_ _ | refine Below.setCell ?_ ?_ _ | refine Below.drew ?_ | refine below_drewN ?_ _)) <;> (first | omega | (simp <;> omega)))⟩
  · have h_m' : (m == 0) = false := by simp; omega
    have HS : Hid (¬ one ⟨4, m, e, t, na, nc, ns⟩ n) := fun x => by simp [one] at x; exact h_m (by simp [x])
    clear hI
    go_enter Try.func59, Try.ntmps59
    go_wp2_with fail
    go_ret
    exact ⟨⟨false, rfl, fun h => (by cases h), fun h => absurd h HS.out⟩, (by (repeat' (first | assumption | exact Below.refl _ _ | refine Below.alloc ?_ ?_ _ | refine Below.setCell ?_ ?_ _ | refine Below.drew ?_ | refine below_drewN ?_ _)) <;> (first | omega | (simp <;> omega)))⟩
set_option maxRecDepth 100000 in
set_option maxHeartbeats 1000000 in
theorem l7One_5 (m e : Int) (t : ByteArray) (na : Option Addr) (nc : Nat) (ns : List ByteArray) (a : Option Addr) (n c nl : Nat) (w : World) (hlen : Hid (ns.length = nl)) (hI : Hd.In w ⟨5, m, e, t, na, nc, ns⟩) :
    Calls Try.prog 59 #[.agg #[.int .i64 5, .int .i64 m, .int .i64 e, .string t, .slice a n c, .slice na nl nc]] w fun r w' => SaysT (one ⟨5, m, e, t, na, nc, ns⟩ n) r ∧ Below w.heap.size w w' := by
  by_cases h_m : m = 0
  · subst h_m
    by_cases h_e : e = 0
    · subst h_e
      by_cases h_t : t = ⟨#[]⟩
      · subst h_t
        by_cases h_nl : nl = 0
        · subst h_nl
          have HS : Hid (one ⟨5, 0, 0, ⟨#[]⟩, na, nc, ns⟩ n) := by have h0 : ns = [] := List.eq_nil_of_length_eq_zero hlen.out; subst h0; unfold Hid; simp [one]
          clear hI
          go_enter Try.func59, Try.ntmps59
          go_wp2_with fail
          go_ret
          exact ⟨⟨true, rfl, fun _ => HS.out, fun _ => rfl⟩, (by (repeat' (first | assumption | exact Below.refl _ _ | refine Below.alloc ?_ ?_ _ | refine Below.setCell ?_ ?_ _ | refine Below.drew ?_ | refine below_drewN ?_ _)) <;> (first | omega | (simp <;> omega)))⟩
        · have h_nl' : ((nl : Int) == 0) = false := by simp; omega
          have HS : Hid (¬ one ⟨5, 0, 0, ⟨#[]⟩, na, nc, ns⟩ n) := fun x => h_nl (by have := hlen.out; simp [one] at x; rw [← this]; simp [x])
          clear hI
          go_enter Try.func59, Try.ntmps59
          go_wp2_with fail
          go_ret
          exact ⟨⟨false, rfl, fun h => (by cases h), fun h => absurd h HS.out⟩, (by (repeat' (first | assumption | exact Below.refl _ _ | refine Below.alloc ?_ ?_ _ | refine Below.setCell ?_ ?_ _ | refine Below.drew ?_ | refine below_drewN ?_ _)) <;> (first | omega | (simp <;> omega)))⟩
      · have h_t' : (t.toList == []) = false := by rw [beq_eq_false_iff_ne]; exact fun e' => h_t (text_nil e')
        have HS : Hid (¬ one ⟨5, 0, 0, t, na, nc, ns⟩ n) := fun x => by simp [one] at x; exact h_t (by simp [x])
        clear hI
        go_enter Try.func59, Try.ntmps59
        go_wp2_with fail
        go_ret
        exact ⟨⟨false, rfl, fun h => (by cases h), fun h => absurd h HS.out⟩, (by (repeat' (first | assumption | exact Below.refl _ _ | refine Below.alloc ?_ ?_ _ | refine Below.setCell ?_ ?_ _ | refine Below.drew ?_ | refine below_drewN ?_ _)) <;> (first | omega | (simp <;> omega)))⟩
    · have h_e' : (e == 0) = false := by simp; omega
      have HS : Hid (¬ one ⟨5, 0, e, t, na, nc, ns⟩ n) := fun x => by simp [one] at x; exact h_e (by simp [x])
      clear hI
      go_enter Try.func59, Try.ntmps59
      go_wp2_with fail
      go_ret
      exact ⟨⟨false, rfl, fun h => (by cases h), fun h => absurd h HS.out⟩, (by (repeat' (first | assumption | exact Below.refl _ _ | refine Below.alloc ?_ ?_ _ | refine Below.setCell ?_ ?_ _ | refine Below.drew ?_ | refine below_drewN ?_ _)) <;> (first | omega | (simp <;> omega)))⟩
  · have h_m' : (m == 0) = false := by simp; omega
    have HS : Hid (¬ one ⟨5, m, e, t, na, nc, ns⟩ n) := fun x => by simp [one] at x; exact h_m (by simp [x])
    clear hI
    go_enter Try.func59, Try.ntmps59
    go_wp2_with fail
    go_ret
    exact ⟨⟨false, rfl, fun h => (by cases h), fun h => absurd h HS.out⟩, (by (repeat' (first | assumption | exact Below.refl _ _ | refine Below.alloc ?_ ?_ _ | refine Below.setCell ?_ ?_ _ | refine Below.drew ?_ | refine below_drewN ?_ _)) <;> (first | omega | (simp <;> omega)))⟩
set_option maxRecDepth 100000 in
set_option maxHeartbeats 1000000 in
theorem l7One_3 (m e : Int) (t : ByteArray) (na : Option Addr) (nc : Nat) (ns : List ByteArray) (a : Option Addr) (n c nl : Nat) (w : World) (hlen : Hid (ns.length = nl)) (hI : Hd.In w ⟨3, m, e, t, na, nc, ns⟩) :
    Calls Try.prog 59 #[.agg #[.int .i64 3, .int .i64 m, .int .i64 e, .string t, .slice a n c, .slice na nl nc]] w fun r w' => SaysT (one ⟨3, m, e, t, na, nc, ns⟩ n) r ∧ Below w.heap.size w w' := by
  cases hd : Dm.ok m e
  · skip
    have HS : Hid (¬ one ⟨3, m, e, t, na, nc, ns⟩ n) := fun x => by simp [one, hd] at x
    clear hI
    have hB0 := (Below.refl _ w).alloc (Nat.le_refl _) (.cells #[.int .i64 3, .int .i64 m, .int .i64 e, .string t, .slice a n c, .slice na nl nc] 33)
    have R0 := Row.new w [.int .i64 3, .int .i64 m, .int .i64 e, .string t, .slice a n c, .slice na nl nc] 33
    go_enter Try.func59, Try.ntmps59
    go_wp2_with fail
    refine (sDecOk_any m e _).mono ?_
    rintro r w1 ⟨rfl, hb1⟩
    have hB1 := hB0.trans (hb1.mono hB0.size)
    have x3 := (R0.below hb1 R0.lt 3 _ rfl).1
    have x4 := (R0.below hb1 R0.lt 4 _ rfl).1
    have x5 := (R0.below hb1 R0.lt 5 _ rfl).1
    clear R0 hB0 hb1
    rw [hd]
    go_wp2_with fail
    go_ret
    exact ⟨⟨false, rfl, fun h => (by cases h), fun h => absurd h HS.out⟩, hB1⟩
  · by_cases h_t : t = ⟨#[]⟩
    · subst h_t
      by_cases h_n : n = 0
      · subst h_n
        by_cases h_nl : nl = 0
        · subst h_nl
          have HS : Hid (one ⟨3, m, e, ⟨#[]⟩, na, nc, ns⟩ 0) := by have h0 : ns = [] := List.eq_nil_of_length_eq_zero hlen.out; subst h0; unfold Hid; simp [one, hd]
          clear hI
          have hB0 := (Below.refl _ w).alloc (Nat.le_refl _) (.cells #[.int .i64 3, .int .i64 m, .int .i64 e, .string ⟨#[]⟩, .slice a 0 c, .slice na 0 nc] 33)
          have R0 := Row.new w [.int .i64 3, .int .i64 m, .int .i64 e, .string ⟨#[]⟩, .slice a 0 c, .slice na 0 nc] 33
          go_enter Try.func59, Try.ntmps59
          go_wp2_with fail
          refine (sDecOk_any m e _).mono ?_
          rintro r w1 ⟨rfl, hb1⟩
          have hB1 := hB0.trans (hb1.mono hB0.size)
          have x3 := (R0.below hb1 R0.lt 3 _ rfl).1
          have x4 := (R0.below hb1 R0.lt 4 _ rfl).1
          have x5 := (R0.below hb1 R0.lt 5 _ rfl).1
          clear R0 hB0 hb1
          rw [hd]
          go_wp2_with fail
          go_ret
          exact ⟨⟨true, rfl, fun _ => HS.out, fun _ => rfl⟩, hB1⟩
        · have h_nl' : ((nl : Int) == 0) = false := by simp; omega
          have HS : Hid (¬ one ⟨3, m, e, ⟨#[]⟩, na, nc, ns⟩ 0) := fun x => h_nl (by have := hlen.out; simp [one] at x; rw [← this]; simp [x])
          clear hI
          have hB0 := (Below.refl _ w).alloc (Nat.le_refl _) (.cells #[.int .i64 3, .int .i64 m, .int .i64 e, .string ⟨#[]⟩, .slice a 0 c, .slice na nl nc] 33)
          have R0 := Row.new w [.int .i64 3, .int .i64 m, .int .i64 e, .string ⟨#[]⟩, .slice a 0 c, .slice na nl nc] 33
          go_enter Try.func59, Try.ntmps59
          go_wp2_with fail
          refine (sDecOk_any m e _).mono ?_
          rintro r w1 ⟨rfl, hb1⟩
          have hB1 := hB0.trans (hb1.mono hB0.size)
          have x3 := (R0.below hb1 R0.lt 3 _ rfl).1
          have x4 := (R0.below hb1 R0.lt 4 _ rfl).1
          have x5 := (R0.below hb1 R0.lt 5 _ rfl).1
          clear R0 hB0 hb1
          rw [hd]
          go_wp2_with fail
          go_ret
          exact ⟨⟨false, rfl, fun h => (by cases h), fun h => absurd h HS.out⟩, hB1⟩
      · have h_n' : ((n : Int) == 0) = false := by simp; omega
        have HS : Hid (¬ one ⟨3, m, e, ⟨#[]⟩, na, nc, ns⟩ n) := fun x => by simp [one] at x; exact h_n (by simp [x])
        clear hI
        have hB0 := (Below.refl _ w).alloc (Nat.le_refl _) (.cells #[.int .i64 3, .int .i64 m, .int .i64 e, .string ⟨#[]⟩, .slice a n c, .slice na nl nc] 33)
        have R0 := Row.new w [.int .i64 3, .int .i64 m, .int .i64 e, .string ⟨#[]⟩, .slice a n c, .slice na nl nc] 33
        go_enter Try.func59, Try.ntmps59
        go_wp2_with fail
        refine (sDecOk_any m e _).mono ?_
        rintro r w1 ⟨rfl, hb1⟩
        have hB1 := hB0.trans (hb1.mono hB0.size)
        have x3 := (R0.below hb1 R0.lt 3 _ rfl).1
        have x4 := (R0.below hb1 R0.lt 4 _ rfl).1
        have x5 := (R0.below hb1 R0.lt 5 _ rfl).1
        clear R0 hB0 hb1
        rw [hd]
        go_wp2_with fail
        go_ret
        exact ⟨⟨false, rfl, fun h => (by cases h), fun h => absurd h HS.out⟩, hB1⟩
    · have h_t' : (t.toList == []) = false := by rw [beq_eq_false_iff_ne]; exact fun e' => h_t (text_nil e')
      have HS : Hid (¬ one ⟨3, m, e, t, na, nc, ns⟩ n) := fun x => by simp [one] at x; exact h_t (by simp [x])
      clear hI
      have hB0 := (Below.refl _ w).alloc (Nat.le_refl _) (.cells #[.int .i64 3, .int .i64 m, .int .i64 e, .string t, .slice a n c, .slice na nl nc] 33)
      have R0 := Row.new w [.int .i64 3, .int .i64 m, .int .i64 e, .string t, .slice a n c, .slice na nl nc] 33
      go_enter Try.func59, Try.ntmps59
      go_wp2_with fail
      refine (sDecOk_any m e _).mono ?_
      rintro r w1 ⟨rfl, hb1⟩
      have hB1 := hB0.trans (hb1.mono hB0.size)
      have x3 := (R0.below hb1 R0.lt 3 _ rfl).1
      have x4 := (R0.below hb1 R0.lt 4 _ rfl).1
      have x5 := (R0.below hb1 R0.lt 5 _ rfl).1
      clear R0 hB0 hb1
      rw [hd]
      go_wp2_with fail
      go_ret
      exact ⟨⟨false, rfl, fun h => (by cases h), fun h => absurd h HS.out⟩, hB1⟩
set_option maxRecDepth 100000 in
set_option maxHeartbeats 1000000 in
theorem l7One_6 (m e : Int) (t : ByteArray) (na : Option Addr) (nc : Nat) (ns : List ByteArray) (a : Option Addr) (n c nl : Nat) (w : World) (hlen : Hid (ns.length = nl)) (hI : Hd.In w ⟨6, m, e, t, na, nc, ns⟩) :
    Calls Try.prog 59 #[.agg #[.int .i64 6, .int .i64 m, .int .i64 e, .string t, .slice a n c, .slice na nl nc]] w fun r w' => SaysT (one ⟨6, m, e, t, na, nc, ns⟩ n) r ∧ Below w.heap.size w w' := by
  by_cases h_m : m = 0
  · subst h_m
    by_cases h_e : e = 0
    · subst h_e
      by_cases h_t : t = ⟨#[]⟩
      · subst h_t
        by_cases h_l : nl = n
        · subst h_l
          have hl := hI.2.1.1
          have hc := hI.2.1.2
          dsimp only at hl hc
          have HI : Hid (SIn w ns na) := hI.1
          have hB0 := (Below.refl _ w).alloc (Nat.le_refl _) (.cells #[.int .i64 6, .int .i64 0, .int .i64 0, .string ⟨#[]⟩, .slice a nl c, .slice na nl nc] 33)
          have HN := fun W (hW : SIn W ns na) => l7Names_any ns na nc W hW hl hc
          rw [hlen.out] at HN
          have HO : Hid (one ⟨6, 0, 0, ⟨#[]⟩, na, nc, ns⟩ nl ↔ nmAsc ns nl) := by have := hlen.out; unfold Hid; simp [one, this]
          clear hI
          go_enter Try.func59, Try.ntmps59
          go_wp2_with fail
          refine (HN _ (HI.out.grow hB0)).mono ?_
          rintro r w1 ⟨⟨q, rfl, hq⟩, hb1⟩
          have hB1 := hB0.trans (hb1.mono hB0.size)
          have HQ : Hid (q = true ↔ nmAsc ns nl) := hq
          clear hq
          go_wp2_with fail
          go_ret
          exact ⟨⟨q, rfl, HQ.out.trans HO.out.symm⟩, hB1⟩
        · have h_l' : ((nl : Int) == (n : Int)) = false := by simp; omega
          have HS : Hid (¬ one ⟨6, 0, 0, ⟨#[]⟩, na, nc, ns⟩ n) := fun x => h_l (by have := hlen.out; simp [one] at x; rw [← this]; exact x.1)
          clear hI
          go_enter Try.func59, Try.ntmps59
          go_wp2_with fail
          go_ret
          exact ⟨⟨false, rfl, fun h => (by cases h), fun h => absurd h HS.out⟩, (by (repeat' (first | assumption | exact Below.refl _ _ | refine Below.alloc ?_ ?_ _ | refine Below.setCell ?_ ?_ _ | refine Below.drew ?_ | refine below_drewN ?_ _)) <;> (first | omega | (simp <;> omega)))⟩
      · have h_t' : (t.toList == []) = false := by rw [beq_eq_false_iff_ne]; exact fun e' => h_t (text_nil e')
        have HS : Hid (¬ one ⟨6, 0, 0, t, na, nc, ns⟩ n) := fun x => by simp [one] at x; exact h_t (by simp [x])
        clear hI
        go_enter Try.func59, Try.ntmps59
        go_wp2_with fail
        go_ret
        exact ⟨⟨false, rfl, fun h => (by cases h), fun h => absurd h HS.out⟩, (by (repeat' (first | assumption | exact Below.refl _ _ | refine Below.alloc ?_ ?_ _ | refine Below.setCell ?_ ?_ _ | refine Below.drew ?_ | refine below_drewN ?_ _)) <;> (first | omega | (simp <;> omega)))⟩
    · have h_e' : (e == 0) = false := by simp; omega
      have HS : Hid (¬ one ⟨6, 0, e, t, na, nc, ns⟩ n) := fun x => by simp [one] at x; exact h_e (by simp [x])
      clear hI
      go_enter Try.func59, Try.ntmps59
      go_wp2_with fail
      go_ret
      exact ⟨⟨false, rfl, fun h => (by cases h), fun h => absurd h HS.out⟩, (by (repeat' (first | assumption | exact Below.refl _ _ | refine Below.alloc ?_ ?_ _ | refine Below.setCell ?_ ?_ _ | refine Below.drew ?_ | refine below_drewN ?_ _)) <;> (first | omega | (simp <;> omega)))⟩
  · have h_m' : (m == 0) = false := by simp; omega
    have HS : Hid (¬ one ⟨6, m, e, t, na, nc, ns⟩ n) := fun x => by simp [one] at x; exact h_m (by simp [x])
    clear hI
    go_enter Try.func59, Try.ntmps59
    go_wp2_with fail
    go_ret
    exact ⟨⟨false, rfl, fun h => (by cases h), fun h => absurd h HS.out⟩, (by (repeat' (first | assumption | exact Below.refl _ _ | refine Below.alloc ?_ ?_ _ | refine Below.setCell ?_ ?_ _ | refine Below.drew ?_ | refine below_drewN ?_ _)) <;> (first | omega | (simp <;> omega)))⟩
set_option maxRecDepth 100000 in
set_option maxHeartbeats 1000000 in
theorem l7One_any (h : Hd) (a : Option Addr) (n c : Nat) (w : World) (hh : h.In w) :
    Calls Try.prog 59 #[valV h a n c] w fun r w' => SaysT (one h n) r ∧ Below w.heap.size w w' := by
  obtain ⟨k, m, e, t, na, nc, ns⟩ := h
  dsimp only [valV]
  obtain ⟨nl, hnl⟩ : ∃ nl, ns.length = nl := ⟨_, rfl⟩
  rw [hnl]
  by_cases hk : 0 ≤ k ∧ k ≤ 6
  · have hc : k = 0 ∨ k = 1 ∨ k = 2 ∨ k = 3 ∨ k = 4 ∨ k = 5 ∨ k = 6 := by omega
    clear hk
    rcases hc with rfl | rfl | rfl | rfl | rfl | rfl | rfl
    · exact l7One_0 m e t na nc ns a n c nl w hnl hh
    · exact l7One_1 m e t na nc ns a n c nl w hnl hh
    · exact l7One_2 m e t na nc ns a n c nl w hnl hh
    · exact l7One_3 m e t na nc ns a n c nl w hnl hh
    · exact l7One_4 m e t na nc ns a n c nl w hnl hh
    · exact l7One_5 m e t na nc ns a n c nl w hnl hh
    · exact l7One_6 m e t na nc ns a n c nl w hnl hh
  · have HNO : Hid (¬ one ⟨k, m, e, t, na, nc, ns⟩ n) := by
      unfold Hid one
      dsimp only
      intro h
      rcases h with ⟨h, _⟩ | ⟨h, _⟩ | ⟨h, _⟩ | ⟨h, _⟩ | ⟨h, _⟩ <;> omega
    have h0 : (k == 0) = false := by simp; omega
    have h1 : (k == 1) = false := by simp; omega
    have h2 : (k == 2) = false := by simp; omega
    have h3 : (k == 3) = false := by simp; omega
    have h4 : (k == 4) = false := by simp; omega
    have h5 : (k == 5) = false := by simp; omega
    have h6 : (k == 6) = false := by simp; omega
    clear hh hk
    go_enter Try.func59, Try.ntmps59
    go_wp2_with fail
    go_ret
    exact ⟨⟨false, rfl, fun h => (by cases h), fun h => absurd h HNO.out⟩, (Below.refl _ w).alloc (Nat.le_refl _) _⟩
end Go.Proofs.Ytpgpkdeiapeoiaa
/- Contract: ValueOk of the specification; both say the same. -/
namespace Go.Proofs.Ytpgpkdeiapeoiaa
open Go.RowKit
theorem Vo.deep_le (F : Vo) : F.deep ≤ F.size := by
  induction F with
  | nil => exact Nat.le_refl _
  | cons h a c kids next ih1 ih2 => show max (kids.deep + 1) next.deep ≤ kids.size + 1 + next.size; omega
set_option maxHeartbeats 1000000 in
theorem sValueSize_any (N : Nat) : ∀ (h : Hd) (a : Option Addr) (c : Nat) (F : Vo) (w : World), F.size < N → N ≤ 2000000 → F.In w a → F.len ≤ c → c ≤ maxLen →
    Calls Try.prog 39 #[valV h a F.len c] w fun e w' => e = .returned (.int .i64 (F.size + 1 : Nat)) ∧ Below w.heap.size w w' := by
  induction N with
  | zero => intro h a c F w hF; omega
  | succ N ih =>
    intro h a c F w hF hN hin hl hc
    unfold maxLen at hc
    have hll := F.len_le
    go_enter Try.func39, Try.ntmps39
    go_wp2_with fail
    go_loopw [3, 4] (fun o i wr => ∃ (j s : Nat) (G : Vo), i = .int .i64 j ∧ o = .int .i64 s ∧ j + G.len = F.len ∧ s + G.size = F.size + 1 ∧ 1 ≤ s ∧ (G = .nil ∨ ∃ b o', a = some ⟨b, o', none⟩ ∧ G.From wr b (o' + j * 6)) ∧ wr.cell? ⟨w.heap.size, 4, none⟩ = some (.slice a F.len c) ∧ Below w.heap.size w wr) (fun _ i _ => F.len - (intOf i).toNat)
    case atStart =>
      refine ⟨0, 1, F, rfl, rfl, by omega, by omega, Nat.le_refl _, ?_, by simp, (Below.refl _ _).alloc (Nat.le_refl _) _⟩
      rcases hin with h | ⟨b, o', e1, e2⟩
      · exact .inl h
      · exact .inr ⟨b, o', e1, by simpa using Vo.from_grow ((Below.refl _ w).alloc (Nat.le_refl _) _) F b o' e2⟩
    case round =>
      obtain ⟨j, s, G, rfl, rfl, hj, hs, hs1, hG, hcell, hb⟩ := hrel
      cases G with
      | nil =>
        have hj' : j = F.len := by simpa [Vo.len] using hj
        have hs' : s = F.size + 1 := by simpa [Vo.size] using hs
        subst hj' hs'
        clear hG hj hs
        go_wp2_with fail
        go_ret
        exact ⟨rfl, hb⟩
      | cons h' a' c' kids next =>
        rcases hG with hG | ⟨b, o', rfl, ⟨h1, h2, h3, h4, h5, h6⟩, hk, ⟨hc1, hc2⟩, _, hn⟩
        · cases hG
        · have hlt : (j : Int) < (F.len : Int) := by have : j + (next.len + 1) = F.len := hj; omega
          have hjl : j < F.len := by omega
          have hsz : s + (kids.size + 1 + next.size) = F.size + 1 := hs
          have hln : j + (next.len + 1) = F.len := hj
          clear hj hs hin
          go_wp2_with fail
          refine (ih h' a' c' kids wr (by omega) (by omega) hk hc1 hc2).mono ?_
          rintro e w1 ⟨rfl, hb1⟩
          have hn1 := Vo.from_grow hb1 next b _ hn
          have hz := hb.size
          have hlw := World.block_lt_of_cell? wr _ hcell
          have hcell1 : w1.cell? ⟨w.heap.size, 4, none⟩ = some (.slice (some ⟨b, o', none⟩) F.len c) := (hb1.cell (p := ⟨w.heap.size, 4, none⟩) hlw).trans hcell
          have hb2 := hb.trans (hb1.mono hz)
          clear h1 h2 h3 h4 h5 h6 hk hn hcell hb1 hb ih
          go_wp2_with fail
          go_round
          case rel =>
            refine ⟨j + 1, s + (kids.size + 1), next, by go_num, by go_num, by omega, by omega, by omega, .inr ⟨b, o', rfl, ?_⟩, hcell1, hb2⟩
            rw [show o' + (j + 1) * 6 = o' + j * 6 + 6 by omega]; exact hn1
          case measure => simp [intOf]; omega
set_option maxHeartbeats 1000000 in
theorem sDeepV_any (N : Nat) : ∀ (h : Hd) (a : Option Addr) (c : Nat) (F : Vo) (w : World), F.size < N → N ≤ 2000000 → F.In w a → F.len ≤ c → c ≤ maxLen →
    Calls Try.prog 40 #[valV h a F.len c] w fun e w' => e = .returned (.int .i64 (F.deep + 1 : Nat)) ∧ Below w.heap.size w w' := by
  induction N with
  | zero => intro h a c F w hF; omega
  | succ N ih =>
    intro h a c F w hF hN hin hl hc
    unfold maxLen at hc
    have hll := F.len_le
    have hdd := F.deep_le
    go_enter Try.func40, Try.ntmps40
    go_wp2_with fail
    go_loopw [3, 4] (fun o i wr => ∃ (j s : Nat) (G : Vo), i = .int .i64 j ∧ o = .int .i64 s ∧ j + G.len = F.len ∧ max s G.deep = F.deep ∧ G.size ≤ F.size ∧ (G = .nil ∨ ∃ b o', a = some ⟨b, o', none⟩ ∧ G.From wr b (o' + j * 6)) ∧ wr.cell? ⟨w.heap.size, 4, none⟩ = some (.slice a F.len c) ∧ Below w.heap.size w wr) (fun _ i _ => F.len - (intOf i).toNat)
    case atStart =>
      refine ⟨0, 0, F, rfl, rfl, by omega, by omega, Nat.le_refl _, ?_, by simp, (Below.refl _ _).alloc (Nat.le_refl _) _⟩
      rcases hin with h | ⟨b, o', e1, e2⟩
      · exact .inl h
      · exact .inr ⟨b, o', e1, by simpa using Vo.from_grow ((Below.refl _ w).alloc (Nat.le_refl _) _) F b o' e2⟩
    case round =>
      obtain ⟨j, s, G, rfl, rfl, hj, hs, hs1, hG, hcell, hb⟩ := hrel
      cases G with
      | nil =>
        have hj' : j = F.len := by simpa [Vo.len] using hj
        have hs' : s = F.deep := by simpa [Vo.deep] using hs
        subst hj' hs'
        clear hG hj hs
        go_wp2_with fail
        go_ret
        exact ⟨rfl, hb⟩
      | cons h' a' c' kids next =>
        rcases hG with hG | ⟨b, o', rfl, ⟨h1, h2, h3, h4, h5, h6⟩, hk, ⟨hc1, hc2⟩, _, hn⟩
        · cases hG
        · have hlt : (j : Int) < (F.len : Int) := by have : j + (next.len + 1) = F.len := hj; omega
          have hjl : j < F.len := by omega
          have hsz : kids.size + 1 + next.size ≤ F.size := hs1
          have hds : max s (max (kids.deep + 1) next.deep) = F.deep := hs
          have hln : j + (next.len + 1) = F.len := hj
          clear hj hs hin hs1
          go_wp2_with fail
          refine (ih h' a' c' kids wr (by omega) (by omega) hk hc1 hc2).mono ?_
          rintro e w1 ⟨rfl, hb1⟩
          have hn1 := Vo.from_grow hb1 next b _ hn
          have hz := hb.size
          have hlw := World.block_lt_of_cell? wr _ hcell
          have hcell1 : w1.cell? ⟨w.heap.size, 4, none⟩ = some (.slice (some ⟨b, o', none⟩) F.len c) := (hb1.cell (p := ⟨w.heap.size, 4, none⟩) hlw).trans hcell
          have hb2 := hb.trans (hb1.mono hz)
          have hkd : kids.deep + 1 ≤ F.deep := by omega
          clear h1 h2 h3 h4 h5 h6 hk hn hcell hb1 hb ih
          have HD : Hid (max s (max (kids.deep + 1) next.deep) = F.deep) := hds
          clear hds
          by_cases hd : s < kids.deep + 1
          · have hd' : (s : Int) < (kids.deep : Int) + 1 := by omega
            go_wp2_with fail
            go_round
            case rel =>
              refine ⟨j + 1, kids.deep + 1, next, by go_num, by go_num, by omega, ?_, by omega, .inr ⟨b, o', rfl, ?_⟩, hcell1, hb2⟩
              · have := HD.out; omega
              · rw [show o' + (j + 1) * 6 = o' + j * 6 + 6 by omega]; exact hn1
            case measure => simp [intOf]; omega
          · have hd' : ¬ (s : Int) < (kids.deep : Int) + 1 := by omega
            go_wp2_with fail
            go_round
            case rel =>
              refine ⟨j + 1, s, next, by go_num, by go_num, by omega, ?_, by omega, .inr ⟨b, o', rfl, ?_⟩, hcell1, hb2⟩
              · have := HD.out; omega
              · rw [show o' + (j + 1) * 6 = o' + j * 6 + 6 by omega]; exact hn1
            case measure => simp [intOf]; omega
/-- all in a list, and all in these, have just what their kinds have -/
def Vo.allOne : Vo → Prop
  | .nil => True
  | .cons h _ _ kids next => one h kids.len ∧ kids.allOne ∧ next.allOne
set_option maxRecDepth 100000 in
set_option maxHeartbeats 1000000 in
theorem l7All_any (N : Nat) : ∀ (h : Hd) (a : Option Addr) (c : Nat) (F : Vo) (w : World), F.size < N → N ≤ 2000000 → F.In w a → F.len ≤ c → c ≤ maxLen → h.In w →
    Calls Try.prog 41 #[valV h a F.len c] w fun r w' => SaysT (one h F.len ∧ F.allOne) r ∧ Below w.heap.size w w' := by
  induction N with
  | zero => intro h a c F w hF; omega
  | succ N ih =>
    intro h a c F w hF hN hin hl hc hh
    unfold maxLen at hc
    have hll := F.len_le
    have hB0 := (Below.refl _ w).alloc (Nat.le_refl _) (.cells #[.int .i64 h.k, .int .i64 h.m, .int .i64 h.e, .string h.t, .slice a F.len c, .slice h.na h.ns.length h.nc] 33)
    have R0 := Row.new w [.int .i64 h.k, .int .i64 h.m, .int .i64 h.e, .string h.t, .slice a F.len c, .slice h.na h.ns.length h.nc] 33
    have HO := fun W (hW : h.In W) => l7One_any h a F.len c W hW
    go_enter Try.func41, Try.ntmps41
    go_wp2_with fail
    refine (HO _ (hh.grow hB0)).mono ?_
    rintro r w1 ⟨⟨q, rfl, hq⟩, hb1⟩
    have hB1 := hB0.trans (hb1.mono hB0.size)
    have hcell0 := (R0.below hb1 R0.lt 4 _ rfl).1
    have HQ : Hid (q = true ↔ one h F.len) := hq
    clear hq R0 hB0 hb1 HO
    cases q
    · have HN : Hid (¬ (one h F.len ∧ F.allOne)) := fun x => by have := HQ.out.2 x.1; cases this
      clear ih hin
      go_wp2_with fail
      go_ret
      exact ⟨⟨false, rfl, fun h => (by cases h), fun h => absurd h HN.out⟩, hB1⟩
    · have HY : Hid (one h F.len) := HQ.out.1 rfl
      clear HQ
      go_wp2_with fail
      go_loopw [3] (fun i wr => ∃ (j : Nat) (G : Vo), i = .int .i64 j ∧ j + G.len = F.len ∧ (F.allOne ↔ G.allOne) ∧ G.size ≤ F.size ∧ (G = .nil ∨ ∃ b o', a = some ⟨b, o', none⟩ ∧ G.From wr b (o' + j * 6)) ∧ wr.cell? ⟨w.heap.size, 4, none⟩ = some (.slice a F.len c) ∧ Below w.heap.size w wr) (fun i _ => F.len - (intOf i).toNat)
      case atStart =>
        refine ⟨0, F, rfl, by omega, Iff.rfl, Nat.le_refl _, ?_, hcell0, hB1⟩
        rcases hin with h | ⟨b, o', e1, e2⟩
        · exact .inl h
        · exact .inr ⟨b, o', e1, by simpa using Vo.from_grow hB1 F b o' e2⟩
      case round =>
        obtain ⟨j, G, rfl, hj, hs, hs1, hG, hcell, hb⟩ := hrel
        have HA : Hid (F.allOne ↔ G.allOne) := hs
        clear hs hcell0
        cases G with
        | nil =>
          have hj' : j = F.len := by simpa [Vo.len] using hj
          have HR : Hid (one h F.len ∧ F.allOne) := ⟨HY.out, HA.out.2 trivial⟩
          subst hj'
          clear hG hj HA ih
          go_wp2_with fail
          go_ret
          exact ⟨⟨true, rfl, fun _ => HR.out, fun _ => rfl⟩, hb⟩
        | cons h' a' c' kids next =>
          rcases hG with hG | ⟨b, o', rfl, ⟨h1, h2, h3, h4, h5, h6⟩, hk, ⟨hc1, hc2⟩, hh', hn⟩
          · cases hG
          · have hln : j + (next.len + 1) = F.len := hj
            have hlt : (j : Int) < (F.len : Int) := by omega
            have hjl : j < F.len := by omega
            have hsz : kids.size + 1 + next.size ≤ F.size := hs1
            clear hj hs1 hin
            go_wp2_with fail
            refine (ih h' a' c' kids wr (by omega) (by omega) hk hc1 hc2 hh').mono ?_
            rintro r w2 ⟨⟨q, rfl, hq⟩, hb2⟩
            have HQ : Hid (q = true ↔ (one h' kids.len ∧ kids.allOne)) := hq
            have hn2 := Vo.from_grow hb2 next b _ hn
            have hcell2 : w2.cell? ⟨w.heap.size, 4, none⟩ = some (.slice (some ⟨b, o', none⟩) F.len c) := (hb2.cell (p := ⟨w.heap.size, 4, none⟩) (World.block_lt_of_cell? wr _ hcell)).trans hcell
            have hb3 := hb.trans (hb2.mono hb.size)
            clear h1 h2 h3 h4 h5 h6 hk hn hcell hb2 hb ih hq hh'
            cases q
            · have HN : Hid (¬ (one h F.len ∧ F.allOne)) := fun x => by
                have hx := HA.out.1 x.2
                have := HQ.out.2 ⟨hx.1, hx.2.1⟩
                cases this
              go_wp2_with fail
              go_ret
              exact ⟨⟨false, rfl, fun h => (by cases h), fun h => absurd h HN.out⟩, hb3⟩
            · have HA2 : Hid (F.allOne ↔ next.allOne) := HA.out.trans ⟨fun x => x.2.2, fun x => ⟨(HQ.out.1 rfl).1, (HQ.out.1 rfl).2, x⟩⟩
              clear HQ HA
              go_wp2_with fail
              go_round
              case rel =>
                refine ⟨j + 1, next, by go_num, by omega, HA2.out, by omega, .inr ⟨b, o', rfl, ?_⟩, hcell2, hb3⟩
                rw [show o' + (j + 1) * 6 = o' + j * 6 + 6 by omega]; exact hn2
              case measure => simp [intOf]; omega
/-- a value that is ok, as the specification has it -/
def ValOk (h : Hd) (F : Vo) : Prop := F.size + 1 ≤ 200 ∧ F.deep + 1 ≤ 20 ∧ one h F.len ∧ F.allOne
set_option maxRecDepth 100000 in
set_option maxHeartbeats 1000000 in
theorem sValueOk_any (h : Hd) (a : Option Addr) (c : Nat) (F : Vo) (w : World) (hF : F.size ≤ 1900000) (hin : F.In w a) (hl : F.len ≤ c) (hc : c ≤ maxLen) (hh : h.In w) :
    Calls Try.prog 20 #[valV h a F.len c] w fun r w' => SaysT (ValOk h F) r ∧ Below w.heap.size w w' := by
  have hdd := F.deep_le
  have hB0 := (Below.refl _ w).alloc (Nat.le_refl _) (.cells #[.int .i64 h.k, .int .i64 h.m, .int .i64 h.e, .string h.t, .slice a F.len c, .slice h.na h.ns.length h.nc] 33)
  have X0 := BxV.new w h (.slice a F.len c) 33
  have HI : Hid (∀ W, Below w.heap.size w W → F.In W a ∧ h.In W) := fun W h' => ⟨hin.grow h', hh.grow h'⟩
  clear hin hh
  go_enter Try.func20, Try.ntmps20
  go_wp2_with fail
  refine (sValueSize_any (F.size + 1) h a c F _ (Nat.lt_succ_self _) (by omega) (HI.out _ hB0).1 hl hc).mono ?_
  rintro r w1 ⟨rfl, hb1⟩
  have hB1 := hB0.trans (hb1.mono hB0.size)
  have X1 := X0.below hb1
  clear X0 hB0 hb1
  by_cases h1 : F.size + 1 ≤ 200
  · have h1' : (F.size : Int) + 1 ≤ 200 := by omega
    obtain ⟨x0, x1, x2, x3, x4, x5⟩ := id X1
    go_wp2_with fail
    refine (sDeepV_any (F.size + 1) h a c F _ (Nat.lt_succ_self _) (by omega) (HI.out _ hB1).1 hl hc).mono ?_
    rintro r w2 ⟨rfl, hb2⟩
    have hB2 := hB1.trans (hb2.mono hB1.size)
    have X2 := X1.below hb2
    clear X1 hB1 hb2 x0 x1 x2 x3 x4 x5
    by_cases h2 : F.deep + 1 ≤ 20
    · have h2' : (F.deep : Int) + 1 ≤ 20 := by omega
      obtain ⟨x0, x1, x2, x3, x4, x5⟩ := id X2
      go_wp2_with fail
      refine (l7All_any (F.size + 1) h a c F _ (Nat.lt_succ_self _) (by omega) (HI.out _ hB2).1 hl hc (HI.out _ hB2).2).mono ?_
      rintro r w3 ⟨⟨q, rfl, hq⟩, hb3⟩
      have hB3 := hB2.trans (hb3.mono hB2.size)
      have HQ : Hid (q = true ↔ ValOk h F) := hq.trans ⟨fun x => ⟨h1, h2, x.1, x.2⟩, fun x => ⟨x.2.2.1, x.2.2.2⟩⟩
      clear hq X2 x0 x1 x2 x3 x4 x5
      go_wp2_with fail
      go_ret
      exact ⟨⟨q, rfl, HQ.out⟩, hB3⟩
    · have h2' : ¬ (F.deep : Int) + 1 ≤ 20 := by omega
      have HN : Hid (¬ ValOk h F) := fun x => h2 x.2.1
      go_wp2_with fail
      go_ret
      exact ⟨⟨false, rfl, fun h => (by cases h), fun h => absurd h HN.out⟩, hB2⟩
  · have h1' : ¬ (F.size : Int) + 1 ≤ 200 := by omega
    have HN : Hid (¬ ValOk h F) := fun x => h1 x.1
    go_wp2_with fail
    go_ret
    exact ⟨⟨false, rfl, fun h => (by cases h), fun h => absurd h HN.out⟩, hB1⟩
theorem all_flat (B : Nat) : ∀ (F : Vo) (d : Nat), (∀ x ∈ F.flat d, x.1 ≤ B ∧ one x.2.1 x.2.2.len) ↔ ((F.deep = 0 ∨ d + F.deep ≤ B + 1) ∧ F.allOne) := by
  intro F
  induction F with
  | nil => intro d; exact ⟨fun _ => ⟨.inl rfl, trivial⟩, fun _ x hx => absurd hx List.not_mem_nil⟩
  | cons h a c kids next ih1 ih2 =>
    intro d
    have e : (Vo.cons h a c kids next).deep = max (kids.deep + 1) next.deep := rfl
    have i1 := ih1 (d + 1)
    have i2 := ih2 d
    constructor
    · intro hx
      have x0 := hx (d, h, kids) (List.mem_cons_self)
      have x1 := i1.1 fun x m => hx x (List.mem_cons_of_mem _ (List.mem_append_left _ m))
      have x2 := i2.1 fun x m => hx x (List.mem_cons_of_mem _ (List.mem_append_right _ m))
      refine ⟨.inr ?_, x0.2, x1.2, x2.2⟩
      have := x0.1
      rw [e]
      dsimp only at this
      omega
    · rintro ⟨hd, h1, h2, h3⟩ x hx
      rw [e] at hd
      rcases List.mem_cons.1 hx with rfl | hx
      · exact ⟨by show d ≤ B; omega, h1⟩
      · rcases List.mem_append.1 hx with hx | hx
        · exact i1.2 ⟨by omega, h2⟩ x hx
        · exact i2.2 ⟨by omega, h3⟩ x hx
/-- both say the same -/
theorem good_ok (h : Hd) (F : Vo) : ValGood h F ↔ ValOk h F := by
  unfold ValGood ValOk
  have hl : ((1, h, F) :: F.flat 2).length = F.size + 1 := by rw [List.length_cons, F.flat_len]
  rw [hl]
  have ha := all_flat 20 F 2
  constructor
  · rintro ⟨h1, h2⟩
    have x0 := h2 (1, h, F) List.mem_cons_self
    have x1 := ha.1 fun x m => h2 x (List.mem_cons_of_mem _ m)
    exact ⟨h1, by omega, x0.2, x1.2⟩
  · rintro ⟨h1, h2, h3, h4⟩
    refine ⟨h1, fun x hx => ?_⟩
    rcases List.mem_cons.1 hx with rfl | hx
    · exact ⟨by show 1 ≤ 20; omega, h3⟩
    · exact ha.2 ⟨by omega, h4⟩ x hx
theorem Vo.alike_deep : ∀ {G F : Vo}, F.alike G → F.deep = G.deep := by
  intro G
  induction G with
  | nil => intro F h; rw [Vo.alike_nil h]
  | cons h a c kids next ih1 ih2 =>
    intro F x
    obtain ⟨h', a', c', kids', next', rfl, _, h1, h2⟩ := Vo.alike_cons x
    show max (kids'.deep + 1) next'.deep = max (kids.deep + 1) next.deep
    rw [ih1 h1, ih2 h2]
theorem one_same {h g : Hd} (x : h.same g) (n : Nat) : one h n ↔ one g n := by
  obtain ⟨⟨e1, e2, e3, e4⟩, e5⟩ := x
  unfold one
  rw [e1, e2, e3, e4, e5]
theorem Vo.alike_one : ∀ {G F : Vo}, F.alike G → (F.allOne ↔ G.allOne) := by
  intro G
  induction G with
  | nil => intro F h; rw [Vo.alike_nil h]
  | cons h a c kids next ih1 ih2 =>
    intro F x
    obtain ⟨h', a', c', kids', next', rfl, h0, h1, h2⟩ := Vo.alike_cons x
    show (one h' kids'.len ∧ kids'.allOne ∧ next'.allOne) ↔ (one h kids.len ∧ kids.allOne ∧ next.allOne)
    rw [Vo.alike_len h1, one_same h0, ih1 h1, ih2 h2]
/-- a copy is ok just if what it was made of is -/
theorem ok_copy {h : Hd} {m : Nat} {F F1 : Vo} (x : F1.alike F) : ValOk (h.to m) F1 ↔ ValOk h F := by
  unfold ValOk
  rw [Vo.alike_size x, Vo.alike_deep x, Vo.alike_len x, one_same (h.to_same m), Vo.alike_one x]
end Go.Proofs.Ytpgpkdeiapeoiaa
/- Plain mathematics of figures and of the order of decimals: no program in it. -/
namespace Go.Proofs.Ytpgpkdeiapeoiaa.Dm
/-- the figures of a whole number, so many at most -/
def digs : Nat → Nat → List UInt8
  | 0, _ => []
  | k + 1, n => if n < 10 then [UInt8.ofNat (48 + n)] else digs k (n / 10) ++ [UInt8.ofNat (48 + n % 10)]

theorem digs_len (k : Nat) : ∀ n, (digs k n).length ≤ k := by
  induction k with
  | zero => intro n; exact Nat.le_refl _
  | succ k ih =>
    intro n
    rw [digs]
    by_cases h : n < 10
    · rw [if_pos h]; simp
    · rw [if_neg h]; have := ih (n / 10); simp; omega

theorem digs_log (k : Nat) : ∀ n, 1 ≤ n → n < 10 ^ k → 1 ≤ (digs k n).length ∧ 10 ^ ((digs k n).length - 1) ≤ n ∧ n < 10 ^ (digs k n).length := by
  induction k with
  | zero => intro n h1 h2; simp at h2; omega
  | succ k ih =>
    intro n h1 h2
    rw [digs]
    by_cases h : n < 10
    · rw [if_pos h]; simp; omega
    · rw [if_neg h]
      have e := ih (n / 10) (by omega) (by rw [Nat.pow_succ] at h2; omega)
      obtain ⟨e1, e2, e3⟩ := e
      simp only [List.length_append, List.length_cons, List.length_nil, Nat.zero_add, Nat.add_sub_cancel]
      refine ⟨by omega, ?_, ?_⟩
      · have : 10 ^ (digs k (n / 10)).length = 10 ^ ((digs k (n / 10)).length - 1) * 10 := by rw [← Nat.pow_succ]; congr 1; omega
        omega
      · rw [Nat.pow_succ]; omega
def sgn (v : Int) : Int := if v < 0 then -1 else if 0 < v then 1 else 0
theorem sgn_neg {v : Int} (h : v < 0) : sgn v = -1 := by rw [sgn, if_pos h]
theorem sgn_pos {v : Int} (h : 0 < v) : sgn v = 1 := by rw [sgn, if_neg (by omega), if_pos h]
theorem sgn_zero : sgn 0 = 0 := rfl
theorem sgn_mul {v c : Int} (hc : 1 ≤ c) : sgn (v * c) = sgn v := by
  rcases Int.lt_trichotomy v 0 with h | h | h
  · rw [sgn_neg h, sgn_neg (Int.mul_neg_of_neg_of_pos h (by omega))]
  · subst h; simp [sgn]
  · rw [sgn_pos h, sgn_pos (Int.mul_pos h (by omega))]
theorem p10_add {a b : Int} (ha : 0 ≤ a) (hb : 0 ≤ b) : p10 (a + b) = p10 a * p10 b := by
  unfold p10; rw [show (a + b).toNat = a.toNat + b.toNat from by omega, Int.pow_add]
/-- what a decimal is worth at the last place -/
def val (m x : Int) : Int := m * p10 (x + 8)
/-- DecCmp -/
def cmp (m x n y : Int) : Int := if ok m x = true ∧ ok n y = true then sgn (val m x - val n y) else 0
theorem val_at {m x p : Int} (hp : p ≤ x) (hp8 : -8 ≤ p) : val m x = m * p10 (x - p) * p10 (p + 8) := by
  rw [val, Int.mul_assoc, ← p10_add (by omega) (by omega)]; congr 2; omega
theorem manAt_val {m x p : Int} (hp : p ≤ x) (hp8 : -8 ≤ p) (h : (manAt m x p).2 = true) : (manAt m x p).1 * p10 (p + 8) = val m x := by
  rw [val_at hp hp8]
  unfold manAt at h ⊢
  by_cases h0 : m = 0
  · rw [if_pos h0]; subst h0; simp
  · rw [if_neg h0] at h ⊢
    by_cases h8 : 8 < x - p
    · rw [if_pos h8] at h; simp at h
    · rw [if_neg h8]
theorem cmp_near {m x n y : Int} (hm : ok m x = true) (hn : ok n y = true) (h1 : (manAt m x (min x y)).2 = true) (h2 : (manAt n y (min x y)).2 = true) :
    cmp m x n y = sgn ((manAt m x (min x y)).1 - (manAt n y (min x y)).1) := by
  have bm := ok_bd hm
  have bn := ok_bd hn
  rw [cmp, if_pos ⟨hm, hn⟩, ← manAt_val (p := min x y) (by omega) (by omega) h1, ← manAt_val (p := min x y) (by omega) (by omega) h2, ← Int.sub_mul, sgn_mul (p10_pos _)]
theorem far_sgn {m n c : Int} (hm : m ≠ 0) (h1 : -99999999 ≤ n) (h2 : n ≤ 99999999) (hc : 1000000000 ≤ c) : sgn (m * c - n) = sgn m := by
  rcases Int.lt_or_gt_of_ne hm with h | h
  · have : 1 * c ≤ (-m) * c := Int.mul_le_mul_of_nonneg_right (by omega) (by omega)
    have e : (-m) * c = -(m * c) := Int.neg_mul _ _
    rw [sgn_neg h, sgn_neg (by omega)]
  · have : 1 * c ≤ m * c := Int.mul_le_mul_of_nonneg_right (by omega) (by omega)
    rw [sgn_pos h, sgn_pos (by omega)]
theorem manAt_far {m x p : Int} (h : (manAt m x p).2 = false) : m ≠ 0 ∧ 8 < x - p := by
  unfold manAt at h
  by_cases h0 : m = 0
  · rw [if_pos h0] at h; simp at h
  · refine ⟨h0, ?_⟩
    rw [if_neg h0] at h
    by_cases h8 : 8 < x - p
    · exact h8
    · rw [if_neg h8] at h; simp at h
theorem p10_nine {k : Int} (h : 8 < k) : 1000000000 ≤ p10 k := by
  have := p10_mono (j := 9) (k := k) (by omega)
  rw [show p10 9 = 1000000000 from rfl] at this; exact this
theorem cmp_far1 {m x n y : Int} (hm : ok m x = true) (hn : ok n y = true) (h1 : (manAt m x (min x y)).2 = false) : cmp m x n y = sgn m := by
  have bm := ok_bd hm
  have bn := ok_bd hn
  obtain ⟨h0, h8⟩ := manAt_far h1
  have e : min x y = y := by omega
  rw [e] at h8
  rw [cmp, if_pos ⟨hm, hn⟩, val_at (m := m) (p := y) (by omega) (by omega), val, ← Int.sub_mul, sgn_mul (p10_pos _)]
  exact far_sgn h0 (by omega) (by omega) (p10_nine h8)
theorem sgn_sub (a b : Int) : sgn (a - b) = -sgn (b - a) := by
  rcases Int.lt_trichotomy a b with h | h | h
  · rw [sgn_neg (by omega), sgn_pos (by omega)]
  · subst h; simp [sgn]
  · rw [sgn_pos (by omega), sgn_neg (by omega)]; rfl
theorem cmp_swap (m x n y : Int) : cmp m x n y = -cmp n y m x := by
  unfold cmp
  by_cases h : ok m x = true ∧ ok n y = true
  · rw [if_pos h, if_pos ⟨h.2, h.1⟩, sgn_sub]
  · rw [if_neg h, if_neg (fun k => h ⟨k.2, k.1⟩)]; rfl
theorem sgn_neg_eq (a : Int) : sgn (-a) = -sgn a := by
  have := sgn_sub 0 a
  simpa using this
theorem cmp_far2 {m x n y : Int} (hm : ok m x = true) (hn : ok n y = true) (h2 : (manAt n y (min x y)).2 = false) : cmp m x n y = sgn (0 - n) := by
  rw [cmp_swap, cmp_far1 hn hm (by rw [Int.min_comm]; exact h2), show 0 - n = -n from by omega, sgn_neg_eq]
/-- how many figures -/
def dn (m : Int) : Int := ((digs 19 m.natAbs).length : Int)
theorem dn_bd {m x : Int} (hm : ok m x = true) (h0 : m ≠ 0) : 1 ≤ dn m ∧ dn m ≤ 19 ∧ p10 (dn m - 1) ≤ m.natAbs ∧ (m.natAbs : Int) < p10 (dn m) := by
  have b := ok_bd hm
  have hl := digs_log 19 m.natAbs (by omega) (by omega)
  have hle := digs_len 19 m.natAbs
  unfold dn p10
  rw [show ((digs 19 m.natAbs).length : Int).toNat = (digs 19 m.natAbs).length from by omega, show (((digs 19 m.natAbs).length : Int) - 1).toNat = (digs 19 m.natAbs).length - 1 from by omega]
  refine ⟨by omega, by omega, ?_, ?_⟩
  · exact_mod_cast hl.2.1
  · exact_mod_cast hl.2.2
theorem dn_le8 {m x : Int} (hm : ok m x = true) (h0 : m ≠ 0) : dn m ≤ 8 := by
  obtain ⟨h1, h2, h3, h4⟩ := dn_bd hm h0
  have b := ok_bd hm
  by_cases h : dn m ≤ 8
  · exact h
  · have := p10_mono (j := 8) (k := dn m - 1) (by omega)
    rw [show p10 8 = 100000000 from rfl] at this
    omega
theorem abs_gt {m x n y : Int} (hm : ok m x = true) (hn : ok n y = true) (hm0 : m ≠ 0) (hn0 : n ≠ 0) (h : dn n + y < dn m + x) : (n.natAbs : Int) * p10 (y + 8) < (m.natAbs : Int) * p10 (x + 8) := by
  have bm := ok_bd hm
  have bn := ok_bd hn
  obtain ⟨m1, m2, m3, m4⟩ := dn_bd hm hm0
  obtain ⟨n1, n2, n3, n4⟩ := dn_bd hn hn0
  have a1 : p10 (dn m - 1) * p10 (x + 8) ≤ (m.natAbs : Int) * p10 (x + 8) := Int.mul_le_mul_of_nonneg_right m3 (by have := p10_pos (x + 8); omega)
  have a2 : (n.natAbs : Int) * p10 (y + 8) < p10 (dn n) * p10 (y + 8) := Int.mul_lt_mul_of_pos_right n4 (by have := p10_pos (y + 8); omega)
  rw [← p10_add (by omega) (by omega)] at a1 a2
  have a3 : p10 (dn n + (y + 8)) ≤ p10 (dn m - 1 + (x + 8)) := p10_mono (by omega)
  omega
/-- l1Cmp -/
def cmpS (m x n y : Int) : Int :=
  if sgn m ≠ sgn n then sgn (sgn m - sgn n) else if m = 0 then 0 else
    if dn m + x ≠ dn n + y then sgn (dn m + x - (dn n + y)) * sgn m else sgn (m * p10 (x - y) - n * p10 (y - x))
theorem sgn_cases (v : Int) : (v < 0 ∧ sgn v = -1) ∨ (v = 0 ∧ sgn v = 0) ∨ (0 < v ∧ sgn v = 1) := by
  rcases Int.lt_trichotomy v 0 with h | h | h
  · exact .inl ⟨h, sgn_neg h⟩
  · exact .inr (.inl ⟨h, by subst h; rfl⟩)
  · exact .inr (.inr ⟨h, sgn_pos h⟩)
theorem val_sgn (m x : Int) : sgn (val m x) = sgn m := sgn_mul (p10_pos _)
theorem cmpS_eq {m x n y : Int} (hm : ok m x = true) (hn : ok n y = true) : cmpS m x n y = cmp m x n y := by
  have bm := ok_bd hm
  have bn := ok_bd hn
  have vm := val_sgn m x
  have vn := val_sgn n y
  rw [cmp, if_pos ⟨hm, hn⟩, cmpS]
  by_cases hs : sgn m ≠ sgn n
  · rw [if_pos hs]
    rw [← vm, ← vn] at hs ⊢
    generalize val m x = a at *
    generalize val n y = b at *
    rcases sgn_cases a with ⟨ha, ea⟩ | ⟨ha, ea⟩ | ⟨ha, ea⟩ <;> rcases sgn_cases b with ⟨hb, eb⟩ | ⟨hb, eb⟩ | ⟨hb, eb⟩ <;> rw [ea, eb] at hs ⊢ <;> first | (exfalso; exact hs rfl) | (rw [sgn_pos (v := a - b) (by omega)]; rfl) | (rw [sgn_neg (v := a - b) (by omega)]; rfl)
  · rw [if_neg hs]
    have hs' : sgn m = sgn n := by omega
    by_cases hm0 : m = 0
    · rw [if_pos hm0]
      have hn0 : n = 0 := by
        subst hm0
        rcases sgn_cases n with ⟨hb, eb⟩ | ⟨hb, eb⟩ | ⟨hb, eb⟩
        · rw [eb] at hs'; simp [sgn] at hs'
        · exact hb
        · rw [eb] at hs'; simp [sgn] at hs'
      subst hm0 hn0; simp [val, sgn]
    · rw [if_neg hm0]
      have hn0 : n ≠ 0 := by
        intro h; subst h
        rcases sgn_cases m with ⟨hb, eb⟩ | ⟨hb, eb⟩ | ⟨hb, eb⟩
        · rw [eb] at hs'; simp [sgn] at hs'
        · exact hm0 hb
        · rw [eb] at hs'; simp [sgn] at hs'
      by_cases hd : dn m + x ≠ dn n + y
      · rw [if_pos hd]
        have em : val m x = m * p10 (x + 8) := rfl
        have en : val n y = n * p10 (y + 8) := rfl
        rcases sgn_cases m with ⟨ha, ea⟩ | ⟨ha, ea⟩ | ⟨ha, ea⟩
        · have hnn : n < 0 := by
            rcases sgn_cases n with ⟨hb, eb⟩ | ⟨hb, eb⟩ | ⟨hb, eb⟩
            · exact hb
            · exact absurd hb hn0
            · rw [ea, eb] at hs'; simp at hs'
          have e1 : (m.natAbs : Int) * p10 (x + 8) = -(m * p10 (x + 8)) := by rw [show (m.natAbs : Int) = -m from by omega, Int.neg_mul]
          have e2 : (n.natAbs : Int) * p10 (y + 8) = -(n * p10 (y + 8)) := by rw [show (n.natAbs : Int) = -n from by omega, Int.neg_mul]
          rcases Int.lt_or_gt_of_ne hd with h | h
          · have := abs_gt hn hm hn0 hm0 h
            rw [ea, sgn_neg (by omega), sgn_pos (by omega)]; rfl
          · have := abs_gt hm hn hm0 hn0 h
            rw [ea, sgn_pos (by omega), sgn_neg (by omega)]; rfl
        · exact absurd ha hm0
        · have hnn : 0 < n := by
            rcases sgn_cases n with ⟨hb, eb⟩ | ⟨hb, eb⟩ | ⟨hb, eb⟩
            · rw [ea, eb] at hs'; simp at hs'
            · exact absurd hb hn0
            · exact hb
          have e1 : (m.natAbs : Int) = m := by omega
          have e2 : (n.natAbs : Int) = n := by omega
          rcases Int.lt_or_gt_of_ne hd with h | h
          · have := abs_gt hn hm hn0 hm0 h
            rw [e1, e2] at this
            rw [ea, sgn_neg (by omega), sgn_neg (by omega)]; rfl
          · have := abs_gt hm hn hm0 hn0 h
            rw [e1, e2] at this
            rw [ea, sgn_pos (by omega), sgn_pos (by omega)]; rfl
      · rw [if_neg hd]
        by_cases hxy : y ≤ x
        · rw [val_at (m := m) (p := y) hxy (by omega), val, ← Int.sub_mul, sgn_mul (p10_pos _), p10_nonpos (y - x) (by omega), Int.mul_one]
        · rw [val_at (m := n) (p := x) (by omega) (by omega), val, ← Int.sub_mul, sgn_mul (p10_pos _), p10_nonpos (x - y) (by omega), Int.mul_one]
end Go.Proofs.Ytpgpkdeiapeoiaa.Dm
/- Plain mathematics: the text of a decimal. -/
namespace Go.Proofs.Ytpgpkdeiapeoiaa.Tm
def dig (n j : Nat) : UInt8 := UInt8.ofNat (48 + n / 10 ^ j % 10)
/-- the last c figures of a whole number, the greatest first -/
def dstr (n : Nat) : Nat → List UInt8
  | 0 => []
  | c + 1 => dig n c :: dstr n c
/-- a figures, those ahead of the last b -/
def dsl (n b : Nat) : Nat → List UInt8
  | 0 => []
  | a + 1 => dig n (a + b) :: dsl n b a
theorem dstr_len (n c : Nat) : (dstr n c).length = c := by induction c with
  | zero => rfl
  | succ c ih => simp [dstr, ih]
theorem dsl_len (n b a : Nat) : (dsl n b a).length = a := by induction a with
  | zero => rfl
  | succ a ih => simp [dsl, ih]
theorem dstr_add (n b a : Nat) : dstr n (a + b) = dsl n b a ++ dstr n b := by induction a with
  | zero => simp [dsl]
  | succ a ih => rw [Nat.succ_add]; show dig n (a + b) :: dstr n (a + b) = _; rw [ih]; rfl
theorem dig_succ (n c : Nat) : dig n (c + 1) = dig (n / 10) c := by unfold dig; rw [Nat.pow_succ, Nat.mul_comm, ← Nat.div_div_eq_div_mul]
theorem dstr_snoc (n c : Nat) : dstr n (c + 1) = dstr (n / 10) c ++ [dig n 0] := by
  induction c with
  | zero => rfl
  | succ c ih => show dig n (c + 1) :: dstr n (c + 1) = dig (n / 10) c :: dstr (n / 10) c ++ [dig n 0]; rw [ih, dig_succ]; rfl
theorem dig_zero (n : Nat) : dig n 0 = UInt8.ofNat (48 + n % 10) := by simp [dig]
theorem digs_dstr (k : Nat) : ∀ n, Dm.digs k n = dstr n (Dm.digs k n).length := by
  induction k with
  | zero => intro n; rfl
  | succ k ih =>
    intro n
    by_cases h : n < 10
    · have e : Dm.digs (k + 1) n = [UInt8.ofNat (48 + n)] := by rw [Dm.digs, if_pos h]
      rw [e]; show _ = [dig n 0]; rw [dig_zero, Nat.mod_eq_of_lt h]
    · have e : Dm.digs (k + 1) n = Dm.digs k (n / 10) ++ [UInt8.ofNat (48 + n % 10)] := by rw [Dm.digs, if_neg h]
      rw [e, List.length_append, List.length_singleton, dstr_snoc, dig_zero, ← ih]
def nd : Nat → Nat → Nat
  | 0, _ => 0
  | f + 1, n => if n = 0 then 0 else 1 + nd f (n / 10)
theorem nd_zero (f : Nat) : nd f 0 = 0 := by cases f <;> simp [nd]
theorem nd_succ (f n : Nat) (h : n ≠ 0) : nd (f + 1) n = 1 + nd f (n / 10) := by simp [nd, h]
theorem digs_nd (k : Nat) : ∀ n, (Dm.digs (k + 1) n).length = 1 + nd k (n / 10) := by
  induction k with
  | zero => intro n; rw [Dm.digs]; split <;> simp [Dm.digs, nd]
  | succ k ih =>
    intro n
    rw [Dm.digs]
    by_cases h : n < 10
    · rw [if_pos h, show n / 10 = 0 by omega, nd_zero]; rfl
    · rw [if_neg h, List.length_append, List.length_singleton, ih, nd_succ _ _ (by omega)]; omega
def cnt (n : Nat) : Nat := (Dm.digs 9 n).length
theorem cnt_pos (n : Nat) : 1 ≤ cnt n := by unfold cnt; rw [digs_nd]; omega
theorem cnt_le (n : Nat) : cnt n ≤ 9 := Dm.digs_len 9 n
theorem lt_cnt (n : Nat) (h : n ≤ 99999999) : n < 10 ^ cnt n := by
  by_cases h0 : n = 0
  · subst h0; exact Nat.pow_pos (by omega)
  · exact (Dm.digs_log 9 n (by omega) (by omega)).2.2
theorem dig_none {n c : Nat} (h : n < 10 ^ c) : dig n c = 48 := by unfold dig; rw [Nat.div_eq_of_lt h]; rfl
/-- the figure at a place -/
def figAt (n : Nat) (x p : Int) : Int := if p < x then 48 else 48 + ((n / 10 ^ (p - x).toNat % 10 : Nat) : Int)
theorem figAt_bd (n : Nat) (x p : Int) : 48 ≤ figAt n x p ∧ figAt n x p ≤ 57 := by
  unfold figAt; split
  · omega
  · have := Nat.mod_lt (n / 10 ^ (p - x).toNat) (show 10 > 0 by omega); omega
/-- places and their figures, downward from p -/
def fl (n : Nat) (x p : Int) : Nat → List (Int × Int)
  | 0 => []
  | c + 1 => (p, figAt n x p) :: fl n x (p - 1) c
theorem fl_len (n : Nat) (x : Int) (c : Nat) : ∀ p, (fl n x p c).length = c := by induction c with
  | zero => intro p; rfl
  | succ c ih => intro p; simp [fl, ih]
theorem fl_add (n : Nat) (x : Int) (b : Nat) (a : Nat) : ∀ p : Int, fl n x p (a + b) = fl n x p a ++ fl n x (p - a) b := by
  induction a with
  | zero => intro p; simp [fl]
  | succ a ih => intro p; rw [Nat.succ_add]; show (p, figAt n x p) :: fl n x (p - 1) (a + b) = _; rw [ih, show p - 1 - (a : Int) = p - ((a + 1 : Nat) : Int) by omega]; rfl
theorem fl_snoc (n : Nat) (x p : Int) (a : Nat) : fl n x p (a + 1) = fl n x p a ++ [(p - a, figAt n x (p - a))] := by rw [fl_add]; rfl
def one (y : Int × Int) : List UInt8 := (if y.1 = -1 then [46] else []) ++ [UInt8.ofNat y.2.toNat]
def txt (l : List (Int × Int)) : List UInt8 := l.flatMap one
theorem txt_snoc (l : List (Int × Int)) (y : Int × Int) : txt (l ++ [y]) = txt l ++ one y := by simp [txt]
theorem one_fig (n : Nat) (x p : Int) (h : p ≠ -1) (hx : x ≤ p) : one (p, figAt n x p) = [dig n (p - x).toNat] := by
  unfold one figAt dig
  rw [if_neg h, if_neg (by omega)]
  simp only [List.nil_append]
  congr 2
theorem one_nought (n : Nat) (x p : Int) (h : p ≠ -1) (hx : p < x) : one (p, figAt n x p) = [48] := by
  unfold one figAt; rw [if_neg h, if_pos hx]; rfl
theorem one_point (n : Nat) (x : Int) (hx : x ≤ -1) : one (-1, figAt n x (-1)) = [46, dig n (-1 - x).toNat] := by
  unfold one figAt dig
  rw [if_pos rfl, if_neg (by omega)]
  simp only [List.cons_append, List.nil_append]
  congr 3
theorem txt_cons (y : Int × Int) (l : List (Int × Int)) : txt (y :: l) = one y ++ txt l := by simp [txt]
/-- figures ahead of the point -/
theorem txt_ahead (n : Nat) (x : Int) (b : Nat) (a : Nat) : ∀ p : Int, p = (a : Int) + b + x - 1 → 0 ≤ (b : Int) + x → txt (fl n x p a) = dsl n b a := by
  induction a with
  | zero => intro p _ _; rfl
  | succ a ih =>
    intro p hp hb
    show txt ((p, figAt n x p) :: fl n x (p - 1) a) = dig n (a + b) :: dsl n b a
    rw [txt_cons, one_fig n x p (by omega) (by omega), ih (p - 1) (by omega) hb, show (p - x).toNat = a + b by omega]; rfl
theorem txt_noughts (n : Nat) (x : Int) (a : Nat) : ∀ p : Int, p = (a : Int) - 1 → p < x → txt (fl n x p a) = List.replicate a 48 := by
  induction a with
  | zero => intro p _ _; rfl
  | succ a ih =>
    intro p hp hx
    show txt ((p, figAt n x p) :: fl n x (p - 1) a) = _
    rw [txt_cons, one_nought n x p (by omega) hx, ih (p - 1) (by omega) (by omega), List.replicate_succ]; rfl
/-- figures behind the point, the first aside -/
theorem txt_behind (n : Nat) (x : Int) (a : Nat) : ∀ p : Int, p = (a : Int) + x - 1 → p < -1 → txt (fl n x p a) = dstr n a := by
  induction a with
  | zero => intro p _ _; rfl
  | succ a ih =>
    intro p hp hx
    show txt ((p, figAt n x p) :: fl n x (p - 1) a) = dig n a :: dstr n a
    rw [txt_cons, one_fig n x p (by omega) (by omega), ih (p - 1) (by omega) (by omega), show (p - x).toNat = a by omega]; rfl
/-- the text of a number that is not below 0 -/
def body (n : Nat) (x : Int) : List UInt8 :=
  if 0 ≤ x then dstr n (cnt n) ++ List.replicate x.toNat 48
  else dsl n (-x).toNat (max (cnt n) ((-x).toNat + 1) - (-x).toNat) ++ 46 :: dstr n (-x).toNat
def hi (n : Nat) (x : Int) : Int := max (x + cnt n - 1) 0
def lo (x : Int) : Int := min x 0
theorem txt_body (n : Nat) (x : Int) : txt (fl n x (hi n x) (hi n x - lo x + 1).toNat) = body n x := by
  have hc := cnt_pos n
  unfold body
  by_cases h : 0 ≤ x
  · rw [if_pos h]
    have e : (hi n x - lo x + 1).toNat = cnt n + x.toNat := by unfold hi lo; omega
    rw [e, fl_add]
    have e1 : txt (fl n x (hi n x) (cnt n)) = dsl n 0 (cnt n) := txt_ahead n x 0 (cnt n) _ (by unfold hi; omega) (by omega)
    have e2 : txt (fl n x (hi n x - (cnt n : Int)) x.toNat) = List.replicate x.toNat 48 := txt_noughts n x x.toNat _ (by unfold hi; omega) (by unfold hi; omega)
    have e3 := dstr_add n 0 (cnt n)
    simp only [Nat.add_zero, dstr, List.append_nil] at e3
    unfold txt at *
    rw [List.flatMap_append, e1, e2, ← e3]
  · rw [if_neg h]
    obtain ⟨k, hk⟩ : ∃ k : Nat, x = -((k : Int) + 1) := ⟨(-x - 1).toNat, by omega⟩
    have ek : (-x).toNat = k + 1 := by omega
    rw [ek]
    have e : (hi n x - lo x + 1).toNat = (max (cnt n) (k + 1 + 1) - (k + 1)) + (k + 1) := by unfold hi lo; omega
    rw [e, fl_add]
    have e1 : txt (fl n x (hi n x) (max (cnt n) (k + 1 + 1) - (k + 1))) = dsl n (k + 1) (max (cnt n) (k + 1 + 1) - (k + 1)) := txt_ahead n x (k + 1) _ _ (by unfold hi; omega) (by omega)
    have e2 : hi n x - ((max (cnt n) (k + 1 + 1) - (k + 1) : Nat) : Int) = -1 := by unfold hi; omega
    have e3 : txt (fl n x (-1) (k + 1)) = 46 :: dstr n (k + 1) := by
      show txt ((-1, figAt n x (-1)) :: fl n x (-1 - 1) k) = _
      rw [txt_cons, one_point n x (by omega), txt_behind n x k _ (by omega) (by omega), show (-1 - x).toNat = k by omega]; rfl
    unfold txt at *
    rw [List.flatMap_append, e1, e2, e3]
def text (m x : Int) : List UInt8 := (if m < 0 then [45] else []) ++ body m.natAbs x
theorem body_len (n : Nat) (x : Int) (h1 : -8 ≤ x) (h2 : x ≤ 8) : (body n x).length ≤ 40 := by
  have := cnt_le n
  unfold body; split
  · simp [dstr_len]; omega
  · simp [dstr_len, dsl_len]; omega
/-- the same, the figures as bytes -/
def fig8 (n : Nat) (x p : Int) : UInt8 := UInt8.ofNat (figAt n x p).toNat
theorem fig8_val (n : Nat) (x p : Int) : ((fig8 n x p).toNat : Int) = figAt n x p := by
  have := figAt_bd n x p
  unfold fig8; rw [UInt8.toNat_ofNat']; omega
def fl8 (n : Nat) (x p : Int) : Nat → List (Int × UInt8)
  | 0 => []
  | c + 1 => (p, fig8 n x p) :: fl8 n x (p - 1) c
theorem fl8_len (n : Nat) (x : Int) (c : Nat) : ∀ p, (fl8 n x p c).length = c := by induction c with
  | zero => intro p; rfl
  | succ c ih => intro p; simp [fl8, ih]
theorem fl8_snoc (n : Nat) (x : Int) (a : Nat) : ∀ p : Int, fl8 n x p (a + 1) = fl8 n x p a ++ [(p - a, fig8 n x (p - a))] := by
  induction a with
  | zero => intro p; simp [fl8]
  | succ a ih => intro p; show (p, fig8 n x p) :: fl8 n x (p - 1) (a + 1) = _; rw [ih, show p - 1 - (a : Int) = p - ((a + 1 : Nat) : Int) by omega]; rfl
def one8 (y : Int × UInt8) : List UInt8 := (if y.1 = -1 then [46] else []) ++ [y.2]
def txt8 (l : List (Int × UInt8)) : List UInt8 := l.flatMap one8
theorem txt8_snoc (l : List (Int × UInt8)) (y : Int × UInt8) : txt8 (l ++ [y]) = txt8 l ++ one8 y := by simp [txt8]
theorem txt8_eq (n : Nat) (x : Int) (c : Nat) : ∀ p, txt8 (fl8 n x p c) = txt (fl n x p c) := by
  induction c with
  | zero => intro p; rfl
  | succ c ih =>
    intro p
    show one8 (p, fig8 n x p) ++ txt8 (fl8 n x (p - 1) c) = one (p, figAt n x p) ++ txt (fl n x (p - 1) c)
    rw [ih]; rfl
theorem txt8_len (l : List (Int × UInt8)) : (txt8 l).length ≤ 2 * l.length := by
  induction l with
  | nil => simp [txt8]
  | cons y t ih =>
    show (one8 y ++ txt8 t).length ≤ _
    have : (one8 y).length ≤ 2 := by unfold one8; split <;> simp
    rw [List.length_append, List.length_cons]; omega
end Go.Proofs.Ytpgpkdeiapeoiaa.Tm
/- Values as JSON: the mathematics. -/
namespace Go.Proofs.Ytpgpkdeiapeoiaa
open Go.RowKit
/-- a value of which all is right, but for how great it is -/
def FitJ (h : Hd) (F : Vo) : Prop := one h F.len ∧ F.allOne
def nameAt (ns : List ByteArray) (i : Nat) : ByteArray := ns.getD i ⟨#[]⟩
theorem nameAt_some {ns : List ByteArray} {i : Nat} (h : i < ns.length) : ns[i]? = some (nameAt ns i) := by
  unfold nameAt
  rw [List.getElem?_eq_getElem h, List.getD_eq_getElem?_getD, List.getElem?_eq_getElem h]; rfl
/-- one item, with what stands ahead of it -/
def jpiece (step gap : List UInt8) (f : Hd → Vo → List UInt8 → List UInt8) (ob : Bool) (ns : List ByteArray) (F : Vo) (line : List UInt8) (i : Nat) : List UInt8 :=
  (if i = 0 then [] else [44]) ++ ((line ++ step) ++ ((if ob then Qm.jquote (nameAt ns i).data.toList ++ ([58] ++ gap) else []) ++ f (F.hdAt i) (F.kidsAt i) (line ++ step)))
/-- the first n items -/
def jitems (step gap : List UInt8) (f : Hd → Vo → List UInt8 → List UInt8) (ob : Bool) (ns : List ByteArray) (F : Vo) (line : List UInt8) : Nat → List UInt8
  | 0 => []
  | n + 1 => jitems step gap f ob ns F line n ++ jpiece step gap f ob ns F line n
/-- all that stands between the brackets -/
def jinner (step gap : List UInt8) (f : Hd → Vo → List UInt8 → List UInt8) (ob : Bool) (ns : List ByteArray) (F : Vo) (line : List UInt8) : List UInt8 :=
  jitems step gap f ob ns F line F.len ++ (if F.len = 0 then [] else line)
/-- a value that stands in a line that begins so -/
def jtext (step gap : List UInt8) : Nat → Hd → Vo → List UInt8 → List UInt8
  | 0, _, _, _ => []
  | N + 1, h, F, line =>
    if h.k = 0 then [110, 117, 108, 108] else if h.k = 1 then [116, 114, 117, 101] else if h.k = 2 then [102, 97, 108, 115, 101] else
    if h.k = 3 then Tm.text h.m h.e else if h.k = 4 then Qm.jquote h.t.data.toList else
    if h.k = 5 then [91] ++ (jinner step gap (jtext step gap N) false [] F line ++ [93]) else [123] ++ (jinner step gap (jtext step gap N) true h.ns F line ++ [125])
theorem alikeJ_at : ∀ {F G : Vo} (i : Nat), F.alike G → (F.hdAt i).same (G.hdAt i) ∧ (F.kidsAt i).alike (G.kidsAt i) := by
  intro F
  induction F with
  | nil => intro G i h; cases G with
    | nil => exact ⟨Hd.same_refl _, trivial⟩
    | cons => exact h.elim
  | cons h a c kids next _ ih =>
    intro G i x
    cases G with
    | nil => exact x.elim
    | cons h' a' c' kids' next' =>
      cases i with
      | zero => exact ⟨x.1, x.2.1⟩
      | succ i => exact ih i x.2.2
theorem jitems_alike {step gap : List UInt8} {f : Hd → Vo → List UInt8 → List UInt8} (hf : ∀ {h h' : Hd} {F F' : Vo} (l : List UInt8), h.same h' → F.alike F' → f h F l = f h' F' l) (ob : Bool) (ns : List ByteArray) {F F' : Vo} (line : List UInt8) (hF : F.alike F') : ∀ n, jitems step gap f ob ns F line n = jitems step gap f ob ns F' line n := by
  intro n
  induction n with
  | zero => rfl
  | succ n ih =>
    show jitems step gap f ob ns F line n ++ jpiece step gap f ob ns F line n = jitems step gap f ob ns F' line n ++ jpiece step gap f ob ns F' line n
    unfold jpiece
    rw [ih, hf (line ++ step) (alikeJ_at n hF).1 (alikeJ_at n hF).2]
theorem jtext_alike (step gap : List UInt8) : ∀ (N : Nat) {h h' : Hd} {F F' : Vo} (l : List UInt8), h.same h' → F.alike F' → jtext step gap N h F l = jtext step gap N h' F' l := by
  intro N
  induction N with
  | zero => intros; rfl
  | succ N ih =>
    intro h h' F F' l x y
    obtain ⟨⟨a, b, c, d⟩, e⟩ := x
    have hin : ∀ ob ns, jinner step gap (jtext step gap N) ob ns F l = jinner step gap (jtext step gap N) ob ns F' l := fun ob ns => by
      unfold jinner
      rw [jitems_alike ih ob ns l y, Vo.alike_len y]
    unfold jtext
    rw [a, b, c, d, e, hin, hin]
theorem fitJ_at : ∀ {F : Vo} {i : Nat}, i < F.len → F.allOne → FitJ (F.hdAt i) (F.kidsAt i) := by
  intro F
  induction F with
  | nil => intro i h; exact absurd h (Nat.not_lt_zero _)
  | cons h a c kids next _ ih =>
    rintro i hi ⟨h1, h2, h3⟩
    cases i with
    | zero => exact ⟨h1, h2⟩
    | succ i => exact ih (show i < next.len from Nat.lt_of_succ_lt_succ hi) h3
theorem name_short {s : ByteArray} (h : Qm.name s = true) : s.size ≤ 12 := by
  unfold Qm.name at h
  simp only [Bool.and_eq_true, decide_eq_true_eq] at h
  exact h.1.2.2
theorem asc_short {ns : List ByteArray} (h : nmAsc ns ns.length) (i : Nat) : (nameAt ns i).size ≤ 12 := by
  by_cases hi : i < ns.length
  · exact name_short (h i _ hi (nameAt_some hi)).1
  · unfold nameAt
    rw [List.getD_eq_getElem?_getD, List.getElem?_eq_none (by omega)]
    show 0 ≤ 12
    omega
theorem oneJ {h : Hd} {n : Nat} (x : one h n) : (0 ≤ h.k ∧ h.k ≤ 6) ∧ (h.k = 3 → Dm.ok h.m h.e = true) ∧ (h.k = 4 → h.t.size ≤ 1500) ∧ (h.k = 6 → h.ns.length = n ∧ nmAsc h.ns h.ns.length) ∧ (h.k ≤ 4 → n = 0) := by
  rcases x with ⟨h1, _, h2⟩ | ⟨h1, h2, _, h3⟩ | ⟨h1, h2, _, h3⟩ | ⟨h1, _⟩ | ⟨h1, h2, _⟩
  · exact ⟨by omega, fun _ => by omega, fun _ => by omega, fun _ => by omega, fun _ => h2⟩
  · exact ⟨by omega, fun _ => h2, fun _ => by omega, fun _ => by omega, fun _ => h3⟩
  · exact ⟨by omega, fun _ => by omega, fun _ => h2, fun _ => by omega, fun _ => h3⟩
  · exact ⟨by omega, fun _ => by omega, fun _ => by omega, fun _ => by omega, fun _ => by omega⟩
  · exact ⟨by omega, fun _ => by omega, fun _ => by omega, fun _ => h2, fun _ => by omega⟩
/-- so many values are in the first n -/
def Vo.sumJ (F : Vo) : Nat → Nat
  | 0 => 0
  | n + 1 => F.sumJ n + ((F.kidsAt n).size + 1)
theorem sumJ_next (h : Hd) (a : Option Addr) (c : Nat) (kids next : Vo) (n : Nat) : (Vo.cons h a c kids next).sumJ (n + 1) = kids.size + 1 + next.sumJ n := by
  induction n with
  | zero => show 0 + (kids.size + 1) = kids.size + 1 + 0; omega
  | succ n ih => show (Vo.cons h a c kids next).sumJ (n + 1) + ((next.kidsAt n).size + 1) = kids.size + 1 + (next.sumJ n + ((next.kidsAt n).size + 1)); rw [ih]; omega
theorem sumJ_len (F : Vo) : F.sumJ F.len = F.size := by
  induction F with
  | nil => rfl
  | cons h a c kids next _ ih => show (Vo.cons h a c kids next).sumJ (next.len + 1) = kids.size + 1 + next.size; rw [sumJ_next, ih]
theorem sumJ_le (F : Vo) {i n : Nat} (h : i ≤ n) : F.sumJ i ≤ F.sumJ n := by
  induction n with
  | zero => rw [Nat.le_zero.1 h]; exact Nat.le_refl _
  | succ n ih =>
    by_cases e : i = n + 1
    · rw [e]; exact Nat.le_refl _
    · exact Nat.le_trans (ih (by omega)) (by show F.sumJ n ≤ F.sumJ n + _; omega)
/-- how long a value's text is at most -/
theorem jitems_len {step gap : List UInt8} (hs : step.length ≤ 2) (hg : gap.length ≤ 2) {f : Hd → Vo → List UInt8 → List UInt8} {F : Vo} {line : List UInt8} (hl : line.length ≤ 1000)
    (hf : ∀ i, i < F.len → (f (F.hdAt i) (F.kidsAt i) (line ++ step)).length ≤ 13000 * (F.kidsAt i).size + 11000) (ob : Bool) {ns : List ByteArray} (hns : ob = true → ∀ i, (nameAt ns i).size ≤ 12) :
    ∀ n, n ≤ F.len → (jitems step gap f ob ns F line n).length ≤ 13000 * F.sumJ n := by
  intro n
  induction n with
  | zero => intro _; exact Nat.zero_le _
  | succ n ih =>
    intro hn
    have h1 := ih (by omega)
    have h2 := hf n (by omega)
    have e1 : (if n = 0 then ([] : List UInt8) else [44]).length ≤ 1 := by split <;> simp
    have e2 : (if ob then Qm.jquote (nameAt ns n).data.toList ++ ([58] ++ gap) else []).length ≤ 80 := by
      cases ob
      · simp
      · have h3 := hns rfl n
        have h4 := Qm.jquote_length (nameAt ns n).data.toList
        rw [Qm.len_eq] at h4
        simp only [if_true, List.length_append, List.length_cons, List.length_nil]
        omega
    have e3 : (jpiece step gap f ob ns F line n).length ≤ 1 + (1002 + (80 + (13000 * (F.kidsAt n).size + 11000))) := by
      unfold jpiece
      rw [List.length_append, List.length_append, List.length_append, List.length_append]
      omega
    show (jitems step gap f ob ns F line n ++ jpiece step gap f ob ns F line n).length ≤ 13000 * (F.sumJ n + ((F.kidsAt n).size + 1))
    rw [List.length_append]
    omega
theorem jtext_len {step gap : List UInt8} (hs : step.length ≤ 2) (hg : gap.length ≤ 2) : ∀ (N : Nat) (h : Hd) (F : Vo) (line : List UInt8), line.length + 2 * N ≤ 1000 → FitJ h F → (jtext step gap N h F line).length ≤ 13000 * F.size + 11000 := by
  intro N
  induction N with
  | zero => intro h F line _ _; exact Nat.zero_le _
  | succ N ih =>
    intro h F line hl hfit
    obtain ⟨⟨k0, k6⟩, k3, k4, k66, _⟩ := oneJ hfit.1
    have hin : ∀ ob ns, (ob = true → ∀ i, (nameAt ns i).size ≤ 12) → (jinner step gap (jtext step gap N) ob ns F line).length ≤ 13000 * F.size + 1000 := fun ob ns hn => by
      unfold jinner
      rw [List.length_append]
      have h1 := jitems_len hs hg (f := jtext step gap N) (F := F) (line := line) (by omega) (fun i hi => ih _ _ _ (by rw [List.length_append]; omega) (fitJ_at hi hfit.2)) ob hn F.len (Nat.le_refl _)
      rw [sumJ_len] at h1
      have h2 : (if F.len = 0 then ([] : List UInt8) else line).length ≤ 1000 := by
        split
        · exact Nat.zero_le _
        · omega
      omega
    unfold jtext
    by_cases c0 : h.k = 0
    · rw [if_pos c0]; simp only [List.length_cons, List.length_nil]; omega
    rw [if_neg c0]
    by_cases c1 : h.k = 1
    · rw [if_pos c1]; simp only [List.length_cons, List.length_nil]; omega
    rw [if_neg c1]
    by_cases c2 : h.k = 2
    · rw [if_pos c2]; simp only [List.length_cons, List.length_nil]; omega
    rw [if_neg c2]
    by_cases c3 : h.k = 3
    · rw [if_pos c3]
      have ho := (Dm.ok_iff h.m h.e).1 (k3 c3)
      have hb : (Tm.body h.m.natAbs h.e).length ≤ 40 := Tm.body_len _ _ (by omega) (by omega)
      have : (Tm.text h.m h.e).length ≤ 41 := by
        unfold Tm.text
        rw [List.length_append]
        have : (if h.m < 0 then ([45] : List UInt8) else []).length ≤ 1 := by split <;> simp
        omega
      omega
    rw [if_neg c3]
    by_cases c4 : h.k = 4
    · rw [if_pos c4]
      have h1 := Qm.jquote_length h.t.data.toList
      rw [Qm.len_eq] at h1
      have := k4 c4
      omega
    rw [if_neg c4]
    by_cases c5 : h.k = 5
    · rw [if_pos c5]
      have := hin false [] (fun e => by cases e)
      simp only [List.length_append, List.length_cons, List.length_nil]
      omega
    rw [if_neg c5]
    have := hin true h.ns (fun _ i => asc_short (k66 (by omega)).2 i)
    simp only [List.length_append, List.length_cons, List.length_nil]
    omega
end Go.Proofs.Ytpgpkdeiapeoiaa
/- Contracts: l1New, stripped, DecNew of both sides. -/
namespace Go.Proofs.Ytpgpkdeiapeoiaa
open Go.RowKit

/-- the two cells of a decimal that lies in block b, and that they may be written -/
def Two (w : World) (b : Nat) (m e : Int) : Prop :=
  w.cell? ⟨b, 0, none⟩ = some (.int .i64 m) ∧ w.cell? ⟨b, 1, none⟩ = some (.int .i64 e) ∧ w.frozen? ⟨b, 0, none⟩ = false ∧ w.frozen? ⟨b, 1, none⟩ = false
theorem Two.new (w : World) (m e : Int) (T : TypeId) : Two (w.alloc (.cells #[.int .i64 m, .int .i64 e] T)) w.heap.size m e := ⟨by simp, by simp, by simp, by simp⟩
theorem Two.below {w w' : World} {B b : Nat} {m e : Int} (h : Two w b m e) (hb : Below B w w') (hB : b < B) : Two w' b m e :=
  ⟨(hb.cell (p := ⟨b, 0, none⟩) hB).trans h.1, (hb.cell (p := ⟨b, 1, none⟩) hB).trans h.2.1, (hb.frozen (p := ⟨b, 0, none⟩) hB).trans h.2.2.1, (hb.frozen (p := ⟨b, 1, none⟩) hB).trans h.2.2.2⟩
theorem Two.alloc {w : World} {b : Nat} {m e : Int} (h : Two w b m e) (hb : b < w.heap.size) (o : Obj) : Two (w.alloc o) b m e :=
  h.below (((Below.refl w.heap.size w).alloc (Nat.le_refl _) o)) hb
/-- a decimal and a truth, as a call hands them back -/
abbrev dec3 (r : Int × Int × Bool) : Ending := .returned (.tuple #[.agg #[.int .i64 r.1, .int .i64 r.2.1], .bool r.2.2])

end Go.Proofs.Ytpgpkdeiapeoiaa
