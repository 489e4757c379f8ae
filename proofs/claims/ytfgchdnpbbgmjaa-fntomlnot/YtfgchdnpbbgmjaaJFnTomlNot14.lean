/- My own texts, joined: Xe Xf Xh Xi Ia Qq Jq. -/
import Derived.Test.YtfgchdnpbbgmjaaJFnTomlNot4
import Derived.Test.YtfgchdnpbbgmjaaJFnTomlNot13
import Derived.Deep.WholeRow
/- The iterator over a value and all in it. -/
namespace Go.Proofs.Ytfgchdnpbbgmjaa
open Go.RowKit Go.Shelf
attribute [local go_sem] Oper.semAt_some
/-- the values of a list and all in them, each ahead of those in it, with how deep it stands -/
def Vo.flat : Vo → Nat → List (Nat × Hd × Vo)
  | .nil, _ => []
  | .cons h _ _ kids next, d => (d, h, kids) :: (kids.flat (d + 1) ++ next.flat d)
theorem Vo.flat_len : ∀ (F : Vo) (d : Nat), (F.flat d).length = F.size := by
  intro F
  induction F with
  | nil => intro d; rfl
  | cons h a c kids next ih1 ih2 => intro d; show ((d, h, kids) :: (kids.flat (d + 1) ++ next.flat d)).length = kids.size + 1 + next.size; simp [ih1, ih2]; omega
theorem SFrom.sub {w w' : World} (h : Sub w w') : ∀ {ss : List ByteArray} {b o : Nat}, SFrom w ss b o → SFrom w' ss b o := by
  intro ss
  induction ss with
  | nil => intro b o _; trivial
  | cons s t ih => rintro b o ⟨h1, h2, h3⟩; exact ⟨h _ _ _ h1, h2, ih h3⟩
theorem Hd.In.sub {w w' : World} {x : Hd} (y : x.In w) (h : Sub w w') : x.In w' := by
  refine ⟨?_, y.2⟩
  rcases y.1 with y | ⟨b, o, e, y⟩
  · exact .inl y
  · exact .inr ⟨b, o, e, y.sub h⟩
/-- a value that is told, with how deep it stands; what is in it lies in the world w -/
structure TV (w : World) where
  d : Nat
  h : Hd
  a : Option Addr
  kids : Vo
  c : Nat
  hin : kids.In w a
  hl : kids.len ≤ c
  hc : c ≤ maxLen
  hh : h.In w
def TV.raw {w : World} (x : TV w) : Nat × Hd × Vo := (x.d, x.h, x.kids)
def TV.enc {w : World} (x : TV w) : Array Value := #[.int .i64 x.d, .agg #[.int .i64 x.h.k, .int .i64 x.h.m, .int .i64 x.h.e, .string x.h.t, .slice x.a x.kids.len x.c, .slice x.h.na x.h.ns.length x.h.nc]]
set_option maxRecDepth 100000 in
set_option maxHeartbeats 2000000 in
theorem tellV_in (w0 : World) (l n0 n1 N B : Nat) (J Jx : List (TV w0) → World → Prop) (hJ : AbidesFrom B J) (hn0 : w0.heap.size ≤ n0)
    (hY : ∀ (q : Nat) (pre : List (TV w0)) (x : TV w0) (W : World), J pre W → pre.length < N → YieldAt Fence.wide q Try.prog l x.enc W fun e W' =>
      (e = .returned (.bool true) ∧ J (pre ++ [x]) W' ∧ Kept n0 n1 W W') ∨ (e = .returned (.bool false) ∧ Jx (pre ++ [x]) W')) (M : Nat) :
    ∀ (n : Nat) (x : TV w0) (pre : List (TV w0)) (W : World), x.kids.size < M → x.d + x.kids.size ≤ 1000000000 → n1 ≤ W.heap.size → Sub w0 W → J pre W → pre.length + (x.kids.size + 1) ≤ N →
      CallsIn Fence.wide n Try.prog 85 #[.agg #[.int .i64 x.h.k, .int .i64 x.h.m, .int .i64 x.h.e, .string x.h.t, .slice x.a x.kids.len x.c, .slice x.h.na x.h.ns.length x.h.nc], .int .i64 x.d, .func (.yield l) #[] #[]] W fun e W' =>
        (e = .returned (.bool true) ∧ (∃ ys : List (TV w0), ys.map TV.raw = x.raw :: x.kids.flat (x.d + 1) ∧ J (pre ++ ys) W') ∧ Kept n0 n1 W W') ∨
        (e = .returned (.bool false) ∧ ∃ ys : List (TV w0), ys.map TV.raw <+: (x.raw :: x.kids.flat (x.d + 1)) ∧ Jx (pre ++ ys) W') := by
  induction M with
  | zero => intro n x pre W h; omega
  | succ M ih =>
    intro n x pre W hM hd hn1 hsub hJ0 hN
    have hcc := x.hc
    unfold maxLen at hcc
    have hlc := x.hl
    have hll := x.kids.len_le
    have hin := x.hin
    have hsz1 : W.heap.size < (W.alloc (.cells #[.int .i64 x.h.k, .int .i64 x.h.m, .int .i64 x.h.e, .string x.h.t, .slice x.a x.kids.len x.c, .slice x.h.na x.h.ns.length x.h.nc] 28)).heap.size := by simp
    have hb0 : Below W.heap.size W (W.alloc (.cells #[.int .i64 x.h.k, .int .i64 x.h.m, .int .i64 x.h.e, .string x.h.t, .slice x.a x.kids.len x.c, .slice x.h.na x.h.ns.length x.h.nc] 28)) := (Below.refl _ W).alloc (Nat.le_refl _) _
    have hJ1 := hJ _ _ _ none hJ0 (grown_below hb0) (fun r e => by cases e)
    obtain ⟨fn, tmps, assign, body, hy, hR⟩ := hY (n - 1) pre x _ hJ1 (by omega)
    dsimp only [TV.enc] at hy
    refine callsIn_of_wp Try.func85 rfl trivial ?_ rfl
    simp only [Try.ntmps85, List.size_toArray, List.length_cons, List.length_nil, Nat.reduceAdd, Nat.reduceSub, Array.replicate_succ, Array.replicate_zero, List.push_toArray, List.append_toArray, List.nil_append, List.cons_append]
    gi_wp2
    refine ⟨fun h => (by cases h), hR.mono ?_⟩
    clear hR hy
    have c0 : (W.alloc (.cells #[.int .i64 x.h.k, .int .i64 x.h.m, .int .i64 x.h.e, .string x.h.t, .slice x.a x.kids.len x.c, .slice x.h.na x.h.ns.length x.h.nc] 28)).cell? ⟨W.heap.size, 0, none⟩ = some (.int .i64 x.h.k) := by simp
    have c1 : (W.alloc (.cells #[.int .i64 x.h.k, .int .i64 x.h.m, .int .i64 x.h.e, .string x.h.t, .slice x.a x.kids.len x.c, .slice x.h.na x.h.ns.length x.h.nc] 28)).cell? ⟨W.heap.size, 1, none⟩ = some (.int .i64 x.h.m) := by simp
    have c2 : (W.alloc (.cells #[.int .i64 x.h.k, .int .i64 x.h.m, .int .i64 x.h.e, .string x.h.t, .slice x.a x.kids.len x.c, .slice x.h.na x.h.ns.length x.h.nc] 28)).cell? ⟨W.heap.size, 2, none⟩ = some (.int .i64 x.h.e) := by simp
    have c3 : (W.alloc (.cells #[.int .i64 x.h.k, .int .i64 x.h.m, .int .i64 x.h.e, .string x.h.t, .slice x.a x.kids.len x.c, .slice x.h.na x.h.ns.length x.h.nc] 28)).cell? ⟨W.heap.size, 3, none⟩ = some (.string x.h.t) := by simp
    have c4 : (W.alloc (.cells #[.int .i64 x.h.k, .int .i64 x.h.m, .int .i64 x.h.e, .string x.h.t, .slice x.a x.kids.len x.c, .slice x.h.na x.h.ns.length x.h.nc] 28)).cell? ⟨W.heap.size, 4, none⟩ = some (.slice x.a x.kids.len x.c) := by simp
    have c5 : (W.alloc (.cells #[.int .i64 x.h.k, .int .i64 x.h.m, .int .i64 x.h.e, .string x.h.t, .slice x.a x.kids.len x.c, .slice x.h.na x.h.ns.length x.h.nc] 28)).cell? ⟨W.heap.size, 5, none⟩ = some (.slice x.h.na x.h.ns.length x.h.nc) := by simp
    generalize W.alloc (.cells #[.int .i64 x.h.k, .int .i64 x.h.m, .int .i64 x.h.e, .string x.h.t, .slice x.a x.kids.len x.c, .slice x.h.na x.h.ns.length x.h.nc] 28) = W1 at *
    rintro r W2 (⟨rfl, hJ2, hk2⟩ | ⟨rfl, hx2⟩)
    · have d0 := hk2.cell c0 (.inr hn1)
      have d1 := hk2.cell c1 (.inr hn1)
      have d2 := hk2.cell c2 (.inr hn1)
      have d3 := hk2.cell c3 (.inr hn1)
      have d4 := hk2.cell c4 (.inr hn1)
      have d5 := hk2.cell c5 (.inr hn1)
      have K2 : Kept n0 n1 W W2 := (Kept.of_below hb0).trans hk2
      clear c0 c1 c2 c3 c4 c5 hJ1 hk2 hb0 hsz1 hJ0
      have hmeth := belowV_method
      gi_wp2
      refine ⟨trivial, fun h => (by cases h), (callsIn_wide.2 (belowV_any _ _ _ _ _)).mono ?_⟩
      rintro r W3 ⟨rfl, hb3⟩
      have hJ3 := hJ _ _ _ none hJ2 (grown_below hb3) (fun r e => by cases e)
      have K3 : Kept n0 n1 W W3 := K2.trans (Kept.of_below hb3)
      clear d0 d1 d2 d3 d4 d5 hb3 hJ2 K2 hmeth
      gi_wp2
      gi_loopw [18] (fun i wr => ∃ (j : Nat) (ys : List (TV w0)) (G : Vo), i = .int .i64 j ∧ j + G.len = x.kids.len ∧ G.size ≤ x.kids.size ∧ ys.map TV.raw ++ G.flat (x.d + 1) = x.raw :: x.kids.flat (x.d + 1) ∧ (G = .nil ∨ ∃ b o, x.a = some ⟨b, o, none⟩ ∧ G.From w0 b (o + j * 6)) ∧ J (pre ++ ys) wr ∧ Kept n0 n1 W wr) (fun i _ => x.kids.len - (intOf i).toNat)
      case atStart =>
        refine ⟨0, [x], x.kids, rfl, by omega, Nat.le_refl _, rfl, ?_, hJ3, K3⟩
        rcases hin with h | ⟨b, o, e1, e2⟩
        · exact .inl h
        · exact .inr ⟨b, o, e1, by simpa using e2⟩
      case round =>
        obtain ⟨j, ys, G, rfl, hj, hs, hflat, hG, hJs, hK⟩ := hrel
        cases G with
        | nil =>
          have hj' : j = x.kids.len := by simpa [Vo.len] using hj
          have hf' : ys.map TV.raw = x.raw :: x.kids.flat (x.d + 1) := by simpa [Vo.flat] using hflat
          have hlt : ¬ (j : Int) < (x.kids.len : Int) := by omega
          clear hG hj hflat
          gi_wp2
          refine bodyPost_ret (results_tmp rfl _ _ _) rfl (.inl ⟨rfl, ⟨ys, hf', hJs⟩, hK⟩)
        | cons h' a' c' kids next =>
          rcases hG with hG | ⟨b, o, ha, hcells, hk, ⟨hc1, hc2⟩, hh', hn⟩
          · cases hG
          have hln : j + (next.len + 1) = x.kids.len := hj
          have hsz : kids.size + 1 + next.size ≤ x.kids.size := hs
          have hlt : (j : Int) < (x.kids.len : Int) := by omega
          have hjl : j < x.kids.len := by omega
          have hyl : ys.length + (kids.size + 1 + next.size) = 1 + x.kids.size := by
            have := congrArg List.length hflat
            simp [Vo.flat_len] at this
            have h2 : (Vo.cons h' a' c' kids next).size = kids.size + 1 + next.size := rfl
            omega
          have hsubw : Sub w0 wr := hK.sub hsub hn0
          obtain ⟨h1, h2, h3, h4, h5, h6⟩ := hcells
          have g1 := hsubw _ _ _ h1
          have g2 := hsubw _ _ _ h2
          have g3 := hsubw _ _ _ h3
          have g4 := hsubw _ _ _ h4
          have g5 := hsubw _ _ _ h5
          have g6 := hsubw _ _ _ h6
          rw [ha] at *
          clear h1 h2 h3 h4 h5 h6 hj hs
          have hbA : Below wr.heap.size wr (wr.alloc (.cells #[.int .i64 h'.k, .int .i64 h'.m, .int .i64 h'.e, .string h'.t, .slice a' kids.len c', .slice h'.na h'.ns.length h'.nc] 28)) := (Below.refl _ wr).alloc (Nat.le_refl _) _
          have KA : Kept n0 n1 wr _ := Kept.of_below hbA
          have HI := ih (n - 1) ⟨x.d + 1, h', a', kids, c', hk, hc1, hc2, hh'⟩ (pre ++ ys) (wr.alloc (.cells #[.int .i64 h'.k, .int .i64 h'.m, .int .i64 h'.e, .string h'.t, .slice a' kids.len c', .slice h'.na h'.ns.length h'.nc] 28))
            (by show kids.size < M; omega) (by show x.d + 1 + kids.size ≤ 1000000000; omega) (by have := hK.1; simp; omega) (KA.sub hsubw hn0) (hJ _ _ _ none hJs (grown_below hbA) (fun r e => by cases e)) (by show (pre ++ ys).length + (kids.size + 1) ≤ N; rw [List.length_append]; omega)
          have hfl : ys.map TV.raw ++ ((x.d + 1, h', kids) :: (kids.flat (x.d + 1 + 1) ++ next.flat (x.d + 1))) = x.raw :: x.kids.flat (x.d + 1) := hflat
          gi_wp2
          refine ⟨trivial, fun h => (by cases h), HI.mono ?_⟩
          clear HI ih hflat g1 g2 g3 g4 g5 g6
          rintro r W4 (⟨rfl, ⟨zs, hz, hJz⟩, hKz⟩ | ⟨rfl, zs, hz, hxz⟩)
          · have hK4 : Kept n0 n1 W W4 := (hK.trans KA).trans hKz
            have hJ4 : J (pre ++ (ys ++ zs)) W4 := by rw [← List.append_assoc]; exact hJz
            have hf4 : (ys ++ zs).map TV.raw ++ next.flat (x.d + 1) = x.raw :: x.kids.flat (x.d + 1) := by
              rw [← hfl, List.map_append, hz]; simp [TV.raw]
            clear hJs hK KA hKz hJz hfl hz hsubw hbA
            gi_wp2
            go_roundw
            case rel =>
              refine ⟨j + 1, ys ++ zs, next, by go_num, by omega, by omega, hf4, .inr ⟨b, o, rfl, ?_⟩, hJ4, hK4⟩
              rw [show o + (j + 1) * 6 = o + j * 6 + 6 by omega]; exact hn
            case measure => simp [intOf]; omega
          · have hx4 : Jx (pre ++ (ys ++ zs)) W4 := by rw [← List.append_assoc]; exact hxz
            have hf4 : (ys ++ zs).map TV.raw <+: (x.raw :: x.kids.flat (x.d + 1)) := by
              obtain ⟨tl, htl⟩ := hz
              refine ⟨tl ++ next.flat (x.d + 1), ?_⟩
              rw [← hfl, List.map_append, List.append_assoc, ← List.append_assoc (zs.map TV.raw), htl]; simp [TV.raw]
            clear hJs hK KA hxz hfl hz hsubw hbA
            gi_wp2
            refine bodyPost_ret (results_tmp rfl _ _ _) rfl (.inr ⟨rfl, ys ++ zs, hf4, hx4⟩)
    · gi_wp2
      refine bodyPost_ret (results_tmp rfl _ _ _) rfl (.inr ⟨rfl, [x], ?_, hx2⟩)
      exact ⟨x.kids.flat (x.d + 1), rfl⟩

set_option maxHeartbeats 1000000 in
/-- the function that allOf hands back tells the value and all in it -/
theorem allV_stops (w0 : World) (n n0 n1 Bt : Nat) (x : TV w0) (w : World) (hd : x.d = 1) (hx : x.kids.size ≤ 2000000) (hn0 : w0.heap.size ≤ n0) (hn1 : n1 ≤ w.heap.size) (hsub : Sub w0 w)
    (c0 : w.cell? ⟨Bt, 0, none⟩ = some (.int .i64 x.h.k)) (c1 : w.cell? ⟨Bt, 1, none⟩ = some (.int .i64 x.h.m)) (c2 : w.cell? ⟨Bt, 2, none⟩ = some (.int .i64 x.h.e)) (c3 : w.cell? ⟨Bt, 3, none⟩ = some (.string x.h.t)) (c4 : w.cell? ⟨Bt, 4, none⟩ = some (.slice x.a x.kids.len x.c)) (c5 : w.cell? ⟨Bt, 5, none⟩ = some (.slice x.h.na x.h.ns.length x.h.nc)) :
    SeqStopsK Fence.wide n Try.prog 84 #[.pointer (some ⟨Bt, 0, none⟩)] (fun y : TV w0 => y.enc) (Kept n0 n1) (fun ys => ys.map TV.raw = x.raw :: x.kids.flat 2) (fun ys => ys.map TV.raw <+: (x.raw :: x.kids.flat 2)) (x.kids.size + 1) w := fun l J Jx W hW hJ hJx hY h0 => by
  have hB := World.block_lt_of_cell? w _ c0
  have C0 := (hW.cell (p := ⟨Bt, 0, none⟩) hB).trans c0
  have C1 := (hW.cell (p := ⟨Bt, 1, none⟩) hB).trans c1
  have C2 := (hW.cell (p := ⟨Bt, 2, none⟩) hB).trans c2
  have C3 := (hW.cell (p := ⟨Bt, 3, none⟩) hB).trans c3
  have C4 := (hW.cell (p := ⟨Bt, 4, none⟩) hB).trans c4
  have C5 := (hW.cell (p := ⟨Bt, 5, none⟩) hB).trans c5
  have hs := hW.size
  have HT := tellV_in w0 l n0 n1 (x.kids.size + 1) _ J Jx hJ hn0 (fun q pre y W1 h1 h2 => yieldAt_any rfl q (hY pre y W1 h1 h2)) (x.kids.size + 1) (n - 1) x [] W (by omega) (by omega) (by omega) (fun b o v hv => (hW.cell (p := ⟨b, o, none⟩) (World.block_lt_of_cell? _ _ (hsub b o v hv))).trans (hsub b o v hv)) h0 (by simp)
  rw [hd] at HT
  clear c0 c1 c2 c3 c4 c5 hY
  refine callsIn_of_wp Try.func84 rfl trivial ?_ rfl
  simp only [Try.ntmps84, List.size_toArray, List.length_cons, List.length_nil, Nat.reduceAdd, Nat.reduceSub, Array.replicate_succ, Array.replicate_zero, List.push_toArray, List.append_toArray, List.nil_append, List.cons_append]
  gi_wp2
  refine ⟨trivial, fun h => (by cases h), HT.mono ?_⟩
  clear HT
  rintro r W1 (⟨rfl, ⟨ys, hz, hJz⟩, _⟩ | ⟨rfl, ys, hz, hxz⟩)
  · gi_wp2
    go_end0
    exact ⟨⟨_, rfl⟩, .inl ⟨ys, hz, by simpa using hJz⟩⟩
  · gi_wp2
    go_end0
    exact ⟨⟨_, rfl⟩, .inr ⟨ys, hz, by simpa using hxz⟩⟩

set_option maxHeartbeats 400000 in
theorem allOfV_any (h : Hd) (a : Option Addr) (n c : Nat) (w : World) :
    Calls Try.prog 64 #[valV h a n c] w fun r w' => r = .returned (.func (.func 84) #[] #[.pointer (some ⟨w.heap.size, 0, none⟩)]) ∧ w' = w.alloc (.cells #[.int .i64 h.k, .int .i64 h.m, .int .i64 h.e, .string h.t, .slice a n c, .slice h.na h.ns.length h.nc] 28) := by
  go_enter Try.func64, Try.ntmps64
  go_wp2_with fail
  go_ret
  exact ⟨rfl, rfl⟩
end Go.Proofs.Ytfgchdnpbbgmjaa
/- Contract: ValueOk of the program. -/
namespace Go.Proofs.Ytfgchdnpbbgmjaa
open Go.RowKit Go.Shelf
attribute [local go_sem] Oper.semAt_some cell_alloc_is frozen_alloc_is
/-- all in a list so far are as they are to be -/
def GoodV {w : World} (pre : List (TV w)) : Prop := pre.length ≤ 200 ∧ ∀ x ∈ pre, x.d ≤ 20 ∧ one x.h x.kids.len
theorem own_blockV {B : Nat} {W W' : World} {row : Option Nat} (hg : W.grownBy W' row) (hr : ∀ r, row = some r → B ≤ r ∧ ∃ o : Obj, W.heap[r]? = some o ∧ o.isCells = false) {j : Nat} {o : Obj} (hj : W.heap[j]? = some o) (h : j < B ∨ o.isCells = true) : W'.heap[j]? = some o := by
  refine (hg.block j (Array.getElem?_eq_some_iff.1 hj).1 ?_).trans hj
  intro e
  obtain ⟨h1, o', h2, h3⟩ := hr j e.symm
  rcases h with h | h
  · omega
  · rw [hj] at h2; cases h2; rw [h] at h3; cases h3
/-- a value and all in it, at most 200, none deeper than 20, each with just what its kind has -/
def ValGood (h : Hd) (F : Vo) : Prop := ((1, h, F) :: F.flat 2).length ≤ 200 ∧ ∀ x ∈ ((1, h, F) :: F.flat 2), x.1 ≤ 20 ∧ one x.2.1 x.2.2.len
set_option maxRecDepth 100000 in
set_option maxHeartbeats 2000000 in
theorem iValueOk_any (h : Hd) (a : Option Addr) (c : Nat) (F : Vo) (w : World) (hF : F.size ≤ 2000000) (hin : F.In w a) (hl : F.len ≤ c) (hc : c ≤ maxLen) (hh : h.In w) :
    Calls Try.prog 33 #[valV h a F.len c] w fun r w' => SaysT (ValGood h F) r ∧ Below w.heap.size w w' := by
  refine (callsIn_wide (n := 5)).1 ?_
  refine callsIn_of_wp_marks Try.func33 rfl trivial ?_ rfl
  simp only [Try.ntmps33, List.size_toArray, List.length_cons, List.length_nil, Nat.reduceAdd, Nat.reduceSub, Array.replicate_succ, Array.replicate_zero, List.push_toArray, List.append_toArray, List.nil_append, List.cons_append]
  gi_wp2_with fail
  refine ⟨trivial, (callsIn_wide.2 (allOfV_any h a F.len c _)).mono ?_⟩
  rintro r W0' ⟨rfl, rfl⟩
  obtain ⟨W3, hW3⟩ : ∃ W3, ((w.alloc (.cells #[.int .i64 h.k, .int .i64 h.m, .int .i64 h.e, .string h.t, .slice a F.len c, .slice h.na h.ns.length h.nc] 28)).alloc (.cells #[.bool false] 4)).alloc (.cells #[.int .i64 0] 3) = W3 := ⟨_, rfl⟩
  have hs3 : W3.heap.size = w.heap.size + 3 := by rw [← hW3]; simp
  have hB3 : Below w.heap.size w W3 := by rw [← hW3]; exact (((Below.refl _ w).alloc (Nat.le_refl _) _).alloc (by simp) _).alloc (by simp; omega) _
  have hR3 : W3.heap[w.heap.size + 1]? = some (.cells #[.bool false] 4 (0, 0)) := by
    rw [← hW3]
    refine (Below.heap_alloc _ _ _ (by simp)).trans ?_
    have := World.alloc_heap_new (w.alloc (.cells #[.int .i64 h.k, .int .i64 h.m, .int .i64 h.e, .string h.t, .slice a F.len c, .slice h.na h.ns.length h.nc] 28)) (.cells #[.bool false] 4)
    rwa [World.size_alloc] at this
  have hS3 : W3.heap[w.heap.size + 2]? = some (.cells #[.int .i64 0] 3 (0, 0)) := by
    rw [← hW3]
    have := World.alloc_heap_new ((w.alloc (.cells #[.int .i64 h.k, .int .i64 h.m, .int .i64 h.e, .string h.t, .slice a F.len c, .slice h.na h.ns.length h.nc] 28)).alloc (.cells #[.bool false] 4)) (.cells #[.int .i64 0] 3)
    rwa [World.size_alloc, World.size_alloc] at this
  rw [hW3]
  clear hW3
  obtain ⟨W0, hW0⟩ : ∃ W0, W3.alloc (.cells #[.int .i64 h.k, .int .i64 h.m, .int .i64 h.e, .string h.t, .slice a F.len c, .slice h.na h.ns.length h.nc] 28) = W0 := ⟨_, rfl⟩
  have hbx : Below W3.heap.size W3 W0 := by rw [← hW0]; exact (Below.refl _ _).alloc (Nat.le_refl _) _
  have hX0 : BxV W3.heap.size h (.slice a F.len c) W0 := by rw [← hW0]; exact BxV.new W3 h (.slice a F.len c) 28
  obtain ⟨n0, n1, n2, n3, n4, n5⟩ := hX0
  have hsz : W0.heap.size = w.heap.size + 4 := by rw [← hW0]; simp; omega
  have hBW : Below w.heap.size w W0 := hB3.trans (hbx.mono (by omega))
  have hR0 := (hbx.block _ (by omega)).trans hR3
  have hS0 := (hbx.block _ (by omega)).trans hS3
  rw [hW0]
  clear hW0 hR3 hS3 hB3 hbx
  rw [hs3] at n0 n1 n2 n3 n4 n5 ⊢
  clear hs3
  gi_wp2_with fail
  refine wpIn_rangeFunc_ownH rfl (by omega) (gf := 84) (lb := #[.pointer (some ⟨w.heap.size + 3, 0, none⟩)]) rfl trivial (enters_of Try.func84 (by kernel_rfl) rfl)
    (allV_stops w 4 w.heap.size W0.heap.size (w.heap.size + 3) ⟨1, h, a, F, c, hin, hl, hc, hh⟩ W0 rfl (by show F.size ≤ 2000000; omega) (Nat.le_refl _) (Nat.le_refl _) (Sub.of_below hBW) n0 n1 n2 n3 n4 n5)
    Kept.trans (fun W l o o' hl' h hcl _ => ⟨(grownBy_putObj' W l o').size, fun j x hx hxc _ => ((grownBy_putObj' W l o').block j (Array.getElem?_eq_some_iff.1 hx).1 (by intro e; cases e; rw [h] at hx; cases hx; rw [hcl] at hxc; cases hxc)).trans hx⟩)
    (Below.refl _ _) (fun _ => rfl)
    (fun pre W => ((W.heap[w.heap.size + 1]? = some (.cells #[.bool false] 4 (0, 0)) ∧ W.heap[w.heap.size + 2]? = some (.cells #[.int .i64 pre.length] 3 (0, 0))) ∧ (GoodV pre ∧ W0.heap.size ≤ W.heap.size)) ∧ Below w.heap.size w W)
    (fun cd pre W => ((cd = .ret ∧ ¬ GoodV pre) ∧ W.heap[w.heap.size + 1]? = some (.cells #[.bool false] 4 (0, 0))) ∧ Below w.heap.size w W)
    (OwnFrom.and (fun s W W' row hs hg hr => ⟨⟨own_blockV hg hr hs.1.1 (.inl (by omega)), own_blockV hg hr hs.1.2 (.inl (by omega))⟩, hs.2.1, Nat.le_trans hs.2.2 hg.size⟩) (ownFrom_below (Nat.le_refl _) (by omega)))
    (fun cd => OwnFrom.and (fun s W W' row hs hg hr => ⟨hs.1, own_blockV hg hr hs.2 (.inl (by omega))⟩) (ownFrom_below (Nat.le_refl _) (by omega)))
    ⟨⟨⟨hR0, hS0⟩, by simp [GoodV], Nat.le_refl _⟩, hBW⟩
    (fun x a' W => ∃ Bx, W0.heap.size ≤ Bx ∧ W.heap[Bx]? = some (.cells #[.int .i64 x.h.k, .int .i64 x.h.m, .int .i64 x.h.e, .string x.h.t, .slice x.a x.kids.len x.c, .slice x.h.na x.h.ns.length x.h.nc] 28 (0, 0)) ∧ a' = { tmps := #[valV h a F.len c, .pointer (some ⟨w.heap.size, 0, none⟩), .pointer (some ⟨w.heap.size + 1, 0, none⟩), .pointer (some ⟨w.heap.size + 2, 0, none⟩), .int .i64 x.d, .pointer (some ⟨Bx, 0, none⟩), valV h a F.len c, .func (.func 84) #[] #[.pointer (some ⟨w.heap.size + 3, 0, none⟩)], .int .i64 x.d, .agg #[.int .i64 x.h.k, .int .i64 x.h.m, .int .i64 x.h.e, .string x.h.t, .slice x.a x.kids.len x.c, .slice x.h.na x.h.ns.length x.h.nc], undef, undef, undef, undef, undef, undef, undef, undef, undef, undef, undef, undef, undef], defers := [] })
    (fun x a' _ W W' row hs hg hr => by obtain ⟨Bx, e1, e2, e3⟩ := hs; exact ⟨Bx, e1, own_blockV hg hr e2 (.inr rfl), e3⟩)
    ?assign ?body ?done ?stop
  case assign =>
    rintro l pre x W K ⟨⟨⟨hR, hS⟩, hg, hz⟩, hB⟩ hK
    have hbA : Below W.heap.size W (W.alloc (.cells #[.int .i64 x.h.k, .int .i64 x.h.m, .int .i64 x.h.e, .string x.h.t, .slice x.a x.kids.len x.c, .slice x.h.na x.h.ns.length x.h.nc] 28)) := (Below.refl _ W).alloc (Nat.le_refl _) _
    dsimp only [TV.enc]
    gi_wp2
    exact hK _ _ ((KeepsOthers.alloc _ _).from _) (Kept.of_below hbA)
      ⟨⟨⟨(hbA.block _ (Array.getElem?_eq_some_iff.1 hR).1).trans hR, (hbA.block _ (Array.getElem?_eq_some_iff.1 hS).1).trans hS⟩, hg, Nat.le_trans hz hbA.size⟩, hB.trans (hbA.mono hB.size)⟩
      ⟨W.heap.size, hz, World.alloc_heap_new W _, rfl⟩
  case body =>
    rintro l pre x a' W hl' ⟨rr, hrr⟩ ⟨⟨⟨hR, hS⟩, hg, hz⟩, hB⟩ ⟨Bx, hBx, hX, rfl⟩ hlt
    have cS := (show Boxed W (w.heap.size + 2) 3 (.int .i64 pre.length) from hS).cell
    have fS := (show Boxed W (w.heap.size + 2) 3 (.int .i64 pre.length) from hS).frozen
    have hgl := hg.1
    have x0 : W.cell? ⟨Bx, 0, none⟩ = some (.int .i64 x.h.k) := by simp [World.cell?, hX]
    have x1 : W.cell? ⟨Bx, 1, none⟩ = some (.int .i64 x.h.m) := by simp [World.cell?, hX]
    have x2 : W.cell? ⟨Bx, 2, none⟩ = some (.int .i64 x.h.e) := by simp [World.cell?, hX]
    have x3 : W.cell? ⟨Bx, 3, none⟩ = some (.string x.h.t) := by simp [World.cell?, hX]
    have x4 : W.cell? ⟨Bx, 4, none⟩ = some (.slice x.a x.kids.len x.c) := by simp [World.cell?, hX]
    have x5 : W.cell? ⟨Bx, 5, none⟩ = some (.slice x.h.na x.h.ns.length x.h.nc) := by simp [World.cell?, hX]
    have cR := (show Boxed W (w.heap.size + 1) 4 (.bool false) from hR).cell
    have fR := (show Boxed W (w.heap.size + 1) 4 (.bool false) from hR).frozen
    have hne : ¬ w.heap.size + 2 = Bx := by omega
    have hne2 : ¬ w.heap.size + 2 = w.heap.size + 1 := by omega
    obtain ⟨Wn, hWn⟩ : ∃ Wn, Wn = W.setCell ⟨w.heap.size + 2, 0, none⟩ (.int .i64 ((pre.length : Int) + 1)) := ⟨_, rfl⟩
    have hSn : Wn.heap[w.heap.size + 2]? = some (.cells #[.int .i64 ((pre ++ [x]).length : Nat)] 3 (0, 0)) := by rw [hWn, show ((pre.length : Int) + 1) = (((pre ++ [x]).length : Nat) : Int) by simp]; exact Boxed.set _ (show Boxed W (w.heap.size + 2) 3 (.int .i64 pre.length) from hS)
    have hoth : ∀ j, j ≠ w.heap.size + 2 → Wn.heap[j]? = W.heap[j]? := fun j hj => by rw [hWn]; exact Below.heap_setCell _ _ _ j (fun e => hj e)
    have hKo : KeepsOthers W Wn := by rw [hWn]; exact KeepsOthers.setCell _ _ _
    have hBn : Below w.heap.size w Wn := by rw [hWn]; exact hB.setCell (p := ⟨w.heap.size + 2, 0, none⟩) (by show _ ≤ _ + 2; omega) _
    have hszn : Wn.heap.size = W.heap.size := by rw [hWn]; simp [World.setCell]
    have hKn : Kept w.heap.size W0.heap.size W Wn := ⟨by omega, fun j o ho _ hj => (hoth j (by omega)).trans ho⟩
    have hRn : Wn.heap[w.heap.size + 1]? = some (.cells #[.bool false] 4 (0, 0)) := (hoth _ (by omega)).trans hR
    by_cases q1 : pre.length + 1 ≤ 200
    · have q1' : ¬ (200 : Int) < (pre.length : Int) + 1 := by omega
      by_cases q2 : x.d ≤ 20
      · have q2' : ¬ (20 : Int) < (x.d : Int) := by omega
        gi_wp2_with fail
        rw [← hWn]
        clear hWn x0 x1 x2 x3 x4 x5 cS fS cR fR
        refine ⟨trivial, (CallsIn.inRound l (callsIn_wide.2 (fits_any x.h x.a x.kids.len x.c Wn (x.hh.sub (Sub.of_below hBn))))).mono ?_⟩
        rintro r W2 ⟨⟨ft, rfl, hft⟩, hb2⟩
        have HFt : Hid (ft = true ↔ one x.h x.kids.len) := hft
        clear hft
        have hB2 := hBn.trans (hb2.mono hBn.size)
        have cR2 : W2.heap[w.heap.size + 1]? = some (.cells #[.bool false] 4 (0, 0)) := (hb2.block _ (Array.getElem?_eq_some_iff.1 hRn).1).trans hRn
        have hKo2 : KeepsOthers W W2 := hKo.trans (KeepsOthers.of_grownBy (grown_below hb2) (fun j o e => by cases e))
        cases ft
        · have cR3 := (show Boxed W2 (w.heap.size + 1) 4 (.bool false) from cR2).cell
          have fR3 := (show Boxed W2 (w.heap.size + 1) 4 (.bool false) from cR2).frozen
          gi_wp2_with fail
          refine ⟨(hKo2.trans (KeepsOthers.setCell _ _ _)).from _, ⟨⟨rfl, fun hgd => ?_⟩, Boxed.set (.bool false) (show Boxed W2 (w.heap.size + 1) 4 (.bool false) from cR2)⟩, hB2.setCell (p := ⟨w.heap.size + 1, 0, none⟩) (by show _ ≤ _ + 1; omega) _⟩
          have := HFt.out.2 (hgd.2 x (by simp)).2
          cases this
        · gi_wp2_with fail
          refine ⟨hKo2.from _, hKn.trans (Kept.of_below hb2), ⟨⟨cR2, (hb2.block _ (Array.getElem?_eq_some_iff.1 hSn).1).trans hSn⟩, ⟨by simp; omega, fun y hy => ?_⟩, by have := hb2.size; omega⟩, hB2⟩
          rcases List.mem_append.1 hy with hy | hy
          · exact hg.2 y hy
          · obtain rfl : y = x := by simpa using hy
            exact ⟨q2, HFt.out.1 (by trivial)⟩
      · have q2' : (20 : Int) < (x.d : Int) := by omega
        gi_wp2_with fail
        refine ⟨trivial, ?_⟩
        gi_wp2_with fail
        rw [← hWn]
        refine ⟨(hKo.trans (KeepsOthers.setCell _ _ _)).from _, ⟨⟨rfl, fun hgd => ?_⟩, Boxed.set (.bool false) (show Boxed Wn (w.heap.size + 1) 4 (.bool false) from hRn)⟩, hBn.setCell (p := ⟨w.heap.size + 1, 0, none⟩) (by show _ ≤ _ + 1; omega) _⟩
        exact absurd (hgd.2 x (by simp)).1 q2
    · have q1' : (200 : Int) < (pre.length : Int) + 1 := by omega
      gi_wp2_with fail
      refine ⟨trivial, ?_⟩
      gi_wp2_with fail
      rw [← hWn]
      refine ⟨(hKo.trans (KeepsOthers.setCell _ _ _)).from _, ⟨⟨rfl, fun hgd => ?_⟩, Boxed.set (.bool false) (show Boxed Wn (w.heap.size + 1) 4 (.bool false) from hRn)⟩, hBn.setCell (p := ⟨w.heap.size + 1, 0, none⟩) (by show _ ≤ _ + 1; omega) _⟩
      have := hgd.1
      simp at this
      omega
  case done =>
    rintro D ys W hD hS ⟨⟨⟨hR, _⟩, hg, _⟩, hB⟩ hK
    have cR := (show Boxed W (w.heap.size + 1) 4 (.bool false) from hR).cell
    have fR := (show Boxed W (w.heap.size + 1) 4 (.bool false) from hR).frozen
    gi_wp2
    have hK' := (KeepsOthers.setCell W ⟨w.heap.size + 1, 0, none⟩ (.bool true)).same D _ hK rfl
    refine ⟨by simp, .inl ⟨_, _, rfl, run_takeDeferred hK', ?_⟩⟩
    have hc5 := cell_kept (Boxed.set (.bool true) (show Boxed W (w.heap.size + 1) 4 (.bool false) from hR)).cell (grownBy_putObj' _ D (.deferred none)) (fun r e => by cases e; exact ⟨_, hK', rfl⟩)
    refine ⟨.bool true, ?_, ⟨true, rfl, ?_⟩, (hB.setCell (p := ⟨w.heap.size + 1, 0, none⟩) (by show _ ≤ _ + 1; omega) _).trans (belowK_b (w := w) (Nat.le_refl _) _ D _ _ (by omega) hK' rfl rfl)⟩
    · simp [results, Try.results33, go_sem, hc5]
    · have hS' : ys.map TV.raw = (1, h, F) :: F.flat 2 := hS
      unfold ValGood
      rw [← hS']
      refine ⟨fun _ => ⟨by rw [List.length_map]; exact hg.1, fun z hz => ?_⟩, fun _ => rfl⟩
      obtain ⟨y, hy, rfl⟩ := List.mem_map.1 hz
      exact hg.2 y hy
  case stop =>
    rintro D cd pre W hD hpre ⟨⟨⟨rfl, hng⟩, hR⟩, hB⟩ hK
    gi_wp2
    refine ⟨by simp, .inl ⟨_, _, rfl, run_takeDeferred hK, ?_⟩⟩
    have hc5 := cell_kept (show Boxed W (w.heap.size + 1) 4 (.bool false) from hR).cell (grownBy_putObj' _ D (.deferred none)) (fun r e => by cases e; exact ⟨_, hK, rfl⟩)
    refine ⟨.bool false, ?_, ⟨false, rfl, ?_⟩, hB.trans (belowK_b (w := w) (Nat.le_refl _) W D _ _ (by omega) hK rfl rfl)⟩
    · simp [results, Try.results33, go_sem, hc5]
    · have hS' : pre.map TV.raw <+: (1, h, F) :: F.flat 2 := hpre
      refine ⟨fun h => (by cases h), fun h => absurd (⟨?_, fun y hy => ?_⟩ : GoodV pre) hng⟩
      · have := hS'.length_le
        have h1 := h.1
        rw [List.length_map] at this
        omega
      · exact h.2 y.raw (hS'.subset (List.mem_map.2 ⟨y, hy, rfl⟩))
end Go.Proofs.Ytfgchdnpbbgmjaa
/- Values that are ok: whether a value has just what its kind has, by the specification. -/
namespace Go.Proofs.Ytfgchdnpbbgmjaa
open Go.RowKit
theorem text_nil {t : ByteArray} (h : t.toList = []) : t = ⟨#[]⟩ := text_ext (h.trans (by simp [ByteArray.toList_eq]))
set_option maxRecDepth 100000 in
set_option maxHeartbeats 1000000 in
theorem l7One_0 (m e : Int) (t : ByteArray) (na : Option Addr) (nc : Nat) (ns : List ByteArray) (a : Option Addr) (n c nl : Nat) (w : World) (hlen : Hid (ns.length = nl)) (hI : Hd.In w ⟨0, m, e, t, na, nc, ns⟩) :
    Calls Try.prog 81 #[.agg #[.int .i64 0, .int .i64 m, .int .i64 e, .string t, .slice a n c, .slice na nl nc]] w fun r w' => SaysT (one ⟨0, m, e, t, na, nc, ns⟩ n) r ∧ Below w.heap.size w w' := by
  by_cases h_m : m = 0
  · subst h_m
    by_cases h_e : e = 0
    · subst h_e
      by_cases h_t : t = ⟨#[]⟩
      · subst h_t
        by_cases h_n : n = 0
        · subst h_n
          by_cases h_nl : nl = 0
          · subst h_nl
            have HS : Hid (one ⟨0, 0, 0, ⟨#[]⟩, na, nc, ns⟩ 0) := by have h0 : ns = [] := List.eq_nil_of_length_eq_zero hlen.out; subst h0; unfold Hid; simp [one]
            clear hI
            go_enter Try.func81, Try.ntmps81
            go_wp2_with fail
            go_ret
            exact ⟨⟨true, rfl, fun _ => HS.out, fun _ => rfl⟩, (by (repeat' (first | assumption | exact Below.refl _ _ | refine Below.alloc ?_ ?_ _ | refine Below.setCell ?_ ?_ _ | refine Below.drew ?_ | refine below_drewN ?_ _)) <;> (first | omega | (simp <;> omega)))⟩
          · have h_nl' : ((nl : Int) == 0) = false := by simp; omega
            have HS : Hid (¬ one ⟨0, 0, 0, ⟨#[]⟩, na, nc, ns⟩ 0) := fun x => h_nl (by have := hlen.out; simp [one] at x; rw [← this]; simp [x])
            clear hI
            go_enter Try.func81, Try.ntmps81
            go_wp2_with fail
            go_ret
            exact ⟨⟨false, rfl, fun h => (by cases h), fun h => absurd h HS.out⟩, (by (repeat' (first | assumption | exact Below.refl _ _ | refine Below.alloc ?_ ?_ _ | refine Below.setCell ?_ ?_ _ | refine Below.drew ?_ | refine below_drewN ?_ _)) <;> (first | omega | (simp <;> omega)))⟩
        · have h_n' : ((n : Int) == 0) = false := by simp; omega
          have HS : Hid (¬ one ⟨0, 0, 0, ⟨#[]⟩, na, nc, ns⟩ n) := fun x => by simp [one] at x; exact h_n (by simp [x])
          clear hI
          go_enter Try.func81, Try.ntmps81
          go_wp2_with fail
          go_ret
          exact ⟨⟨false, rfl, fun h => (by cases h), fun h => absurd h HS.out⟩, (by (repeat' (first | assumption | exact Below.refl _ _ | refine Below.alloc ?_ ?_ _ | refine Below.setCell ?_ ?_ _ | refine Below.drew ?_ | refine below_drewN ?_ _)) <;> (first | omega | (simp <;> omega)))⟩
      · have h_t' : (t.toList == []) = false := by rw [beq_eq_false_iff_ne]; exact fun e' => h_t (text_nil e')
        have HS : Hid (¬ one ⟨0, 0, 0, t, na, nc, ns⟩ n) := fun x => by simp [one] at x; exact h_t (by simp [x])
        clear hI
        go_enter Try.func81, Try.ntmps81
        go_wp2_with fail
        go_ret
        exact ⟨⟨false, rfl, fun h => (by cases h), fun h => absurd h HS.out⟩, (by (repeat' (first | assumption | exact Below.refl _ _ | refine Below.alloc ?_ ?_ _ | refine Below.setCell ?_ ?_ _ | refine Below.drew ?_ | refine below_drewN ?_ _)) <;> (first | omega | (simp <;> omega)))⟩
    · have h_e' : (e == 0) = false := by simp; omega
      have HS : Hid (¬ one ⟨0, 0, e, t, na, nc, ns⟩ n) := fun x => by simp [one] at x; exact h_e (by simp [x])
      clear hI
      go_enter Try.func81, Try.ntmps81
      go_wp2_with fail
      go_ret
      exact ⟨⟨false, rfl, fun h => (by cases h), fun h => absurd h HS.out⟩, (by (repeat' (first | assumption | exact Below.refl _ _ | refine Below.alloc ?_ ?_ _ | refine Below.setCell ?_ ?_ _ | refine Below.drew ?_ | refine below_drewN ?_ _)) <;> (first | omega | (simp <;> omega)))⟩
  · have h_m' : (m == 0) = false := by simp; omega
    have HS : Hid (¬ one ⟨0, m, e, t, na, nc, ns⟩ n) := fun x => by simp [one] at x; exact h_m (by simp [x])
    clear hI
    go_enter Try.func81, Try.ntmps81
    go_wp2_with fail
    go_ret
    exact ⟨⟨false, rfl, fun h => (by cases h), fun h => absurd h HS.out⟩, (by (repeat' (first | assumption | exact Below.refl _ _ | refine Below.alloc ?_ ?_ _ | refine Below.setCell ?_ ?_ _ | refine Below.drew ?_ | refine below_drewN ?_ _)) <;> (first | omega | (simp <;> omega)))⟩
set_option maxRecDepth 100000 in
set_option maxHeartbeats 1000000 in
theorem l7One_1 (m e : Int) (t : ByteArray) (na : Option Addr) (nc : Nat) (ns : List ByteArray) (a : Option Addr) (n c nl : Nat) (w : World) (hlen : Hid (ns.length = nl)) (hI : Hd.In w ⟨1, m, e, t, na, nc, ns⟩) :
    Calls Try.prog 81 #[.agg #[.int .i64 1, .int .i64 m, .int .i64 e, .string t, .slice a n c, .slice na nl nc]] w fun r w' => SaysT (one ⟨1, m, e, t, na, nc, ns⟩ n) r ∧ Below w.heap.size w w' := by
  by_cases h_m : m = 0
  · subst h_m
    by_cases h_e : e = 0
    · subst h_e
      by_cases h_t : t = ⟨#[]⟩
      · subst h_t
        by_cases h_n : n = 0
        · subst h_n
          by_cases h_nl : nl = 0
          · subst h_nl
            have HS : Hid (one ⟨1, 0, 0, ⟨#[]⟩, na, nc, ns⟩ 0) := by have h0 : ns = [] := List.eq_nil_of_length_eq_zero hlen.out; subst h0; unfold Hid; simp [one]
            clear hI
            go_enter Try.func81, Try.ntmps81
            go_wp2_with fail
            go_ret
            exact ⟨⟨true, rfl, fun _ => HS.out, fun _ => rfl⟩, (by (repeat' (first | assumption | exact Below.refl _ _ | refine Below.alloc ?_ ?_ _ | refine Below.setCell ?_ ?_ _ | refine Below.drew ?_ | refine below_drewN ?_ _)) <;> (first | omega | (simp <;> omega)))⟩
          · have h_nl' : ((nl : Int) == 0) = false := by simp; omega
            have HS : Hid (¬ one ⟨1, 0, 0, ⟨#[]⟩, na, nc, ns⟩ 0) := fun x => h_nl (by have := hlen.out; simp [one] at x; rw [← this]; simp [x])
            clear hI
            go_enter Try.func81, Try.ntmps81
            go_wp2_with fail
            go_ret
            exact ⟨⟨false, rfl, fun h => (by cases h), fun h => absurd h HS.out⟩, (by (repeat' (first | assumption | exact Below.refl _ _ | refine Below.alloc ?_ ?_ _ | refine Below.setCell ?_ ?_ _ | refine Below.drew ?_ | refine below_drewN ?_ _)) <;> (first | omega | (simp <;> omega)))⟩
        · have h_n' : ((n : Int) == 0) = false := by simp; omega
          have HS : Hid (¬ one ⟨1, 0, 0, ⟨#[]⟩, na, nc, ns⟩ n) := fun x => by simp [one] at x; exact h_n (by simp [x])
          clear hI
          go_enter Try.func81, Try.ntmps81
          go_wp2_with fail
          go_ret
          exact ⟨⟨false, rfl, fun h => (by cases h), fun h => absurd h HS.out⟩, (by (repeat' (first | assumption | exact Below.refl _ _ | refine Below.alloc ?_ ?_ _ | refine Below.setCell ?_ ?_ _ | refine Below.drew ?_ | refine below_drewN ?_ _)) <;> (first | omega | (simp <;> omega)))⟩
      · have h_t' : (t.toList == []) = false := by rw [beq_eq_false_iff_ne]; exact fun e' => h_t (text_nil e')
        have HS : Hid (¬ one ⟨1, 0, 0, t, na, nc, ns⟩ n) := fun x => by simp [one] at x; exact h_t (by simp [x])
        clear hI
        go_enter Try.func81, Try.ntmps81
        go_wp2_with fail
        go_ret
        exact ⟨⟨false, rfl, fun h => (by cases h), fun h => absurd h HS.out⟩, (by (repeat' (first | assumption | exact Below.refl _ _ | refine Below.alloc ?_ ?_ _ | refine Below.setCell ?_ ?_ _ | refine Below.drew ?_ | refine below_drewN ?_ _)) <;> (first | omega | (simp <;> omega)))⟩
    · have h_e' : (e == 0) = false := by simp; omega
      have HS : Hid (¬ one ⟨1, 0, e, t, na, nc, ns⟩ n) := fun x => by simp [one] at x; exact h_e (by simp [x])
      clear hI
      go_enter Try.func81, Try.ntmps81
      go_wp2_with fail
      go_ret
      exact ⟨⟨false, rfl, fun h => (by cases h), fun h => absurd h HS.out⟩, (by (repeat' (first | assumption | exact Below.refl _ _ | refine Below.alloc ?_ ?_ _ | refine Below.setCell ?_ ?_ _ | refine Below.drew ?_ | refine below_drewN ?_ _)) <;> (first | omega | (simp <;> omega)))⟩
  · have h_m' : (m == 0) = false := by simp; omega
    have HS : Hid (¬ one ⟨1, m, e, t, na, nc, ns⟩ n) := fun x => by simp [one] at x; exact h_m (by simp [x])
    clear hI
    go_enter Try.func81, Try.ntmps81
    go_wp2_with fail
    go_ret
    exact ⟨⟨false, rfl, fun h => (by cases h), fun h => absurd h HS.out⟩, (by (repeat' (first | assumption | exact Below.refl _ _ | refine Below.alloc ?_ ?_ _ | refine Below.setCell ?_ ?_ _ | refine Below.drew ?_ | refine below_drewN ?_ _)) <;> (first | omega | (simp <;> omega)))⟩
set_option maxRecDepth 100000 in
set_option maxHeartbeats 1000000 in
theorem l7One_2 (m e : Int) (t : ByteArray) (na : Option Addr) (nc : Nat) (ns : List ByteArray) (a : Option Addr) (n c nl : Nat) (w : World) (hlen : Hid (ns.length = nl)) (hI : Hd.In w ⟨2, m, e, t, na, nc, ns⟩) :
    Calls Try.prog 81 #[.agg #[.int .i64 2, .int .i64 m, .int .i64 e, .string t, .slice a n c, .slice na nl nc]] w fun r w' => SaysT (one ⟨2, m, e, t, na, nc, ns⟩ n) r ∧ Below w.heap.size w w' := by
  by_cases h_m : m = 0
  · subst h_m
    by_cases h_e : e = 0
    · subst h_e
      by_cases h_t : t = ⟨#[]⟩
      · subst h_t
        by_cases h_n : n = 0
        · subst h_n
          by_cases h_nl : nl = 0
          · subst h_nl
            have HS : Hid (one ⟨2, 0, 0, ⟨#[]⟩, na, nc, ns⟩ 0) := by have h0 : ns = [] := List.eq_nil_of_length_eq_zero hlen.out; subst h0; unfold Hid; simp [one]
            clear hI
            go_enter Try.func81, Try.ntmps81
            go_wp2_with fail
            go_ret
            exact ⟨⟨true, rfl, fun _ => HS.out, fun _ => rfl⟩, (by (repeat' (first | assumption | exact Below.refl _ _ | refine Below.alloc ?_ ?_ _ | refine Below.setCell ?_ ?_ _ | refine Below.drew ?_ | refine below_drewN ?_ _)) <;> (first | omega | (simp <;> omega)))⟩
          · have h_nl' : ((nl : Int) == 0) = false := by simp; omega
            have HS : Hid (¬ one ⟨2, 0, 0, ⟨#[]⟩, na, nc, ns⟩ 0) := fun x => h_nl (by have := hlen.out; simp [one] at x; rw [← this]; simp [x])
            clear hI
            go_enter Try.func81, Try.ntmps81
            go_wp2_with fail
            go_ret
            exact ⟨⟨false, rfl, fun h => (by cases h), fun h => absurd h HS.out⟩, (by (repeat' (first | assumption | exact Below.refl _ _ | refine Below.alloc ?_ ?_ _ | refine Below.setCell ?_ ?_ _ | refine Below.drew ?_ | refine below_drewN ?_ _)) <;> (first | omega | (simp <;> omega)))⟩
        · have h_n' : ((n : Int) == 0) = false := by simp; omega
          have HS : Hid (¬ one ⟨2, 0, 0, ⟨#[]⟩, na, nc, ns⟩ n) := fun x => by simp [one] at x; exact h_n (by simp [x])
          clear hI
          go_enter Try.func81, Try.ntmps81
          go_wp2_with fail
          go_ret
          exact ⟨⟨false, rfl, fun h => (by cases h), fun h => absurd h HS.out⟩, (by (repeat' (first | assumption | exact Below.refl _ _ | refine Below.alloc ?_ ?_ _ | refine Below.setCell ?_ ?_ _ | refine Below.drew ?_ | refine below_drewN ?_ _)) <;> (first | omega | (simp <;> omega)))⟩
      · have h_t' : (t.toList == []) = false := by rw [beq_eq_false_iff_ne]; exact fun e' => h_t (text_nil e')
        have HS : Hid (¬ one ⟨2, 0, 0, t, na, nc, ns⟩ n) := fun x => by simp [one] at x; exact h_t (by simp [x])
        clear hI
        go_enter Try.func81, Try.ntmps81
        go_wp2_with fail
        go_ret
        exact ⟨⟨false, rfl, fun h => (by cases h), fun h => absurd h HS.out⟩, (by (repeat' (first | assumption | exact Below.refl _ _ | refine Below.alloc ?_ ?_ _ | refine Below.setCell ?_ ?_ _ | refine Below.drew ?_ | refine below_drewN ?_ _)) <;> (first | omega | (simp <;> omega)))⟩
    · have h_e' : (e == 0) = false := by simp; omega
      have HS : Hid (¬ one ⟨2, 0, e, t, na, nc, ns⟩ n) := fun x => by simp [one] at x; exact h_e (by simp [x])
      clear hI
      go_enter Try.func81, Try.ntmps81
      go_wp2_with fail
      go_ret
      exact ⟨⟨false, rfl, fun h => (by cases h), fun h => absurd h HS.out⟩, (by (repeat' (first | assumption | exact Below.refl _ _ | refine Below.alloc ?_ ?_ _ | refine Below.setCell ?_ ?_ _ | refine Below.drew ?_ | refine below_drewN ?_ _)) <;> (first | omega | (simp <;> omega)))⟩
  · have h_m' : (m == 0) = false := by simp; omega
    have HS : Hid (¬ one ⟨2, m, e, t, na, nc, ns⟩ n) := fun x => by simp [one] at x; exact h_m (by simp [x])
    clear hI
    go_enter Try.func81, Try.ntmps81
    go_wp2_with fail
    go_ret
    exact ⟨⟨false, rfl, fun h => (by cases h), fun h => absurd h HS.out⟩, (by (repeat' (first | assumption | exact Below.refl _ _ | refine Below.alloc ?_ ?_ _ | refine Below.setCell ?_ ?_ _ | refine Below.drew ?_ | refine below_drewN ?_ _)) <;> (first | omega | (simp <;> omega)))⟩
set_option maxRecDepth 100000 in
set_option maxHeartbeats 1000000 in
theorem l7One_4 (m e : Int) (t : ByteArray) (na : Option Addr) (nc : Nat) (ns : List ByteArray) (a : Option Addr) (n c nl : Nat) (w : World) (hlen : Hid (ns.length = nl)) (hI : Hd.In w ⟨4, m, e, t, na, nc, ns⟩) :
    Calls Try.prog 81 #[.agg #[.int .i64 4, .int .i64 m, .int .i64 e, .string t, .slice a n c, .slice na nl nc]] w fun r w' => SaysT (one ⟨4, m, e, t, na, nc, ns⟩ n) r ∧ Below w.heap.size w w' := by
  have htm := hI.2.2
  unfold maxLen at htm
  by_cases h_m : m = 0
  · subst h_m
    by_cases h_e : e = 0
    · subst h_e
      by_cases h_sz : t.size ≤ 1500
      · have h_sz' : (t.size : Int) ≤ 1500 := by omega
        by_cases h_n : n = 0
        · subst h_n
          by_cases h_nl : nl = 0
          · subst h_nl
            have HS : Hid (one ⟨4, 0, 0, t, na, nc, ns⟩ 0) := by have h0 : ns = [] := List.eq_nil_of_length_eq_zero hlen.out; subst h0; unfold Hid; simp [one]; exact h_sz
            clear hI
            go_enter Try.func81, Try.ntmps81
            go_wp2_with fail
            go_ret
            exact ⟨⟨true, rfl, fun _ => HS.out, fun _ => rfl⟩, (by (repeat' (first | assumption | exact Below.refl _ _ | refine Below.alloc ?_ ?_ _ | refine Below.setCell ?_ ?_ _ | refine Below.drew ?_ | refine below_drewN ?_ _)) <;> (first | omega | (simp <;> omega)))⟩
          · have h_nl' : ((nl : Int) == 0) = false := by simp; omega
            have HS : Hid (¬ one ⟨4, 0, 0, t, na, nc, ns⟩ 0) := fun x => h_nl (by have := hlen.out; simp [one] at x; rw [← this]; simp [x])
            clear hI
            go_enter Try.func81, Try.ntmps81
            go_wp2_with fail
            go_ret
            exact ⟨⟨false, rfl, fun h => (by cases h), fun h => absurd h HS.out⟩, (by (repeat' (first | assumption | exact Below.refl _ _ | refine Below.alloc ?_ ?_ _ | refine Below.setCell ?_ ?_ _ | refine Below.drew ?_ | refine below_drewN ?_ _)) <;> (first | omega | (simp <;> omega)))⟩
        · have h_n' : ((n : Int) == 0) = false := by simp; omega
          have HS : Hid (¬ one ⟨4, 0, 0, t, na, nc, ns⟩ n) := fun x => by simp [one] at x; exact h_n (by simp [x])
          clear hI
          go_enter Try.func81, Try.ntmps81
          go_wp2_with fail
          go_ret
          exact ⟨⟨false, rfl, fun h => (by cases h), fun h => absurd h HS.out⟩, (by (repeat' (first | assumption | exact Below.refl _ _ | refine Below.alloc ?_ ?_ _ | refine Below.setCell ?_ ?_ _ | refine Below.drew ?_ | refine below_drewN ?_ _)) <;> (first | omega | (simp <;> omega)))⟩
      · have h_sz' : ¬ (t.size : Int) ≤ 1500 := by omega
        have HS : Hid (¬ one ⟨4, 0, 0, t, na, nc, ns⟩ n) := fun x => by simp [one] at x; exact h_sz x.1
        clear hI
        go_enter Try.func81, Try.ntmps81
        go_wp2_with fail
        go_ret
        exact ⟨⟨false, rfl, fun h => (by cases h), fun h => absurd h HS.out⟩, (by (repeat' (first | assumption | exact Below.refl _ _ | refine Below.alloc ?_ ?_ _ | refine Below.setCell ?_ ?_ _ | refine Below.drew ?_ | refine below_drewN ?_ _)) <;> (first | omega | (simp <;> omega)))⟩
    · have h_e' : (e == 0) = false := by simp; omega
      have HS : Hid (¬ one ⟨4, 0, e, t, na, nc, ns⟩ n) := fun x => by simp [one] at x; exact h_e (by simp [x])
      clear hI
      go_enter Try.func81, Try.ntmps81
      go_wp2_with fail
      go_ret
      exact ⟨⟨false, rfl, fun h => (by cases h), fun h => absurd h HS.out⟩, (by (repeat' (first | assumption | exact Below.refl _ _ | refine Below.alloc ?_ ?_ _ | refine Below.setCell ?_ ?_ _ | refine Below.drew ?_ | refine below_drewN ?_ _)) <;> (first | omega | (simp <;> omega)))⟩
  · have h_m' : (m == 0) = false := by simp; omega
    have HS : Hid (¬ one ⟨4, m, e, t, na, nc, ns⟩ n) := fun x => by simp [one] at x; exact h_m (by simp [x])
    clear hI
    go_enter Try.func81, Try.ntmps81
    go_wp2_with fail
    go_ret
    exact ⟨⟨false, rfl, fun h => (by cases h), fun h => absurd h HS.out⟩, (by (repeat' (first | assumption | exact Below.refl _ _ | refine Below.alloc ?_ ?_ _ | refine Below.setCell ?_ ?_ _ | refine Below.drew ?_ | refine below_drewN ?_ _)) <;> (first | omega | (simp <;> omega)))⟩
set_option maxRecDepth 100000 in
set_option maxHeartbeats 1000000 in
theorem l7One_5 (m e : Int) (t : ByteArray) (na : Option Addr) (nc : Nat) (ns : List ByteArray) (a : Option Addr) (n c nl : Nat) (w : World) (hlen : Hid (ns.length = nl)) (hI : Hd.In w ⟨5, m, e, t, na, nc, ns⟩) :
    Calls Try.prog 81 #[.agg #[.int .i64 5, .int .i64 m, .int .i64 e, .string t, .slice a n c, .slice na nl nc]] w fun r w' => SaysT (one ⟨5, m, e, t, na, nc, ns⟩ n) r ∧ Below w.heap.size w w' := by
  by_cases h_m : m = 0
  · subst h_m
    by_cases h_e : e = 0
    · subst h_e
      by_cases h_t : t = ⟨#[]⟩
      · subst h_t
        by_cases h_nl : nl = 0
        · subst h_nl
          have HS : Hid (one ⟨5, 0, 0, ⟨#[]⟩, na, nc, ns⟩ n) := by have h0 : ns = [] := List.eq_nil_of_length_eq_zero hlen.out; subst h0; unfold Hid; simp [one]
          clear hI
          go_enter Try.func81, Try.ntmps81
          go_wp2_with fail
          go_ret
          exact ⟨⟨true, rfl, fun _ => HS.out, fun _ => rfl⟩, (by (repeat' (first | assumption | exact Below.refl _ _ | refine Below.alloc ?_ ?_ _ | refine Below.setCell ?_ ?_ _ | refine Below.drew ?_ | refine below_drewN ?_ _)) <;> (first | omega | (simp <;> omega)))⟩
        · have h_nl' : ((nl : Int) == 0) = false := by simp; omega
          have HS : Hid (¬ one ⟨5, 0, 0, ⟨#[]⟩, na, nc, ns⟩ n) := fun x => h_nl (by have := hlen.out; simp [one] at x; rw [← this]; simp [x])
          clear hI
          go_enter Try.func81, Try.ntmps81
          go_wp2_with fail
          go_ret
          exact ⟨⟨false, rfl, fun h => (by cases h), fun h => absurd h HS.out⟩, (by (repeat' (first | assumption | exact Below.refl _ _ | refine Below.alloc ?_ ?_ _ | refine Below.setCell ?_ ?_ _ | refine Below.drew ?_ | refine below_drewN ?_ _)) <;> (first | omega | (simp <;> omega)))⟩
      · have h_t' : (t.toList == []) = false := by rw [beq_eq_false_iff_ne]; exact fun e' => h_t (text_nil e')
        have HS : Hid (¬ one ⟨5, 0, 0, t, na, nc, ns⟩ n) := fun x => by simp [one] at x; exact h_t (by simp [x])
        clear hI
        go_enter Try.func81, Try.ntmps81
        go_wp2_with fail
        go_ret
        exact ⟨⟨false, rfl, fun h => (by cases h), fun h => absurd h HS.out⟩, (by (repeat' (first | assumption | exact Below.refl _ _ | refine Below.alloc ?_ ?_ _ | refine Below.setCell ?_ ?_ _ | refine Below.drew ?_ | refine below_drewN ?_ _)) <;> (first | omega | (simp <;> omega)))⟩
    · have h_e' : (e == 0) = false := by simp; omega
      have HS : Hid (¬ one ⟨5, 0, e, t, na, nc, ns⟩ n) := fun x => by simp [one] at x; exact h_e (by simp [x])
      clear hI
      go_enter Try.func81, Try.ntmps81
      go_wp2_with fail
      go_ret
      exact ⟨⟨false, rfl, fun h => (by cases h), fun h => absurd h HS.out⟩, (by (repeat' (first | assumption | exact Below.refl _ _ | refine Below.alloc ?_ ?_ _ | refine Below.setCell ?_ ?_ _ | refine Below.drew ?_ | refine below_drewN ?_ _)) <;> (first | omega | (simp <;> omega)))⟩
  · have h_m' : (m == 0) = false := by simp; omega
    have HS : Hid (¬ one ⟨5, m, e, t, na, nc, ns⟩ n) := fun x => by simp [one] at x; exact h_m (by simp [x])
    clear hI
    go_enter Try.func81, Try.ntmps81
    go_wp2_with fail
    go_ret
    exact ⟨⟨false, rfl, fun h => (by cases h), fun h => absurd h HS.out⟩, (by (repeat' (first | assumption | exact Below.refl _ _ | refine Below.alloc ?_ ?_ _ | refine Below.setCell ?_ ?_ _ | refine Below.drew ?_ | refine below_drewN ?_ _)) <;> (first | omega | (simp <;> omega)))⟩
set_option maxRecDepth 100000 in
set_option maxHeartbeats 1000000 in
theorem l7One_3 (m e : Int) (t : ByteArray) (na : Option Addr) (nc : Nat) (ns : List ByteArray) (a : Option Addr) (n c nl : Nat) (w : World) (hlen : Hid (ns.length = nl)) (hI : Hd.In w ⟨3, m, e, t, na, nc, ns⟩) :
    Calls Try.prog 81 #[.agg #[.int .i64 3, .int .i64 m, .int .i64 e, .string t, .slice a n c, .slice na nl nc]] w fun r w' => SaysT (one ⟨3, m, e, t, na, nc, ns⟩ n) r ∧ Below w.heap.size w w' := by
  cases hd : Dm.ok m e
  · skip
    have HS : Hid (¬ one ⟨3, m, e, t, na, nc, ns⟩ n) := fun x => by simp [one, hd] at x
    clear hI
    have hB0 := (Below.refl _ w).alloc (Nat.le_refl _) (.cells #[.int .i64 3, .int .i64 m, .int .i64 e, .string t, .slice a n c, .slice na nl nc] 28)
    have R0 := Row.new w [.int .i64 3, .int .i64 m, .int .i64 e, .string t, .slice a n c, .slice na nl nc] 28
    go_enter Try.func81, Try.ntmps81
    go_wp2_with fail
    refine (sDecOk_any m e _).mono ?_
    rintro r w1 ⟨rfl, hb1⟩
    have hB1 := hB0.trans (hb1.mono hB0.size)
    have x3 := (R0.below hb1 R0.lt 3 _ rfl).1
    have x4 := (R0.below hb1 R0.lt 4 _ rfl).1
    have x5 := (R0.below hb1 R0.lt 5 _ rfl).1
    clear R0 hB0 hb1
    rw [hd]
    go_wp2_with fail
    go_ret
    exact ⟨⟨false, rfl, fun h => (by cases h), fun h => absurd h HS.out⟩, hB1⟩
  · by_cases h_t : t = ⟨#[]⟩
    · subst h_t
      by_cases h_n : n = 0
      · subst h_n
        by_cases h_nl : nl = 0
        · subst h_nl
          have HS : Hid (one ⟨3, m, e, ⟨#[]⟩, na, nc, ns⟩ 0) := by have h0 : ns = [] := List.eq_nil_of_length_eq_zero hlen.out; subst h0; unfold Hid; simp [one, hd]
          clear hI
          have hB0 := (Below.refl _ w).alloc (Nat.le_refl _) (.cells #[.int .i64 3, .int .i64 m, .int .i64 e, .string ⟨#[]⟩, .slice a 0 c, .slice na 0 nc] 28)
          have R0 := Row.new w [.int .i64 3, .int .i64 m, .int .i64 e, .string ⟨#[]⟩, .slice a 0 c, .slice na 0 nc] 28
          go_enter Try.func81, Try.ntmps81
          go_wp2_with fail
          refine (sDecOk_any m e _).mono ?_
          rintro r w1 ⟨rfl, hb1⟩
          have hB1 := hB0.trans (hb1.mono hB0.size)
          have x3 := (R0.below hb1 R0.lt 3 _ rfl).1
          have x4 := (R0.below hb1 R0.lt 4 _ rfl).1
          have x5 := (R0.below hb1 R0.lt 5 _ rfl).1
          clear R0 hB0 hb1
          rw [hd]
          go_wp2_with fail
          go_ret
          exact ⟨⟨true, rfl, fun _ => HS.out, fun _ => rfl⟩, hB1⟩
        · have h_nl' : ((nl : Int) == 0) = false := by simp; omega
          have HS : Hid (¬ one ⟨3, m, e, ⟨#[]⟩, na, nc, ns⟩ 0) := fun x => h_nl (by have := hlen.out; simp [one] at x; rw [← this]; simp [x])
          clear hI
          have hB0 := (Below.refl _ w).alloc (Nat.le_refl _) (.cells #[.int .i64 3, .int .i64 m, .int .i64 e, .string ⟨#[]⟩, .slice a 0 c, .slice na nl nc] 28)
          have R0 := Row.new w [.int .i64 3, .int .i64 m, .int .i64 e, .string ⟨#[]⟩, .slice a 0 c, .slice na nl nc] 28
          go_enter Try.func81, Try.ntmps81
          go_wp2_with fail
          refine (sDecOk_any m e _).mono ?_
          rintro r w1 ⟨rfl, hb1⟩
          have hB1 := hB0.trans (hb1.mono hB0.size)
          have x3 := (R0.below hb1 R0.lt 3 _ rfl).1
          have x4 := (R0.below hb1 R0.lt 4 _ rfl).1
          have x5 := (R0.below hb1 R0.lt 5 _ rfl).1
          clear R0 hB0 hb1
          rw [hd]
          go_wp2_with fail
          go_ret
          exact ⟨⟨false, rfl, fun h => (by cases h), fun h => absurd h HS.out⟩, hB1⟩
      · have h_n' : ((n : Int) == 0) = false := by simp; omega
        have HS : Hid (¬ one ⟨3, m, e, ⟨#[]⟩, na, nc, ns⟩ n) := fun x => by simp [one] at x; exact h_n (by simp [x])
        clear hI
        have hB0 := (Below.refl _ w).alloc (Nat.le_refl _) (.cells #[.int .i64 3, .int .i64 m, .int .i64 e, .string ⟨#[]⟩, .slice a n c, .slice na nl nc] 28)
        have R0 := Row.new w [.int .i64 3, .int .i64 m, .int .i64 e, .string ⟨#[]⟩, .slice a n c, .slice na nl nc] 28
        go_enter Try.func81, Try.ntmps81
        go_wp2_with fail
        refine (sDecOk_any m e _).mono ?_
        rintro r w1 ⟨rfl, hb1⟩
        have hB1 := hB0.trans (hb1.mono hB0.size)
        have x3 := (R0.below hb1 R0.lt 3 _ rfl).1
        have x4 := (R0.below hb1 R0.lt 4 _ rfl).1
        have x5 := (R0.below hb1 R0.lt 5 _ rfl).1
        clear R0 hB0 hb1
        rw [hd]
        go_wp2_with fail
        go_ret
        exact ⟨⟨false, rfl, fun h => (by cases h), fun h => absurd h HS.out⟩, hB1⟩
    · have h_t' : (t.toList == []) = false := by rw [beq_eq_false_iff_ne]; exact fun e' => h_t (text_nil e')
      have HS : Hid (¬ one ⟨3, m, e, t, na, nc, ns⟩ n) := fun x => by simp [one] at x; exact h_t (by simp [x])
      clear hI
      have hB0 := (Below.refl _ w).alloc (Nat.le_refl _) (.cells #[.int .i64 3, .int .i64 m, .int .i64 e, .string t, .slice a n c, .slice na nl nc] 28)
      have R0 := Row.new w [.int .i64 3, .int .i64 m, .int .i64 e, .string t, .slice a n c, .slice na nl nc] 28
      go_enter Try.func81, Try.ntmps81
      go_wp2_with fail
      refine (sDecOk_any m e _).mono ?_
      rintro r w1 ⟨rfl, hb1⟩
      have hB1 := hB0.trans (hb1.mono hB0.size)
      have x3 := (R0.below hb1 R0.lt 3 _ rfl).1
      have x4 := (R0.below hb1 R0.lt 4 _ rfl).1
      have x5 := (R0.below hb1 R0.lt 5 _ rfl).1
      clear R0 hB0 hb1
      rw [hd]
      go_wp2_with fail
      go_ret
      exact ⟨⟨false, rfl, fun h => (by cases h), fun h => absurd h HS.out⟩, hB1⟩
set_option maxRecDepth 100000 in
set_option maxHeartbeats 1000000 in
theorem l7One_6 (m e : Int) (t : ByteArray) (na : Option Addr) (nc : Nat) (ns : List ByteArray) (a : Option Addr) (n c nl : Nat) (w : World) (hlen : Hid (ns.length = nl)) (hI : Hd.In w ⟨6, m, e, t, na, nc, ns⟩) :
    Calls Try.prog 81 #[.agg #[.int .i64 6, .int .i64 m, .int .i64 e, .string t, .slice a n c, .slice na nl nc]] w fun r w' => SaysT (one ⟨6, m, e, t, na, nc, ns⟩ n) r ∧ Below w.heap.size w w' := by
  by_cases h_m : m = 0
  · subst h_m
    by_cases h_e : e = 0
    · subst h_e
      by_cases h_t : t = ⟨#[]⟩
      · subst h_t
        by_cases h_l : nl = n
        · subst h_l
          have hl := hI.2.1.1
          have hc := hI.2.1.2
          dsimp only at hl hc
          have HI : Hid (SIn w ns na) := hI.1
          have hB0 := (Below.refl _ w).alloc (Nat.le_refl _) (.cells #[.int .i64 6, .int .i64 0, .int .i64 0, .string ⟨#[]⟩, .slice a nl c, .slice na nl nc] 28)
          have HN := fun W (hW : SIn W ns na) => l7Names_any ns na nc W hW hl hc
          rw [hlen.out] at HN
          have HO : Hid (one ⟨6, 0, 0, ⟨#[]⟩, na, nc, ns⟩ nl ↔ nmAsc ns nl) := by have := hlen.out; unfold Hid; simp [one, this]
          clear hI
          go_enter Try.func81, Try.ntmps81
          go_wp2_with fail
          refine (HN _ (HI.out.grow hB0)).mono ?_
          rintro r w1 ⟨⟨q, rfl, hq⟩, hb1⟩
          have hB1 := hB0.trans (hb1.mono hB0.size)
          have HQ : Hid (q = true ↔ nmAsc ns nl) := hq
          clear hq
          go_wp2_with fail
          go_ret
          exact ⟨⟨q, rfl, HQ.out.trans HO.out.symm⟩, hB1⟩
        · have h_l' : ((nl : Int) == (n : Int)) = false := by simp; omega
          have HS : Hid (¬ one ⟨6, 0, 0, ⟨#[]⟩, na, nc, ns⟩ n) := fun x => h_l (by have := hlen.out; simp [one] at x; rw [← this]; exact x.1)
          clear hI
          go_enter Try.func81, Try.ntmps81
          go_wp2_with fail
          go_ret
          exact ⟨⟨false, rfl, fun h => (by cases h), fun h => absurd h HS.out⟩, (by (repeat' (first | assumption | exact Below.refl _ _ | refine Below.alloc ?_ ?_ _ | refine Below.setCell ?_ ?_ _ | refine Below.drew ?_ | refine below_drewN ?_ _)) <;> (first | omega | (simp <;> omega)))⟩
      · have h_t' : (t.toList == []) = false := by rw [beq_eq_false_iff_ne]; exact fun e' => h_t (text_nil e')
        have HS : Hid (¬ one ⟨6, 0, 0, t, na, nc, ns⟩ n) := fun x => by simp [one] at x; exact h_t (by simp [x])
        clear hI
        go_enter Try.func81, Try.ntmps81
        go_wp2_with fail
        go_ret
        exact ⟨⟨false, rfl, fun h => (by cases h), fun h => absurd h HS.out⟩, (by (repeat' (first | assumption | exact Below.refl _ _ | refine Below.alloc ?_ ?_ _ | refine Below.setCell ?_ ?_ _ | refine Below.drew ?_ | refine below_drewN ?_ _)) <;> (first | omega | (simp <;> omega)))⟩
    · have h_e' : (e == 0) = false := by simp; omega
      have HS : Hid (¬ one ⟨6, 0, e, t, na, nc, ns⟩ n) := fun x => by simp [one] at x; exact h_e (by simp [x])
      clear hI
      go_enter Try.func81, Try.ntmps81
      go_wp2_with fail
      go_ret
      exact ⟨⟨false, rfl, fun h => (by cases h), fun h => absurd h HS.out⟩, (by (repeat' (first | assumption | exact Below.refl _ _ | refine Below.alloc ?_ ?_ _ | refine Below.setCell ?_ ?_ _ | refine Below.drew ?_ | refine below_drewN ?_ _)) <;> (first | omega | (simp <;> omega)))⟩
  · have h_m' : (m == 0) = false := by simp; omega
    have HS : Hid (¬ one ⟨6, m, e, t, na, nc, ns⟩ n) := fun x => by simp [one] at x; exact h_m (by simp [x])
    clear hI
    go_enter Try.func81, Try.ntmps81
    go_wp2_with fail
    go_ret
    exact ⟨⟨false, rfl, fun h => (by cases h), fun h => absurd h HS.out⟩, (by (repeat' (first | assumption | exact Below.refl _ _ | refine Below.alloc ?_ ?_ _ | refine Below.setCell ?_ ?_ _ | refine Below.drew ?_ | refine below_drewN ?_ _)) <;> (first | omega | (simp <;> omega)))⟩
set_option maxRecDepth 100000 in
set_option maxHeartbeats 1000000 in
theorem l7One_any (h : Hd) (a : Option Addr) (n c : Nat) (w : World) (hh : h.In w) :
    Calls Try.prog 81 #[valV h a n c] w fun r w' => SaysT (one h n) r ∧ Below w.heap.size w w' := by
  obtain ⟨k, m, e, t, na, nc, ns⟩ := h
  dsimp only [valV]
  obtain ⟨nl, hnl⟩ : ∃ nl, ns.length = nl := ⟨_, rfl⟩
  rw [hnl]
  by_cases hk : 0 ≤ k ∧ k ≤ 6
  · have hc : k = 0 ∨ k = 1 ∨ k = 2 ∨ k = 3 ∨ k = 4 ∨ k = 5 ∨ k = 6 := by omega
    clear hk
    rcases hc with rfl | rfl | rfl | rfl | rfl | rfl | rfl
    · exact l7One_0 m e t na nc ns a n c nl w hnl hh
    · exact l7One_1 m e t na nc ns a n c nl w hnl hh
    · exact l7One_2 m e t na nc ns a n c nl w hnl hh
    · exact l7One_3 m e t na nc ns a n c nl w hnl hh
    · exact l7One_4 m e t na nc ns a n c nl w hnl hh
    · exact l7One_5 m e t na nc ns a n c nl w hnl hh
    · exact l7One_6 m e t na nc ns a n c nl w hnl hh
  · have HNO : Hid (¬ one ⟨k, m, e, t, na, nc, ns⟩ n) := by
      unfold Hid one
      dsimp only
      intro h
      rcases h with ⟨h, _⟩ | ⟨h, _⟩ | ⟨h, _⟩ | ⟨h, _⟩ | ⟨h, _⟩ <;> omega
    have h0 : (k == 0) = false := by simp; omega
    have h1 : (k == 1) = false := by simp; omega
    have h2 : (k == 2) = false := by simp; omega
    have h3 : (k == 3) = false := by simp; omega
    have h4 : (k == 4) = false := by simp; omega
    have h5 : (k == 5) = false := by simp; omega
    have h6 : (k == 6) = false := by simp; omega
    clear hh hk
    go_enter Try.func81, Try.ntmps81
    go_wp2_with fail
    go_ret
    exact ⟨⟨false, rfl, fun h => (by cases h), fun h => absurd h HNO.out⟩, (Below.refl _ w).alloc (Nat.le_refl _) _⟩
end Go.Proofs.Ytfgchdnpbbgmjaa
/- Contract: ValueOk of the specification; both say the same. -/
namespace Go.Proofs.Ytfgchdnpbbgmjaa
open Go.RowKit
theorem Vo.deep_le (F : Vo) : F.deep ≤ F.size := by
  induction F with
  | nil => exact Nat.le_refl _
  | cons h a c kids next ih1 ih2 => show max (kids.deep + 1) next.deep ≤ kids.size + 1 + next.size; omega
set_option maxHeartbeats 1000000 in
theorem sValueSize_any (N : Nat) : ∀ (h : Hd) (a : Option Addr) (c : Nat) (F : Vo) (w : World), F.size < N → N ≤ 2000000 → F.In w a → F.len ≤ c → c ≤ maxLen →
    Calls Try.prog 57 #[valV h a F.len c] w fun e w' => e = .returned (.int .i64 (F.size + 1 : Nat)) ∧ Below w.heap.size w w' := by
  induction N with
  | zero => intro h a c F w hF; omega
  | succ N ih =>
    intro h a c F w hF hN hin hl hc
    unfold maxLen at hc
    have hll := F.len_le
    go_enter Try.func57, Try.ntmps57
    go_wp2_with fail
    go_loopw [3, 4] (fun o i wr => ∃ (j s : Nat) (G : Vo), i = .int .i64 j ∧ o = .int .i64 s ∧ j + G.len = F.len ∧ s + G.size = F.size + 1 ∧ 1 ≤ s ∧ (G = .nil ∨ ∃ b o', a = some ⟨b, o', none⟩ ∧ G.From wr b (o' + j * 6)) ∧ wr.cell? ⟨w.heap.size, 4, none⟩ = some (.slice a F.len c) ∧ Below w.heap.size w wr) (fun _ i _ => F.len - (intOf i).toNat)
    case atStart =>
      refine ⟨0, 1, F, rfl, rfl, by omega, by omega, Nat.le_refl _, ?_, by simp, (Below.refl _ _).alloc (Nat.le_refl _) _⟩
      rcases hin with h | ⟨b, o', e1, e2⟩
      · exact .inl h
      · exact .inr ⟨b, o', e1, by simpa using Vo.from_grow ((Below.refl _ w).alloc (Nat.le_refl _) _) F b o' e2⟩
    case round =>
      obtain ⟨j, s, G, rfl, rfl, hj, hs, hs1, hG, hcell, hb⟩ := hrel
      cases G with
      | nil =>
        have hj' : j = F.len := by simpa [Vo.len] using hj
        have hs' : s = F.size + 1 := by simpa [Vo.size] using hs
        subst hj' hs'
        clear hG hj hs
        go_wp2_with fail
        go_ret
        exact ⟨rfl, hb⟩
      | cons h' a' c' kids next =>
        rcases hG with hG | ⟨b, o', rfl, ⟨h1, h2, h3, h4, h5, h6⟩, hk, ⟨hc1, hc2⟩, _, hn⟩
        · cases hG
        · have hlt : (j : Int) < (F.len : Int) := by have : j + (next.len + 1) = F.len := hj; omega
          have hjl : j < F.len := by omega
          have hsz : s + (kids.size + 1 + next.size) = F.size + 1 := hs
          have hln : j + (next.len + 1) = F.len := hj
          clear hj hs hin
          go_wp2_with fail
          refine (ih h' a' c' kids wr (by omega) (by omega) hk hc1 hc2).mono ?_
          rintro e w1 ⟨rfl, hb1⟩
          have hn1 := Vo.from_grow hb1 next b _ hn
          have hz := hb.size
          have hlw := World.block_lt_of_cell? wr _ hcell
          have hcell1 : w1.cell? ⟨w.heap.size, 4, none⟩ = some (.slice (some ⟨b, o', none⟩) F.len c) := (hb1.cell (p := ⟨w.heap.size, 4, none⟩) hlw).trans hcell
          have hb2 := hb.trans (hb1.mono hz)
          clear h1 h2 h3 h4 h5 h6 hk hn hcell hb1 hb ih
          go_wp2_with fail
          go_round
          case rel =>
            refine ⟨j + 1, s + (kids.size + 1), next, by go_num, by go_num, by omega, by omega, by omega, .inr ⟨b, o', rfl, ?_⟩, hcell1, hb2⟩
            rw [show o' + (j + 1) * 6 = o' + j * 6 + 6 by omega]; exact hn1
          case measure => simp [intOf]; omega
set_option maxHeartbeats 1000000 in
theorem sDeepV_any (N : Nat) : ∀ (h : Hd) (a : Option Addr) (c : Nat) (F : Vo) (w : World), F.size < N → N ≤ 2000000 → F.In w a → F.len ≤ c → c ≤ maxLen →
    Calls Try.prog 58 #[valV h a F.len c] w fun e w' => e = .returned (.int .i64 (F.deep + 1 : Nat)) ∧ Below w.heap.size w w' := by
  induction N with
  | zero => intro h a c F w hF; omega
  | succ N ih =>
    intro h a c F w hF hN hin hl hc
    unfold maxLen at hc
    have hll := F.len_le
    have hdd := F.deep_le
    go_enter Try.func58, Try.ntmps58
    go_wp2_with fail
    go_loopw [3, 4] (fun o i wr => ∃ (j s : Nat) (G : Vo), i = .int .i64 j ∧ o = .int .i64 s ∧ j + G.len = F.len ∧ max s G.deep = F.deep ∧ G.size ≤ F.size ∧ (G = .nil ∨ ∃ b o', a = some ⟨b, o', none⟩ ∧ G.From wr b (o' + j * 6)) ∧ wr.cell? ⟨w.heap.size, 4, none⟩ = some (.slice a F.len c) ∧ Below w.heap.size w wr) (fun _ i _ => F.len - (intOf i).toNat)
    case atStart =>
      refine ⟨0, 0, F, rfl, rfl, by omega, by omega, Nat.le_refl _, ?_, by simp, (Below.refl _ _).alloc (Nat.le_refl _) _⟩
      rcases hin with h | ⟨b, o', e1, e2⟩
      · exact .inl h
      · exact .inr ⟨b, o', e1, by simpa using Vo.from_grow ((Below.refl _ w).alloc (Nat.le_refl _) _) F b o' e2⟩
    case round =>
      obtain ⟨j, s, G, rfl, rfl, hj, hs, hs1, hG, hcell, hb⟩ := hrel
      cases G with
      | nil =>
        have hj' : j = F.len := by simpa [Vo.len] using hj
        have hs' : s = F.deep := by simpa [Vo.deep] using hs
        subst hj' hs'
        clear hG hj hs
        go_wp2_with fail
        go_ret
        exact ⟨rfl, hb⟩
      | cons h' a' c' kids next =>
        rcases hG with hG | ⟨b, o', rfl, ⟨h1, h2, h3, h4, h5, h6⟩, hk, ⟨hc1, hc2⟩, _, hn⟩
        · cases hG
        · have hlt : (j : Int) < (F.len : Int) := by have : j + (next.len + 1) = F.len := hj; omega
          have hjl : j < F.len := by omega
          have hsz : kids.size + 1 + next.size ≤ F.size := hs1
          have hds : max s (max (kids.deep + 1) next.deep) = F.deep := hs
          have hln : j + (next.len + 1) = F.len := hj
          clear hj hs hin hs1
          go_wp2_with fail
          refine (ih h' a' c' kids wr (by omega) (by omega) hk hc1 hc2).mono ?_
          rintro e w1 ⟨rfl, hb1⟩
          have hn1 := Vo.from_grow hb1 next b _ hn
          have hz := hb.size
          have hlw := World.block_lt_of_cell? wr _ hcell
          have hcell1 : w1.cell? ⟨w.heap.size, 4, none⟩ = some (.slice (some ⟨b, o', none⟩) F.len c) := (hb1.cell (p := ⟨w.heap.size, 4, none⟩) hlw).trans hcell
          have hb2 := hb.trans (hb1.mono hz)
          have hkd : kids.deep + 1 ≤ F.deep := by omega
          clear h1 h2 h3 h4 h5 h6 hk hn hcell hb1 hb ih
          have HD : Hid (max s (max (kids.deep + 1) next.deep) = F.deep) := hds
          clear hds
          by_cases hd : s < kids.deep + 1
          · have hd' : (s : Int) < (kids.deep : Int) + 1 := by omega
            go_wp2_with fail
            go_round
            case rel =>
              refine ⟨j + 1, kids.deep + 1, next, by go_num, by go_num, by omega, ?_, by omega, .inr ⟨b, o', rfl, ?_⟩, hcell1, hb2⟩
              · have := HD.out; omega
              · rw [show o' + (j + 1) * 6 = o' + j * 6 + 6 by omega]; exact hn1
            case measure => simp [intOf]; omega
          · have hd' : ¬ (s : Int) < (kids.deep : Int) + 1 := by omega
            go_wp2_with fail
            go_round
            case rel =>
              refine ⟨j + 1, s, next, by go_num, by go_num, by omega, ?_, by omega, .inr ⟨b, o', rfl, ?_⟩, hcell1, hb2⟩
              · have := HD.out; omega
              · rw [show o' + (j + 1) * 6 = o' + j * 6 + 6 by omega]; exact hn1
            case measure => simp [intOf]; omega
/-- all in a list, and all in these, have just what their kinds have -/
def Vo.allOne : Vo → Prop
  | .nil => True
  | .cons h _ _ kids next => one h kids.len ∧ kids.allOne ∧ next.allOne
set_option maxRecDepth 100000 in
set_option maxHeartbeats 1000000 in
theorem l7All_any (N : Nat) : ∀ (h : Hd) (a : Option Addr) (c : Nat) (F : Vo) (w : World), F.size < N → N ≤ 2000000 → F.In w a → F.len ≤ c → c ≤ maxLen → h.In w →
    Calls Try.prog 59 #[valV h a F.len c] w fun r w' => SaysT (one h F.len ∧ F.allOne) r ∧ Below w.heap.size w w' := by
  induction N with
  | zero => intro h a c F w hF; omega
  | succ N ih =>
    intro h a c F w hF hN hin hl hc hh
    unfold maxLen at hc
    have hll := F.len_le
    have hB0 := (Below.refl _ w).alloc (Nat.le_refl _) (.cells #[.int .i64 h.k, .int .i64 h.m, .int .i64 h.e, .string h.t, .slice a F.len c, .slice h.na h.ns.length h.nc] 28)
    have R0 := Row.new w [.int .i64 h.k, .int .i64 h.m, .int .i64 h.e, .string h.t, .slice a F.len c, .slice h.na h.ns.length h.nc] 28
    have HO := fun W (hW : h.In W) => l7One_any h a F.len c W hW
    go_enter Try.func59, Try.ntmps59
    go_wp2_with fail
    refine (HO _ (hh.grow hB0)).mono ?_
    rintro r w1 ⟨⟨q, rfl, hq⟩, hb1⟩
    have hB1 := hB0.trans (hb1.mono hB0.size)
    have hcell0 := (R0.below hb1 R0.lt 4 _ rfl).1
    have HQ : Hid (q = true ↔ one h F.len) := hq
    clear hq R0 hB0 hb1 HO
    cases q
    · have HN : Hid (¬ (one h F.len ∧ F.allOne)) := fun x => by have := HQ.out.2 x.1; cases this
      clear ih hin
      go_wp2_with fail
      go_ret
      exact ⟨⟨false, rfl, fun h => (by cases h), fun h => absurd h HN.out⟩, hB1⟩
    · have HY : Hid (one h F.len) := HQ.out.1 rfl
      clear HQ
      go_wp2_with fail
      go_loopw [3] (fun i wr => ∃ (j : Nat) (G : Vo), i = .int .i64 j ∧ j + G.len = F.len ∧ (F.allOne ↔ G.allOne) ∧ G.size ≤ F.size ∧ (G = .nil ∨ ∃ b o', a = some ⟨b, o', none⟩ ∧ G.From wr b (o' + j * 6)) ∧ wr.cell? ⟨w.heap.size, 4, none⟩ = some (.slice a F.len c) ∧ Below w.heap.size w wr) (fun i _ => F.len - (intOf i).toNat)
      case atStart =>
        refine ⟨0, F, rfl, by omega, Iff.rfl, Nat.le_refl _, ?_, hcell0, hB1⟩
        rcases hin with h | ⟨b, o', e1, e2⟩
        · exact .inl h
        · exact .inr ⟨b, o', e1, by simpa using Vo.from_grow hB1 F b o' e2⟩
      case round =>
        obtain ⟨j, G, rfl, hj, hs, hs1, hG, hcell, hb⟩ := hrel
        have HA : Hid (F.allOne ↔ G.allOne) := hs
        clear hs hcell0
        cases G with
        | nil =>
          have hj' : j = F.len := by simpa [Vo.len] using hj
          have HR : Hid (one h F.len ∧ F.allOne) := ⟨HY.out, HA.out.2 trivial⟩
          subst hj'
          clear hG hj HA ih
          go_wp2_with fail
          go_ret
          exact ⟨⟨true, rfl, fun _ => HR.out, fun _ => rfl⟩, hb⟩
        | cons h' a' c' kids next =>
          rcases hG with hG | ⟨b, o', rfl, ⟨h1, h2, h3, h4, h5, h6⟩, hk, ⟨hc1, hc2⟩, hh', hn⟩
          · cases hG
          · have hln : j + (next.len + 1) = F.len := hj
            have hlt : (j : Int) < (F.len : Int) := by omega
            have hjl : j < F.len := by omega
            have hsz : kids.size + 1 + next.size ≤ F.size := hs1
            clear hj hs1 hin
            go_wp2_with fail
            refine (ih h' a' c' kids wr (by omega) (by omega) hk hc1 hc2 hh').mono ?_
            rintro r w2 ⟨⟨q, rfl, hq⟩, hb2⟩
            have HQ : Hid (q = true ↔ (one h' kids.len ∧ kids.allOne)) := hq
            have hn2 := Vo.from_grow hb2 next b _ hn
            have hcell2 : w2.cell? ⟨w.heap.size, 4, none⟩ = some (.slice (some ⟨b, o', none⟩) F.len c) := (hb2.cell (p := ⟨w.heap.size, 4, none⟩) (World.block_lt_of_cell? wr _ hcell)).trans hcell
            have hb3 := hb.trans (hb2.mono hb.size)
            clear h1 h2 h3 h4 h5 h6 hk hn hcell hb2 hb ih hq hh'
            cases q
            · have HN : Hid (¬ (one h F.len ∧ F.allOne)) := fun x => by
                have hx := HA.out.1 x.2
                have := HQ.out.2 ⟨hx.1, hx.2.1⟩
                cases this
              go_wp2_with fail
              go_ret
              exact ⟨⟨false, rfl, fun h => (by cases h), fun h => absurd h HN.out⟩, hb3⟩
            · have HA2 : Hid (F.allOne ↔ next.allOne) := HA.out.trans ⟨fun x => x.2.2, fun x => ⟨(HQ.out.1 rfl).1, (HQ.out.1 rfl).2, x⟩⟩
              clear HQ HA
              go_wp2_with fail
              go_round
              case rel =>
                refine ⟨j + 1, next, by go_num, by omega, HA2.out, by omega, .inr ⟨b, o', rfl, ?_⟩, hcell2, hb3⟩
                rw [show o' + (j + 1) * 6 = o' + j * 6 + 6 by omega]; exact hn2
              case measure => simp [intOf]; omega
/-- a value that is ok, as the specification has it -/
def ValOk (h : Hd) (F : Vo) : Prop := F.size + 1 ≤ 200 ∧ F.deep + 1 ≤ 20 ∧ one h F.len ∧ F.allOne
set_option maxRecDepth 100000 in
set_option maxHeartbeats 1000000 in
theorem sValueOk_any (h : Hd) (a : Option Addr) (c : Nat) (F : Vo) (w : World) (hF : F.size ≤ 1900000) (hin : F.In w a) (hl : F.len ≤ c) (hc : c ≤ maxLen) (hh : h.In w) :
    Calls Try.prog 24 #[valV h a F.len c] w fun r w' => SaysT (ValOk h F) r ∧ Below w.heap.size w w' := by
  have hdd := F.deep_le
  have hB0 := (Below.refl _ w).alloc (Nat.le_refl _) (.cells #[.int .i64 h.k, .int .i64 h.m, .int .i64 h.e, .string h.t, .slice a F.len c, .slice h.na h.ns.length h.nc] 28)
  have X0 := BxV.new w h (.slice a F.len c) 28
  have HI : Hid (∀ W, Below w.heap.size w W → F.In W a ∧ h.In W) := fun W h' => ⟨hin.grow h', hh.grow h'⟩
  clear hin hh
  go_enter Try.func24, Try.ntmps24
  go_wp2_with fail
  refine (sValueSize_any (F.size + 1) h a c F _ (Nat.lt_succ_self _) (by omega) (HI.out _ hB0).1 hl hc).mono ?_
  rintro r w1 ⟨rfl, hb1⟩
  have hB1 := hB0.trans (hb1.mono hB0.size)
  have X1 := X0.below hb1
  clear X0 hB0 hb1
  by_cases h1 : F.size + 1 ≤ 200
  · have h1' : (F.size : Int) + 1 ≤ 200 := by omega
    obtain ⟨x0, x1, x2, x3, x4, x5⟩ := id X1
    go_wp2_with fail
    refine (sDeepV_any (F.size + 1) h a c F _ (Nat.lt_succ_self _) (by omega) (HI.out _ hB1).1 hl hc).mono ?_
    rintro r w2 ⟨rfl, hb2⟩
    have hB2 := hB1.trans (hb2.mono hB1.size)
    have X2 := X1.below hb2
    clear X1 hB1 hb2 x0 x1 x2 x3 x4 x5
    by_cases h2 : F.deep + 1 ≤ 20
    · have h2' : (F.deep : Int) + 1 ≤ 20 := by omega
      obtain ⟨x0, x1, x2, x3, x4, x5⟩ := id X2
      go_wp2_with fail
      refine (l7All_any (F.size + 1) h a c F _ (Nat.lt_succ_self _) (by omega) (HI.out _ hB2).1 hl hc (HI.out _ hB2).2).mono ?_
      rintro r w3 ⟨⟨q, rfl, hq⟩, hb3⟩
      have hB3 := hB2.trans (hb3.mono hB2.size)
      have HQ : Hid (q = true ↔ ValOk h F) := hq.trans ⟨fun x => ⟨h1, h2, x.1, x.2⟩, fun x => ⟨x.2.2.1, x.2.2.2⟩⟩
      clear hq X2 x0 x1 x2 x3 x4 x5
      go_wp2_with fail
      go_ret
      exact ⟨⟨q, rfl, HQ.out⟩, hB3⟩
    · have h2' : ¬ (F.deep : Int) + 1 ≤ 20 := by omega
      have HN : Hid (¬ ValOk h F) := fun x => h2 x.2.1
      go_wp2_with fail
      go_ret
      exact ⟨⟨false, rfl, fun h => (by cases h), fun h => absurd h HN.out⟩, hB2⟩
  · have h1' : ¬ (F.size : Int) + 1 ≤ 200 := by omega
    have HN : Hid (¬ ValOk h F) := fun x => h1 x.1
    go_wp2_with fail
    go_ret
    exact ⟨⟨false, rfl, fun h => (by cases h), fun h => absurd h HN.out⟩, hB1⟩
theorem all_flat (B : Nat) : ∀ (F : Vo) (d : Nat), (∀ x ∈ F.flat d, x.1 ≤ B ∧ one x.2.1 x.2.2.len) ↔ ((F.deep = 0 ∨ d + F.deep ≤ B + 1) ∧ F.allOne) := by
  intro F
  induction F with
  | nil => intro d; exact ⟨fun _ => ⟨.inl rfl, trivial⟩, fun _ x hx => absurd hx List.not_mem_nil⟩
  | cons h a c kids next ih1 ih2 =>
    intro d
    have e : (Vo.cons h a c kids next).deep = max (kids.deep + 1) next.deep := rfl
    have i1 := ih1 (d + 1)
    have i2 := ih2 d
    constructor
    · intro hx
      have x0 := hx (d, h, kids) (List.mem_cons_self)
      have x1 := i1.1 fun x m => hx x (List.mem_cons_of_mem _ (List.mem_append_left _ m))
      have x2 := i2.1 fun x m => hx x (List.mem_cons_of_mem _ (List.mem_append_right _ m))
      refine ⟨.inr ?_, x0.2, x1.2, x2.2⟩
      have := x0.1
      rw [e]
      dsimp only at this
      omega
    · rintro ⟨hd, h1, h2, h3⟩ x hx
      rw [e] at hd
      rcases List.mem_cons.1 hx with rfl | hx
      · exact ⟨by show d ≤ B; omega, h1⟩
      · rcases List.mem_append.1 hx with hx | hx
        · exact i1.2 ⟨by omega, h2⟩ x hx
        · exact i2.2 ⟨by omega, h3⟩ x hx
/-- both say the same -/
theorem good_ok (h : Hd) (F : Vo) : ValGood h F ↔ ValOk h F := by
  unfold ValGood ValOk
  have hl : ((1, h, F) :: F.flat 2).length = F.size + 1 := by rw [List.length_cons, F.flat_len]
  rw [hl]
  have ha := all_flat 20 F 2
  constructor
  · rintro ⟨h1, h2⟩
    have x0 := h2 (1, h, F) List.mem_cons_self
    have x1 := ha.1 fun x m => h2 x (List.mem_cons_of_mem _ m)
    exact ⟨h1, by omega, x0.2, x1.2⟩
  · rintro ⟨h1, h2, h3, h4⟩
    refine ⟨h1, fun x hx => ?_⟩
    rcases List.mem_cons.1 hx with rfl | hx
    · exact ⟨by show 1 ≤ 20; omega, h3⟩
    · exact ha.2 ⟨by omega, h4⟩ x hx
end Go.Proofs.Ytfgchdnpbbgmjaa
/- Values as lines: which are flat, which fit (the specification). -/
namespace Go.Proofs.Ytfgchdnpbbgmjaa
open Go.RowKit
/-- all in a list, and all in these, are no nulls and no objects -/
def Vo.allFlat : Vo → Prop
  | .nil => True
  | .cons h _ _ kids next => ((h.k ≠ 0 ∧ h.k ≠ 6) ∧ kids.allFlat) ∧ next.allFlat
def flatV (h : Hd) (F : Vo) : Prop := (h.k ≠ 0 ∧ h.k ≠ 6) ∧ F.allFlat
/-- all in a list are flat, or objects of such -/
def Vo.allFits : Vo → Prop
  | .nil => True
  | .cons h _ _ kids next => (((h.k ≠ 0 ∧ h.k ≠ 6) ∧ kids.allFlat) ∨ (h.k = 6 ∧ kids.allFits)) ∧ next.allFits
def fitsV (h : Hd) (F : Vo) : Prop := h.k = 6 ∧ F.allFits
set_option maxRecDepth 100000 in
set_option maxHeartbeats 1000000 in
theorem l12Flat_any (N : Nat) : ∀ (h : Hd) (a : Option Addr) (c : Nat) (F : Vo) (w : World), F.size < N → N ≤ 2000000 → F.In w a → F.len ≤ c → c ≤ maxLen → h.In w →
    Calls Try.prog 60 #[valV h a F.len c] w fun r w' => SaysT (flatV h F) r ∧ Below w.heap.size w w' := by
  induction N with
  | zero => intro h a c F w hF; omega
  | succ N ih =>
    intro h a c F w hF hN hin hl hc hh
    unfold maxLen at hc
    have hll := F.len_le
    have hB0 := (Below.refl _ w).alloc (Nat.le_refl _) (.cells #[.int .i64 h.k, .int .i64 h.m, .int .i64 h.e, .string h.t, .slice a F.len c, .slice h.na h.ns.length h.nc] 28)
    have R0 := Row.new w [.int .i64 h.k, .int .i64 h.m, .int .i64 h.e, .string h.t, .slice a F.len c, .slice h.na h.ns.length h.nc] 28
    have hcell0 := (R0 4 _ rfl).1
    by_cases k0 : h.k = 0
    · have k0' : (h.k == 0) = true := by simp [k0]
      have HN : Hid (¬ flatV h F) := fun x => x.1.1 k0
      clear ih hin k0
      go_enter Try.func60, Try.ntmps60
      go_wp2_with fail
      go_ret
      exact ⟨⟨false, rfl, fun h => (by cases h), fun h => absurd h HN.out⟩, hB0⟩
    · have k0' : (h.k == 0) = false := by simp [k0]
      by_cases k6 : h.k = 6
      · have k6' : (h.k == 6) = true := by simp [k6]
        have HN : Hid (¬ flatV h F) := fun x => x.1.2 k6
        clear ih hin k0 k6
        go_enter Try.func60, Try.ntmps60
        go_wp2_with fail
        go_ret
        exact ⟨⟨false, rfl, fun h => (by cases h), fun h => absurd h HN.out⟩, hB0⟩
      · have k6' : (h.k == 6) = false := by simp [k6]
        have HY : Hid (h.k ≠ 0 ∧ h.k ≠ 6) := ⟨k0, k6⟩
        clear k0 k6
        go_enter Try.func60, Try.ntmps60
        go_wp2_with fail
        go_loopw [3] (fun i wr => ∃ (j : Nat) (G : Vo), i = .int .i64 j ∧ j + G.len = F.len ∧ (F.allFlat ↔ G.allFlat) ∧ G.size ≤ F.size ∧ (G = .nil ∨ ∃ b o', a = some ⟨b, o', none⟩ ∧ G.From wr b (o' + j * 6)) ∧ wr.cell? ⟨w.heap.size, 4, none⟩ = some (.slice a F.len c) ∧ Below w.heap.size w wr) (fun i _ => F.len - (intOf i).toNat)
        case atStart =>
          refine ⟨0, F, rfl, by omega, Iff.rfl, Nat.le_refl _, ?_, hcell0, hB0⟩
          rcases hin with h | ⟨b, o', e1, e2⟩
          · exact .inl h
          · exact .inr ⟨b, o', e1, by simpa using Vo.from_grow hB0 F b o' e2⟩
        case round =>
          obtain ⟨j, G, rfl, hj, hs, hs1, hG, hcell, hb⟩ := hrel
          have HA : Hid (F.allFlat ↔ G.allFlat) := hs
          clear hs hcell0
          cases G with
          | nil =>
            have hj' : j = F.len := by simpa [Vo.len] using hj
            have HR : Hid (flatV h F) := ⟨HY.out, HA.out.2 trivial⟩
            subst hj'
            clear hG hj HA ih HY
            go_wp2_with fail
            go_ret
            exact ⟨⟨true, rfl, fun _ => HR.out, fun _ => rfl⟩, hb⟩
          | cons h' a' c' kids next =>
            rcases hG with hG | ⟨b, o', rfl, ⟨h1, h2, h3, h4, h5, h6⟩, hk, ⟨hc1, hc2⟩, hh', hn⟩
            · cases hG
            · have hln : j + (next.len + 1) = F.len := hj
              have hlt : (j : Int) < (F.len : Int) := by omega
              have hjl : j < F.len := by omega
              have hsz : kids.size + 1 + next.size ≤ F.size := hs1
              clear hj hs1 hin
              go_wp2_with fail
              refine (ih h' a' c' kids wr (by omega) (by omega) hk hc1 hc2 hh').mono ?_
              rintro r w2 ⟨⟨q, rfl, hq⟩, hb2⟩
              have HQ : Hid (q = true ↔ flatV h' kids) := hq
              have hn2 := Vo.from_grow hb2 next b _ hn
              have hcell2 : w2.cell? ⟨w.heap.size, 4, none⟩ = some (.slice (some ⟨b, o', none⟩) F.len c) := (hb2.cell (p := ⟨w.heap.size, 4, none⟩) (World.block_lt_of_cell? wr _ hcell)).trans hcell
              have hb3 := hb.trans (hb2.mono hb.size)
              clear h1 h2 h3 h4 h5 h6 hk hn hcell hb2 hb ih hq hh'
              cases q
              · have HN : Hid (¬ flatV h F) := fun x => by
                  have hx := HA.out.1 x.2
                  have := HQ.out.2 hx.1
                  cases this
                go_wp2_with fail
                go_ret
                exact ⟨⟨false, rfl, fun h => (by cases h), fun h => absurd h HN.out⟩, hb3⟩
              · have HA2 : Hid (F.allFlat ↔ next.allFlat) := HA.out.trans ⟨fun x => x.2, fun x => ⟨HQ.out.1 rfl, x⟩⟩
                clear HQ HA
                go_wp2_with fail
                go_round
                case rel =>
                  refine ⟨j + 1, next, by go_num, by omega, HA2.out, by omega, .inr ⟨b, o', rfl, ?_⟩, hcell2, hb3⟩
                  rw [show o' + (j + 1) * 6 = o' + j * 6 + 6 by omega]; exact hn2
                case measure => simp [intOf]; omega
set_option maxRecDepth 100000 in
set_option maxHeartbeats 1000000 in
theorem l12Fits_any (N : Nat) : ∀ (h : Hd) (a : Option Addr) (c : Nat) (F : Vo) (w : World), F.size < N → N ≤ 2000000 → F.In w a → F.len ≤ c → c ≤ maxLen → h.In w →
    Calls Try.prog 25 #[valV h a F.len c] w fun r w' => SaysT (fitsV h F) r ∧ Below w.heap.size w w' := by
  induction N with
  | zero => intro h a c F w hF; omega
  | succ N ih =>
    intro h a c F w hF hN hin hl hc hh
    unfold maxLen at hc
    have hll := F.len_le
    have hB0 := (Below.refl _ w).alloc (Nat.le_refl _) (.cells #[.int .i64 h.k, .int .i64 h.m, .int .i64 h.e, .string h.t, .slice a F.len c, .slice h.na h.ns.length h.nc] 28)
    have R0 := Row.new w [.int .i64 h.k, .int .i64 h.m, .int .i64 h.e, .string h.t, .slice a F.len c, .slice h.na h.ns.length h.nc] 28
    have hcell0 := (R0 4 _ rfl).1
    by_cases k6 : h.k = 6
    · have k6' : (h.k != 6) = false := by simp [bne, k6]
      have HY : Hid (h.k = 6) := k6
      clear k6
      go_enter Try.func25, Try.ntmps25
      go_wp2_with fail
      go_loopw [3] (fun i wr => ∃ (j : Nat) (G : Vo), i = .int .i64 j ∧ j + G.len = F.len ∧ (F.allFits ↔ G.allFits) ∧ G.size ≤ F.size ∧ (G = .nil ∨ ∃ b o', a = some ⟨b, o', none⟩ ∧ G.From wr b (o' + j * 6)) ∧ wr.cell? ⟨w.heap.size, 4, none⟩ = some (.slice a F.len c) ∧ Below w.heap.size w wr) (fun i _ => F.len - (intOf i).toNat)
      case atStart =>
        refine ⟨0, F, rfl, by omega, Iff.rfl, Nat.le_refl _, ?_, hcell0, hB0⟩
        rcases hin with h | ⟨b, o', e1, e2⟩
        · exact .inl h
        · exact .inr ⟨b, o', e1, by simpa using Vo.from_grow hB0 F b o' e2⟩
      case round =>
        obtain ⟨j, G, rfl, hj, hs, hs1, hG, hcell, hb⟩ := hrel
        have HA : Hid (F.allFits ↔ G.allFits) := hs
        clear hs hcell0
        cases G with
        | nil =>
          have hj' : j = F.len := by simpa [Vo.len] using hj
          have HR : Hid (fitsV h F) := ⟨HY.out, HA.out.2 trivial⟩
          subst hj'
          clear hG hj HA ih HY
          go_wp2_with fail
          go_ret
          exact ⟨⟨true, rfl, fun _ => HR.out, fun _ => rfl⟩, hb⟩
        | cons h' a' c' kids next =>
          rcases hG with hG | ⟨b, o', rfl, ⟨h1, h2, h3, h4, h5, h6⟩, hk, ⟨hc1, hc2⟩, hh', hn⟩
          · cases hG
          · have hln : j + (next.len + 1) = F.len := hj
            have hlt : (j : Int) < (F.len : Int) := by omega
            have hjl : j < F.len := by omega
            have hsz : kids.size + 1 + next.size ≤ F.size := hs1
            clear hj hs1 hin
            go_wp2_with fail
            refine (l12Flat_any (F.size + 1) h' a' c' kids wr (by omega) (by omega) hk hc1 hc2 hh').mono ?_
            rintro r w2 ⟨⟨q, rfl, hq⟩, hb2⟩
            have HQ : Hid (q = true ↔ flatV h' kids) := hq
            have hn2 := Vo.from_grow hb2 next b _ hn
            have hcell2 : w2.cell? ⟨w.heap.size, 4, none⟩ = some (.slice (some ⟨b, o', none⟩) F.len c) := (hb2.cell (p := ⟨w.heap.size, 4, none⟩) (World.block_lt_of_cell? wr _ hcell)).trans hcell
            have hb3 := hb.trans (hb2.mono hb.size)
            cases q
            · have HNF : Hid (¬ flatV h' kids) := fun x => by have := HQ.out.2 x; cases this
              have hk2 := Vo.In.grow (F := kids) hk hb2
              have hh2 := hh'.grow hb2
              have g1 := (hb2.cell (World.block_lt_of_cell? wr _ h1)).trans h1
              have g2 := (hb2.cell (World.block_lt_of_cell? wr _ h2)).trans h2
              have g3 := (hb2.cell (World.block_lt_of_cell? wr _ h3)).trans h3
              have g4 := (hb2.cell (World.block_lt_of_cell? wr _ h4)).trans h4
              have g5 := (hb2.cell (World.block_lt_of_cell? wr _ h5)).trans h5
              have g6 := (hb2.cell (World.block_lt_of_cell? wr _ h6)).trans h6
              clear h1 h2 h3 h4 h5 h6 hk hn hcell hb2 hb hq hh' HQ
              go_wp2_with fail
              refine (ih h' a' c' kids w2 (by omega) (by omega) hk2 hc1 hc2 hh2).mono ?_
              rintro r w3 ⟨⟨q, rfl, hq⟩, hb2⟩
              have HQ : Hid (q = true ↔ fitsV h' kids) := hq
              have hn3 := Vo.from_grow hb2 next b _ hn2
              have hcell3 : w3.cell? ⟨w.heap.size, 4, none⟩ = some (.slice (some ⟨b, o', none⟩) F.len c) := (hb2.cell (p := ⟨w.heap.size, 4, none⟩) (World.block_lt_of_cell? w2 _ hcell2)).trans hcell2
              have hb4 := hb3.trans (hb2.mono hb3.size)
              clear g1 g2 g3 g4 g5 g6 hk2 hh2 hn2 hcell2 hb2 hb3 hq ih
              cases q
              · have HN : Hid (¬ fitsV h F) := fun x => by
                  rcases (HA.out.1 x.2).1 with hx | hx
                  · exact HNF.out hx
                  · have := HQ.out.2 hx
                    cases this
                go_wp2_with fail
                go_ret
                exact ⟨⟨false, rfl, fun h => (by cases h), fun h => absurd h HN.out⟩, hb4⟩
              · have HA2 : Hid (F.allFits ↔ next.allFits) := HA.out.trans ⟨fun x => x.2, fun x => ⟨.inr (HQ.out.1 rfl), x⟩⟩
                clear HQ HA
                go_wp2_with fail
                go_round
                case rel =>
                  refine ⟨j + 1, next, by go_num, by omega, HA2.out, by omega, .inr ⟨b, o', rfl, ?_⟩, hcell3, hb4⟩
                  rw [show o' + (j + 1) * 6 = o' + j * 6 + 6 by omega]; exact hn3
                case measure => simp [intOf]; omega
            · have HA2 : Hid (F.allFits ↔ next.allFits) := HA.out.trans ⟨fun x => x.2, fun x => ⟨.inl (HQ.out.1 rfl), x⟩⟩
              clear h1 h2 h3 h4 h5 h6 hk hn hcell hb2 hb ih hq hh' HQ HA
              go_wp2_with fail
              go_round
              case rel =>
                refine ⟨j + 1, next, by go_num, by omega, HA2.out, by omega, .inr ⟨b, o', rfl, ?_⟩, hcell2, hb3⟩
                rw [show o' + (j + 1) * 6 = o' + j * 6 + 6 by omega]; exact hn2
              case measure => simp [intOf]; omega
    · have k6' : (h.k != 6) = true := by simp [bne, k6]
      have HN : Hid (¬ fitsV h F) := fun x => k6 x.1
      clear ih hin k6
      go_enter Try.func25, Try.ntmps25
      go_wp2_with fail
      go_ret
      exact ⟨⟨false, rfl, fun h => (by cases h), fun h => absurd h HN.out⟩, hB0⟩
end Go.Proofs.Ytfgchdnpbbgmjaa
/- Plain mathematics of texts between quotes. -/
namespace Go.Proofs.Ytfgchdnpbbgmjaa.Qm
def plain (c : Int) : Bool := decide (32 ≤ c) && decide (c ≤ 126) && decide (c ≠ 34) && decide (c ≠ 92)
def hexs : List UInt8 := [48, 49, 50, 51, 52, 53, 54, 55, 56, 57, 97, 98, 99, 100, 101, 102]
def hexd (n : Nat) : UInt8 := hexs.getD n 0
end Go.Proofs.Ytfgchdnpbbgmjaa.Qm
/- Plain mathematics of texts between quotes, as JSON has them. -/
namespace Go.Proofs.Ytfgchdnpbbgmjaa.Qm
def jesc (b : UInt8) : List UInt8 :=
  if b = 34 ∨ b = 92 then [92, b] else if plain b.toNat then [b] else [92, 117, 48, 48, hexd (b.toNat / 16), hexd (b.toNat % 16)]
def jquote (l : List UInt8) : List UInt8 := 34 :: (l.flatMap jesc ++ [34])
theorem jesc_length (b : UInt8) : 1 ≤ (jesc b).length ∧ (jesc b).length ≤ 6 := by
  unfold jesc; split
  · simp
  · split <;> simp
theorem jflat_length (l : List UInt8) : (l.flatMap jesc).length ≤ 6 * l.length := by
  induction l with
  | nil => simp
  | cons c t ih => have := jesc_length c; simp only [List.flatMap_cons, List.length_append, List.length_cons]; omega
theorem jquote_length (l : List UInt8) : (jquote l).length ≤ 6 * l.length + 2 := by
  have := jflat_length l
  unfold jquote
  simp only [List.length_append, List.length_cons, List.length_nil]; omega
theorem jflat_take (s : ByteArray) (k : Nat) (h : k < s.size) : (s.data.toList.take (k + 1)).flatMap jesc = (s.data.toList.take k).flatMap jesc ++ jesc s[k] := by
  rw [List.take_succ_eq_append_getElem (by simpa using h), List.flatMap_append, List.flatMap_singleton]; rfl
theorem jesc_plain {b : UInt8} (h : plain b.toNat = true) : jesc b = [b] := by
  have h1 : ¬ (b = 34 ∨ b = 92) := by
    rintro (rfl | rfl) <;> revert h <;> decide
  rw [jesc, if_neg h1, if_pos h]
end Go.Proofs.Ytfgchdnpbbgmjaa.Qm
