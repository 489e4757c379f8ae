/- The iterator over a value and all in it. -/
import Derived.Test.YtohldacplapjkaaOkI
import Derived.Test.YtohldacplapjkaaXd
namespace Go.Proofs.Ytohldacplapjkaa
open Go.RowKit Go.Shelf
attribute [local go_sem] Oper.semAt_some
/-- the values of a list and all in them, each ahead of those in it, with how deep it stands -/
def Vo.flat : Vo → Nat → List (Nat × Hd × Vo)
  | .nil, _ => []
  | .cons h _ _ kids next, d => (d, h, kids) :: (kids.flat (d + 1) ++ next.flat d)
theorem Vo.flat_len : ∀ (F : Vo) (d : Nat), (F.flat d).length = F.size := by
  intro F
  induction F with
  | nil => intro d; rfl
  | cons h a c kids next ih1 ih2 => intro d; show ((d, h, kids) :: (kids.flat (d + 1) ++ next.flat d)).length = kids.size + 1 + next.size; simp [ih1, ih2]; omega
theorem SFrom.sub {w w' : World} (h : Sub w w') : ∀ {ss : List ByteArray} {b o : Nat}, SFrom w ss b o → SFrom w' ss b o := by
  intro ss
  induction ss with
  | nil => intro b o _; trivial
  | cons s t ih => rintro b o ⟨h1, h2, h3⟩; exact ⟨h _ _ _ h1, h2, ih h3⟩
theorem Hd.In.sub {w w' : World} {x : Hd} (y : x.In w) (h : Sub w w') : x.In w' := by
  refine ⟨?_, y.2⟩
  rcases y.1 with y | ⟨b, o, e, y⟩
  · exact .inl y
  · exact .inr ⟨b, o, e, y.sub h⟩
/-- a value that is told, with how deep it stands; what is in it lies in the world w -/
structure TV (w : World) where
  d : Nat
  h : Hd
  a : Option Addr
  kids : Vo
  c : Nat
  hin : kids.In w a
  hl : kids.len ≤ c
  hc : c ≤ maxLen
  hh : h.In w
def TV.raw {w : World} (x : TV w) : Nat × Hd × Vo := (x.d, x.h, x.kids)
def TV.enc {w : World} (x : TV w) : Array Value := #[.int .i64 x.d, .agg #[.int .i64 x.h.k, .int .i64 x.h.m, .int .i64 x.h.e, .string x.h.t, .slice x.a x.kids.len x.c, .slice x.h.na x.h.ns.length x.h.nc]]
set_option maxRecDepth 100000 in
set_option maxHeartbeats 2000000 in
theorem tellV_in (w0 : World) (l n0 n1 N B : Nat) (J Jx : List (TV w0) → World → Prop) (hJ : AbidesFrom B J) (hn0 : w0.heap.size ≤ n0)
    (hY : ∀ (q : Nat) (pre : List (TV w0)) (x : TV w0) (W : World), J pre W → pre.length < N → YieldAt Fence.wide q Try.prog l x.enc W fun e W' =>
      (e = .returned (.bool true) ∧ J (pre ++ [x]) W' ∧ Kept n0 n1 W W') ∨ (e = .returned (.bool false) ∧ Jx (pre ++ [x]) W')) (M : Nat) :
    ∀ (n : Nat) (x : TV w0) (pre : List (TV w0)) (W : World), x.kids.size < M → x.d + x.kids.size ≤ 1000000000 → n1 ≤ W.heap.size → Sub w0 W → J pre W → pre.length + (x.kids.size + 1) ≤ N →
      CallsIn Fence.wide n Try.prog 31 #[.agg #[.int .i64 x.h.k, .int .i64 x.h.m, .int .i64 x.h.e, .string x.h.t, .slice x.a x.kids.len x.c, .slice x.h.na x.h.ns.length x.h.nc], .int .i64 x.d, .func (.yield l) #[] #[]] W fun e W' =>
        (e = .returned (.bool true) ∧ (∃ ys : List (TV w0), ys.map TV.raw = x.raw :: x.kids.flat (x.d + 1) ∧ J (pre ++ ys) W') ∧ Kept n0 n1 W W') ∨
        (e = .returned (.bool false) ∧ ∃ ys : List (TV w0), ys.map TV.raw <+: (x.raw :: x.kids.flat (x.d + 1)) ∧ Jx (pre ++ ys) W') := by
  induction M with
  | zero => intro n x pre W h; omega
  | succ M ih =>
    intro n x pre W hM hd hn1 hsub hJ0 hN
    have hcc := x.hc
    unfold maxLen at hcc
    have hlc := x.hl
    have hll := x.kids.len_le
    have hin := x.hin
    have hsz1 : W.heap.size < (W.alloc (.cells #[.int .i64 x.h.k, .int .i64 x.h.m, .int .i64 x.h.e, .string x.h.t, .slice x.a x.kids.len x.c, .slice x.h.na x.h.ns.length x.h.nc] 33)).heap.size := by simp
    have hb0 : Below W.heap.size W (W.alloc (.cells #[.int .i64 x.h.k, .int .i64 x.h.m, .int .i64 x.h.e, .string x.h.t, .slice x.a x.kids.len x.c, .slice x.h.na x.h.ns.length x.h.nc] 33)) := (Below.refl _ W).alloc (Nat.le_refl _) _
    have hJ1 := hJ _ _ _ none hJ0 (grown_below hb0) (fun r e => by cases e)
    obtain ⟨fn, tmps, assign, body, hy, hR⟩ := hY (n - 1) pre x _ hJ1 (by omega)
    dsimp only [TV.enc] at hy
    refine callsIn_of_wp Try.func31 rfl trivial ?_ rfl
    simp only [Try.ntmps31, List.size_toArray, List.length_cons, List.length_nil, Nat.reduceAdd, Nat.reduceSub, Array.replicate_succ, Array.replicate_zero, List.push_toArray, List.append_toArray, List.nil_append, List.cons_append]
    gi_wp2
    refine ⟨fun h => (by cases h), hR.mono ?_⟩
    clear hR hy
    have c0 : (W.alloc (.cells #[.int .i64 x.h.k, .int .i64 x.h.m, .int .i64 x.h.e, .string x.h.t, .slice x.a x.kids.len x.c, .slice x.h.na x.h.ns.length x.h.nc] 33)).cell? ⟨W.heap.size, 0, none⟩ = some (.int .i64 x.h.k) := by simp
    have c1 : (W.alloc (.cells #[.int .i64 x.h.k, .int .i64 x.h.m, .int .i64 x.h.e, .string x.h.t, .slice x.a x.kids.len x.c, .slice x.h.na x.h.ns.length x.h.nc] 33)).cell? ⟨W.heap.size, 1, none⟩ = some (.int .i64 x.h.m) := by simp
    have c2 : (W.alloc (.cells #[.int .i64 x.h.k, .int .i64 x.h.m, .int .i64 x.h.e, .string x.h.t, .slice x.a x.kids.len x.c, .slice x.h.na x.h.ns.length x.h.nc] 33)).cell? ⟨W.heap.size, 2, none⟩ = some (.int .i64 x.h.e) := by simp
    have c3 : (W.alloc (.cells #[.int .i64 x.h.k, .int .i64 x.h.m, .int .i64 x.h.e, .string x.h.t, .slice x.a x.kids.len x.c, .slice x.h.na x.h.ns.length x.h.nc] 33)).cell? ⟨W.heap.size, 3, none⟩ = some (.string x.h.t) := by simp
    have c4 : (W.alloc (.cells #[.int .i64 x.h.k, .int .i64 x.h.m, .int .i64 x.h.e, .string x.h.t, .slice x.a x.kids.len x.c, .slice x.h.na x.h.ns.length x.h.nc] 33)).cell? ⟨W.heap.size, 4, none⟩ = some (.slice x.a x.kids.len x.c) := by simp
    have c5 : (W.alloc (.cells #[.int .i64 x.h.k, .int .i64 x.h.m, .int .i64 x.h.e, .string x.h.t, .slice x.a x.kids.len x.c, .slice x.h.na x.h.ns.length x.h.nc] 33)).cell? ⟨W.heap.size, 5, none⟩ = some (.slice x.h.na x.h.ns.length x.h.nc) := by simp
    generalize W.alloc (.cells #[.int .i64 x.h.k, .int .i64 x.h.m, .int .i64 x.h.e, .string x.h.t, .slice x.a x.kids.len x.c, .slice x.h.na x.h.ns.length x.h.nc] 33) = W1 at *
    rintro r W2 (⟨rfl, hJ2, hk2⟩ | ⟨rfl, hx2⟩)
    · have d0 := hk2.cell c0 (.inr hn1)
      have d1 := hk2.cell c1 (.inr hn1)
      have d2 := hk2.cell c2 (.inr hn1)
      have d3 := hk2.cell c3 (.inr hn1)
      have d4 := hk2.cell c4 (.inr hn1)
      have d5 := hk2.cell c5 (.inr hn1)
      have K2 : Kept n0 n1 W W2 := (Kept.of_below hb0).trans hk2
      clear c0 c1 c2 c3 c4 c5 hJ1 hk2 hb0 hsz1 hJ0
      have hmeth := belowV_method
      gi_wp2
      refine ⟨trivial, fun h => (by cases h), (callsIn_wide.2 (belowV_any _ _ _ _ _)).mono ?_⟩
      rintro r W3 ⟨rfl, hb3⟩
      have hJ3 := hJ _ _ _ none hJ2 (grown_below hb3) (fun r e => by cases e)
      have K3 : Kept n0 n1 W W3 := K2.trans (Kept.of_below hb3)
      clear d0 d1 d2 d3 d4 d5 hb3 hJ2 K2 hmeth
      gi_wp2
      gi_loopw [18] (fun i wr => ∃ (j : Nat) (ys : List (TV w0)) (G : Vo), i = .int .i64 j ∧ j + G.len = x.kids.len ∧ G.size ≤ x.kids.size ∧ ys.map TV.raw ++ G.flat (x.d + 1) = x.raw :: x.kids.flat (x.d + 1) ∧ (G = .nil ∨ ∃ b o, x.a = some ⟨b, o, none⟩ ∧ G.From w0 b (o + j * 6)) ∧ J (pre ++ ys) wr ∧ Kept n0 n1 W wr) (fun i _ => x.kids.len - (intOf i).toNat)
      case atStart =>
        refine ⟨0, [x], x.kids, rfl, by omega, Nat.le_refl _, rfl, ?_, hJ3, K3⟩
        rcases hin with h | ⟨b, o, e1, e2⟩
        · exact .inl h
        · exact .inr ⟨b, o, e1, by simpa using e2⟩
      case round =>
        obtain ⟨j, ys, G, rfl, hj, hs, hflat, hG, hJs, hK⟩ := hrel
        cases G with
        | nil =>
          have hj' : j = x.kids.len := by simpa [Vo.len] using hj
          have hf' : ys.map TV.raw = x.raw :: x.kids.flat (x.d + 1) := by simpa [Vo.flat] using hflat
          have hlt : ¬ (j : Int) < (x.kids.len : Int) := by omega
          clear hG hj hflat
          gi_wp2
          refine bodyPost_ret (results_tmp rfl _ _ _) rfl (.inl ⟨rfl, ⟨ys, hf', hJs⟩, hK⟩)
        | cons h' a' c' kids next =>
          rcases hG with hG | ⟨b, o, ha, hcells, hk, ⟨hc1, hc2⟩, hh', hn⟩
          · cases hG
          have hln : j + (next.len + 1) = x.kids.len := hj
          have hsz : kids.size + 1 + next.size ≤ x.kids.size := hs
          have hlt : (j : Int) < (x.kids.len : Int) := by omega
          have hjl : j < x.kids.len := by omega
          have hyl : ys.length + (kids.size + 1 + next.size) = 1 + x.kids.size := by
            have := congrArg List.length hflat
            simp [Vo.flat_len] at this
            have h2 : (Vo.cons h' a' c' kids next).size = kids.size + 1 + next.size := rfl
            omega
          have hsubw : Sub w0 wr := hK.sub hsub hn0
          obtain ⟨h1, h2, h3, h4, h5, h6⟩ := hcells
          have g1 := hsubw _ _ _ h1
          have g2 := hsubw _ _ _ h2
          have g3 := hsubw _ _ _ h3
          have g4 := hsubw _ _ _ h4
          have g5 := hsubw _ _ _ h5
          have g6 := hsubw _ _ _ h6
          rw [ha] at *
          clear h1 h2 h3 h4 h5 h6 hj hs
          have hbA : Below wr.heap.size wr (wr.alloc (.cells #[.int .i64 h'.k, .int .i64 h'.m, .int .i64 h'.e, .string h'.t, .slice a' kids.len c', .slice h'.na h'.ns.length h'.nc] 33)) := (Below.refl _ wr).alloc (Nat.le_refl _) _
          have KA : Kept n0 n1 wr _ := Kept.of_below hbA
          have HI := ih (n - 1) ⟨x.d + 1, h', a', kids, c', hk, hc1, hc2, hh'⟩ (pre ++ ys) (wr.alloc (.cells #[.int .i64 h'.k, .int .i64 h'.m, .int .i64 h'.e, .string h'.t, .slice a' kids.len c', .slice h'.na h'.ns.length h'.nc] 33))
            (by show kids.size < M; omega) (by show x.d + 1 + kids.size ≤ 1000000000; omega) (by have := hK.1; simp; omega) (KA.sub hsubw hn0) (hJ _ _ _ none hJs (grown_below hbA) (fun r e => by cases e)) (by show (pre ++ ys).length + (kids.size + 1) ≤ N; rw [List.length_append]; omega)
          have hfl : ys.map TV.raw ++ ((x.d + 1, h', kids) :: (kids.flat (x.d + 1 + 1) ++ next.flat (x.d + 1))) = x.raw :: x.kids.flat (x.d + 1) := hflat
          gi_wp2
          refine ⟨trivial, fun h => (by cases h), HI.mono ?_⟩
          clear HI ih hflat g1 g2 g3 g4 g5 g6
          rintro r W4 (⟨rfl, ⟨zs, hz, hJz⟩, hKz⟩ | ⟨rfl, zs, hz, hxz⟩)
          · have hK4 : Kept n0 n1 W W4 := (hK.trans KA).trans hKz
            have hJ4 : J (pre ++ (ys ++ zs)) W4 := by rw [← List.append_assoc]; exact hJz
            have hf4 : (ys ++ zs).map TV.raw ++ next.flat (x.d + 1) = x.raw :: x.kids.flat (x.d + 1) := by
              rw [← hfl, List.map_append, hz]; simp [TV.raw]
            clear hJs hK KA hKz hJz hfl hz hsubw hbA
            gi_wp2
            go_roundw
            case rel =>
              refine ⟨j + 1, ys ++ zs, next, by go_num, by omega, by omega, hf4, .inr ⟨b, o, rfl, ?_⟩, hJ4, hK4⟩
              rw [show o + (j + 1) * 6 = o + j * 6 + 6 by omega]; exact hn
            case measure => simp [intOf]; omega
          · have hx4 : Jx (pre ++ (ys ++ zs)) W4 := by rw [← List.append_assoc]; exact hxz
            have hf4 : (ys ++ zs).map TV.raw <+: (x.raw :: x.kids.flat (x.d + 1)) := by
              obtain ⟨tl, htl⟩ := hz
              refine ⟨tl ++ next.flat (x.d + 1), ?_⟩
              rw [← hfl, List.map_append, List.append_assoc, ← List.append_assoc (zs.map TV.raw), htl]; simp [TV.raw]
            clear hJs hK KA hxz hfl hz hsubw hbA
            gi_wp2
            refine bodyPost_ret (results_tmp rfl _ _ _) rfl (.inr ⟨rfl, ys ++ zs, hf4, hx4⟩)
    · gi_wp2
      refine bodyPost_ret (results_tmp rfl _ _ _) rfl (.inr ⟨rfl, [x], ?_, hx2⟩)
      exact ⟨x.kids.flat (x.d + 1), rfl⟩

set_option maxHeartbeats 1000000 in
/-- the function that allOf hands back tells the value and all in it -/
theorem allV_stops (w0 : World) (n n0 n1 Bt : Nat) (x : TV w0) (w : World) (hd : x.d = 1) (hx : x.kids.size ≤ 2000000) (hn0 : w0.heap.size ≤ n0) (hn1 : n1 ≤ w.heap.size) (hsub : Sub w0 w)
    (c0 : w.cell? ⟨Bt, 0, none⟩ = some (.int .i64 x.h.k)) (c1 : w.cell? ⟨Bt, 1, none⟩ = some (.int .i64 x.h.m)) (c2 : w.cell? ⟨Bt, 2, none⟩ = some (.int .i64 x.h.e)) (c3 : w.cell? ⟨Bt, 3, none⟩ = some (.string x.h.t)) (c4 : w.cell? ⟨Bt, 4, none⟩ = some (.slice x.a x.kids.len x.c)) (c5 : w.cell? ⟨Bt, 5, none⟩ = some (.slice x.h.na x.h.ns.length x.h.nc)) :
    SeqStopsK Fence.wide n Try.prog 30 #[.pointer (some ⟨Bt, 0, none⟩)] (fun y : TV w0 => y.enc) (Kept n0 n1) (fun ys => ys.map TV.raw = x.raw :: x.kids.flat 2) (fun ys => ys.map TV.raw <+: (x.raw :: x.kids.flat 2)) (x.kids.size + 1) w := fun l J Jx W hW hJ hJx hY h0 => by
  have hB := World.block_lt_of_cell? w _ c0
  have C0 := (hW.cell (p := ⟨Bt, 0, none⟩) hB).trans c0
  have C1 := (hW.cell (p := ⟨Bt, 1, none⟩) hB).trans c1
  have C2 := (hW.cell (p := ⟨Bt, 2, none⟩) hB).trans c2
  have C3 := (hW.cell (p := ⟨Bt, 3, none⟩) hB).trans c3
  have C4 := (hW.cell (p := ⟨Bt, 4, none⟩) hB).trans c4
  have C5 := (hW.cell (p := ⟨Bt, 5, none⟩) hB).trans c5
  have hs := hW.size
  have HT := tellV_in w0 l n0 n1 (x.kids.size + 1) _ J Jx hJ hn0 (fun q pre y W1 h1 h2 => yieldAt_any rfl q (hY pre y W1 h1 h2)) (x.kids.size + 1) (n - 1) x [] W (by omega) (by omega) (by omega) (fun b o v hv => (hW.cell (p := ⟨b, o, none⟩) (World.block_lt_of_cell? _ _ (hsub b o v hv))).trans (hsub b o v hv)) h0 (by simp)
  rw [hd] at HT
  clear c0 c1 c2 c3 c4 c5 hY
  refine callsIn_of_wp Try.func30 rfl trivial ?_ rfl
  simp only [Try.ntmps30, List.size_toArray, List.length_cons, List.length_nil, Nat.reduceAdd, Nat.reduceSub, Array.replicate_succ, Array.replicate_zero, List.push_toArray, List.append_toArray, List.nil_append, List.cons_append]
  gi_wp2
  refine ⟨trivial, fun h => (by cases h), HT.mono ?_⟩
  clear HT
  rintro r W1 (⟨rfl, ⟨ys, hz, hJz⟩, _⟩ | ⟨rfl, ys, hz, hxz⟩)
  · gi_wp2
    go_end0
    exact ⟨⟨_, rfl⟩, .inl ⟨ys, hz, by simpa using hJz⟩⟩
  · gi_wp2
    go_end0
    exact ⟨⟨_, rfl⟩, .inr ⟨ys, hz, by simpa using hxz⟩⟩

set_option maxHeartbeats 400000 in
theorem allOfV_any (h : Hd) (a : Option Addr) (n c : Nat) (w : World) :
    Calls Try.prog 22 #[valV h a n c] w fun r w' => r = .returned (.func (.func 30) #[] #[.pointer (some ⟨w.heap.size, 0, none⟩)]) ∧ w' = w.alloc (.cells #[.int .i64 h.k, .int .i64 h.m, .int .i64 h.e, .string h.t, .slice a n c, .slice h.na h.ns.length h.nc] 33) := by
  go_enter Try.func22, Try.ntmps22
  go_wp2_with fail
  go_ret
  exact ⟨rfl, rfl⟩
end Go.Proofs.Ytohldacplapjkaa
