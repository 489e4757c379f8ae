/- Lists of texts: the laws' measure, copy and comparison, and slices.Equal. -/
import Derived.Test.YtohldacplapjkaaVa
import Derived.Test.YtohldacplapjkaaRw
import Derived.Deep.RegionHeld3
import Derived.Laws.MakeOwn
namespace Go.Proofs.Ytohldacplapjkaa
open Go.RowKit
attribute [local go_sem] cell_alloc_is frozen_alloc_is
theorem drop_cons {α : Type} {ss : List α} {j : Nat} {s : α} {t : List α} (h : ss.drop j = s :: t) : ss[j]? = some s ∧ ss.drop (j + 1) = t := by
  constructor
  · have : (ss.drop j)[0]? = some s := by rw [h]; rfl
    simpa using this
  · have : (ss.drop j).drop 1 = t := by rw [h]; rfl
    rw [List.drop_drop] at this
    exact this
set_option maxHeartbeats 1000000 in
theorem szStringS_any (ss : List ByteArray) (a : Option Addr) (c : Nat) (w : World) (l : Nat) (hin : SIn w ss a) (hl : ss.length ≤ c) (hc : c ≤ maxLen) (hl2 : l ≤ 1048576) :
    Calls Try.prog 16 #[.slice a ss.length c, .int .i64 l] w fun e w' => e = .returned (.int .i64 (leftOf (sWt ss) l)) ∧ Below w.heap.size w w' := by
  unfold maxLen at hc
  have hlw := len_sWt ss
  obtain ⟨N, hN⟩ : ∃ N, ss.length = N := ⟨_, rfl⟩
  have HN : Hid (ss.length = N) := hN
  rw [hN] at hl hlw ⊢
  clear hN
  by_cases h0 : N ≤ l
  · have h0' : ¬ (l : Int) - (N : Int) < 0 := by omega
    go_enter Try.func16, Try.ntmps16
    go_wp2_with fail
    go_loopw [1, 5] (fun o i wr => ∃ (j d : Nat) (rest : List ByteArray), i = .int .i64 j ∧ o = .int .i64 d ∧ ss.drop j = rest ∧ j + rest.length = N ∧ d + sWt ss + rest.length = l + sWt rest ∧ d ≤ l ∧ Below w.heap.size w wr) (fun _ i _ => N - (intOf i).toNat)
    case atStart => exact ⟨0, l - N, ss, rfl, by congr 1; omega, rfl, by have := HN.out; omega, by have := HN.out; omega, by omega, Below.refl _ _⟩
    case round =>
      obtain ⟨j, d, rest, rfl, rfl, hd, hj, hs, hs1, hb⟩ := hrel
      cases rest with
      | nil =>
        have hj' : j = N := by simpa using hj
        have hs' : d + sWt ss = l := by simpa [sWt] using hs
        have HL : Hid (leftOf (sWt ss) l = (d : Int)) := by unfold Hid leftOf; rw [if_pos (by omega)]; congr 1; omega
        subst hj'
        clear hd hj hs hs' hin
        go_wp2_with fail
        go_ret
        exact ⟨by rw [HL.out]; rfl, hb⟩
      | cons s t =>
        have hln : j + (t.length + 1) = N := hj
        have hlt : (j : Int) < (N : Int) := by omega
        have hjl : j < N := by omega
        have hwt : d + sWt ss + (t.length + 1) = l + (s.size + 1 + sWt t) := hs
        obtain ⟨hd1, hd2⟩ := drop_cons hd
        have HD : Hid (ss.drop (j + 1) = t) := hd2
        have htw := len_sWt t
        rcases hin with hin | ⟨b, o, rfl, hF⟩
        · rw [hin] at hd1; simp at hd1
        obtain ⟨hcell, hsz⟩ := (hF.grow hb).at hd1
        unfold maxLen at hsz
        clear hj hs hd hd1 hd2 hF
        by_cases hdd : s.size ≤ d
        · have hd0 : ¬ (d : Int) - (s.size : Int) < 0 := by omega
          go_wp2_with fail
          go_round
          case rel => exact ⟨j + 1, d - s.size, t, by go_num, by congr 1; omega, HD.out, by omega, by omega, by omega, hb⟩
          case measure => simp [intOf]; omega
        · have hd0 : (d : Int) - (s.size : Int) < 0 := by omega
          have HR : Hid (leftOf (sWt ss) l = -1) := by unfold Hid leftOf; rw [if_neg (by omega)]
          go_wp2_with fail
          go_ret
          exact ⟨by rw [HR.out]; rfl, hb⟩
  · have h0' : (l : Int) - (N : Int) < 0 := by omega
    have HL : Hid (leftOf (sWt ss) l = -1) := by unfold Hid leftOf; rw [if_neg (by omega)]
    rw [HL.out]
    go_enter Try.func16, Try.ntmps16
    go_wp2_with fail
    go_ret
    exact ⟨rfl, Below.refl _ _⟩
theorem strInfo : (Try.prog.info? 9).map (fun i => (i.zero, i.size, i.bytes)) = some (some (.string ⟨#[]⟩), 1, 16) := by kernel_rfl
theorem make_strs (n : Nat) (hn : n ≤ 2000000) (w : World) : (Instr.makeSlice 25 (.int .i64 (n : Int)) (.int .i64 (n : Int))).run Try.prog w = .ok (.slice (some ⟨w.heap.size, 0, none⟩) n n) (w.alloc (.cells (madeCells #[.string ⟨#[]⟩] n) 9)) := by
  obtain ⟨i, hi, hzz⟩ := Option.map_eq_some_iff.1 strInfo
  simp only [Prod.mk.injEq] at hzz
  obtain ⟨hz, hs, hb⟩ := hzz
  have hr := run_make (P := Try.prog) w 25 9 i _ Try.underlying25 hi hz .i64 .i64 n n (by omega) (Int.le_refl _) (by rw [hb]; omega) (by omega)
  simp only [Int.toNat_natCast, hs, Nat.mul_one] at hr
  exact hr
set_option maxHeartbeats 1000000 in
theorem toStringS_any (ss : List ByteArray) (a : Option Addr) (c : Nat) (w : World) (hin : SIn w ss a) (hn : ss.length ≤ 2000000) :
    Calls Try.prog 21 #[.slice a ss.length c] w fun r w' => (∃ nb : Nat, r = .returned (.slice (some ⟨nb, 0, none⟩) ss.length ss.length) ∧ w.heap.size ≤ nb ∧ SFrom w' ss nb 0 ∧ Clean w.heap.size w') ∧ Below w.heap.size w w' := by
  have hmk := make_strs ss.length hn
  obtain ⟨N, hN⟩ : ∃ N, ss.length = N := ⟨_, rfl⟩
  have HN : Hid (ss.length = N) := hN
  rw [hN] at hmk hn ⊢
  clear hN
  have hroom0 := roomN_new w (madeCells #[.string ⟨#[]⟩] N) 9
  rw [show (madeCells #[Value.string ⟨#[]⟩] N).size = N by rw [size_madeCells]] at hroom0
  have HC0 : Hid (Clean w.heap.size (w.alloc (.cells (madeCells #[.string ⟨#[]⟩] N) 9))) := (Clean.refl w).alloc _ _
  have hb0 : Below w.heap.size w (w.alloc (.cells (madeCells #[.string ⟨#[]⟩] N) 9)) := (Below.refl _ _).alloc (Nat.le_refl _) _
  have HR0 : Hid (RoomN (w.alloc (.cells (madeCells #[.string ⟨#[]⟩] N) 9)) w.heap.size N) := hroom0
  clear hroom0
  go_enter Try.func21, Try.ntmps21
  go_wp2_with fail
  go_loopw [4] (fun i wr => ∃ (j : Nat), i = .int .i64 j ∧ j ≤ N ∧ RoomN wr w.heap.size N ∧ (∀ q s, q < j → ss[q]? = some s → wr.cell? ⟨w.heap.size, q, none⟩ = some (.string s)) ∧ Clean w.heap.size wr ∧ Below w.heap.size w wr) (fun i _ => N - (intOf i).toNat)
  case atStart => exact ⟨0, rfl, Nat.zero_le _, HR0.out, fun q s hq => absurd hq (Nat.not_lt_zero _), HC0.out, hb0⟩
  case round =>
    obtain ⟨j, rfl, hj, hR, hP, hcl, hb⟩ := hrel
    have HCl : Hid (Clean w.heap.size wr) := hcl
    have HP : Hid (∀ q s, q < j → ss[q]? = some s → wr.cell? ⟨w.heap.size, q, none⟩ = some (.string s)) := hP
    clear hcl hP HR0 HC0 hb0
    by_cases hjn : j < N
    · have hlt : (j : Int) < (N : Int) := by omega
      have hjs : j < ss.length := by rw [HN.out]; exact hjn
      obtain ⟨s, hs⟩ : ∃ s, ss[j]? = some s := ⟨ss[j], List.getElem?_eq_getElem hjs⟩
      rcases hin with hin | ⟨b, o, rfl, hF⟩
      · rw [hin] at hs; simp at hs
      obtain ⟨hcell, hsz⟩ := (hF.grow hb).at hs
      have HS : Hid (ss[j]? = some s) := hs
      have HRm : Hid (RoomN wr w.heap.size N) := hR
      obtain ⟨⟨v0, c0⟩, f0⟩ := hR j hjn
      clear hs hF hR hjs
      go_wp2_with fail
      go_round
      case rel =>
        refine ⟨j + 1, by go_num, by omega, HRm.out.set _ _ _, fun q u hq hu => ?_, HCl.out.setCell _ _, hb.setCell (p := ⟨w.heap.size, j, none⟩) (Nat.le_refl _) _⟩
        by_cases e : q = j
        · subst e
          rw [HS.out] at hu
          cases hu
          exact set_near ⟨_, c0⟩
        · exact (set_far (fun e' => e e'.symm)).trans (HP.out q u (by omega) hu)
      case measure => simp [intOf]; omega
    · have e : j = N := by omega
      subst e
      have HF : Hid (SFrom wr ss w.heap.size 0) := SFrom.of fun i s hs => by
        have hi : i < ss.length := (List.getElem?_eq_some_iff.1 hs).1
        refine ⟨by rw [Nat.zero_add]; exact HP.out i s (by rw [← HN.out]; exact hi) hs, ?_⟩
        rcases hin with hin | ⟨b, o, rfl, hF⟩
        · rw [hin] at hs; simp at hs
        · exact (hF.at hs).2
      clear hin
      go_wp2_with fail
      go_ret
      exact ⟨⟨w.heap.size, rfl, Nat.le_refl _, HF.out, HCl.out⟩, hb⟩
set_option maxRecDepth 100000 in
set_option maxHeartbeats 1000000 in
theorem es6 {Q : Exit → Act → World → Prop} {t2 t3 t4 t6 t7 t8 t9 t10 t11 t12 t13 t14 t15 t16 t17 t18 t19 t20 t21 t22 t23 t24 t25 : Value} {W : World} {b o n c b2 o2 n2 c2 j : Nat} {s s2 : ByteArray} {q : Bool}
    (hj : (j : Int) < (n : Int)) (hj2 : (j : Int) < (n2 : Int)) (h1 : W.cell? ⟨b, o + j, none⟩ = some (.string s)) (h2 : W.cell? ⟨b2, o2 + j, none⟩ = some (.string s2)) (hq : (s.toList == s2.toList) = !q)
    (hp : ∀ p d v a w, Q (.panic p) (Act.put a d v) w → Q (.panic p) a w) (h : ∀ ws v17 v18 v19 v20 v21 v22 v23 v24, Below W.heap.size W ws → Q .normal { tmps := ((.slice (some ⟨b, o, none⟩) n c) :: (.slice (some ⟨b2, o2, none⟩) n2 c2) :: t2 :: t3 :: t4 :: (.int .i64 (j : Nat)) :: t6 :: t7 :: t8 :: t9 :: t10 :: t11 :: t12 :: t13 :: t14 :: t15 :: t16 :: v17 :: v18 :: v19 :: v20 :: v21 :: v22 :: v23 :: v24 :: .bool q :: []).toArray, defers := [] } ws) :
    Code.wp Try.prog (Code.region 6 #[{ dst := some 17, op := Op.move (Operand.tmp 0), type := 25, pos := "exact.go:261", after := #[], guard := none }, { dst := some 18, op := Op.move (Operand.tmp 5), type := 3, pos := "exact.go:261", after := #[], guard := none }, { dst := some 19, op := Op.indexAddr 25 (Operand.tmp 17) (Operand.tmp 18), type := 0, pos := "exact.go:261", after := #[{ on := 0, ground := Ground.data }, { on := 1, ground := Ground.data }], guard := none }, { dst := some 20, op := Op.load 9 (Operand.tmp 19), type := 9, pos := "exact.go:261", after := #[{ on := 2, ground := Ground.data }], guard := none }, { dst := some 21, op := Op.move (Operand.tmp 1), type := 25, pos := "exact.go:261", after := #[], guard := none }, { dst := some 22, op := Op.move (Operand.tmp 5), type := 3, pos := "exact.go:261", after := #[], guard := none }, { dst := some 23, op := Op.indexAddr 25 (Operand.tmp 21) (Operand.tmp 22), type := 0, pos := "exact.go:261", after := #[{ on := 4, ground := Ground.data }, { on := 5, ground := Ground.data }], guard := none }, { dst := some 24, op := Op.load 9 (Operand.tmp 23), type := 9, pos := "exact.go:261", after := #[{ on := 6, ground := Ground.data }], guard := none }, { dst := some 25, op := Op.binOp BinOp.neq 9 (Operand.tmp 20) (Operand.tmp 24) 9, type := 4, pos := "exact.go:261", after := #[{ on := 3, ground := Ground.data }, { on := 7, ground := Ground.data }], guard := none }] true) Q { tmps := ((.slice (some ⟨b, o, none⟩) n c) :: (.slice (some ⟨b2, o2, none⟩) n2 c2) :: t2 :: t3 :: t4 :: (.int .i64 (j : Nat)) :: t6 :: t7 :: t8 :: t9 :: t10 :: t11 :: t12 :: t13 :: t14 :: t15 :: t16 :: t17 :: t18 :: t19 :: t20 :: t21 :: t22 :: t23 :: t24 :: t25 :: []).toArray, defers := [] } W := by
  have hS0 : W.drew.cell? ⟨b, o + j, none⟩ = some (.string s) ∧ W.drew.cell? ⟨b2, o2 + j, none⟩ = some (.string s2) := ⟨h1, h2⟩
  refine wp_region_held_drew (S := fun w' => w'.cell? ⟨b, o + j, none⟩ = some (.string s) ∧ w'.cell? ⟨b2, o2 + j, none⟩ = some (.string s2)) (by kernel_rfl) hS0 (fun hHeld => ?_)
  refine wpAnyH_take (i := 0) (v := .slice (some ⟨b, o, none⟩) n c) rfl (by kernel_rfl) (by kernel_rfl) (by kernel_rfl) (fun _ _ _ h => hp _ _ _ _ _ h) (Or.inl ⟨by rfl, ?_⟩) (by assumption) ?_
  · intro w hSw
    (try dsimp only at hSw)
    go_simp
  (try simp only [Act.put, List.getElem_toArray, List.getElem_cons_zero, List.setIfInBounds_toArray, List.set_cons_zero, List.set_cons_succ])
  refine wpAnyH_take (i := 1) (v := .int .i64 (j : Nat)) rfl (by kernel_rfl) (by kernel_rfl) (by kernel_rfl) (fun _ _ _ h => hp _ _ _ _ _ h) (Or.inl ⟨by rfl, ?_⟩) (by assumption) ?_
  · intro w hSw
    (try dsimp only at hSw)
    go_simp
  (try simp only [Act.put, List.getElem_toArray, List.getElem_cons_zero, List.getElem_cons_succ, List.setIfInBounds_toArray, List.set_cons_zero, List.set_cons_succ])
  refine wpAnyH_take (i := 2) (v := .pointer (some ⟨b, o + j, none⟩)) rfl (by kernel_rfl) (by kernel_rfl) (by kernel_rfl) (fun _ _ _ h => hp _ _ _ _ _ h) (Or.inl ⟨by rfl, ?_⟩) (by assumption) ?_
  · intro w hSw
    (try dsimp only at hSw)
    go_simp
  (try simp only [Act.put, List.getElem_toArray, List.getElem_cons_zero, List.getElem_cons_succ, List.setIfInBounds_toArray, List.set_cons_zero, List.set_cons_succ])
  refine wpAnyH_take (i := 3) (v := .string s) rfl (by kernel_rfl) (by kernel_rfl) (by kernel_rfl) (fun _ _ _ h => hp _ _ _ _ _ h) (Or.inl ⟨by rfl, ?_⟩) (by assumption) ?_
  · intro w hSw
    (try dsimp only at hSw)
    go_simp
  (try simp only [Act.put, List.getElem_toArray, List.getElem_cons_zero, List.getElem_cons_succ, List.setIfInBounds_toArray, List.set_cons_zero, List.set_cons_succ])
  refine wpAnyH_take (i := 4) (v := .slice (some ⟨b2, o2, none⟩) n2 c2) rfl (by kernel_rfl) (by kernel_rfl) (by kernel_rfl) (fun _ _ _ h => hp _ _ _ _ _ h) (Or.inl ⟨by rfl, ?_⟩) (by assumption) ?_
  · intro w hSw
    (try dsimp only at hSw)
    go_simp
  (try simp only [Act.put, List.getElem_toArray, List.getElem_cons_zero, List.getElem_cons_succ, List.setIfInBounds_toArray, List.set_cons_zero, List.set_cons_succ])
  refine wpAnyH_take (i := 5) (v := .int .i64 (j : Nat)) rfl (by kernel_rfl) (by kernel_rfl) (by kernel_rfl) (fun _ _ _ h => hp _ _ _ _ _ h) (Or.inl ⟨by rfl, ?_⟩) (by assumption) ?_
  · intro w hSw
    (try dsimp only at hSw)
    go_simp
  (try simp only [Act.put, List.getElem_toArray, List.getElem_cons_zero, List.getElem_cons_succ, List.setIfInBounds_toArray, List.set_cons_zero, List.set_cons_succ])
  refine wpAnyH_take (i := 6) (v := .pointer (some ⟨b2, o2 + j, none⟩)) rfl (by kernel_rfl) (by kernel_rfl) (by kernel_rfl) (fun _ _ _ h => hp _ _ _ _ _ h) (Or.inl ⟨by rfl, ?_⟩) (by assumption) ?_
  · intro w hSw
    (try dsimp only at hSw)
    go_simp
  (try simp only [Act.put, List.getElem_toArray, List.getElem_cons_zero, List.getElem_cons_succ, List.setIfInBounds_toArray, List.set_cons_zero, List.set_cons_succ])
  refine wpAnyH_take (i := 7) (v := .string s2) rfl (by kernel_rfl) (by kernel_rfl) (by kernel_rfl) (fun _ _ _ h => hp _ _ _ _ _ h) (Or.inl ⟨by rfl, ?_⟩) (by assumption) ?_
  · intro w hSw
    (try dsimp only at hSw)
    go_simp
  (try simp only [Act.put, List.getElem_toArray, List.getElem_cons_zero, List.getElem_cons_succ, List.setIfInBounds_toArray, List.set_cons_zero, List.set_cons_succ])
  refine wpAnyH_take (i := 8) (v := .bool q) rfl (by kernel_rfl) (by kernel_rfl) (by kernel_rfl) (fun _ _ _ h => hp _ _ _ _ _ h) (Or.inl ⟨by rfl, ?_⟩) (by assumption) ?_
  · intro w hSw
    (try dsimp only at hSw)
    go_simp
  (try simp only [Act.put, List.getElem_toArray, List.getElem_cons_zero, List.getElem_cons_succ, List.setIfInBounds_toArray, List.set_cons_zero, List.set_cons_succ])
  refine wpAnyH_done (by kernel_rfl) ?_ _
  exact h _ _ _ _ _ _ _ _ _ ((Below.refl W.heap.size W).drew)
set_option maxRecDepth 100000 in
set_option maxHeartbeats 1000000 in
theorem sq6 {Q : Exit → Act → World → Prop} {t2 t3 t4 t6 t7 t8 t9 t10 t11 t12 t13 t14 t15 t16 t17 t18 t19 t20 t21 t22 t23 t24 t25 : Value} {W : World} {b o n c b2 o2 n2 c2 j : Nat} {s s2 : ByteArray} {q : Bool}
    (hj : (j : Int) < (n : Int)) (hj2 : (j : Int) < (n2 : Int)) (h1 : W.cell? ⟨b, o + j, none⟩ = some (.string s)) (h2 : W.cell? ⟨b2, o2 + j, none⟩ = some (.string s2)) (hq : (s.toList == s2.toList) = !q)
    (hp : ∀ p d v a w, Q (.panic p) (Act.put a d v) w → Q (.panic p) a w) (h : ∀ ws v16 v17 v18 v19 v20 v21 v22 v23, Below W.heap.size W ws → Q .normal { tmps := ((.slice (some ⟨b, o, none⟩) n c) :: (.slice (some ⟨b2, o2, none⟩) n2 c2) :: t2 :: t3 :: t4 :: (.int .i64 (j : Nat)) :: t6 :: t7 :: t8 :: t9 :: t10 :: t11 :: t12 :: t13 :: t14 :: t15 :: v16 :: v17 :: v18 :: v19 :: v20 :: v21 :: v22 :: v23 :: .bool q :: t25 :: []).toArray, defers := [] } ws) :
    Code.wp Try.prog (Code.region 6 #[{ dst := some 16, op := Op.move (Operand.tmp 0), type := 25, pos := "slices.go:25", after := #[], guard := none }, { dst := some 17, op := Op.move (Operand.tmp 5), type := 3, pos := "slices.go:25", after := #[], guard := none }, { dst := some 18, op := Op.indexAddr 25 (Operand.tmp 16) (Operand.tmp 17), type := 0, pos := "slices.go:25", after := #[{ on := 0, ground := Ground.data }, { on := 1, ground := Ground.data }], guard := none }, { dst := some 19, op := Op.load 9 (Operand.tmp 18), type := 9, pos := "slices.go:25", after := #[{ on := 2, ground := Ground.data }], guard := none }, { dst := some 20, op := Op.move (Operand.tmp 1), type := 25, pos := "slices.go:25", after := #[], guard := none }, { dst := some 21, op := Op.move (Operand.tmp 5), type := 3, pos := "slices.go:25", after := #[], guard := none }, { dst := some 22, op := Op.indexAddr 25 (Operand.tmp 20) (Operand.tmp 21), type := 0, pos := "slices.go:25", after := #[{ on := 4, ground := Ground.data }, { on := 5, ground := Ground.data }], guard := none }, { dst := some 23, op := Op.load 9 (Operand.tmp 22), type := 9, pos := "slices.go:25", after := #[{ on := 6, ground := Ground.data }], guard := none }, { dst := some 24, op := Op.binOp BinOp.neq 9 (Operand.tmp 19) (Operand.tmp 23) 9, type := 4, pos := "slices.go:25", after := #[{ on := 3, ground := Ground.data }, { on := 7, ground := Ground.data }], guard := none }] true) Q { tmps := ((.slice (some ⟨b, o, none⟩) n c) :: (.slice (some ⟨b2, o2, none⟩) n2 c2) :: t2 :: t3 :: t4 :: (.int .i64 (j : Nat)) :: t6 :: t7 :: t8 :: t9 :: t10 :: t11 :: t12 :: t13 :: t14 :: t15 :: t16 :: t17 :: t18 :: t19 :: t20 :: t21 :: t22 :: t23 :: t24 :: t25 :: []).toArray, defers := [] } W := by
  have hS0 : W.drew.cell? ⟨b, o + j, none⟩ = some (.string s) ∧ W.drew.cell? ⟨b2, o2 + j, none⟩ = some (.string s2) := ⟨h1, h2⟩
  refine wp_region_held_drew (S := fun w' => w'.cell? ⟨b, o + j, none⟩ = some (.string s) ∧ w'.cell? ⟨b2, o2 + j, none⟩ = some (.string s2)) (by kernel_rfl) hS0 (fun hHeld => ?_)
  refine wpAnyH_take (i := 0) (v := .slice (some ⟨b, o, none⟩) n c) rfl (by kernel_rfl) (by kernel_rfl) (by kernel_rfl) (fun _ _ _ h => hp _ _ _ _ _ h) (Or.inl ⟨by rfl, ?_⟩) (by assumption) ?_
  · intro w hSw
    (try dsimp only at hSw)
    go_simp
  (try simp only [Act.put, List.getElem_toArray, List.getElem_cons_zero, List.setIfInBounds_toArray, List.set_cons_zero, List.set_cons_succ])
  refine wpAnyH_take (i := 1) (v := .int .i64 (j : Nat)) rfl (by kernel_rfl) (by kernel_rfl) (by kernel_rfl) (fun _ _ _ h => hp _ _ _ _ _ h) (Or.inl ⟨by rfl, ?_⟩) (by assumption) ?_
  · intro w hSw
    (try dsimp only at hSw)
    go_simp
  (try simp only [Act.put, List.getElem_toArray, List.getElem_cons_zero, List.getElem_cons_succ, List.setIfInBounds_toArray, List.set_cons_zero, List.set_cons_succ])
  refine wpAnyH_take (i := 2) (v := .pointer (some ⟨b, o + j, none⟩)) rfl (by kernel_rfl) (by kernel_rfl) (by kernel_rfl) (fun _ _ _ h => hp _ _ _ _ _ h) (Or.inl ⟨by rfl, ?_⟩) (by assumption) ?_
  · intro w hSw
    (try dsimp only at hSw)
    go_simp
  (try simp only [Act.put, List.getElem_toArray, List.getElem_cons_zero, List.getElem_cons_succ, List.setIfInBounds_toArray, List.set_cons_zero, List.set_cons_succ])
  refine wpAnyH_take (i := 3) (v := .string s) rfl (by kernel_rfl) (by kernel_rfl) (by kernel_rfl) (fun _ _ _ h => hp _ _ _ _ _ h) (Or.inl ⟨by rfl, ?_⟩) (by assumption) ?_
  · intro w hSw
    (try dsimp only at hSw)
    go_simp
  (try simp only [Act.put, List.getElem_toArray, List.getElem_cons_zero, List.getElem_cons_succ, List.setIfInBounds_toArray, List.set_cons_zero, List.set_cons_succ])
  refine wpAnyH_take (i := 4) (v := .slice (some ⟨b2, o2, none⟩) n2 c2) rfl (by kernel_rfl) (by kernel_rfl) (by kernel_rfl) (fun _ _ _ h => hp _ _ _ _ _ h) (Or.inl ⟨by rfl, ?_⟩) (by assumption) ?_
  · intro w hSw
    (try dsimp only at hSw)
    go_simp
  (try simp only [Act.put, List.getElem_toArray, List.getElem_cons_zero, List.getElem_cons_succ, List.setIfInBounds_toArray, List.set_cons_zero, List.set_cons_succ])
  refine wpAnyH_take (i := 5) (v := .int .i64 (j : Nat)) rfl (by kernel_rfl) (by kernel_rfl) (by kernel_rfl) (fun _ _ _ h => hp _ _ _ _ _ h) (Or.inl ⟨by rfl, ?_⟩) (by assumption) ?_
  · intro w hSw
    (try dsimp only at hSw)
    go_simp
  (try simp only [Act.put, List.getElem_toArray, List.getElem_cons_zero, List.getElem_cons_succ, List.setIfInBounds_toArray, List.set_cons_zero, List.set_cons_succ])
  refine wpAnyH_take (i := 6) (v := .pointer (some ⟨b2, o2 + j, none⟩)) rfl (by kernel_rfl) (by kernel_rfl) (by kernel_rfl) (fun _ _ _ h => hp _ _ _ _ _ h) (Or.inl ⟨by rfl, ?_⟩) (by assumption) ?_
  · intro w hSw
    (try dsimp only at hSw)
    go_simp
  (try simp only [Act.put, List.getElem_toArray, List.getElem_cons_zero, List.getElem_cons_succ, List.setIfInBounds_toArray, List.set_cons_zero, List.set_cons_succ])
  refine wpAnyH_take (i := 7) (v := .string s2) rfl (by kernel_rfl) (by kernel_rfl) (by kernel_rfl) (fun _ _ _ h => hp _ _ _ _ _ h) (Or.inl ⟨by rfl, ?_⟩) (by assumption) ?_
  · intro w hSw
    (try dsimp only at hSw)
    go_simp
  (try simp only [Act.put, List.getElem_toArray, List.getElem_cons_zero, List.getElem_cons_succ, List.setIfInBounds_toArray, List.set_cons_zero, List.set_cons_succ])
  refine wpAnyH_take (i := 8) (v := .bool q) rfl (by kernel_rfl) (by kernel_rfl) (by kernel_rfl) (fun _ _ _ h => hp _ _ _ _ _ h) (Or.inl ⟨by rfl, ?_⟩) (by assumption) ?_
  · intro w hSw
    (try dsimp only at hSw)
    go_simp
  (try simp only [Act.put, List.getElem_toArray, List.getElem_cons_zero, List.getElem_cons_succ, List.setIfInBounds_toArray, List.set_cons_zero, List.set_cons_succ])
  refine wpAnyH_done (by kernel_rfl) ?_ _
  exact h _ _ _ _ _ _ _ _ _ ((Below.refl W.heap.size W).drew)
theorem text_ext {a b : ByteArray} (h : a.toList = b.toList) : a = b := by
  rw [ByteArray.toList_eq, ByteArray.toList_eq] at h
  cases a; cases b; simpa using h
theorem text_ne {a b : ByteArray} (h : a ≠ b) : (a.toList != b.toList) = true := by
  rw [bne_iff_ne]; exact fun e => h (text_ext e)
theorem text_eq (a : ByteArray) : (a.toList != a.toList) = false := by simp
set_option maxRecDepth 100000 in
set_option maxHeartbeats 1000000 in
theorem eqStringS_any (ss tt : List ByteArray) (a a2 : Option Addr) (c c2 : Nat) (w : World) (hin : SIn w ss a) (hin2 : SIn w tt a2) (hl : ss.length ≤ c) (hc : c ≤ maxLen) (hl2 : tt.length ≤ c2) :
    Calls Try.prog 26 #[.slice a ss.length c, .slice a2 tt.length c2] w fun r w' => r = .returned (.bool (decide (ss = tt))) ∧ Below w.heap.size w w' := by
  unfold maxLen at hc
  by_cases hlen : ss.length = tt.length
  · obtain ⟨N, hN⟩ : ∃ N, ss.length = N := ⟨_, rfl⟩
    have HN : Hid (ss.length = N) := hN
    have HN2 : Hid (tt.length = N) := hlen.symm.trans hN
    rw [← hlen, hN] at hl2 ⊢
    rw [hN] at hl
    clear hlen hN
    go_enter Try.func26, Try.ntmps26
    go_wp2_with fail
    go_loopw [5] (fun i wr => ∃ (j : Nat), i = .int .i64 j ∧ j ≤ N ∧ (∀ q, q < j → ss[q]? = tt[q]?) ∧ Below w.heap.size w wr) (fun i _ => N - (intOf i).toNat)
    case atStart => exact ⟨0, rfl, Nat.zero_le _, fun q hq => absurd hq (Nat.not_lt_zero _), Below.refl _ _⟩
    case round =>
      obtain ⟨j, rfl, hj, hP, hb⟩ := hrel
      have HP : Hid (∀ q, q < j → ss[q]? = tt[q]?) := hP
      clear hP
      by_cases hjn : j < N
      · have hlt : (j : Int) < (N : Int) := by omega
        obtain ⟨s, hs⟩ : ∃ s, ss[j]? = some s := ⟨ss[j]'(by rw [HN.out]; exact hjn), List.getElem?_eq_getElem _⟩
        obtain ⟨s2, hs2⟩ : ∃ s, tt[j]? = some s := ⟨tt[j]'(by rw [HN2.out]; exact hjn), List.getElem?_eq_getElem _⟩
        rcases hin with hin | ⟨b, o, rfl, hF⟩
        · rw [hin] at hs; simp at hs
        rcases hin2 with hin2 | ⟨b2, o2, rfl, hF2⟩
        · rw [hin2] at hs2; simp at hs2
        have h1 := ((hF.grow hb).at hs).1
        have h2 := ((hF2.grow hb).at hs2).1
        have HS : Hid (ss[j]? = some s ∧ tt[j]? = some s2) := ⟨hs, hs2⟩
        clear hs hs2 hF hF2
        by_cases he : s = s2
        · subst he
          go_wp2_with fail
          refine es6 hlt hlt h1 h2 (q := false) (by simp) (fun _ d _ _ _ h => by cases d <;> exact h) ?_
          intro ws v17 v18 v19 v20 v21 v22 v23 v24 hb1
          have hb2 := hb.trans (hb1.mono hb.size)
          clear h1 h2 hb1 hb
          go_wp2_with fail
          go_round
          case rel =>
            refine ⟨j + 1, by go_num, by omega, fun q hq => ?_, hb2⟩
            by_cases e : q = j
            · rw [e, HS.out.1, HS.out.2]
            · exact HP.out q (by omega)
          case measure => simp [intOf]; omega
        · have hne := text_ne he
          have HR : Hid (decide (ss = tt) = false) := decide_eq_false fun e => he (by have := HS.out; rw [e] at this; exact Option.some.inj (this.1.symm.trans this.2))
          go_wp2_with fail
          refine es6 hlt hlt h1 h2 (q := true) (by simpa using hne) (fun _ d _ _ _ h => by cases d <;> exact h) ?_
          intro ws v17 v18 v19 v20 v21 v22 v23 v24 hb1
          have hb2 := hb.trans (hb1.mono hb.size)
          clear h1 h2 hb1 hb hne
          go_wp2_with fail
          go_ret
          exact ⟨by rw [HR.out]; rfl, hb2⟩
      · have e : j = N := by omega
        subst e
        have HR : Hid (decide (ss = tt) = true) := decide_eq_true (List.ext_getElem? fun i => by
          by_cases hi : i < j
          · exact HP.out i hi
          · rw [List.getElem?_eq_none (by rw [HN.out]; omega), List.getElem?_eq_none (by rw [HN2.out]; omega)])
        clear hin hin2
        go_wp2_with fail
        go_ret
        exact ⟨by rw [HR.out]; rfl, hb⟩
  · have hne : ((ss.length : Int) != (tt.length : Int)) = true := by simp; omega
    have HR : Hid (decide (ss = tt) = false) := decide_eq_false fun e => hlen (by rw [e])
    rw [HR.out]
    obtain ⟨n1, h1⟩ : ∃ n1, ss.length = n1 := ⟨_, rfl⟩
    obtain ⟨n2, h2⟩ : ∃ n2, tt.length = n2 := ⟨_, rfl⟩
    rw [h1, h2] at hne hlen ⊢
    have hlen' : ¬ (n1 : Int) = (n2 : Int) := by omega
    clear hin hin2 h1 h2 HR
    go_enter Try.func26, Try.ntmps26
    go_wp2_with fail
    go_ret
    exact ⟨rfl, Below.refl _ _⟩
set_option maxRecDepth 100000 in
set_option maxHeartbeats 1000000 in
theorem equalS_any (ss tt : List ByteArray) (a a2 : Option Addr) (c c2 : Nat) (w : World) (hin : SIn w ss a) (hin2 : SIn w tt a2) (hl : ss.length ≤ c) (hc : c ≤ maxLen) (hl2 : tt.length ≤ c2) :
    Calls Try.prog 40 #[.slice a ss.length c, .slice a2 tt.length c2] w fun r w' => r = .returned (.bool (decide (ss = tt))) ∧ Below w.heap.size w w' := by
  unfold maxLen at hc
  by_cases hlen : ss.length = tt.length
  · obtain ⟨N, hN⟩ : ∃ N, ss.length = N := ⟨_, rfl⟩
    have HN : Hid (ss.length = N) := hN
    have HN2 : Hid (tt.length = N) := hlen.symm.trans hN
    rw [← hlen, hN] at hl2 ⊢
    rw [hN] at hl
    clear hlen hN
    go_enter Try.func40, Try.ntmps40
    go_wp2_with fail
    go_loopw [13] (fun i wr => ∃ (j : Nat), i = .int .i64 j ∧ j ≤ N ∧ (∀ q, q < j → ss[q]? = tt[q]?) ∧ Below w.heap.size w wr) (fun i _ => N - (intOf i).toNat)
    case atStart => exact ⟨0, rfl, Nat.zero_le _, fun q hq => absurd hq (Nat.not_lt_zero _), Below.refl _ _⟩
    case round =>
      obtain ⟨j, rfl, hj, hP, hb⟩ := hrel
      have HP : Hid (∀ q, q < j → ss[q]? = tt[q]?) := hP
      clear hP
      by_cases hjn : j < N
      · have hlt : (j : Int) < (N : Int) := by omega
        obtain ⟨s, hs⟩ : ∃ s, ss[j]? = some s := ⟨ss[j]'(by rw [HN.out]; exact hjn), List.getElem?_eq_getElem _⟩
        obtain ⟨s2, hs2⟩ : ∃ s, tt[j]? = some s := ⟨tt[j]'(by rw [HN2.out]; exact hjn), List.getElem?_eq_getElem _⟩
        rcases hin with hin | ⟨b, o, rfl, hF⟩
        · rw [hin] at hs; simp at hs
        rcases hin2 with hin2 | ⟨b2, o2, rfl, hF2⟩
        · rw [hin2] at hs2; simp at hs2
        have h1 := ((hF.grow hb).at hs).1
        have h2 := ((hF2.grow hb).at hs2).1
        have HS : Hid (ss[j]? = some s ∧ tt[j]? = some s2) := ⟨hs, hs2⟩
        clear hs hs2 hF hF2
        by_cases he : s = s2
        · subst he
          go_wp2_with fail
          refine sq6 hlt hlt h1 h2 (q := false) (by simp) (fun _ d _ _ _ h => by cases d <;> exact h) ?_
          intro ws v16 v17 v18 v19 v20 v21 v22 v23 hb1
          have hb2 := hb.trans (hb1.mono hb.size)
          clear h1 h2 hb1 hb
          go_wp2_with fail
          go_round
          case rel =>
            refine ⟨j + 1, by go_num, by omega, fun q hq => ?_, hb2⟩
            by_cases e : q = j
            · rw [e, HS.out.1, HS.out.2]
            · exact HP.out q (by omega)
          case measure => simp [intOf]; omega
        · have hne := text_ne he
          have HR : Hid (decide (ss = tt) = false) := decide_eq_false fun e => he (by have := HS.out; rw [e] at this; exact Option.some.inj (this.1.symm.trans this.2))
          go_wp2_with fail
          refine sq6 hlt hlt h1 h2 (q := true) (by simpa using hne) (fun _ d _ _ _ h => by cases d <;> exact h) ?_
          intro ws v16 v17 v18 v19 v20 v21 v22 v23 hb1
          have hb2 := hb.trans (hb1.mono hb.size)
          clear h1 h2 hb1 hb hne
          go_wp2_with fail
          go_ret
          exact ⟨by rw [HR.out]; rfl, hb2⟩
      · have e : j = N := by omega
        subst e
        have HR : Hid (decide (ss = tt) = true) := decide_eq_true (List.ext_getElem? fun i => by
          by_cases hi : i < j
          · exact HP.out i hi
          · rw [List.getElem?_eq_none (by rw [HN.out]; omega), List.getElem?_eq_none (by rw [HN2.out]; omega)])
        clear hin hin2
        go_wp2_with fail
        go_ret
        exact ⟨by rw [HR.out]; rfl, hb⟩
  · have hne : ((ss.length : Int) != (tt.length : Int)) = true := by simp; omega
    have HR : Hid (decide (ss = tt) = false) := decide_eq_false fun e => hlen (by rw [e])
    rw [HR.out]
    obtain ⟨n1, h1⟩ : ∃ n1, ss.length = n1 := ⟨_, rfl⟩
    obtain ⟨n2, h2⟩ : ∃ n2, tt.length = n2 := ⟨_, rfl⟩
    rw [h1, h2] at hne hlen ⊢
    have hlen' : ¬ (n1 : Int) = (n2 : Int) := by omega
    clear hin hin2 h1 h2 HR
    go_enter Try.func40, Try.ntmps40
    go_wp2_with fail
    go_ret
    exact ⟨rfl, Below.refl _ _⟩
end Go.Proofs.Ytohldacplapjkaa
