/- Papers: the laws' own measure, copy and comparison. -/
import Derived.Test.YtkdilgmlabaehaaPa
import Derived.Laws.MakeOwn
import Derived.Deep.RegionHeld3
import Derived.Deep.DeepCutAuto
namespace Go.Proofs.Ytkdilgmlabaehaa
open Go.RowKit
/-- what is left, or -1 -/
def SaysLeft (l : Int) (n : Nat) (e : Ending) : Prop := ∃ d : Int, e = .returned (.int .i64 d) ∧ -1 ≤ d ∧ d ≤ l ∧ (0 ≤ d → n ≤ 1048576)
set_option maxHeartbeats 1000000 in
theorem szPaper_any (s t : ByteArray) (l : Int) (w : World) (h0 : 0 ≤ l) (h1 : l ≤ 1048576) (hs : s.size ≤ maxLen) (ht : t.size ≤ maxLen) :
    Calls Try.prog 27 #[.agg #[.string s, .string t], .int .i64 l] w fun e w' => SaysLeft l 0 e ∧ Below w.heap.size w w' := by
  unfold maxLen at hs ht
  have hB := (Below.refl _ w).alloc (Nat.le_refl _) (.cells #[.string s, .string t] 52)
  by_cases g1 : l - (s.size : Int) < 0
  · go_enter Try.func27, Try.ntmps27
    go_wp2_with fail
    go_ret
    exact ⟨⟨-1, rfl, by omega, by omega, fun _ => by omega⟩, hB⟩
  · by_cases g2 : l - (s.size : Int) - (t.size : Int) < 0
    · go_enter Try.func27, Try.ntmps27
      go_wp2_with fail
      go_ret
      exact ⟨⟨-1, rfl, by omega, by omega, fun _ => by omega⟩, hB⟩
    · go_enter Try.func27, Try.ntmps27
      go_wp2_with fail
      go_ret
      exact ⟨⟨_, rfl, by omega, by omega, fun _ => by omega⟩, hB⟩
set_option maxHeartbeats 1000000 in
theorem szPaperS_any (a : Option Addr) (n c : Nat) (nm tx : Nat → ByteArray) (w : World) (hin : PIn w a n nm tx) (hl : n ≤ c) (hc : c ≤ maxLen) (hS : PShort n nm tx) :
    Calls Try.prog 13 #[.slice a n c, .int .i64 1048576] w fun e w' => SaysLeft 1048576 n e ∧ Below w.heap.size w w' := by
  unfold maxLen at hc
  by_cases h0 : (1048576 : Int) - (n : Int) < 0
  · go_enter Try.func13, Try.ntmps13
    go_wp2_with fail
    go_ret
    exact ⟨⟨-1, rfl, by omega, by omega, fun h => by omega⟩, Below.refl _ _⟩
  · have hn : n ≤ 1048576 := by omega
    go_enter Try.func13, Try.ntmps13
    go_wp2_with fail
    go_loopw [1, 5] (fun o i wr => ∃ (j : Nat) (d : Int), i = .int .i64 j ∧ o = .int .i64 d ∧ j ≤ n ∧ 0 ≤ d ∧ d ≤ 1048576 ∧ Below w.heap.size w wr) (fun _ i _ => n - (intOf i).toNat)
    case atStart => exact ⟨0, _, rfl, rfl, Nat.zero_le _, by omega, by omega, Below.refl _ _⟩
    case round =>
      obtain ⟨j, d, rfl, rfl, hj, hd0, hd1, hb⟩ := hrel
      by_cases hjn : j < n
      · have hjl : (j : Int) < (n : Int) := by omega
        obtain ⟨b, o, rfl, hP⟩ := (hin.grow hb).at hjn
        obtain ⟨h1, h2⟩ := hP j hjn
        obtain ⟨hs, ht⟩ := hS j hjn
        clear hP hin
        go_wp2_with fail
        refine (szPaper_any (nm j) (tx j) d _ hd0 hd1 hs ht).mono ?_
        rintro e w1 ⟨⟨d', rfl, hd2, hd3, _⟩, hb1⟩
        have hB1 := hb.trans (hb1.mono hb.size)
        clear h1 h2 hb1 hb
        by_cases g : d' < 0
        · go_wp2_with fail
          go_ret
          exact ⟨⟨-1, rfl, by omega, by omega, fun h => hn⟩, hB1⟩
        · go_wp2_with fail
          go_round
          case rel => exact ⟨j + 1, d', by go_num, rfl, by omega, by omega, by omega, hB1⟩
          case measure => simp [intOf]; omega
      · have hjl : ¬ (j : Int) < (n : Int) := by omega
        go_wp2_with fail
        go_ret
        exact ⟨⟨d, rfl, by omega, by omega, fun _ => hn⟩, hb⟩
set_option maxHeartbeats 1000000 in
theorem toPaper_any (s t : ByteArray) (w : World) :
    Calls Try.prog 29 #[.agg #[.string s, .string t]] w fun e w' => e = .returned (.agg #[.string s, .string t]) ∧ Below w.heap.size w w' := by
  have hB := (((Below.refl _ w).alloc (Nat.le_refl _) (.cells #[.string s, .string t] 52)).alloc (by simp) (.cells #[.string s, .string t] 53)).alloc (by simp; omega) (.cells #[.string s, .string t] 53)
  go_enter Try.func29, Try.ntmps29
  go_wp2_with fail
  exact bodyPost_ret (v := .agg #[.string s, .string t]) (by simp [results, Try.results29, go_sem]) rfl ⟨rfl, hB⟩
theorem papInfo : (Try.prog.info? 53).map (fun i => (i.zero, i.size, i.bytes)) = some (some (.agg #[.string ⟨#[]⟩, .string ⟨#[]⟩]), 2, 32) := by kernel_rfl
/-- the cells of so many new papers -/
def newPaps (n : Nat) : Array Value := madeCells #[.string ⟨#[]⟩, .string ⟨#[]⟩] (n * 2)
theorem make_paps (n : Nat) (hn : n ≤ 2000000) (w : World) : (Instr.makeSlice 32 (.int .i64 (n : Int)) (.int .i64 (n : Int))).run Try.prog w = .ok (.slice (some ⟨w.heap.size, 0, none⟩) n n) (w.alloc (.cells (newPaps n) 53)) := by
  obtain ⟨i, hi, hzz⟩ := Option.map_eq_some_iff.1 papInfo
  simp only [Prod.mk.injEq] at hzz
  obtain ⟨hz, hs, hb⟩ := hzz
  have hr := run_make (P := Try.prog) w 32 53 i _ Try.underlying32 hi hz .i64 .i64 n n (by omega) (Int.le_refl _) (by rw [hb]; omega) (by omega)
  simp only [Int.toNat_natCast, hs] at hr
  exact hr
/-- block nb has cells for n papers, and they may be written -/
def RoomP (w : World) (nb n : Nat) : Prop := ∀ o, o < n * 2 → (∃ v, w.cell? ⟨nb, o, none⟩ = some v) ∧ w.frozen? ⟨nb, o, none⟩ = false
theorem roomP_new (w : World) (n : Nat) : RoomP (w.alloc (.cells (newPaps n) 53)) w.heap.size n := by
  intro o ho
  have hs : (newPaps n).size = n * 2 := size_madeCells _ _
  refine ⟨⟨(newPaps n)[o]'(by omega), ?_⟩, by simp⟩
  rw [World.cell?_alloc_new]
  simp [show o < (newPaps n).size by omega]
theorem RoomP.grow {w w' : World} {nb n : Nat} (h : RoomP w nb n) (hb : Below w.heap.size w w') : RoomP w' nb n := by
  intro o ho
  obtain ⟨⟨v, h1⟩, h2⟩ := h o ho
  have hl := World.block_lt_of_cell? w _ h1
  exact ⟨⟨v, (hb.cell (p := ⟨nb, o, none⟩) hl).trans h1⟩, (hb.frozen (p := ⟨nb, o, none⟩) hl).trans h2⟩
/-- a paper is written -/
def put2 (w : World) (nb o : Nat) (v0 v1 : Value) : World := (w.setCell ⟨nb, o, none⟩ v0).setCell ⟨nb, o + 1, none⟩ v1
theorem set_isP {w : World} {b o o' : Nat} {v : Value} (h : ∃ u, w.cell? ⟨b, o', none⟩ = some u) : ∃ u, (w.setCell ⟨b, o, none⟩ v).cell? ⟨b, o', none⟩ = some u := by
  obtain ⟨u, hu⟩ := h
  exact cell?_setCell_some hu
theorem set_farP {w : World} {b o o' : Nat} {v : Value} (h : o ≠ o') : (w.setCell ⟨b, o, none⟩ v).cell? ⟨b, o', none⟩ = w.cell? ⟨b, o', none⟩ := World.cell?_setCell_other _ _ _ _ (fun e => h (by simpa using congrArg Addr.off e))
theorem set_nearP {w : World} {b o : Nat} {v : Value} (h : ∃ u, w.cell? ⟨b, o, none⟩ = some u) : (w.setCell ⟨b, o, none⟩ v).cell? ⟨b, o, none⟩ = some v := by
  obtain ⟨u, hu⟩ := h
  exact World.cell?_setCell_same w _ v hu
theorem put2_cells {w : World} {nb o : Nat} {v0 v1 : Value} (h0 : ∃ u, w.cell? ⟨nb, o, none⟩ = some u) (h1 : ∃ u, w.cell? ⟨nb, o + 1, none⟩ = some u) : (put2 w nb o v0 v1).cell? ⟨nb, o, none⟩ = some v0 ∧ (put2 w nb o v0 v1).cell? ⟨nb, o + 1, none⟩ = some v1 := by
  unfold put2
  exact ⟨by rw [set_farP (by omega)]; exact set_nearP h0, set_nearP (set_isP h1)⟩
theorem put2_far {w : World} {nb o o' : Nat} {v0 v1 : Value} (h : o' < o) : (put2 w nb o v0 v1).cell? ⟨nb, o', none⟩ = w.cell? ⟨nb, o', none⟩ := by
  unfold put2
  rw [set_farP (by omega), set_farP (by omega)]
theorem RoomP.put2 {w : World} {nb n : Nat} (h : RoomP w nb n) (o : Nat) (v0 v1 : Value) : RoomP (put2 w nb o v0 v1) nb n := by
  intro o' ho
  obtain ⟨h1, h2⟩ := h o' ho
  refine ⟨?_, by simpa [Go.Proofs.Ytkdilgmlabaehaa.put2] using h2⟩
  unfold Go.Proofs.Ytkdilgmlabaehaa.put2
  exact set_isP (set_isP h1)
theorem put2_below {B : Nat} {w0 w : World} {nb : Nat} (h : Below B w0 w) (hB : B ≤ nb) (o : Nat) (v0 v1 : Value) : Below B w0 (put2 w nb o v0 v1) := (h.setCell (p := ⟨nb, o, none⟩) hB v0).setCell (p := ⟨nb, o + 1, none⟩) hB v1
/-- a copy of papers, in new memory -/
def PCopied (w w' : World) (n : Nat) (nm tx : Nat → ByteArray) (r : Ending) : Prop := ∃ nb : Nat, r = .returned (.slice (some ⟨nb, 0, none⟩) n n) ∧ PIn w' (some ⟨nb, 0, none⟩) n nm tx ∧ w.heap.size ≤ nb
set_option maxHeartbeats 1000000 in
theorem toPaperS_any (a : Option Addr) (n c : Nat) (nm tx : Nat → ByteArray) (w : World) (hin : PIn w a n nm tx) (hn : n ≤ 1048576) :
    Calls Try.prog 15 #[.slice a n c] w fun e w' => PCopied w w' n nm tx e ∧ Below w.heap.size w w' := by
  have hmk := make_paps n (by omega)
  go_enter Try.func15, Try.ntmps15
  go_wp2_with fail
  go_loopw [4] (fun i wr => ∃ (j : Nat), i = .int .i64 j ∧ j ≤ n ∧ (∀ q, q < j → wr.cell? ⟨w.heap.size, q * 2, none⟩ = some (.string (nm q)) ∧ wr.cell? ⟨w.heap.size, q * 2 + 1, none⟩ = some (.string (tx q))) ∧ RoomP wr w.heap.size n ∧ w.heap.size < wr.heap.size ∧ Below w.heap.size w wr) (fun i _ => n - (intOf i).toNat)
  case atStart => exact ⟨0, rfl, Nat.zero_le _, fun q h => absurd h (Nat.not_lt_zero _), roomP_new w n, by simp, (Below.refl _ _).alloc (Nat.le_refl _) _⟩
  case round =>
    obtain ⟨j, rfl, hj, hP, hR, hsz, hb⟩ := hrel
    have HP : Hid (∀ q, q < j → wr.cell? ⟨w.heap.size, q * 2, none⟩ = some (.string (nm q)) ∧ wr.cell? ⟨w.heap.size, q * 2 + 1, none⟩ = some (.string (tx q))) := hP
    clear hP
    by_cases hjn : j < n
    · have hjl : (j : Int) < (n : Int) := by omega
      obtain ⟨b, o, rfl, hQ⟩ := (hin.grow hb).at hjn
      obtain ⟨h1, h2⟩ := hQ j hjn
      clear hQ
      have HI : Hid (PIn w (some ⟨b, o, none⟩) n nm tx) := hin
      clear hin
      go_wp2_with fail
      refine (toPaper_any (nm j) (tx j) _).mono ?_
      rintro e w1 ⟨rfl, hb1⟩
      have hB1 := hb.trans (hb1.mono hb.size)
      have hR1 := hR.grow hb1
      have hz1 := hb1.size
      have HP1 : Hid (∀ q, q < j → w1.cell? ⟨w.heap.size, q * 2, none⟩ = some (.string (nm q)) ∧ w1.cell? ⟨w.heap.size, q * 2 + 1, none⟩ = some (.string (tx q))) := fun q hq => ⟨(hb1.cell (p := ⟨_, q * 2, none⟩) hsz).trans (HP.out q hq).1, (hb1.cell (p := ⟨_, q * 2 + 1, none⟩) hsz).trans (HP.out q hq).2⟩
      obtain ⟨⟨v0, c0⟩, f0⟩ := hR1 (j * 2) (by omega)
      obtain ⟨⟨v1, c1⟩, f1⟩ := hR1 (j * 2 + 1) (by omega)
      clear h1 h2 HP hb1 hb hR
      go_wp2_with fail
      go_round
      case rel =>
        have hpc : (put2 w1 w.heap.size (j * 2) (.string (nm j)) (.string (tx j))).cell? ⟨w.heap.size, j * 2, none⟩ = some (.string (nm j)) ∧ (put2 w1 w.heap.size (j * 2) (.string (nm j)) (.string (tx j))).cell? ⟨w.heap.size, j * 2 + 1, none⟩ = some (.string (tx j)) := put2_cells ⟨v0, c0⟩ ⟨v1, c1⟩
        refine ⟨j + 1, by go_num, by omega, fun q hq => ?_, hR1.put2 _ _ _, ?_, put2_below hB1 (Nat.le_refl _) _ _ _⟩
        · rcases Nat.lt_succ_iff_lt_or_eq.1 hq with hq | rfl
          · exact ⟨(put2_far (by omega)).trans (HP1.out q hq).1, (put2_far (by omega)).trans (HP1.out q hq).2⟩
          · exact hpc
        · show w.heap.size < (put2 w1 w.heap.size (j * 2) _ _).heap.size
          simp [put2, World.setCell]; omega
      case measure => simp [intOf]; omega
    · have hjl : ¬ (j : Int) < (n : Int) := by omega
      have e : j = n := by omega
      subst e
      go_wp2_with fail
      go_ret
      exact ⟨⟨w.heap.size, rfl, .inr ⟨w.heap.size, 0, rfl, fun i hi => by simpa using HP.out i hi⟩, Nat.le_refl _⟩, hb⟩
set_option maxHeartbeats 1000000 in
theorem eqPaper_any (s t : ByteArray) (w : World) :
    Calls Try.prog 32 #[.agg #[.string s, .string t], .agg #[.string s, .string t]] w fun e w' => e = .returned (.bool true) ∧ Below w.heap.size w w' := by
  have hB := ((Below.refl _ w).alloc (Nat.le_refl _) (.cells #[.string s, .string t] 53)).alloc (by simp) (.cells #[.string s, .string t] 53)
  go_enter Try.func32, Try.ntmps32
  go_wp2_with fail
  go_ret
  exact ⟨rfl, hB⟩
/-- two papers, and nothing old changed -/
abbrev HeldP (W0 : World) (b o b2 o2 : Nat) (s t : ByteArray) (w : World) : Prop := (w.cell? ⟨b, o, none⟩ = some (.string s) ∧ w.cell? ⟨b, o + 1, none⟩ = some (.string t)) ∧ (w.cell? ⟨b2, o2, none⟩ = some (.string s) ∧ w.cell? ⟨b2, o2 + 1, none⟩ = some (.string t)) ∧ Below W0.heap.size W0 w
theorem HeldP.grow {W0 w w' : World} {b o b2 o2 : Nat} {s t : ByteArray} (h : HeldP W0 b o b2 o2 s t w) (hb : Below w.heap.size w w') : HeldP W0 b o b2 o2 s t w' := by
  obtain ⟨⟨x0, x1⟩, ⟨y0, y1⟩, h3⟩ := h
  have l1 := World.block_lt_of_cell? w _ x0
  have l2 := World.block_lt_of_cell? w _ y0
  exact ⟨⟨(hb.cell (p := ⟨b, o, none⟩) l1).trans x0, (hb.cell (p := ⟨b, o + 1, none⟩) l1).trans x1⟩, ⟨(hb.cell (p := ⟨b2, o2, none⟩) l2).trans y0, (hb.cell (p := ⟨b2, o2 + 1, none⟩) l2).trans y1⟩, h3.trans (hb.mono h3.size)⟩
theorem HeldP.drew {W0 w : World} {b o b2 o2 : Nat} {s t : ByteArray} (h : HeldP W0 b o b2 o2 s t w) : HeldP W0 b o b2 o2 s t w.drew := h.grow ((Below.refl _ _).drew)
set_option maxHeartbeats 1000000 in
theorem eqPaperS_any (a a2 : Option Addr) (n c c2 : Nat) (nm tx : Nat → ByteArray) (w : World) (hin : PIn w a n nm tx) (hin2 : PIn w a2 n nm tx) (hn : n ≤ 1048576) :
    Calls Try.prog 17 #[.slice a n c, .slice a2 n c2] w fun e w' => e = .returned (.bool true) ∧ Below w.heap.size w w' := by
  go_enter Try.func17, Try.ntmps17
  go_wp2_with fail
  go_loopw [5] (fun i wr => ∃ (j : Nat), i = .int .i64 j ∧ j ≤ n ∧ Below w.heap.size w wr) (fun i _ => n - (intOf i).toNat)
  case atStart => exact ⟨0, rfl, Nat.zero_le _, Below.refl _ _⟩
  case round =>
    obtain ⟨j, rfl, hj, hb⟩ := hrel
    by_cases hjn : j < n
    · have hjl : (j : Int) < (n : Int) := by omega
      obtain ⟨b, o, rfl, hQ⟩ := (hin.grow hb).at hjn
      obtain ⟨h1, h2⟩ := hQ j hjn
      obtain ⟨b2, o2, rfl, hQ2⟩ := (hin2.grow hb).at hjn
      obtain ⟨g1, g2⟩ := hQ2 j hjn
      clear hQ hQ2 hin hin2
      go_wp2_with fail
      have hS0 : HeldP wr b (o + j * 2) b2 (o2 + j * 2) (nm j) (tx j) wr := ⟨⟨h1, h2⟩, ⟨g1, g2⟩, Below.refl _ _⟩
      clear h1 h2 g1 g2
      refine wp_region_held_drew (S := fun w' => HeldP wr b (o + j * 2) b2 (o2 + j * 2) (nm j) (tx j) w') (by kernel_rfl) (HeldP.drew hS0) (fun hHeld => ?_)
      refine wpAnyH_take (i := 0) (v := .slice (some ⟨b, o, none⟩) n c) rfl (by kernel_rfl) (by kernel_rfl) (by kernel_rfl) (fun _ _ _ h => h) (Or.inl ⟨by rfl, ?_⟩) (by assumption) ?_
      · intro w hSw
        (try dsimp only at hSw)
        go_simp
      (try simp only [Act.put, List.getElem_toArray, List.getElem_cons_zero, List.setIfInBounds_toArray, List.set_cons_zero, List.set_cons_succ])
      refine wpAnyH_take (i := 1) (v := .int .i64 j) rfl (by kernel_rfl) (by kernel_rfl) (by kernel_rfl) (fun _ _ _ h => h) (Or.inl ⟨by rfl, ?_⟩) (by assumption) ?_
      · intro w hSw
        (try dsimp only at hSw)
        go_simp
      (try simp only [Act.put, List.getElem_toArray, List.getElem_cons_zero, List.getElem_cons_succ, List.setIfInBounds_toArray, List.set_cons_zero, List.set_cons_succ])
      refine wpAnyH_take (i := 2) (v := .pointer (some ⟨b, o + j * 2, none⟩)) rfl (by kernel_rfl) (by kernel_rfl) (by kernel_rfl) (fun _ _ _ h => h) (Or.inl ⟨by rfl, ?_⟩) (by assumption) ?_
      · intro w hSw
        (try dsimp only at hSw)
        go_simp
      (try simp only [Act.put, List.getElem_toArray, List.getElem_cons_zero, List.getElem_cons_succ, List.setIfInBounds_toArray, List.set_cons_zero, List.set_cons_succ])
      refine wpAnyH_take (i := 3) (v := .agg #[.string (nm j), .string (tx j)]) rfl (by kernel_rfl) (by kernel_rfl) (by kernel_rfl) (fun _ _ _ h => h) (Or.inl ⟨by rfl, ?_⟩) (by assumption) ?_
      · intro w hSw
        (try dsimp only at hSw)
        go_simp
      (try simp only [Act.put, List.getElem_toArray, List.getElem_cons_zero, List.getElem_cons_succ, List.setIfInBounds_toArray, List.set_cons_zero, List.set_cons_succ])
      refine wpAnyH_take (i := 4) (v := .slice (some ⟨b2, o2, none⟩) n c2) rfl (by kernel_rfl) (by kernel_rfl) (by kernel_rfl) (fun _ _ _ h => h) (Or.inl ⟨by rfl, ?_⟩) (by assumption) ?_
      · intro w hSw
        (try dsimp only at hSw)
        go_simp
      (try simp only [Act.put, List.getElem_toArray, List.getElem_cons_zero, List.getElem_cons_succ, List.setIfInBounds_toArray, List.set_cons_zero, List.set_cons_succ])
      refine wpAnyH_take (i := 5) (v := .int .i64 j) rfl (by kernel_rfl) (by kernel_rfl) (by kernel_rfl) (fun _ _ _ h => h) (Or.inl ⟨by rfl, ?_⟩) (by assumption) ?_
      · intro w hSw
        (try dsimp only at hSw)
        go_simp
      (try simp only [Act.put, List.getElem_toArray, List.getElem_cons_zero, List.getElem_cons_succ, List.setIfInBounds_toArray, List.set_cons_zero, List.set_cons_succ])
      refine wpAnyH_take (i := 6) (v := .pointer (some ⟨b2, o2 + j * 2, none⟩)) rfl (by kernel_rfl) (by kernel_rfl) (by kernel_rfl) (fun _ _ _ h => h) (Or.inl ⟨by rfl, ?_⟩) (by assumption) ?_
      · intro w hSw
        (try dsimp only at hSw)
        go_simp
      (try simp only [Act.put, List.getElem_toArray, List.getElem_cons_zero, List.getElem_cons_succ, List.setIfInBounds_toArray, List.set_cons_zero, List.set_cons_succ])
      refine wpAnyH_take (i := 7) (v := .agg #[.string (nm j), .string (tx j)]) rfl (by kernel_rfl) (by kernel_rfl) (by kernel_rfl) (fun _ _ _ h => h) (Or.inl ⟨by rfl, ?_⟩) (by assumption) ?_
      · intro w hSw
        (try dsimp only at hSw)
        go_simp
      (try simp only [Act.put, List.getElem_toArray, List.getElem_cons_zero, List.getElem_cons_succ, List.setIfInBounds_toArray, List.set_cons_zero, List.set_cons_succ])
      refine wpAnyH_ready (rs := [8]) (by kernel_rfl) (by simp) ?_
      refine AllReadyH.cons rfl (fun K hK => ?_) AllReadyH.nil
      go_simp
      refine (eqPaper_any (nm j) (tx j) _).mono ?_
      rintro e w1' ⟨rfl, hb1⟩
      have hS := HeldP.grow (by assumption) hb1
      go_wp2_with fail
      refine hK.out _ _ hS (fun hHeld => ?_)
      clear hK K hS hb1
      refine wpAnyH_take (i := 9) (v := .bool false) rfl (by kernel_rfl) (by kernel_rfl) (by kernel_rfl) (fun _ _ _ h => h) (Or.inl ⟨by rfl, ?_⟩) (by assumption) ?_
      · intro w hSw
        (try dsimp only at hSw)
        go_simp
      (try simp only [Act.put, List.getElem_toArray, List.getElem_cons_zero, List.getElem_cons_succ, List.setIfInBounds_toArray, List.set_cons_zero, List.set_cons_succ])
      refine wpAnyH_done (by kernel_rfl) ?_ _
      have hB1 := hb.trans (hHeld.2.2.mono hb.size)
      clear hS0 hHeld
      go_wp2_with fail
      go_round
      case rel => exact ⟨j + 1, by go_num, by omega, hB1⟩
      case measure => simp [intOf]; omega
    · have hjl : ¬ (j : Int) < (n : Int) := by omega
      have e : j = n := by omega
      subst e
      go_wp2_with fail
      go_ret
      exact ⟨rfl, hb⟩
end Go.Proofs.Ytkdilgmlabaehaa
