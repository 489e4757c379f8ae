/- My own texts, joined: Jh Ji Jj. -/
import Derived.Test.YtalncebnahlmdaaJFnValueSame16
import Derived.Test.YtalncebnahlmdaaJFnValueSame8
/- Values as JSON, by the program: a value is written. -/
namespace Go.Proofs.Ytalncebnahlmdaa
open Go.RowKit
attribute [local go_sem] cell_alloc_is frozen_alloc_is
def ValC (N : Nat) : Prop := ∀ (hd : Hd) (a : Option Addr) (c : Nat) (F : Vo) (line : ByteArray) (acc : List UInt8) (B kb : Nat) (step gap : ByteArray) (w W0 : World), F.size < N → line.size + 2 * N ≤ 1000 → step.size ≤ 2 → gap.size ≤ 2 → acc.length + (13000 * F.size + 11000) ≤ 100000000 →
  FitJ hd F → F.In W0 a → F.len ≤ c → c ≤ maxLen → hd.In W0 → W0.heap.size ≤ B → B ≤ kb → Below W0.heap.size W0 w → Holds B kb acc w → B ≤ w.heap.size →
  Calls Try.prog 33 #[wrV kb step gap, valV hd a F.len c, .string line] w fun r w' => r = .returned (.tuple #[]) ∧ Wr B kb w (acc ++ jtext step.data.toList gap.data.toList N hd F line.data.toList) w'
/-- the names of items: none, or as many -/
def NamesOk (W0 : World) (B : Nat) (ob : Bool) (ns : List ByteArray) (F : Vo) (nv : Value) : Prop :=
  (ob = false ∧ nv = .slice none 0 0) ∨ (ob = true ∧ F.len = 0) ∨ (ob = true ∧ ∃ nb no nc, nv = .slice (some ⟨nb, no, none⟩) ns.length nc ∧ nb < B ∧ ns.length = F.len ∧ SFrom W0 ns nb no ∧ ∀ i, (nameAt ns i).size ≤ 12)
def ItC (N : Nat) : Prop := ∀ (ob : Bool) (ns : List ByteArray) (nv : Value) (a : Option Addr) (c : Nat) (F : Vo) (line : ByteArray) (acc : List UInt8) (B kb : Nat) (step gap : ByteArray) (w W0 : World), F.size ≤ N → line.size + 2 + 2 * N ≤ 1000 → step.size ≤ 2 → gap.size ≤ 2 → acc.length + (13000 * F.size + 1000) ≤ 100000000 →
  F.allOne → NamesOk W0 B ob ns F nv → F.In W0 a → F.len ≤ c → c ≤ maxLen → W0.heap.size ≤ B → B ≤ kb → Below W0.heap.size W0 w → Holds B kb acc w → B ≤ w.heap.size →
  Calls Try.prog 57 #[wrV kb step gap, .slice a F.len c, nv, .string line] w fun r w' => r = .returned (.tuple #[]) ∧ Wr B kb w (acc ++ jinner step.data.toList gap.data.toList (jtext step.data.toList gap.data.toList N) ob ns F line.data.toList) w'
theorem wr_cells {W : World} {b kb : Nat} {step gap : ByteArray} (h : Box W b 59 (wrCells kb step gap)) :
    W.cell? ⟨b, 0, none⟩ = some (.pointer (some ⟨kb, 0, none⟩)) ∧ W.cell? ⟨b, 1, none⟩ = some (.string ⟨#[92, 117, 48, 48]⟩) ∧ W.cell? ⟨b, 2, none⟩ = some (.string ⟨#[34, 92, 47, 98, 102, 110, 114, 116]⟩) ∧ W.cell? ⟨b, 3, none⟩ = some (.string ⟨#[34, 92, 47, 8, 12, 10, 13, 9]⟩) ∧ W.cell? ⟨b, 4, none⟩ = some (.int .i64 2) ∧ W.cell? ⟨b, 5, none⟩ = some (.string step) ∧ W.cell? ⟨b, 6, none⟩ = some (.string gap) :=
  ⟨h.cell (i := 0) rfl, h.cell (i := 1) rfl, h.cell (i := 2) rfl, h.cell (i := 3) rfl, h.cell (i := 4) rfl, h.cell (i := 5) rfl, h.cell (i := 6) rfl⟩
theorem Wr.then {B kb : Nat} {acc acc' : List UInt8} {w0 W W' : World} (h : Wr B kb w0 acc W) (h' : Wr B kb W acc' W') : Wr B kb w0 acc' W' := h.wrote h'.1.1 h'.2.1 h'.2.2
set_option maxRecDepth 100000 in
set_option maxHeartbeats 4000000 in
theorem value_step (N : Nat) (H : ItC N) : ValC (N + 1) := by
  intro hd a c F line acc B kb step gap w W0 hF hln hst hgp hlen hfit hin hl hc hh hWB hBk hb0 hH hBw
  have hkl := holds_lt hH
  have hmeth := write_method
  obtain ⟨wp, hwp⟩ : ∃ wp, wp = (w.alloc (.cells #[.pointer (some ⟨kb, 0, none⟩), .string ⟨#[92, 117, 48, 48]⟩, .string ⟨#[34, 92, 47, 98, 102, 110, 114, 116]⟩, .string ⟨#[34, 92, 47, 8, 12, 10, 13, 9]⟩, .int .i64 2, .string step, .string gap] 59)).alloc (.cells #[.int .i64 hd.k, .int .i64 hd.m, .int .i64 hd.e, .string hd.t, .slice a F.len c, .slice hd.na hd.ns.length hd.nc] 28) := ⟨_, rfl⟩
  have hX : Box wp w.heap.size 59 (wrCells kb step gap) := by subst hwp; exact (Box.new w _ (wrCells kb step gap)).below ((Below.refl _ _).alloc (Nat.le_refl _) _) (by simp)
  have hWr : Wr B kb w acc wp := by subst hwp; exact ((Wr.start hH hBw).alloc _).alloc _
  have hVal : Below (w.heap.size + 1) (w.alloc (.cells #[.pointer (some ⟨kb, 0, none⟩), .string ⟨#[92, 117, 48, 48]⟩, .string ⟨#[34, 92, 47, 98, 102, 110, 114, 116]⟩, .string ⟨#[34, 92, 47, 8, 12, 10, 13, 9]⟩, .int .i64 2, .string step, .string gap] 59)) wp := by subst hwp; exact (Below.refl _ _).alloc (by simp) _
  have hvv : valV hd a F.len c = valV hd a F.len c := rfl
  have hne : w.heap.size ≠ kb := by omega
  obtain ⟨⟨k0, k6⟩, k3, k4, k66, k44⟩ := oneJ hfit.1
  have hzp : w.heap.size < wp.heap.size := hX.lt
  have HWr := hideIt hWr
  have HX := hideIt hX
  have HW := hideIt hwp
  have HK := hideIt (And.intro k3 (And.intro k4 k66))
  have HIn : Hid ((F.In W0 a ∧ hd.In W0) ∧ FitJ hd F ∧ Below W0.heap.size W0 w) := ⟨⟨hin, hh⟩, hfit, hb0⟩
  have HHs := hideIt hH
  clear hWr hX hwp hin hh hfit hH hvv hVal k3 k4 k66 k44 hb0
  obtain hk | hk | hk | hk | hk | hk | hk : hd.k = 0 ∨ hd.k = 1 ∨ hd.k = 2 ∨ hd.k = 3 ∨ hd.k = 4 ∨ hd.k = 5 ∨ hd.k = 6 := by omega
  · have HKk := hideIt hk
    have HT : Hid (jtext step.data.toList gap.data.toList (N + 1) hd F line.data.toList = [110, 117, 108, 108]) := by unfold Hid jtext; rw [if_pos hk]
    clear hk HK HIn HHs H
    have ta0 : ∀ (v : Value) (W : World), (Instr.typeAssert (.iface 97 v) 74 97 true).run Try.prog W = .ok (.tuple #[v, .bool true]) W := fun v W => by kernel_rfl
    go_enter Try.func33, Try.ntmps33
    go_wp2_with fail
    rw [← HW.out]
    clear HW
    refine (sort_0 hd a F.len c _ HKk.out).mono ?_
    rintro r w1 ⟨rfl, hb1⟩
    have HX1 := hideIt (HX.out.below hb1 HX.out.lt)
    have HW1 := hideIt (HWr.out.below hb1)
    have hz1 := Nat.le_trans hzp hb1.size
    clear HX HWr
    obtain ⟨x0, x1, x2, x3, x4, x5, x6⟩ := wr_cells (HX1.out)
    go_wp2_with fail
    refine (Wr.text (HW1.out.alloc _) ⟨#[110, 117, 108, 108]⟩ (l := [110, 117, 108, 108]) rfl (by simp only [List.length_cons, List.length_nil]; omega)).mono ?_
    rintro e w2 ⟨rfl, h2, -, -⟩
    go_wp2_with fail
    exact bodyPost_end (v := .tuple #[]) (by simp [results, Try.results33]) rfl ⟨rfl, by rw [HT.out]; exact h2⟩
  · have HKk := hideIt hk
    have HT : Hid (jtext step.data.toList gap.data.toList (N + 1) hd F line.data.toList = [116, 114, 117, 101]) := by unfold Hid jtext; rw [if_neg (by omega), if_pos hk]
    clear hk HK HIn HHs H
    have ta0 : ∀ (v : Value) (W : World), (Instr.typeAssert (.iface 102 v) 74 97 true).run Try.prog W = .ok (.tuple #[.agg #[], .bool false]) W := fun v W => by kernel_rfl
    have ta1 : ∀ (v : Value) (W : World), (Instr.typeAssert (.iface 102 v) 74 102 true).run Try.prog W = .ok (.tuple #[v, .bool true]) W := fun v W => by kernel_rfl
    go_enter Try.func33, Try.ntmps33
    go_wp2_with fail
    rw [← HW.out]
    clear HW
    refine (sort_1 hd a F.len c _ HKk.out).mono ?_
    rintro r w1 ⟨rfl, hb1⟩
    have HX1 := hideIt (HX.out.below hb1 HX.out.lt)
    have HW1 := hideIt (HWr.out.below hb1)
    have hz1 := Nat.le_trans hzp hb1.size
    clear HX HWr
    obtain ⟨x0, x1, x2, x3, x4, x5, x6⟩ := wr_cells (HX1.out)
    go_wp2_with fail
    refine (Wr.text (HW1.out) ⟨#[116, 114, 117, 101]⟩ (l := [116, 114, 117, 101]) rfl (by simp only [List.length_cons, List.length_nil]; omega)).mono ?_
    rintro e w2 ⟨rfl, h2, -, -⟩
    go_wp2_with fail
    exact bodyPost_end (v := .tuple #[]) (by simp [results, Try.results33]) rfl ⟨rfl, by rw [HT.out]; exact h2⟩
  · have HKk := hideIt hk
    have HT : Hid (jtext step.data.toList gap.data.toList (N + 1) hd F line.data.toList = [102, 97, 108, 115, 101]) := by unfold Hid jtext; rw [if_neg (by omega), if_neg (by omega), if_pos hk]
    clear hk HK HIn HHs H
    have ta0 : ∀ (v : Value) (W : World), (Instr.typeAssert (.iface 102 v) 74 97 true).run Try.prog W = .ok (.tuple #[.agg #[], .bool false]) W := fun v W => by kernel_rfl
    have ta1 : ∀ (v : Value) (W : World), (Instr.typeAssert (.iface 102 v) 74 102 true).run Try.prog W = .ok (.tuple #[v, .bool true]) W := fun v W => by kernel_rfl
    go_enter Try.func33, Try.ntmps33
    go_wp2_with fail
    rw [← HW.out]
    clear HW
    refine (sort_2 hd a F.len c _ HKk.out).mono ?_
    rintro r w1 ⟨rfl, hb1⟩
    have HX1 := hideIt (HX.out.below hb1 HX.out.lt)
    have HW1 := hideIt (HWr.out.below hb1)
    have hz1 := Nat.le_trans hzp hb1.size
    clear HX HWr
    obtain ⟨x0, x1, x2, x3, x4, x5, x6⟩ := wr_cells (HX1.out)
    go_wp2_with fail
    refine (Wr.text (HW1.out) ⟨#[102, 97, 108, 115, 101]⟩ (l := [102, 97, 108, 115, 101]) rfl (by simp only [List.length_cons, List.length_nil]; omega)).mono ?_
    rintro e w2 ⟨rfl, h2, -, -⟩
    go_wp2_with fail
    exact bodyPost_end (v := .tuple #[]) (by simp [results, Try.results33]) rfl ⟨rfl, by rw [HT.out]; exact h2⟩
  · have HKk := hideIt hk
    have HT : Hid (jtext step.data.toList gap.data.toList (N + 1) hd F line.data.toList = textOf hd.m hd.e) := by
      unfold Hid jtext textOf
      rw [if_neg (by omega), if_neg (by omega), if_neg (by omega), if_pos hk, if_pos (HK.out.1 hk)]
    have hln2 : (textOf hd.m hd.e).length ≤ 11000 := by
      rw [← HT.out]
      have := jtext_len (step := step.data.toList) (gap := gap.data.toList) (by rw [Qm.len_eq]; exact hst) (by rw [Qm.len_eq]; exact hgp) (N + 1) hd F line.data.toList (by rw [Qm.len_eq]; exact hln) HIn.out.2.1
      have h0 : F.size = 0 := by
        have := (oneJ HIn.out.2.1.1).2.2.2.2 (by omega)
        cases F with
        | nil => rfl
        | cons => exact absurd this (Nat.succ_ne_zero _)
      omega
    clear hk HK HIn HHs H
    have ta0 : ∀ (v : Value) (W : World), (Instr.typeAssert (.iface 103 v) 74 97 true).run Try.prog W = .ok (.tuple #[.agg #[], .bool false]) W := fun v W => by kernel_rfl
    have ta1 : ∀ (v : Value) (W : World), (Instr.typeAssert (.iface 103 v) 74 102 true).run Try.prog W = .ok (.tuple #[.bool false, .bool false]) W := fun v W => by kernel_rfl
    have ta2 : ∀ (v : Value) (W : World), (Instr.typeAssert (.iface 103 v) 74 103 true).run Try.prog W = .ok (.tuple #[v, .bool true]) W := fun v W => by kernel_rfl
    go_enter Try.func33, Try.ntmps33
    go_wp2_with fail
    rw [← HW.out]
    clear HW
    refine (sort_3 hd a F.len c _ HKk.out).mono ?_
    rintro r w1 ⟨rfl, hb1⟩
    have HX1 := hideIt (HX.out.below hb1 HX.out.lt)
    have HW1 := hideIt (HWr.out.below hb1)
    have hz1 := Nat.le_trans hzp hb1.size
    clear HX HWr
    obtain ⟨x0, x1, x2, x3, x4, x5, x6⟩ := wr_cells (HX1.out)
    go_wp2_with fail
    have hBn := Box.new w1 103 [.int .i64 hd.m, .int .i64 hd.e]
    have HX2 := hideIt (HX1.out.below ((Below.refl _ w1).alloc (Nat.le_refl _) (.cells #[.int .i64 hd.m, .int .i64 hd.e] 103)) HX1.out.lt)
    refine jv12 HX2.out (HW1.out.alloc _) hne hBn (by omega) (by omega) (fun _ d _ _ _ h => by cases d <;> exact h) ?_
    intro w2 v36 v37 v38 v39 v40 v41 h2 hk2
    clear x0 x1 x2 x3 x4 x5 x6 HX1 HX2 hBn
    go_wp2_with fail
    exact bodyPost_end (v := .tuple #[]) (by simp [results, Try.results33]) rfl ⟨rfl, by rw [HT.out]; exact h2⟩
  · have HKk := hideIt hk
    have HT : Hid (jtext step.data.toList gap.data.toList (N + 1) hd F line.data.toList = Qm.jquote hd.t.data.toList) := by unfold Hid jtext; rw [if_neg (by omega), if_neg (by omega), if_neg (by omega), if_neg (by omega), if_pos hk]
    have hts := HK.out.2.1 hk
    have hln2 : (Qm.jquote hd.t.data.toList).length ≤ 9100 := by
      have := Qm.jquote_length hd.t.data.toList
      rw [Qm.len_eq] at this
      omega
    clear hk HK HIn HHs H
    have ta0 : ∀ (v : Value) (W : World), (Instr.typeAssert (.iface 105 v) 74 97 true).run Try.prog W = .ok (.tuple #[.agg #[], .bool false]) W := fun v W => by kernel_rfl
    have ta1 : ∀ (v : Value) (W : World), (Instr.typeAssert (.iface 105 v) 74 102 true).run Try.prog W = .ok (.tuple #[.bool false, .bool false]) W := fun v W => by kernel_rfl
    have ta2 : ∀ (v : Value) (W : World), (Instr.typeAssert (.iface 105 v) 74 103 true).run Try.prog W = .ok (.tuple #[.agg #[.int .i64 0, .int .i64 0], .bool false]) W := fun v W => by kernel_rfl
    have ta3 : ∀ (v : Value) (W : World), (Instr.typeAssert (.iface 105 v) 74 105 true).run Try.prog W = .ok (.tuple #[v, .bool true]) W := fun v W => by kernel_rfl
    go_enter Try.func33, Try.ntmps33
    go_wp2_with fail
    rw [← HW.out]
    clear HW
    refine (sort_4 hd a F.len c _ HKk.out).mono ?_
    rintro r w1 ⟨rfl, hb1⟩
    have HX1 := hideIt (HX.out.below hb1 HX.out.lt)
    have HW1 := hideIt (HWr.out.below hb1)
    have hz1 := Nat.le_trans hzp hb1.size
    clear HX HWr
    obtain ⟨x0, x1, x2, x3, x4, x5, x6⟩ := wr_cells (HX1.out)
    go_wp2_with fail
    refine jv15 (t := hd.t) HX1.out HW1.out hne (by omega) (by omega) (fun _ d _ _ _ h => by cases d <;> exact h) ?_
    intro w2 v45 v46 v47 v48 v49 v50 v51 v52 h2 hk2
    clear x0 x1 x2 x3 x4 x5 x6 HX1
    go_wp2_with fail
    exact bodyPost_end (v := .tuple #[]) (by simp [results, Try.results33]) rfl ⟨rfl, by rw [HT.out]; exact h2⟩
  · have HKk := hideIt hk
    have HT : Hid (jtext step.data.toList gap.data.toList (N + 1) hd F line.data.toList = [91] ++ (jinner step.data.toList gap.data.toList (jtext step.data.toList gap.data.toList N) false [] F line.data.toList ++ [93])) := by unfold Hid jtext; rw [if_neg (by omega), if_neg (by omega), if_neg (by omega), if_neg (by omega), if_neg (by omega), if_pos hk]
    have hinl : (jinner step.data.toList gap.data.toList (jtext step.data.toList gap.data.toList N) false [] F line.data.toList).length + 2 ≤ 13000 * F.size + 11000 := by
      have h1 := jtext_len (step := step.data.toList) (gap := gap.data.toList) (by rw [Qm.len_eq]; exact hst) (by rw [Qm.len_eq]; exact hgp) (N + 1) hd F line.data.toList (by rw [Qm.len_eq]; exact hln) HIn.out.2.1
      rw [HT.out] at h1
      simp only [List.length_append, List.length_cons, List.length_nil] at h1
      omega
    have HNm : Hid (NamesOk W0 B false [] F (.slice none 0 0)) := .inl ⟨rfl, rfl⟩
    clear hk HK
    have ta0 : ∀ (v : Value) (W : World), (Instr.typeAssert (.iface 107 v) 74 97 true).run Try.prog W = .ok (.tuple #[.agg #[], .bool false]) W := fun v W => by kernel_rfl
    have ta1 : ∀ (v : Value) (W : World), (Instr.typeAssert (.iface 107 v) 74 102 true).run Try.prog W = .ok (.tuple #[.bool false, .bool false]) W := fun v W => by kernel_rfl
    have ta2 : ∀ (v : Value) (W : World), (Instr.typeAssert (.iface 107 v) 74 103 true).run Try.prog W = .ok (.tuple #[.agg #[.int .i64 0, .int .i64 0], .bool false]) W := fun v W => by kernel_rfl
    have ta3 : ∀ (v : Value) (W : World), (Instr.typeAssert (.iface 107 v) 74 105 true).run Try.prog W = .ok (.tuple #[.string ⟨#[]⟩, .bool false]) W := fun v W => by kernel_rfl
    have ta4 : ∀ (v : Value) (W : World), (Instr.typeAssert (.iface 107 v) 74 107 true).run Try.prog W = .ok (.tuple #[v, .bool true]) W := fun v W => by kernel_rfl
    go_enter Try.func33, Try.ntmps33
    go_wp2_with fail
    rw [← HW.out]
    clear HW
    refine (sort_5 hd a F.len c _ HKk.out).mono ?_
    rintro r w1 ⟨rfl, hb1⟩
    have HX1 := hideIt (HX.out.below hb1 HX.out.lt)
    have HW1 := hideIt (HWr.out.below hb1)
    have hz1 := Nat.le_trans hzp hb1.size
    clear HX HWr
    obtain ⟨x0, x1, x2, x3, x4, x5, x6⟩ := wr_cells (HX1.out)
    go_wp2_with fail
    have HX1b := hideIt HX1.out
    refine (Wr.text (HW1.out) ⟨#[91]⟩ (l := [91]) rfl (by simp only [List.length_cons, List.length_nil]; omega)).mono ?_
    rintro e w2 ⟨rfl, h2, hk2, -⟩
    have HW2 := hideIt h2
    have HX2 := hideIt (HX1b.out.kept hk2 hne (by decide))
    clear x0 x1 x2 x3 x4 x5 x6
    clear h2 hk2 HX1 HX1b
    obtain ⟨x0, x1, x2, x3, x4, x5, x6⟩ := wr_cells (HX2.out)
    go_wp2_with fail
    refine (H false [] (.slice none 0 0) a c F line (acc ++ [91]) B kb step gap w2 W0 (by omega) (by omega) hst hgp (by simp only [List.length_append, List.length_cons, List.length_nil]; omega) HIn.out.2.1.2 HNm.out HIn.out.1.1 hl hc hWB hBk (HIn.out.2.2.trans (HW2.out.2.1.mono hWB)) HW2.out.1.1 HW2.out.1.2).mono ?_
    rintro r w3 ⟨rfl, h3⟩
    have HW3 := hideIt (HW2.out.then h3)
    have HX3 := hideIt (HX2.out.kept h3.2.2 hne (by decide))
    clear x0 x1 x2 x3 x4 x5 x6
    clear h3 HX2
    obtain ⟨x0, x1, x2, x3, x4, x5, x6⟩ := wr_cells (HX3.out)
    go_wp2_with fail
    refine (Wr.text HW3.out ⟨#[93]⟩ (l := [93]) rfl (by simp only [List.length_append, List.length_cons, List.length_nil]; omega)).mono ?_
    rintro e w4 ⟨rfl, h4, -, -⟩
    clear x0 x1 x2 x3 x4 x5 x6
    go_wp2_with fail
    exact bodyPost_end (v := .tuple #[]) (by simp [results, Try.results33]) rfl ⟨rfl, by rw [HT.out]; simpa [List.append_assoc] using h4⟩
  · have HKk := hideIt hk
    have HT : Hid (jtext step.data.toList gap.data.toList (N + 1) hd F line.data.toList = [123] ++ (jinner step.data.toList gap.data.toList (jtext step.data.toList gap.data.toList N) true hd.ns F line.data.toList ++ [125])) := by unfold Hid jtext; rw [if_neg (by omega), if_neg (by omega), if_neg (by omega), if_neg (by omega), if_neg (by omega), if_neg (by omega)]
    have hinl : (jinner step.data.toList gap.data.toList (jtext step.data.toList gap.data.toList N) true hd.ns F line.data.toList).length + 2 ≤ 13000 * F.size + 11000 := by
      have h1 := jtext_len (step := step.data.toList) (gap := gap.data.toList) (by rw [Qm.len_eq]; exact hst) (by rw [Qm.len_eq]; exact hgp) (N + 1) hd F line.data.toList (by rw [Qm.len_eq]; exact hln) HIn.out.2.1
      rw [HT.out] at h1
      simp only [List.length_append, List.length_cons, List.length_nil] at h1
      omega
    have HNm : Hid (NamesOk W0 B true hd.ns F (.slice hd.na hd.ns.length hd.nc)) := by
      have hnl := (HK.out.2.2 hk).1
      have hna := (HK.out.2.2 hk).2
      rcases HIn.out.1.2.1 with e | ⟨nb, no, e, hS⟩
      · refine .inr (.inl ⟨rfl, ?_⟩)
        rw [← hnl, e]; rfl
      · by_cases h0 : hd.ns.length = 0
        · exact .inr (.inl ⟨rfl, by omega⟩)
        · refine .inr (.inr ⟨rfl, nb, no, hd.nc, by rw [e], ?_, hnl, hS, fun i => asc_short hna i⟩)
          have := World.block_lt_of_cell? _ _ (hS.at (nameAt_some (ns := hd.ns) (i := 0) (by omega))).1
          have h9 : nb < W0.heap.size := this
          omega
    clear hk HK
    have ta0 : ∀ (v : Value) (W : World), (Instr.typeAssert (.iface 110 v) 74 97 true).run Try.prog W = .ok (.tuple #[.agg #[], .bool false]) W := fun v W => by kernel_rfl
    have ta1 : ∀ (v : Value) (W : World), (Instr.typeAssert (.iface 110 v) 74 102 true).run Try.prog W = .ok (.tuple #[.bool false, .bool false]) W := fun v W => by kernel_rfl
    have ta2 : ∀ (v : Value) (W : World), (Instr.typeAssert (.iface 110 v) 74 103 true).run Try.prog W = .ok (.tuple #[.agg #[.int .i64 0, .int .i64 0], .bool false]) W := fun v W => by kernel_rfl
    have ta3 : ∀ (v : Value) (W : World), (Instr.typeAssert (.iface 110 v) 74 105 true).run Try.prog W = .ok (.tuple #[.string ⟨#[]⟩, .bool false]) W := fun v W => by kernel_rfl
    have ta4 : ∀ (v : Value) (W : World), (Instr.typeAssert (.iface 110 v) 74 107 true).run Try.prog W = .ok (.tuple #[.slice none 0 0, .bool false]) W := fun v W => by kernel_rfl
    have ta5 : ∀ (v : Value) (W : World), (Instr.typeAssert (.iface 110 v) 74 110 true).run Try.prog W = .ok (.tuple #[v, .bool true]) W := fun v W => by kernel_rfl
    go_enter Try.func33, Try.ntmps33
    go_wp2_with fail
    rw [← HW.out]
    clear HW
    refine (sort_6 hd a F.len c _ HKk.out).mono ?_
    rintro r w1 ⟨rfl, hb1⟩
    have HX1 := hideIt (HX.out.below hb1 HX.out.lt)
    have HW1 := hideIt (HWr.out.below hb1)
    have hz1 := Nat.le_trans hzp hb1.size
    clear HX HWr
    obtain ⟨x0, x1, x2, x3, x4, x5, x6⟩ := wr_cells (HX1.out)
    go_wp2_with fail
    have HO := hideIt (Box.new w1 110 [.slice hd.na hd.ns.length hd.nc, .slice a F.len c])
    have HX1b := hideIt (HX1.out.below ((Below.refl _ w1).alloc (Nat.le_refl _) (.cells #[.slice hd.na hd.ns.length hd.nc, .slice a F.len c] 110)) HX1.out.lt)
    refine (Wr.text (HW1.out.alloc _) ⟨#[123]⟩ (l := [123]) rfl (by simp only [List.length_cons, List.length_nil]; omega)).mono ?_
    rintro e w2 ⟨rfl, h2, hk2, -⟩
    have HW2 := hideIt h2
    have HX2 := hideIt (HX1b.out.kept hk2 hne (by decide))
    have HO2 := hideIt (HO.out.kept hk2 (by omega) (by decide))
    have o0 := HO2.out.cell (i := 0) rfl
    have o1 := HO2.out.cell (i := 1) rfl
    clear x0 x1 x2 x3 x4 x5 x6
    clear h2 hk2 HX1 HX1b HO
    obtain ⟨x0, x1, x2, x3, x4, x5, x6⟩ := wr_cells (HX2.out)
    go_wp2_with fail
    refine (H true hd.ns (.slice hd.na hd.ns.length hd.nc) a c F line (acc ++ [123]) B kb step gap w2 W0 (by omega) (by omega) hst hgp (by simp only [List.length_append, List.length_cons, List.length_nil]; omega) HIn.out.2.1.2 HNm.out HIn.out.1.1 hl hc hWB hBk (HIn.out.2.2.trans (HW2.out.2.1.mono hWB)) HW2.out.1.1 HW2.out.1.2).mono ?_
    rintro r w3 ⟨rfl, h3⟩
    have HW3 := hideIt (HW2.out.then h3)
    have HX3 := hideIt (HX2.out.kept h3.2.2 hne (by decide))
    clear x0 x1 x2 x3 x4 x5 x6
    clear h3 HX2 o0 o1 HO2
    obtain ⟨x0, x1, x2, x3, x4, x5, x6⟩ := wr_cells (HX3.out)
    go_wp2_with fail
    refine (Wr.text HW3.out ⟨#[125]⟩ (l := [125]) rfl (by simp only [List.length_append, List.length_cons, List.length_nil]; omega)).mono ?_
    rintro e w4 ⟨rfl, h4, -, -⟩
    clear x0 x1 x2 x3 x4 x5 x6
    go_wp2_with fail
    exact bodyPost_end (v := .tuple #[]) (by simp [results, Try.results33]) rfl ⟨rfl, by rw [HT.out]; simpa [List.append_assoc] using h4⟩
end Go.Proofs.Ytalncebnahlmdaa
/- Values as JSON, by the program: what stands between two brackets is written. -/
namespace Go.Proofs.Ytalncebnahlmdaa
open Go.RowKit
attribute [local go_sem] cell_alloc_is frozen_alloc_is
set_option maxRecDepth 100000 in
set_option linter.unusedSimpArgs false in
set_option maxHeartbeats 1000000 in
theorem items_step (N : Nat) (H : ValC N) : ItC N := by
  intro ob ns nv a c F line acc B kb step gap w W0 hF hln hst hgp hlen hall hnv hin hl hc hWB hBk hb0 hH hBw
  have hkl := holds_lt hH
  have hmeth := write_method
  have hX : Box (w.alloc (.cells #[.pointer (some ⟨kb, 0, none⟩), .string ⟨#[92, 117, 48, 48]⟩, .string ⟨#[34, 92, 47, 98, 102, 110, 114, 116]⟩, .string ⟨#[34, 92, 47, 8, 12, 10, 13, 9]⟩, .int .i64 2, .string step, .string gap] 59)) w.heap.size 59 (wrCells kb step gap) := Box.new w _ (wrCells kb step gap)
  have hWr : Wr B kb w acc (w.alloc (.cells #[.pointer (some ⟨kb, 0, none⟩), .string ⟨#[92, 117, 48, 48]⟩, .string ⟨#[34, 92, 47, 98, 102, 110, 114, 116]⟩, .string ⟨#[34, 92, 47, 8, 12, 10, 13, 9]⟩, .int .i64 2, .string step, .string gap] 59)) := (Wr.start hH hBw).alloc _
  have hne : w.heap.size ≠ kb := by omega
  have hsl : step.data.toList.length ≤ 2 := by rw [Qm.len_eq]; exact hst
  have hgl : gap.data.toList.length ≤ 2 := by rw [Qm.len_eq]; exact hgp
  have hll : line.data.toList.length = line.size := Qm.len_eq line
  have hfl : F.len ≤ F.size := F.len_le
  obtain ⟨n, hn⟩ : ∃ n, F.len = n := ⟨_, rfl⟩
  have HLn : Hid (∀ n, n ≤ F.len → (jitems step.data.toList gap.data.toList (jtext step.data.toList gap.data.toList N) ob ns F line.data.toList n).length ≤ 13000 * F.sumJ n) := by
    rcases hnv with ⟨e2, _⟩ | ⟨_, h0⟩ | ⟨_, _, _, _, _, _, _, _, h9⟩
    · exact jitems_len hsl hgl (by omega) (fun i hi => jtext_len hsl hgl N _ _ _ (by rw [List.length_append]; omega) (fitJ_at hi hall)) ob (fun e => by rw [e2] at e; cases e)
    · intro n hn
      have : n = 0 := by omega
      subst this
      exact Nat.zero_le _
    · exact jitems_len hsl hgl (by omega) (fun i hi => jtext_len hsl hgl N _ _ _ (by rw [List.length_append]; omega) (fitJ_at hi hall)) ob (fun _ i => h9 i)
  have HIn : Hid (((∀ W, Below W0.heap.size W0 W → F.In W a) ∧ F.allOne) ∧ NamesOk W0 B ob ns F nv ∧ Below W0.heap.size W0 w) := ⟨⟨fun W h => hin.grow h, hall⟩, hnv, hb0⟩
  have hinz : (line ++ step).size = line.size + step.size := ByteArray.size_append
  have hind : (line ++ step).data.toList = line.data.toList ++ step.data.toList := by simp [ByteArray.data_append]
  have HX := hideIt hX
  have HWr := hideIt hWr
  have HInd := hideIt hind
  have HInz := hideIt hinz
  have HSl := hideIt (And.intro hsl hgl)
  have HLL := hideIt hll
  have HNl := hideIt hn
  rw [hn] at hl hfl HLn ⊢
  clear hX hWr hin hall hnv hb0 hH hind hinz hsl hgl hll hn
  go_enter Try.func57, Try.ntmps57
  obtain ⟨x0, x1, x2, x3, x4, x5, x6⟩ := wr_cells (HX.out)
  go_wp2_with fail
  clear x0 x1 x2 x3 x4 x5 x6
  go_loopw [17] (fun i wr => ∃ j : Nat, i = .int .i64 j ∧ j ≤ n ∧ Wr B kb w (acc ++ jitems step.data.toList gap.data.toList (jtext step.data.toList gap.data.toList N) ob ns F line.data.toList j) wr ∧ Box wr w.heap.size 59 (wrCells kb step gap)) (fun i _ => n - (intOf i).toNat)
  case atStart => exact ⟨0, rfl, Nat.zero_le _, by show Wr B kb w (acc ++ []) _; rw [List.append_nil]; exact HWr.out, HX.out⟩
  case round =>
    obtain ⟨j, rfl, hj, hw, hx⟩ := hrel
    have HWj := hideIt hw
    have HXj := hideIt hx
    have hlj := hideIt (HLn.out j hj)
    have hzw := hx.lt
    clear hw hx
    by_cases hjn : j < n
    case neg =>
      have ej : j = n := by omega
      have HT : Hid (jinner step.data.toList gap.data.toList (jtext step.data.toList gap.data.toList N) ob ns F line.data.toList = jitems step.data.toList gap.data.toList (jtext step.data.toList gap.data.toList N) ob ns F line.data.toList j ++ (if n = 0 then [] else line.data.toList)) := by unfold Hid jinner; rw [ej, HNl.out]
      have hbd : Hid (F.sumJ j ≤ F.size) := by unfold Hid; rw [ej, ← HNl.out, sumJ_len]; exact Nat.le_refl _
      obtain ⟨x0, x1, x2, x3, x4, x5, x6⟩ := wr_cells (HXj.out)
      by_cases h0 : n = 0
      · have HT2 : Hid (acc ++ jinner step.data.toList gap.data.toList (jtext step.data.toList gap.data.toList N) ob ns F line.data.toList = acc ++ jitems step.data.toList gap.data.toList (jtext step.data.toList gap.data.toList N) ob ns F line.data.toList j) := by unfold Hid; rw [HT.out, if_pos h0, List.append_nil]
        have hj0 : j = 0 := by omega
        subst h0
        subst hj0
        clear ej hjn HNl HT hfl
        go_wp2_with fail
        exact bodyPost_end (v := .tuple #[]) (by simp [results, Try.results57]) rfl ⟨rfl, by rw [HT2.out]; exact HWj.out⟩
      · have h0' : 0 < n := by omega
        have HT2 : Hid (acc ++ jinner step.data.toList gap.data.toList (jtext step.data.toList gap.data.toList N) ob ns F line.data.toList = acc ++ jitems step.data.toList gap.data.toList (jtext step.data.toList gap.data.toList N) ob ns F line.data.toList j ++ line.data.toList) := by unfold Hid; rw [HT.out, if_neg h0, List.append_assoc]
        subst ej
        clear h0 hjn hj HT hfl HLn HIn HX HWr HInd HInz HSl H
        go_wp2_with fail
        refine (Wr.text HWj.out line (l := line.data.toList) rfl (by have h7 := hlj.out; have h8 := HLL.out; have h9 := hbd.out; rw [List.length_append]; omega)).mono ?_
        rintro e w2 ⟨rfl, h2, -, -⟩
        clear x0 x1 x2 x3 x4 x5 x6
        go_wp2_with fail
        exact bodyPost_end (v := .tuple #[]) (by simp [results, Try.results57]) rfl ⟨rfl, by rw [HT2.out]; exact h2⟩
    have hjF : j < F.len := by rw [HNl.out]; exact hjn
    have hbd : F.sumJ j + ((F.kidsAt j).size + 1) ≤ F.size := by
      have h1 := sumJ_le F (i := j + 1) (n := F.len) hjF
      rw [sumJ_len] at h1
      exact h1
    have hjl : (j : Int) < (n : Int) := by omega
    obtain ⟨b, o, rfl, hFr⟩ := Vo.from_of_len (HIn.out.1.1 _ (Below.refl _ _)) hjF
    have hbw : Below W0.heap.size W0 wr := HIn.out.2.2.trans (HWj.out.2.1.mono hWB)
    obtain ⟨⟨c0, c1, c2, c3, c4, c5⟩, ck, ⟨cc1, cc2⟩, ch⟩ := Vo.from_at (Vo.from_grow hbw F b o hFr) hjF
    have HKid : Hid (((F.kidsAt j).In W0 (F.addrAt j) ∧ (F.kidsAt j).len ≤ F.capAt j ∧ F.capAt j ≤ maxLen) ∧ (F.hdAt j).In W0 ∧ FitJ (F.hdAt j) (F.kidsAt j)) := by
      obtain ⟨_, x2, x3, x4⟩ := Vo.from_at hFr hjF
      exact ⟨⟨x2, x3⟩, x4, fitJ_at hjF HIn.out.1.2⟩
    have HPc : Hid (jitems step.data.toList gap.data.toList (jtext step.data.toList gap.data.toList N) ob ns F line.data.toList (j + 1) = jitems step.data.toList gap.data.toList (jtext step.data.toList gap.data.toList N) ob ns F line.data.toList j ++ ((if j = 0 then [] else [44]) ++ ((line.data.toList ++ step.data.toList) ++ ((if ob then Qm.jquote (nameAt ns j).data.toList ++ ([58] ++ gap.data.toList) else []) ++ jtext step.data.toList gap.data.toList N (F.hdAt j) (F.kidsAt j) (line.data.toList ++ step.data.toList))))) := rfl
    have HBV := hideIt (Box.new wr 28 (vCells (F.hdAt j) (F.addrAt j) (F.kidsAt j).len (F.capAt j)))
    have HXa := hideIt (HXj.out.below ((Below.refl _ wr).alloc (Nat.le_refl _) (.cells (vCells (F.hdAt j) (F.addrAt j) (F.kidsAt j).len (F.capAt j)).toArray 28)) HXj.out.lt)
    have HWa := hideIt (HWj.out.alloc (.cells (vCells (F.hdAt j) (F.addrAt j) (F.kidsAt j).len (F.capAt j)).toArray 28))
    clear ck ch hFr HXj
    unfold vCells at HBV HXa HWa
    have hvk : wr.heap.size ≠ kb := by omega
    obtain ⟨A, hA⟩ : ∃ A, A = jitems step.data.toList gap.data.toList (jtext step.data.toList gap.data.toList N) ob ns F line.data.toList j := ⟨_, rfl⟩
    have HA := hideIt hA
    have hljA : Hid (A.length ≤ 13000 * F.sumJ j) := by rw [hA]; exact hlj.out
    rw [← hA] at HWa HPc
    clear hA HWj hlj
    obtain ⟨x0, x1, x2, x3, x4, x5, x6⟩ := wr_cells (HXa.out)
    have HSz : Hid (((line ++ step).data.toList = line.data.toList ++ step.data.toList ∧ (line ++ step).size = line.size + step.size) ∧ (line.data.toList ++ step.data.toList).length = line.size + step.size) := ⟨⟨HInd.out, HInz.out⟩, by rw [← HInd.out, Qm.len_eq]; exact HInz.out⟩
    generalize F.hdAt j = xh at *
    generalize F.kidsAt j = xk at *
    generalize F.addrAt j = xa at *
    generalize F.capAt j = xc at *
    by_cases hj0 : j = 0
    · have hj0' : ¬ 0 < j := by omega
      have HJ0 := hideIt hj0
      clear hj0
      have HWp0 := HWa.out
      rw [← List.append_nil A] at HWp0
      have HWp := hideIt HWp0
      clear HWp0
      have HXp := hideIt HXa.out
      have HVp := hideIt HBV.out
      clear HWa HXa HBV
      go_wp2_with fail
      have hj0 := HJ0.out
      clear HJ0 hj0'
      subst hj0
      refine (Wr.text HWp.out (line ++ step) (l := line.data.toList ++ step.data.toList) HSz.out.1.1 (by have h7 := hljA.out; have h8 := HSz.out.2; simp only [List.length_append, List.length_cons, List.length_nil] at h8 ⊢; omega)).mono ?_
      rintro e w6 ⟨rfl, h6, hk6, -⟩
      have HW6 := hideIt h6
      have HX6 := hideIt (HXp.out.kept hk6 hne (by decide))
      have HV6 := hideIt (HVp.out.kept hk6 hvk (by decide))
      clear x0 x1 x2 x3 x4 x5 x6
      clear h6 hk6 HWp HXp HVp
      have v0 := HV6.out.cell (i := 0) rfl
      have v1 := HV6.out.cell (i := 1) rfl
      have v2 := HV6.out.cell (i := 2) rfl
      have v3 := HV6.out.cell (i := 3) rfl
      have v4 := HV6.out.cell (i := 4) rfl
      have v5 := HV6.out.cell (i := 5) rfl
      obtain ⟨x0, x1, x2, x3, x4, x5, x6⟩ := wr_cells (HX6.out)
      rcases HIn.out.2.1 with ⟨rfl, rfl⟩ | ⟨_, h0⟩ | ⟨rfl, nb, no, nc, rfl, hnb, hnl, hS, hsz⟩
      · go_wp2_with fail
        clear x0 x1 x2 x3 x4 x5 x6
        clear v0 v1 v2 v3 v4 v5 HV6
        refine (H xh xa xc xk (line ++ step) (acc ++ (A ++ []) ++ (line.data.toList ++ step.data.toList)) B kb step gap w6 W0 (by omega) (by have := HSz.out.1.2; omega) hst hgp (by have h7 := hljA.out; have h8 := HSz.out.2; simp only [List.length_append, List.length_cons, List.length_nil] at h8 ⊢; omega) HKid.out.2.2 HKid.out.1.1 HKid.out.1.2.1 HKid.out.1.2.2 HKid.out.2.1 hWB hBk (HIn.out.2.2.trans (HW6.out.2.1.mono hWB)) HW6.out.1.1 HW6.out.1.2).mono ?_
        rintro r w8 ⟨rfl, h8⟩
        have HW8 := hideIt (HW6.out.then h8)
        have HX8 := hideIt (HX6.out.kept h8.2.2 hne (by decide))
        clear h8 HW6 HX6
        go_wp2_with fail
        go_round
        case rel =>
          refine ⟨0 + 1, by go_num, by omega, ?_, HX8.out⟩
          have h9 := HW8.out
          rw [HSz.out.1.1] at h9
          rw [HPc.out]
          simpa [List.append_assoc] using h9
        case measure => simp [intOf]; omega
      · rw [HNl.out] at h0
        omega
      · have hs := nameAt_some (ns := ns) (i := 0) (by rw [hnl]; exact hjF)
        have hcell := ((hS.grow (HIn.out.2.2.trans (HW6.out.2.1.mono hWB))).at hs).1
        have hjn2 : ((0 : Nat) : Int) < (ns.length : Int) := by rw [hnl, HNl.out]; exact hjl
        have hsj := hsz 0
        have HQ := hideIt (Qm.jquote_length (nameAt ns 0).data.toList)
        rw [Qm.len_eq] at HQ
        have HQ2 : Hid ((Qm.jquote (nameAt ns 0).data.toList ++ ([58] ++ gap.data.toList)).length ≤ 80) := by
          have h1 := HQ.out
          have h2 := HSl.out.2
          unfold Hid
          simp only [List.length_append, List.length_cons, List.length_nil]
          omega
        have HCell := hideIt hcell
        have HLs := hideIt (And.intro hnl hS)
        clear hcell hnl hS hs hsz
        go_wp2_with fail
        refine ji9 (j := 0) (s := nameAt ns 0) HX6.out HW6.out hne hjn2 hnb HCell.out (by omega) hgp (by have h7 := hljA.out; have h8 := HSz.out.2; have h9 := HQ2.out; simp only [List.length_append, List.length_cons, List.length_nil] at h8 h9 ⊢; omega) (fun _ d _ _ _ h => by cases d <;> exact h) ?_
        intro w7 v35 v36 v37 v38 v39 v40 v41 v42 v43 v44 v45 v46 v47 v48 v49 h7 hk7
        have HW7 := hideIt h7
        have HX7 := hideIt (HX6.out.kept hk7 hne (by decide))
        have HV7 := hideIt (HV6.out.kept hk7 hvk (by decide))
        clear x0 x1 x2 x3 x4 x5 x6
        clear v0 v1 v2 v3 v4 v5 h7 hk7 HW6 HX6 HV6 HCell
        have v0 := HV7.out.cell (i := 0) rfl
        have v1 := HV7.out.cell (i := 1) rfl
        have v2 := HV7.out.cell (i := 2) rfl
        have v3 := HV7.out.cell (i := 3) rfl
        have v4 := HV7.out.cell (i := 4) rfl
        have v5 := HV7.out.cell (i := 5) rfl
        obtain ⟨x0, x1, x2, x3, x4, x5, x6⟩ := wr_cells (HX7.out)
        go_wp2_with fail
        clear x0 x1 x2 x3 x4 x5 x6
        clear v0 v1 v2 v3 v4 v5 HV7
        refine (H xh xa xc xk (line ++ step) ((acc ++ (A ++ []) ++ (line.data.toList ++ step.data.toList)) ++ (Qm.jquote (nameAt ns 0).data.toList ++ ([58] ++ gap.data.toList))) B kb step gap w7 W0 (by omega) (by have := HSz.out.1.2; omega) hst hgp (by have h7 := hljA.out; have h8 := HSz.out.2; have h10 := HQ.out; have h11 := HSl.out.2; simp only [List.length_append, List.length_cons, List.length_nil] at h8 ⊢; omega) HKid.out.2.2 HKid.out.1.1 HKid.out.1.2.1 HKid.out.1.2.2 HKid.out.2.1 hWB hBk (HIn.out.2.2.trans (HW7.out.2.1.mono hWB)) HW7.out.1.1 HW7.out.1.2).mono ?_
        rintro r w8 ⟨rfl, h8⟩
        have HW8 := hideIt (HW7.out.then h8)
        have HX8 := hideIt (HX7.out.kept h8.2.2 hne (by decide))
        clear h8 HW7 HX7
        go_wp2_with fail
        go_round
        case rel =>
          refine ⟨0 + 1, by go_num, by omega, ?_, HX8.out⟩
          have h9 := HW8.out
          rw [HSz.out.1.1] at h9
          rw [HPc.out]
          simpa [List.append_assoc] using h9
        case measure => simp [intOf]; omega
    · have hj0' : 0 < j := by omega
      have HJ0 := hideIt hj0
      clear hj0
      go_wp2_with fail
      refine (Wr.text HWa.out ⟨#[44]⟩ (l := [44]) rfl (by have h7 := hljA.out; simp only [List.length_append, List.length_cons, List.length_nil]; omega)).mono ?_
      rintro e w5 ⟨rfl, h5, hk5, -⟩
      have HWp : Hid (Wr B kb w (acc ++ (A ++ [44])) w5) := by rw [← List.append_assoc]; exact h5
      have HXp := hideIt (HXa.out.kept hk5 hne (by decide))
      have HVp := hideIt (HBV.out.kept hk5 hvk (by decide))
      clear x0 x1 x2 x3 x4 x5 x6
      clear h5 hk5 HWa HXa HBV
      obtain ⟨x0, x1, x2, x3, x4, x5, x6⟩ := wr_cells (HXp.out)
      go_wp2_with fail
      have hj0 := HJ0.out
      refine (Wr.text HWp.out (line ++ step) (l := line.data.toList ++ step.data.toList) HSz.out.1.1 (by have h7 := hljA.out; have h8 := HSz.out.2; simp only [List.length_append, List.length_cons, List.length_nil] at h8 ⊢; omega)).mono ?_
      rintro e w6 ⟨rfl, h6, hk6, -⟩
      have HW6 := hideIt h6
      have HX6 := hideIt (HXp.out.kept hk6 hne (by decide))
      have HV6 := hideIt (HVp.out.kept hk6 hvk (by decide))
      clear x0 x1 x2 x3 x4 x5 x6
      clear h6 hk6 HWp HXp HVp
      have v0 := HV6.out.cell (i := 0) rfl
      have v1 := HV6.out.cell (i := 1) rfl
      have v2 := HV6.out.cell (i := 2) rfl
      have v3 := HV6.out.cell (i := 3) rfl
      have v4 := HV6.out.cell (i := 4) rfl
      have v5 := HV6.out.cell (i := 5) rfl
      obtain ⟨x0, x1, x2, x3, x4, x5, x6⟩ := wr_cells (HX6.out)
      rcases HIn.out.2.1 with ⟨rfl, rfl⟩ | ⟨_, h0⟩ | ⟨rfl, nb, no, nc, rfl, hnb, hnl, hS, hsz⟩
      · go_wp2_with fail
        clear x0 x1 x2 x3 x4 x5 x6
        clear v0 v1 v2 v3 v4 v5 HV6
        refine (H xh xa xc xk (line ++ step) (acc ++ (A ++ [44]) ++ (line.data.toList ++ step.data.toList)) B kb step gap w6 W0 (by omega) (by have := HSz.out.1.2; omega) hst hgp (by have h7 := hljA.out; have h8 := HSz.out.2; simp only [List.length_append, List.length_cons, List.length_nil] at h8 ⊢; omega) HKid.out.2.2 HKid.out.1.1 HKid.out.1.2.1 HKid.out.1.2.2 HKid.out.2.1 hWB hBk (HIn.out.2.2.trans (HW6.out.2.1.mono hWB)) HW6.out.1.1 HW6.out.1.2).mono ?_
        rintro r w8 ⟨rfl, h8⟩
        have HW8 := hideIt (HW6.out.then h8)
        have HX8 := hideIt (HX6.out.kept h8.2.2 hne (by decide))
        clear h8 HW6 HX6
        go_wp2_with fail
        go_round
        case rel =>
          refine ⟨j + 1, by go_num, by omega, ?_, HX8.out⟩
          have h9 := HW8.out
          rw [HSz.out.1.1] at h9
          rw [HPc.out]
          simpa [List.append_assoc, hj0] using h9
        case measure => simp [intOf]; omega
      · rw [HNl.out] at h0
        omega
      · have hs := nameAt_some (ns := ns) (i := j) (by rw [hnl]; exact hjF)
        have hcell := ((hS.grow (HIn.out.2.2.trans (HW6.out.2.1.mono hWB))).at hs).1
        have hjn2 : ((j : Nat) : Int) < (ns.length : Int) := by rw [hnl, HNl.out]; exact hjl
        have hsj := hsz j
        have HQ := hideIt (Qm.jquote_length (nameAt ns j).data.toList)
        rw [Qm.len_eq] at HQ
        have HQ2 : Hid ((Qm.jquote (nameAt ns j).data.toList ++ ([58] ++ gap.data.toList)).length ≤ 80) := by
          have h1 := HQ.out
          have h2 := HSl.out.2
          unfold Hid
          simp only [List.length_append, List.length_cons, List.length_nil]
          omega
        have HCell := hideIt hcell
        have HLs := hideIt (And.intro hnl hS)
        clear hcell hnl hS hs hsz
        go_wp2_with fail
        refine ji9 (j := j) (s := nameAt ns j) HX6.out HW6.out hne hjn2 hnb HCell.out (by omega) hgp (by have h7 := hljA.out; have h8 := HSz.out.2; have h9 := HQ2.out; simp only [List.length_append, List.length_cons, List.length_nil] at h8 h9 ⊢; omega) (fun _ d _ _ _ h => by cases d <;> exact h) ?_
        intro w7 v35 v36 v37 v38 v39 v40 v41 v42 v43 v44 v45 v46 v47 v48 v49 h7 hk7
        have HW7 := hideIt h7
        have HX7 := hideIt (HX6.out.kept hk7 hne (by decide))
        have HV7 := hideIt (HV6.out.kept hk7 hvk (by decide))
        clear x0 x1 x2 x3 x4 x5 x6
        clear v0 v1 v2 v3 v4 v5 h7 hk7 HW6 HX6 HV6 HCell
        have v0 := HV7.out.cell (i := 0) rfl
        have v1 := HV7.out.cell (i := 1) rfl
        have v2 := HV7.out.cell (i := 2) rfl
        have v3 := HV7.out.cell (i := 3) rfl
        have v4 := HV7.out.cell (i := 4) rfl
        have v5 := HV7.out.cell (i := 5) rfl
        obtain ⟨x0, x1, x2, x3, x4, x5, x6⟩ := wr_cells (HX7.out)
        go_wp2_with fail
        clear x0 x1 x2 x3 x4 x5 x6
        clear v0 v1 v2 v3 v4 v5 HV7
        refine (H xh xa xc xk (line ++ step) ((acc ++ (A ++ [44]) ++ (line.data.toList ++ step.data.toList)) ++ (Qm.jquote (nameAt ns j).data.toList ++ ([58] ++ gap.data.toList))) B kb step gap w7 W0 (by omega) (by have := HSz.out.1.2; omega) hst hgp (by have h7 := hljA.out; have h8 := HSz.out.2; have h10 := HQ.out; have h11 := HSl.out.2; simp only [List.length_append, List.length_cons, List.length_nil] at h8 ⊢; omega) HKid.out.2.2 HKid.out.1.1 HKid.out.1.2.1 HKid.out.1.2.2 HKid.out.2.1 hWB hBk (HIn.out.2.2.trans (HW7.out.2.1.mono hWB)) HW7.out.1.1 HW7.out.1.2).mono ?_
        rintro r w8 ⟨rfl, h8⟩
        have HW8 := hideIt (HW7.out.then h8)
        have HX8 := hideIt (HX7.out.kept h8.2.2 hne (by decide))
        clear h8 HW7 HX7
        go_wp2_with fail
        go_round
        case rel =>
          refine ⟨j + 1, by go_num, by omega, ?_, HX8.out⟩
          have h9 := HW8.out
          rw [HSz.out.1.1] at h9
          rw [HPc.out]
          simpa [List.append_assoc, hj0] using h9
        case measure => simp [intOf]; omega
end Go.Proofs.Ytalncebnahlmdaa
/- Values as JSON, by the program: JsonPut. -/
namespace Go.Proofs.Ytalncebnahlmdaa
open Go.RowKit
attribute [local go_sem] cell_alloc_is frozen_alloc_is
theorem value_all (N : Nat) : ValC N := by
  induction N with
  | zero => intro hd a c F line acc B kb step gap w W0 hF; omega
  | succ N ih => exact value_step N (items_step N ih)
set_option maxRecDepth 100000 in
set_option maxHeartbeats 1000000 in
theorem newJsonWriter_any (kb : Nat) (w : World) :
    Calls Try.prog 32 #[.pointer (some ⟨kb, 0, none⟩)] w fun e w' => e = .returned (wrV kb ⟨#[]⟩ ⟨#[]⟩) ∧ Below w.heap.size w w' := by
  go_enter Try.func32, Try.ntmps32
  go_wp2_with fail
  obtain ⟨W1, hW1⟩ : ∃ W1, w.alloc (.cells #[.pointer none, .string ⟨#[]⟩, .string ⟨#[]⟩, .string ⟨#[]⟩, .int .i64 0, .string ⟨#[]⟩, .string ⟨#[]⟩] 59) = W1 := ⟨_, rfl⟩
  have R1 : Row W1 w.heap.size [.pointer none, .string ⟨#[]⟩, .string ⟨#[]⟩, .string ⟨#[]⟩, .int .i64 0, .string ⟨#[]⟩, .string ⟨#[]⟩] := by rw [← hW1]; exact Row.new w [.pointer none, .string ⟨#[]⟩, .string ⟨#[]⟩, .string ⟨#[]⟩, .int .i64 0, .string ⟨#[]⟩, .string ⟨#[]⟩] 59
  have hB1 : Below w.heap.size w W1 := by rw [← hW1]; exact (Below.refl _ w).alloc (Nat.le_refl _) _
  rw [hW1]
  clear hW1
  refine (jsonQuoting_any _).mono ?_
  rintro e w2 ⟨rfl, hb2⟩
  have R2 := R1.below hb2 R1.lt
  have hB2 := hB1.trans (hb2.mono hB1.size)
  obtain ⟨y0, z0⟩ := R2 0 _ rfl
  obtain ⟨y1, z1⟩ := R2 1 _ rfl
  obtain ⟨y2, z2⟩ := R2 2 _ rfl
  obtain ⟨y3, z3⟩ := R2 3 _ rfl
  obtain ⟨y4, z4⟩ := R2 4 _ rfl
  obtain ⟨y5, z5⟩ := R2 5 _ rfl
  obtain ⟨y6, z6⟩ := R2 6 _ rfl
  clear hb2 hB1 R1
  go_wp2_with fail
  have R3 := (((((((R2.set (i := 0) (by simp) (.pointer (some ⟨kb, 0, none⟩))).set (i := 1) (by simp) (.string ⟨#[92, 117, 48, 48]⟩)).set (i := 2) (by simp) (.string ⟨#[34, 92, 47, 98, 102, 110, 114, 116]⟩)).set (i := 3) (by simp) (.string ⟨#[34, 92, 47, 8, 12, 10, 13, 9]⟩)).set (i := 4) (by simp) (.int .i64 2)).set (i := 5) (by simp) (.string ⟨#[]⟩)).set (i := 6) (by simp) (.string ⟨#[]⟩))
  have hB3 := (((((((hB2.setCell (p := ⟨w.heap.size, 0, none⟩) (Nat.le_refl _) (.pointer (some ⟨kb, 0, none⟩))).setCell (p := ⟨w.heap.size, 1, none⟩) (Nat.le_refl _) (.string ⟨#[92, 117, 48, 48]⟩)).setCell (p := ⟨w.heap.size, 2, none⟩) (Nat.le_refl _) (.string ⟨#[34, 92, 47, 98, 102, 110, 114, 116]⟩)).setCell (p := ⟨w.heap.size, 3, none⟩) (Nat.le_refl _) (.string ⟨#[34, 92, 47, 8, 12, 10, 13, 9]⟩)).setCell (p := ⟨w.heap.size, 4, none⟩) (Nat.le_refl _) (.int .i64 2)).setCell (p := ⟨w.heap.size, 5, none⟩) (Nat.le_refl _) (.string ⟨#[]⟩)).setCell (p := ⟨w.heap.size, 6, none⟩) (Nat.le_refl _) (.string ⟨#[]⟩))
  revert R3 hB3
  generalize (((((((w2.setCell _ _).setCell _ _).setCell _ _).setCell _ _).setCell _ _).setCell _ _).setCell _ _) = w9
  intro R3 hB3
  have c0 := (R3 0 _ rfl).1
  have c1 := (R3 1 _ rfl).1
  have c2 := (R3 2 _ rfl).1
  have c3 := (R3 3 _ rfl).1
  have c4 := (R3 4 _ rfl).1
  have c5 := (R3 5 _ rfl).1
  have c6 := (R3 6 _ rfl).1
  exact bodyPost_ret (v := wrV kb ⟨#[]⟩ ⟨#[]⟩) (by simp [results, Try.results32, go_sem, c0, c1, c2, c3, c4, c5, c6]) rfl ⟨rfl, hB3⟩
open Classical in
/-- what JsonPut answers -/
noncomputable def jput (h : Hd) (F : Vo) : ByteArray := if ValOk h F then ⟨(jtext [] [] 200 h F []).toArray⟩ else ⟨#[]⟩
theorem jput_ok {h : Hd} {F : Vo} (x : ValOk h F) : jput h F = ⟨(jtext [] [] 200 h F []).toArray⟩ := if_pos x
theorem jput_no {h : Hd} {F : Vo} (x : ¬ ValOk h F) : jput h F = ⟨#[]⟩ := if_neg x
set_option maxRecDepth 100000 in
set_option maxHeartbeats 1000000 in
theorem jp4 {Q : Exit → Act → World → Prop} {t0 t2 t4 t5 t6 t7 t8 t9 t10 : Value} {W : World} {bv B kb : Nat} {hd : Hd} {a : Option Addr} {c : Nat} {F : Vo}
    (hA : BxV bv hd (.slice a F.len c) W) (hcall : ∀ W', Below W.heap.size W W' → Calls Try.prog 33 #[wrV kb ⟨#[]⟩ ⟨#[]⟩, valV hd a F.len c, .string ⟨#[]⟩] W' fun r w' => r = .returned (.tuple #[]) ∧ Wr B kb W' (jtext [] [] 200 hd F []) w') (hbv : bv < B) (hBW : B ≤ W.heap.size)
    (hp : ∀ p d v a w, Q (.panic p) (Act.put a d v) w → Q (.panic p) a w) (h_ : ∀ ws v7 v8 v9, (Wr B kb W (jtext [] [] 200 hd F []) ws) → Q .normal { tmps := (t0 :: (.pointer (some ⟨bv, 0, none⟩)) :: t2 :: (.pointer (some ⟨kb, 0, none⟩)) :: t4 :: t5 :: t6 :: v7 :: v8 :: v9 :: t10 :: []).toArray, defers := [] } ws) :
    Code.wp Try.prog (Code.region 4 #[{ dst := some 7, op := Op.call { callee := Callee.value (Operand.func 32), args := #[Operand.tmp 3], argTypes := #[53] }, type := 59, pos := "l7_value.go:59", after := #[], guard := none }, { dst := some 8, op := Op.load 28 (Operand.tmp 1), type := 28, pos := "l7_value.go:59", after := #[], guard := none }, { dst := some 9, op := Op.call { callee := Callee.value (Operand.func 33), args := #[Operand.tmp 7, Operand.tmp 8, Operand.const (Value.string { data := #[] })], argTypes := #[59, 28, 9] }, type := 0, pos := "l7_value.go:59", after := #[{ on := 0, ground := Ground.data }, { on := 1, ground := Ground.data }, { on := 0, ground := Ground.chain }], guard := none }] true) Q { tmps := (t0 :: (.pointer (some ⟨bv, 0, none⟩)) :: t2 :: (.pointer (some ⟨kb, 0, none⟩)) :: t4 :: t5 :: t6 :: t7 :: t8 :: t9 :: t10 :: []).toArray, defers := [] } W := by
  have HSof : Hid (∀ w', Below W.heap.size W w' → BxV bv hd (.slice a F.len c) w') := fun w' h => hA.below h
  have hB0 := (Below.refl W.heap.size W).drew
  have hS0 := HSof.out _ hB0
  clear hA
  refine wp_region_held_drew (S := fun w' => BxV bv hd (.slice a F.len c) w') (by kernel_rfl) hS0 (fun hHeld => ?_)
  refine wpAnyH_take (i := 1) (v := valV hd a F.len c) rfl (by kernel_rfl) (by kernel_rfl) (by kernel_rfl) (fun _ _ _ h => hp _ _ _ _ _ h) (Or.inl ⟨by rfl, ?_⟩) (by assumption) ?_
  · intro w hSw
    (try dsimp only at hSw)
    go_simp
  (try simp only [Act.put, List.getElem_toArray, List.getElem_cons_zero, List.getElem_cons_succ, List.setIfInBounds_toArray, List.set_cons_zero, List.set_cons_succ])
  refine wpAnyH_ready (rs := [0]) (by kernel_rfl) (by simp) ?_
  refine AllReadyH.cons rfl (fun K hK => ?_) AllReadyH.nil
  go_simp
  refine (newJsonWriter_any kb _).mono ?_
  rintro r w1 ⟨rfl, hb1⟩
  have hB1 := hB0.trans (hb1.mono hB0.size)
  go_wp2_with fail
  refine hK.out _ _ (HSof.out _ hB1) (fun hHeld => ?_)
  clear hK K hb1 hB0
  refine wpAnyH_ready (rs := [2]) (by kernel_rfl) (by simp) ?_
  refine AllReadyH.cons rfl (fun K hK => ?_) AllReadyH.nil
  go_simp
  refine (hcall _ hB1).mono ?_
  rintro r w2 ⟨rfl, hw2⟩
  have hS2 := hideIt (show BxV bv hd (.slice a F.len c) w2 from by
    have h1 := HSof.out _ hB1
    have hb := hw2.2.1
    obtain ⟨y0, y1, y2, y3, y4, y5⟩ := h1
    exact ⟨(hb.cell (p := ⟨bv, 0, none⟩) hbv).trans y0, (hb.cell (p := ⟨bv, 1, none⟩) hbv).trans y1, (hb.cell (p := ⟨bv, 2, none⟩) hbv).trans y2, (hb.cell (p := ⟨bv, 3, none⟩) hbv).trans y3, (hb.cell (p := ⟨bv, 4, none⟩) hbv).trans y4, (hb.cell (p := ⟨bv, 5, none⟩) hbv).trans y5⟩)
  have HW2 := hideIt hw2
  clear hw2
  go_wp2_with fail
  refine hK.out _ _ hS2.out (fun hHeld => ?_)
  clear hK K
  refine wpAnyH_done (by kernel_rfl) ?_ _
  exact h_ _ _ _ _ ⟨HW2.out.1, (hB1.mono hBW).trans HW2.out.2.1, kept_trans (kept_of_below hB1) HW2.out.2.2⟩
set_option maxRecDepth 100000 in
set_option maxHeartbeats 1000000 in
theorem iJsonPut_any (hd : Hd) (a : Option Addr) (c : Nat) (F : Vo) (w : World) (hF : F.size ≤ 1048576) (hin : F.In w a) (hl : F.len ≤ c) (hc : c ≤ maxLen) (hh : hd.In w) :
    Calls Try.prog 15 #[valV hd a F.len c] w fun r w' => r = .returned (.string (jput hd F)) ∧ Below w.heap.size w w' := by
  obtain ⟨wp, hwp⟩ : ∃ wp, wp = w.alloc (.cells #[.int .i64 hd.k, .int .i64 hd.m, .int .i64 hd.e, .string hd.t, .slice a F.len c, .slice hd.na hd.ns.length hd.nc] 28) := ⟨_, rfl⟩
  have hBp : Below w.heap.size w wp := by subst hwp; exact (Below.refl _ w).alloc (Nat.le_refl _) _
  have hA : BxV w.heap.size hd (.slice a F.len c) wp := by subst hwp; exact BxV.new w hd _ _
  have hX1 : Hid (∀ W, Below wp.heap.size wp W → BxV w.heap.size hd (.slice a F.len c) W) := fun W hW => hA.below hW
  have HI : Hid (∀ W, Below wp.heap.size wp W → (F.In W a ∧ hd.In W) ∧ Below w.heap.size w W) := fun W hW => by
    have hb := hBp.trans (hW.mono hBp.size)
    exact ⟨⟨hin.grow hb, hh.grow hb⟩, hb⟩
  have HW := hideIt hwp
  have hB0 := Below.refl wp.heap.size wp
  clear hwp hA hin hh hBp
  go_enter Try.func15, Try.ntmps15
  go_wp2_with fail
  rw [← HW.out]
  clear HW
  refine (iValueOk_any hd a c F _ (by omega) (HI.out _ hB0).1.1 hl hc (HI.out _ hB0).1.2).mono ?_
  rintro r w1 ⟨⟨q1, rfl, hq1⟩, hb1⟩
  have HQ1 := hideIt (hq1.trans (good_ok _ _))
  clear hq1
  obtain ⟨x0, x1, x2, x3, x4, x5⟩ := hX1.out _ hb1
  cases q1
  · have HR : Hid (jput hd F = ⟨#[]⟩) := jput_no (fun x => by have := HQ1.out.2 x; cases this)
    have hbb := (HI.out _ hb1).2
    go_wp2_with fail
    go_ret
    exact ⟨by rw [HR.out]; rfl, hbb⟩
  · have hv : ValOk hd F := HQ1.out.1 rfl
    have HR : Hid (jput hd F = ⟨(jtext [] [] 200 hd F []).toArray⟩) := jput_ok hv
    have HV := hideIt hv
    have hs2 : F.size + 1 ≤ 200 := hv.1
    clear HQ1 hv
    go_wp2_with fail
    have hH : Holds w1.heap.size w1.heap.size [] (w1.alloc (.cells #[.pointer none, .slice none 0 0] 55)) := by
      have := Lib.IsBuilderF.of (Lib.fresh_isBuilder 55 5 w1)
      exact this
    obtain ⟨w2, hw2⟩ : ∃ w2, w1.alloc (.cells #[.pointer none, .slice none 0 0] 55) = w2 := ⟨_, rfl⟩
    have hb2 : Below w1.heap.size w1 w2 := by rw [← hw2]; exact (Below.refl _ w1).alloc (Nat.le_refl _) _
    rw [hw2] at hH ⊢
    have hz2 : w2.heap.size = w1.heap.size + 1 := by rw [← hw2]; simp
    clear hw2
    have hbv : w.heap.size < w1.heap.size := World.block_lt_of_cell? _ _ x0
    have hA2 := hX1.out _ (hb1.trans (hb2.mono hb1.size))
    clear x0 x1 x2 x3 x4 x5
    refine jp4 (B := w1.heap.size) hA2 (fun W' hW => ?_) hbv (by omega) (fun _ d _ _ _ h => by cases d <;> exact h) ?_
    · exact (value_all 200 hd a c F ⟨#[]⟩ [] w1.heap.size w1.heap.size ⟨#[]⟩ ⟨#[]⟩ W' w1 (by omega) (by show 0 + 2 * 200 ≤ 1000; omega) (by show 0 ≤ 2; omega) (by show 0 ≤ 2; omega) (by rw [List.length_nil]; omega) ⟨HV.out.2.2.1, HV.out.2.2.2⟩ (HI.out _ hb1).1.1 hl hc (HI.out _ hb1).1.2 (Nat.le_refl _) (Nat.le_refl _) (hb2.trans (hW.mono hb2.size)) (holds_belowJ hH hW) (by have := hW.size; omega)).mono (fun _ _ h => ⟨h.1, by simpa using h.2⟩)
    intro w4 v7 v8 v9 h4
    have HW4 := hideIt h4
    have hb34 := h4.2.1
    have hz4 := hb34.size
    clear h4 hA2
    go_wp2_with fail
    refine (bString _ _ _ _ HW4.out.1.1 HW4.out.1.2).mono ?_
    rintro e w5 ⟨rfl, h5, b5, k5⟩
    have hbe := (HI.out _ (hb1.trans ((hb2.trans (hb34.trans b5)).mono hb1.size))).2
    go_wp2_with fail
    go_ret
    exact ⟨by rw [HR.out]; rfl, hbe⟩
end Go.Proofs.Ytalncebnahlmdaa
