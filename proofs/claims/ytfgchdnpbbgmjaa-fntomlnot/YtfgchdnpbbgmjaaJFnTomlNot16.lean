/- My own texts, joined: Jh Ji Jj Jk Ic Id Ie. -/
import Derived.Test.YtfgchdnpbbgmjaaJFnTomlNot15
import Derived.Test.YtfgchdnpbbgmjaaJFnTomlNot14
import Derived.Test.YtfgchdnpbbgmjaaJFnTomlNot0
/- Values as JSON, by the program: a value is written. -/
namespace Go.Proofs.Ytfgchdnpbbgmjaa
open Go.RowKit
attribute [local go_sem] cell_alloc_is frozen_alloc_is
def ValC (N : Nat) : Prop := ∀ (hd : Hd) (a : Option Addr) (c : Nat) (F : Vo) (line : ByteArray) (acc : List UInt8) (B kb : Nat) (step gap : ByteArray) (w W0 : World), F.size < N → line.size + 2 * N ≤ 1000 → step.size ≤ 2 → gap.size ≤ 2 → acc.length + (13000 * F.size + 11000) ≤ 100000000 →
  FitJ hd F → F.In W0 a → F.len ≤ c → c ≤ maxLen → hd.In W0 → W0.heap.size ≤ B → B ≤ kb → Below W0.heap.size W0 w → Holds B kb acc w → B ≤ w.heap.size →
  Calls Try.prog 80 #[wrV kb step gap, valV hd a F.len c, .string line] w fun r w' => r = .returned (.tuple #[]) ∧ Wr B kb w (acc ++ jtext step.data.toList gap.data.toList N hd F line.data.toList) w'
/-- the names of items: none, or as many -/
def NamesOk (W0 : World) (B : Nat) (ob : Bool) (ns : List ByteArray) (F : Vo) (nv : Value) : Prop :=
  (ob = false ∧ nv = .slice none 0 0) ∨ (ob = true ∧ F.len = 0) ∨ (ob = true ∧ ∃ nb no nc, nv = .slice (some ⟨nb, no, none⟩) ns.length nc ∧ nb < B ∧ ns.length = F.len ∧ SFrom W0 ns nb no ∧ ∀ i, (nameAt ns i).size ≤ 12)
def ItC (N : Nat) : Prop := ∀ (ob : Bool) (ns : List ByteArray) (nv : Value) (a : Option Addr) (c : Nat) (F : Vo) (line : ByteArray) (acc : List UInt8) (B kb : Nat) (step gap : ByteArray) (w W0 : World), F.size ≤ N → line.size + 2 + 2 * N ≤ 1000 → step.size ≤ 2 → gap.size ≤ 2 → acc.length + (13000 * F.size + 1000) ≤ 100000000 →
  F.allOne → NamesOk W0 B ob ns F nv → F.In W0 a → F.len ≤ c → c ≤ maxLen → W0.heap.size ≤ B → B ≤ kb → Below W0.heap.size W0 w → Holds B kb acc w → B ≤ w.heap.size →
  Calls Try.prog 98 #[wrV kb step gap, .slice a F.len c, nv, .string line] w fun r w' => r = .returned (.tuple #[]) ∧ Wr B kb w (acc ++ jinner step.data.toList gap.data.toList (jtext step.data.toList gap.data.toList N) ob ns F line.data.toList) w'
theorem wr_cells {W : World} {b kb : Nat} {step gap : ByteArray} (h : Box W b 76 (wrCells kb step gap)) :
    W.cell? ⟨b, 0, none⟩ = some (.pointer (some ⟨kb, 0, none⟩)) ∧ W.cell? ⟨b, 1, none⟩ = some (.string ⟨#[92, 117, 48, 48]⟩) ∧ W.cell? ⟨b, 2, none⟩ = some (.string ⟨#[34, 92, 47, 98, 102, 110, 114, 116]⟩) ∧ W.cell? ⟨b, 3, none⟩ = some (.string ⟨#[34, 92, 47, 8, 12, 10, 13, 9]⟩) ∧ W.cell? ⟨b, 4, none⟩ = some (.int .i64 2) ∧ W.cell? ⟨b, 5, none⟩ = some (.string step) ∧ W.cell? ⟨b, 6, none⟩ = some (.string gap) :=
  ⟨h.cell (i := 0) rfl, h.cell (i := 1) rfl, h.cell (i := 2) rfl, h.cell (i := 3) rfl, h.cell (i := 4) rfl, h.cell (i := 5) rfl, h.cell (i := 6) rfl⟩
theorem Wr.then {B kb : Nat} {acc acc' : List UInt8} {w0 W W' : World} (h : Wr B kb w0 acc W) (h' : Wr B kb W acc' W') : Wr B kb w0 acc' W' := h.wrote h'.1.1 h'.2.1 h'.2.2
set_option maxRecDepth 100000 in
set_option maxHeartbeats 4000000 in
theorem value_step (N : Nat) (H : ItC N) : ValC (N + 1) := by
  intro hd a c F line acc B kb step gap w W0 hF hln hst hgp hlen hfit hin hl hc hh hWB hBk hb0 hH hBw
  have hkl := holds_lt hH
  have hmeth := write_method
  obtain ⟨wp, hwp⟩ : ∃ wp, wp = (w.alloc (.cells #[.pointer (some ⟨kb, 0, none⟩), .string ⟨#[92, 117, 48, 48]⟩, .string ⟨#[34, 92, 47, 98, 102, 110, 114, 116]⟩, .string ⟨#[34, 92, 47, 8, 12, 10, 13, 9]⟩, .int .i64 2, .string step, .string gap] 76)).alloc (.cells #[.int .i64 hd.k, .int .i64 hd.m, .int .i64 hd.e, .string hd.t, .slice a F.len c, .slice hd.na hd.ns.length hd.nc] 28) := ⟨_, rfl⟩
  have hX : Box wp w.heap.size 76 (wrCells kb step gap) := by subst hwp; exact (Box.new w _ (wrCells kb step gap)).below ((Below.refl _ _).alloc (Nat.le_refl _) _) (by simp)
  have hWr : Wr B kb w acc wp := by subst hwp; exact ((Wr.start hH hBw).alloc _).alloc _
  have hVal : Below (w.heap.size + 1) (w.alloc (.cells #[.pointer (some ⟨kb, 0, none⟩), .string ⟨#[92, 117, 48, 48]⟩, .string ⟨#[34, 92, 47, 98, 102, 110, 114, 116]⟩, .string ⟨#[34, 92, 47, 8, 12, 10, 13, 9]⟩, .int .i64 2, .string step, .string gap] 76)) wp := by subst hwp; exact (Below.refl _ _).alloc (by simp) _
  have hvv : valV hd a F.len c = valV hd a F.len c := rfl
  have hne : w.heap.size ≠ kb := by omega
  obtain ⟨⟨k0, k6⟩, k3, k4, k66, k44⟩ := oneJ hfit.1
  have hzp : w.heap.size < wp.heap.size := hX.lt
  have HWr := hideIt hWr
  have HX := hideIt hX
  have HW := hideIt hwp
  have HK := hideIt (And.intro k3 (And.intro k4 k66))
  have HIn : Hid ((F.In W0 a ∧ hd.In W0) ∧ FitJ hd F ∧ Below W0.heap.size W0 w) := ⟨⟨hin, hh⟩, hfit, hb0⟩
  have HHs := hideIt hH
  clear hWr hX hwp hin hh hfit hH hvv hVal k3 k4 k66 k44 hb0
  obtain hk | hk | hk | hk | hk | hk | hk : hd.k = 0 ∨ hd.k = 1 ∨ hd.k = 2 ∨ hd.k = 3 ∨ hd.k = 4 ∨ hd.k = 5 ∨ hd.k = 6 := by omega
  · have HKk := hideIt hk
    have HT : Hid (jtext step.data.toList gap.data.toList (N + 1) hd F line.data.toList = [110, 117, 108, 108]) := by unfold Hid jtext; rw [if_pos hk]
    clear hk HK HIn HHs H
    have ta0 : ∀ (v : Value) (W : World), (Instr.typeAssert (.iface 122 v) 110 122 true).run Try.prog W = .ok (.tuple #[v, .bool true]) W := fun v W => by kernel_rfl
    go_enter Try.func80, Try.ntmps80
    go_wp2_with fail
    rw [← HW.out]
    clear HW
    refine (sort_0 hd a F.len c _ HKk.out).mono ?_
    rintro r w1 ⟨rfl, hb1⟩
    have HX1 := hideIt (HX.out.below hb1 HX.out.lt)
    have HW1 := hideIt (HWr.out.below hb1)
    have hz1 := Nat.le_trans hzp hb1.size
    clear HX HWr
    obtain ⟨x0, x1, x2, x3, x4, x5, x6⟩ := wr_cells (HX1.out)
    go_wp2_with fail
    refine (Wr.text (HW1.out.alloc _) ⟨#[110, 117, 108, 108]⟩ (l := [110, 117, 108, 108]) rfl (by simp only [List.length_cons, List.length_nil]; omega)).mono ?_
    rintro e w2 ⟨rfl, h2, -, -⟩
    go_wp2_with fail
    exact bodyPost_end (v := .tuple #[]) (by simp [results, Try.results80]) rfl ⟨rfl, by rw [HT.out]; exact h2⟩
  · have HKk := hideIt hk
    have HT : Hid (jtext step.data.toList gap.data.toList (N + 1) hd F line.data.toList = [116, 114, 117, 101]) := by unfold Hid jtext; rw [if_neg (by omega), if_pos hk]
    clear hk HK HIn HHs H
    have ta0 : ∀ (v : Value) (W : World), (Instr.typeAssert (.iface 123 v) 110 122 true).run Try.prog W = .ok (.tuple #[.agg #[], .bool false]) W := fun v W => by kernel_rfl
    have ta1 : ∀ (v : Value) (W : World), (Instr.typeAssert (.iface 123 v) 110 123 true).run Try.prog W = .ok (.tuple #[v, .bool true]) W := fun v W => by kernel_rfl
    go_enter Try.func80, Try.ntmps80
    go_wp2_with fail
    rw [← HW.out]
    clear HW
    refine (sort_1 hd a F.len c _ HKk.out).mono ?_
    rintro r w1 ⟨rfl, hb1⟩
    have HX1 := hideIt (HX.out.below hb1 HX.out.lt)
    have HW1 := hideIt (HWr.out.below hb1)
    have hz1 := Nat.le_trans hzp hb1.size
    clear HX HWr
    obtain ⟨x0, x1, x2, x3, x4, x5, x6⟩ := wr_cells (HX1.out)
    go_wp2_with fail
    refine (Wr.text (HW1.out) ⟨#[116, 114, 117, 101]⟩ (l := [116, 114, 117, 101]) rfl (by simp only [List.length_cons, List.length_nil]; omega)).mono ?_
    rintro e w2 ⟨rfl, h2, -, -⟩
    go_wp2_with fail
    exact bodyPost_end (v := .tuple #[]) (by simp [results, Try.results80]) rfl ⟨rfl, by rw [HT.out]; exact h2⟩
  · have HKk := hideIt hk
    have HT : Hid (jtext step.data.toList gap.data.toList (N + 1) hd F line.data.toList = [102, 97, 108, 115, 101]) := by unfold Hid jtext; rw [if_neg (by omega), if_neg (by omega), if_pos hk]
    clear hk HK HIn HHs H
    have ta0 : ∀ (v : Value) (W : World), (Instr.typeAssert (.iface 123 v) 110 122 true).run Try.prog W = .ok (.tuple #[.agg #[], .bool false]) W := fun v W => by kernel_rfl
    have ta1 : ∀ (v : Value) (W : World), (Instr.typeAssert (.iface 123 v) 110 123 true).run Try.prog W = .ok (.tuple #[v, .bool true]) W := fun v W => by kernel_rfl
    go_enter Try.func80, Try.ntmps80
    go_wp2_with fail
    rw [← HW.out]
    clear HW
    refine (sort_2 hd a F.len c _ HKk.out).mono ?_
    rintro r w1 ⟨rfl, hb1⟩
    have HX1 := hideIt (HX.out.below hb1 HX.out.lt)
    have HW1 := hideIt (HWr.out.below hb1)
    have hz1 := Nat.le_trans hzp hb1.size
    clear HX HWr
    obtain ⟨x0, x1, x2, x3, x4, x5, x6⟩ := wr_cells (HX1.out)
    go_wp2_with fail
    refine (Wr.text (HW1.out) ⟨#[102, 97, 108, 115, 101]⟩ (l := [102, 97, 108, 115, 101]) rfl (by simp only [List.length_cons, List.length_nil]; omega)).mono ?_
    rintro e w2 ⟨rfl, h2, -, -⟩
    go_wp2_with fail
    exact bodyPost_end (v := .tuple #[]) (by simp [results, Try.results80]) rfl ⟨rfl, by rw [HT.out]; exact h2⟩
  · have HKk := hideIt hk
    have HT : Hid (jtext step.data.toList gap.data.toList (N + 1) hd F line.data.toList = textOf hd.m hd.e) := by
      unfold Hid jtext textOf
      rw [if_neg (by omega), if_neg (by omega), if_neg (by omega), if_pos hk, if_pos (HK.out.1 hk)]
    have hln2 : (textOf hd.m hd.e).length ≤ 11000 := by
      rw [← HT.out]
      have := jtext_len (step := step.data.toList) (gap := gap.data.toList) (by rw [Qm.len_eq]; exact hst) (by rw [Qm.len_eq]; exact hgp) (N + 1) hd F line.data.toList (by rw [Qm.len_eq]; exact hln) HIn.out.2.1
      have h0 : F.size = 0 := by
        have := (oneJ HIn.out.2.1.1).2.2.2.2 (by omega)
        cases F with
        | nil => rfl
        | cons => exact absurd this (Nat.succ_ne_zero _)
      omega
    clear hk HK HIn HHs H
    have ta0 : ∀ (v : Value) (W : World), (Instr.typeAssert (.iface 124 v) 110 122 true).run Try.prog W = .ok (.tuple #[.agg #[], .bool false]) W := fun v W => by kernel_rfl
    have ta1 : ∀ (v : Value) (W : World), (Instr.typeAssert (.iface 124 v) 110 123 true).run Try.prog W = .ok (.tuple #[.bool false, .bool false]) W := fun v W => by kernel_rfl
    have ta2 : ∀ (v : Value) (W : World), (Instr.typeAssert (.iface 124 v) 110 124 true).run Try.prog W = .ok (.tuple #[v, .bool true]) W := fun v W => by kernel_rfl
    go_enter Try.func80, Try.ntmps80
    go_wp2_with fail
    rw [← HW.out]
    clear HW
    refine (sort_3 hd a F.len c _ HKk.out).mono ?_
    rintro r w1 ⟨rfl, hb1⟩
    have HX1 := hideIt (HX.out.below hb1 HX.out.lt)
    have HW1 := hideIt (HWr.out.below hb1)
    have hz1 := Nat.le_trans hzp hb1.size
    clear HX HWr
    obtain ⟨x0, x1, x2, x3, x4, x5, x6⟩ := wr_cells (HX1.out)
    go_wp2_with fail
    have hBn := Box.new w1 124 [.int .i64 hd.m, .int .i64 hd.e]
    have HX2 := hideIt (HX1.out.below ((Below.refl _ w1).alloc (Nat.le_refl _) (.cells #[.int .i64 hd.m, .int .i64 hd.e] 124)) HX1.out.lt)
    refine jv12 HX2.out (HW1.out.alloc _) hne hBn (by omega) (by omega) (fun _ d _ _ _ h => by cases d <;> exact h) ?_
    intro w2 v36 v37 v38 v39 v40 v41 h2 hk2
    clear x0 x1 x2 x3 x4 x5 x6 HX1 HX2 hBn
    go_wp2_with fail
    exact bodyPost_end (v := .tuple #[]) (by simp [results, Try.results80]) rfl ⟨rfl, by rw [HT.out]; exact h2⟩
  · have HKk := hideIt hk
    have HT : Hid (jtext step.data.toList gap.data.toList (N + 1) hd F line.data.toList = Qm.jquote hd.t.data.toList) := by unfold Hid jtext; rw [if_neg (by omega), if_neg (by omega), if_neg (by omega), if_neg (by omega), if_pos hk]
    have hts := HK.out.2.1 hk
    have hln2 : (Qm.jquote hd.t.data.toList).length ≤ 9100 := by
      have := Qm.jquote_length hd.t.data.toList
      rw [Qm.len_eq] at this
      omega
    clear hk HK HIn HHs H
    have ta0 : ∀ (v : Value) (W : World), (Instr.typeAssert (.iface 125 v) 110 122 true).run Try.prog W = .ok (.tuple #[.agg #[], .bool false]) W := fun v W => by kernel_rfl
    have ta1 : ∀ (v : Value) (W : World), (Instr.typeAssert (.iface 125 v) 110 123 true).run Try.prog W = .ok (.tuple #[.bool false, .bool false]) W := fun v W => by kernel_rfl
    have ta2 : ∀ (v : Value) (W : World), (Instr.typeAssert (.iface 125 v) 110 124 true).run Try.prog W = .ok (.tuple #[.agg #[.int .i64 0, .int .i64 0], .bool false]) W := fun v W => by kernel_rfl
    have ta3 : ∀ (v : Value) (W : World), (Instr.typeAssert (.iface 125 v) 110 125 true).run Try.prog W = .ok (.tuple #[v, .bool true]) W := fun v W => by kernel_rfl
    go_enter Try.func80, Try.ntmps80
    go_wp2_with fail
    rw [← HW.out]
    clear HW
    refine (sort_4 hd a F.len c _ HKk.out).mono ?_
    rintro r w1 ⟨rfl, hb1⟩
    have HX1 := hideIt (HX.out.below hb1 HX.out.lt)
    have HW1 := hideIt (HWr.out.below hb1)
    have hz1 := Nat.le_trans hzp hb1.size
    clear HX HWr
    obtain ⟨x0, x1, x2, x3, x4, x5, x6⟩ := wr_cells (HX1.out)
    go_wp2_with fail
    refine jv15 (t := hd.t) HX1.out HW1.out hne (by omega) (by omega) (fun _ d _ _ _ h => by cases d <;> exact h) ?_
    intro w2 v45 v46 v47 v48 v49 v50 v51 v52 h2 hk2
    clear x0 x1 x2 x3 x4 x5 x6 HX1
    go_wp2_with fail
    exact bodyPost_end (v := .tuple #[]) (by simp [results, Try.results80]) rfl ⟨rfl, by rw [HT.out]; exact h2⟩
  · have HKk := hideIt hk
    have HT : Hid (jtext step.data.toList gap.data.toList (N + 1) hd F line.data.toList = [91] ++ (jinner step.data.toList gap.data.toList (jtext step.data.toList gap.data.toList N) false [] F line.data.toList ++ [93])) := by unfold Hid jtext; rw [if_neg (by omega), if_neg (by omega), if_neg (by omega), if_neg (by omega), if_neg (by omega), if_pos hk]
    have hinl : (jinner step.data.toList gap.data.toList (jtext step.data.toList gap.data.toList N) false [] F line.data.toList).length + 2 ≤ 13000 * F.size + 11000 := by
      have h1 := jtext_len (step := step.data.toList) (gap := gap.data.toList) (by rw [Qm.len_eq]; exact hst) (by rw [Qm.len_eq]; exact hgp) (N + 1) hd F line.data.toList (by rw [Qm.len_eq]; exact hln) HIn.out.2.1
      rw [HT.out] at h1
      simp only [List.length_append, List.length_cons, List.length_nil] at h1
      omega
    have HNm : Hid (NamesOk W0 B false [] F (.slice none 0 0)) := .inl ⟨rfl, rfl⟩
    clear hk HK
    have ta0 : ∀ (v : Value) (W : World), (Instr.typeAssert (.iface 126 v) 110 122 true).run Try.prog W = .ok (.tuple #[.agg #[], .bool false]) W := fun v W => by kernel_rfl
    have ta1 : ∀ (v : Value) (W : World), (Instr.typeAssert (.iface 126 v) 110 123 true).run Try.prog W = .ok (.tuple #[.bool false, .bool false]) W := fun v W => by kernel_rfl
    have ta2 : ∀ (v : Value) (W : World), (Instr.typeAssert (.iface 126 v) 110 124 true).run Try.prog W = .ok (.tuple #[.agg #[.int .i64 0, .int .i64 0], .bool false]) W := fun v W => by kernel_rfl
    have ta3 : ∀ (v : Value) (W : World), (Instr.typeAssert (.iface 126 v) 110 125 true).run Try.prog W = .ok (.tuple #[.string ⟨#[]⟩, .bool false]) W := fun v W => by kernel_rfl
    have ta4 : ∀ (v : Value) (W : World), (Instr.typeAssert (.iface 126 v) 110 126 true).run Try.prog W = .ok (.tuple #[v, .bool true]) W := fun v W => by kernel_rfl
    go_enter Try.func80, Try.ntmps80
    go_wp2_with fail
    rw [← HW.out]
    clear HW
    refine (sort_5 hd a F.len c _ HKk.out).mono ?_
    rintro r w1 ⟨rfl, hb1⟩
    have HX1 := hideIt (HX.out.below hb1 HX.out.lt)
    have HW1 := hideIt (HWr.out.below hb1)
    have hz1 := Nat.le_trans hzp hb1.size
    clear HX HWr
    obtain ⟨x0, x1, x2, x3, x4, x5, x6⟩ := wr_cells (HX1.out)
    go_wp2_with fail
    have HX1b := hideIt HX1.out
    refine (Wr.text (HW1.out) ⟨#[91]⟩ (l := [91]) rfl (by simp only [List.length_cons, List.length_nil]; omega)).mono ?_
    rintro e w2 ⟨rfl, h2, hk2, -⟩
    have HW2 := hideIt h2
    have HX2 := hideIt (HX1b.out.kept hk2 hne (by decide))
    clear x0 x1 x2 x3 x4 x5 x6
    clear h2 hk2 HX1 HX1b
    obtain ⟨x0, x1, x2, x3, x4, x5, x6⟩ := wr_cells (HX2.out)
    go_wp2_with fail
    refine (H false [] (.slice none 0 0) a c F line (acc ++ [91]) B kb step gap w2 W0 (by omega) (by omega) hst hgp (by simp only [List.length_append, List.length_cons, List.length_nil]; omega) HIn.out.2.1.2 HNm.out HIn.out.1.1 hl hc hWB hBk (HIn.out.2.2.trans (HW2.out.2.1.mono hWB)) HW2.out.1.1 HW2.out.1.2).mono ?_
    rintro r w3 ⟨rfl, h3⟩
    have HW3 := hideIt (HW2.out.then h3)
    have HX3 := hideIt (HX2.out.kept h3.2.2 hne (by decide))
    clear x0 x1 x2 x3 x4 x5 x6
    clear h3 HX2
    obtain ⟨x0, x1, x2, x3, x4, x5, x6⟩ := wr_cells (HX3.out)
    go_wp2_with fail
    refine (Wr.text HW3.out ⟨#[93]⟩ (l := [93]) rfl (by simp only [List.length_append, List.length_cons, List.length_nil]; omega)).mono ?_
    rintro e w4 ⟨rfl, h4, -, -⟩
    clear x0 x1 x2 x3 x4 x5 x6
    go_wp2_with fail
    exact bodyPost_end (v := .tuple #[]) (by simp [results, Try.results80]) rfl ⟨rfl, by rw [HT.out]; simpa [List.append_assoc] using h4⟩
  · have HKk := hideIt hk
    have HT : Hid (jtext step.data.toList gap.data.toList (N + 1) hd F line.data.toList = [123] ++ (jinner step.data.toList gap.data.toList (jtext step.data.toList gap.data.toList N) true hd.ns F line.data.toList ++ [125])) := by unfold Hid jtext; rw [if_neg (by omega), if_neg (by omega), if_neg (by omega), if_neg (by omega), if_neg (by omega), if_neg (by omega)]
    have hinl : (jinner step.data.toList gap.data.toList (jtext step.data.toList gap.data.toList N) true hd.ns F line.data.toList).length + 2 ≤ 13000 * F.size + 11000 := by
      have h1 := jtext_len (step := step.data.toList) (gap := gap.data.toList) (by rw [Qm.len_eq]; exact hst) (by rw [Qm.len_eq]; exact hgp) (N + 1) hd F line.data.toList (by rw [Qm.len_eq]; exact hln) HIn.out.2.1
      rw [HT.out] at h1
      simp only [List.length_append, List.length_cons, List.length_nil] at h1
      omega
    have HNm : Hid (NamesOk W0 B true hd.ns F (.slice hd.na hd.ns.length hd.nc)) := by
      have hnl := (HK.out.2.2 hk).1
      have hna := (HK.out.2.2 hk).2
      rcases HIn.out.1.2.1 with e | ⟨nb, no, e, hS⟩
      · refine .inr (.inl ⟨rfl, ?_⟩)
        rw [← hnl, e]; rfl
      · by_cases h0 : hd.ns.length = 0
        · exact .inr (.inl ⟨rfl, by omega⟩)
        · refine .inr (.inr ⟨rfl, nb, no, hd.nc, by rw [e], ?_, hnl, hS, fun i => asc_short hna i⟩)
          have := World.block_lt_of_cell? _ _ (hS.at (nameAt_some (ns := hd.ns) (i := 0) (by omega))).1
          have h9 : nb < W0.heap.size := this
          omega
    clear hk HK
    have ta0 : ∀ (v : Value) (W : World), (Instr.typeAssert (.iface 91 v) 110 122 true).run Try.prog W = .ok (.tuple #[.agg #[], .bool false]) W := fun v W => by kernel_rfl
    have ta1 : ∀ (v : Value) (W : World), (Instr.typeAssert (.iface 91 v) 110 123 true).run Try.prog W = .ok (.tuple #[.bool false, .bool false]) W := fun v W => by kernel_rfl
    have ta2 : ∀ (v : Value) (W : World), (Instr.typeAssert (.iface 91 v) 110 124 true).run Try.prog W = .ok (.tuple #[.agg #[.int .i64 0, .int .i64 0], .bool false]) W := fun v W => by kernel_rfl
    have ta3 : ∀ (v : Value) (W : World), (Instr.typeAssert (.iface 91 v) 110 125 true).run Try.prog W = .ok (.tuple #[.string ⟨#[]⟩, .bool false]) W := fun v W => by kernel_rfl
    have ta4 : ∀ (v : Value) (W : World), (Instr.typeAssert (.iface 91 v) 110 126 true).run Try.prog W = .ok (.tuple #[.slice none 0 0, .bool false]) W := fun v W => by kernel_rfl
    have ta5 : ∀ (v : Value) (W : World), (Instr.typeAssert (.iface 91 v) 110 91 true).run Try.prog W = .ok (.tuple #[v, .bool true]) W := fun v W => by kernel_rfl
    go_enter Try.func80, Try.ntmps80
    go_wp2_with fail
    rw [← HW.out]
    clear HW
    refine (sort_6 hd a F.len c _ HKk.out).mono ?_
    rintro r w1 ⟨rfl, hb1⟩
    have HX1 := hideIt (HX.out.below hb1 HX.out.lt)
    have HW1 := hideIt (HWr.out.below hb1)
    have hz1 := Nat.le_trans hzp hb1.size
    clear HX HWr
    obtain ⟨x0, x1, x2, x3, x4, x5, x6⟩ := wr_cells (HX1.out)
    go_wp2_with fail
    have HO := hideIt (Box.new w1 91 [.slice hd.na hd.ns.length hd.nc, .slice a F.len c])
    have HX1b := hideIt (HX1.out.below ((Below.refl _ w1).alloc (Nat.le_refl _) (.cells #[.slice hd.na hd.ns.length hd.nc, .slice a F.len c] 91)) HX1.out.lt)
    refine (Wr.text (HW1.out.alloc _) ⟨#[123]⟩ (l := [123]) rfl (by simp only [List.length_cons, List.length_nil]; omega)).mono ?_
    rintro e w2 ⟨rfl, h2, hk2, -⟩
    have HW2 := hideIt h2
    have HX2 := hideIt (HX1b.out.kept hk2 hne (by decide))
    have HO2 := hideIt (HO.out.kept hk2 (by omega) (by decide))
    have o0 := HO2.out.cell (i := 0) rfl
    have o1 := HO2.out.cell (i := 1) rfl
    clear x0 x1 x2 x3 x4 x5 x6
    clear h2 hk2 HX1 HX1b HO
    obtain ⟨x0, x1, x2, x3, x4, x5, x6⟩ := wr_cells (HX2.out)
    go_wp2_with fail
    refine (H true hd.ns (.slice hd.na hd.ns.length hd.nc) a c F line (acc ++ [123]) B kb step gap w2 W0 (by omega) (by omega) hst hgp (by simp only [List.length_append, List.length_cons, List.length_nil]; omega) HIn.out.2.1.2 HNm.out HIn.out.1.1 hl hc hWB hBk (HIn.out.2.2.trans (HW2.out.2.1.mono hWB)) HW2.out.1.1 HW2.out.1.2).mono ?_
    rintro r w3 ⟨rfl, h3⟩
    have HW3 := hideIt (HW2.out.then h3)
    have HX3 := hideIt (HX2.out.kept h3.2.2 hne (by decide))
    clear x0 x1 x2 x3 x4 x5 x6
    clear h3 HX2 o0 o1 HO2
    obtain ⟨x0, x1, x2, x3, x4, x5, x6⟩ := wr_cells (HX3.out)
    go_wp2_with fail
    refine (Wr.text HW3.out ⟨#[125]⟩ (l := [125]) rfl (by simp only [List.length_append, List.length_cons, List.length_nil]; omega)).mono ?_
    rintro e w4 ⟨rfl, h4, -, -⟩
    clear x0 x1 x2 x3 x4 x5 x6
    go_wp2_with fail
    exact bodyPost_end (v := .tuple #[]) (by simp [results, Try.results80]) rfl ⟨rfl, by rw [HT.out]; simpa [List.append_assoc] using h4⟩
end Go.Proofs.Ytfgchdnpbbgmjaa
/- Values as JSON, by the program: what stands between two brackets is written. -/
namespace Go.Proofs.Ytfgchdnpbbgmjaa
open Go.RowKit
attribute [local go_sem] cell_alloc_is frozen_alloc_is
set_option maxRecDepth 100000 in
set_option linter.unusedSimpArgs false in
set_option maxHeartbeats 1000000 in
theorem items_step (N : Nat) (H : ValC N) : ItC N := by
  intro ob ns nv a c F line acc B kb step gap w W0 hF hln hst hgp hlen hall hnv hin hl hc hWB hBk hb0 hH hBw
  have hkl := holds_lt hH
  have hmeth := write_method
  have hX : Box (w.alloc (.cells #[.pointer (some ⟨kb, 0, none⟩), .string ⟨#[92, 117, 48, 48]⟩, .string ⟨#[34, 92, 47, 98, 102, 110, 114, 116]⟩, .string ⟨#[34, 92, 47, 8, 12, 10, 13, 9]⟩, .int .i64 2, .string step, .string gap] 76)) w.heap.size 76 (wrCells kb step gap) := Box.new w _ (wrCells kb step gap)
  have hWr : Wr B kb w acc (w.alloc (.cells #[.pointer (some ⟨kb, 0, none⟩), .string ⟨#[92, 117, 48, 48]⟩, .string ⟨#[34, 92, 47, 98, 102, 110, 114, 116]⟩, .string ⟨#[34, 92, 47, 8, 12, 10, 13, 9]⟩, .int .i64 2, .string step, .string gap] 76)) := (Wr.start hH hBw).alloc _
  have hne : w.heap.size ≠ kb := by omega
  have hsl : step.data.toList.length ≤ 2 := by rw [Qm.len_eq]; exact hst
  have hgl : gap.data.toList.length ≤ 2 := by rw [Qm.len_eq]; exact hgp
  have hll : line.data.toList.length = line.size := Qm.len_eq line
  have hfl : F.len ≤ F.size := F.len_le
  obtain ⟨n, hn⟩ : ∃ n, F.len = n := ⟨_, rfl⟩
  have HLn : Hid (∀ n, n ≤ F.len → (jitems step.data.toList gap.data.toList (jtext step.data.toList gap.data.toList N) ob ns F line.data.toList n).length ≤ 13000 * F.sumJ n) := by
    rcases hnv with ⟨e2, _⟩ | ⟨_, h0⟩ | ⟨_, _, _, _, _, _, _, _, h9⟩
    · exact jitems_len hsl hgl (by omega) (fun i hi => jtext_len hsl hgl N _ _ _ (by rw [List.length_append]; omega) (fitJ_at hi hall)) ob (fun e => by rw [e2] at e; cases e)
    · intro n hn
      have : n = 0 := by omega
      subst this
      exact Nat.zero_le _
    · exact jitems_len hsl hgl (by omega) (fun i hi => jtext_len hsl hgl N _ _ _ (by rw [List.length_append]; omega) (fitJ_at hi hall)) ob (fun _ i => h9 i)
  have HIn : Hid (((∀ W, Below W0.heap.size W0 W → F.In W a) ∧ F.allOne) ∧ NamesOk W0 B ob ns F nv ∧ Below W0.heap.size W0 w) := ⟨⟨fun W h => hin.grow h, hall⟩, hnv, hb0⟩
  have hinz : (line ++ step).size = line.size + step.size := ByteArray.size_append
  have hind : (line ++ step).data.toList = line.data.toList ++ step.data.toList := by simp [ByteArray.data_append]
  have HX := hideIt hX
  have HWr := hideIt hWr
  have HInd := hideIt hind
  have HInz := hideIt hinz
  have HSl := hideIt (And.intro hsl hgl)
  have HLL := hideIt hll
  have HNl := hideIt hn
  rw [hn] at hl hfl HLn ⊢
  clear hX hWr hin hall hnv hb0 hH hind hinz hsl hgl hll hn
  go_enter Try.func98, Try.ntmps98
  obtain ⟨x0, x1, x2, x3, x4, x5, x6⟩ := wr_cells (HX.out)
  go_wp2_with fail
  clear x0 x1 x2 x3 x4 x5 x6
  go_loopw [17] (fun i wr => ∃ j : Nat, i = .int .i64 j ∧ j ≤ n ∧ Wr B kb w (acc ++ jitems step.data.toList gap.data.toList (jtext step.data.toList gap.data.toList N) ob ns F line.data.toList j) wr ∧ Box wr w.heap.size 76 (wrCells kb step gap)) (fun i _ => n - (intOf i).toNat)
  case atStart => exact ⟨0, rfl, Nat.zero_le _, by show Wr B kb w (acc ++ []) _; rw [List.append_nil]; exact HWr.out, HX.out⟩
  case round =>
    obtain ⟨j, rfl, hj, hw, hx⟩ := hrel
    have HWj := hideIt hw
    have HXj := hideIt hx
    have hlj := hideIt (HLn.out j hj)
    have hzw := hx.lt
    clear hw hx
    by_cases hjn : j < n
    case neg =>
      have ej : j = n := by omega
      have HT : Hid (jinner step.data.toList gap.data.toList (jtext step.data.toList gap.data.toList N) ob ns F line.data.toList = jitems step.data.toList gap.data.toList (jtext step.data.toList gap.data.toList N) ob ns F line.data.toList j ++ (if n = 0 then [] else line.data.toList)) := by unfold Hid jinner; rw [ej, HNl.out]
      have hbd : Hid (F.sumJ j ≤ F.size) := by unfold Hid; rw [ej, ← HNl.out, sumJ_len]; exact Nat.le_refl _
      obtain ⟨x0, x1, x2, x3, x4, x5, x6⟩ := wr_cells (HXj.out)
      by_cases h0 : n = 0
      · have HT2 : Hid (acc ++ jinner step.data.toList gap.data.toList (jtext step.data.toList gap.data.toList N) ob ns F line.data.toList = acc ++ jitems step.data.toList gap.data.toList (jtext step.data.toList gap.data.toList N) ob ns F line.data.toList j) := by unfold Hid; rw [HT.out, if_pos h0, List.append_nil]
        have hj0 : j = 0 := by omega
        subst h0
        subst hj0
        clear ej hjn HNl HT hfl
        go_wp2_with fail
        exact bodyPost_end (v := .tuple #[]) (by simp [results, Try.results98]) rfl ⟨rfl, by rw [HT2.out]; exact HWj.out⟩
      · have h0' : 0 < n := by omega
        have HT2 : Hid (acc ++ jinner step.data.toList gap.data.toList (jtext step.data.toList gap.data.toList N) ob ns F line.data.toList = acc ++ jitems step.data.toList gap.data.toList (jtext step.data.toList gap.data.toList N) ob ns F line.data.toList j ++ line.data.toList) := by unfold Hid; rw [HT.out, if_neg h0, List.append_assoc]
        subst ej
        clear h0 hjn hj HT hfl HLn HIn HX HWr HInd HInz HSl H
        go_wp2_with fail
        refine (Wr.text HWj.out line (l := line.data.toList) rfl (by have h7 := hlj.out; have h8 := HLL.out; have h9 := hbd.out; rw [List.length_append]; omega)).mono ?_
        rintro e w2 ⟨rfl, h2, -, -⟩
        clear x0 x1 x2 x3 x4 x5 x6
        go_wp2_with fail
        exact bodyPost_end (v := .tuple #[]) (by simp [results, Try.results98]) rfl ⟨rfl, by rw [HT2.out]; exact h2⟩
    have hjF : j < F.len := by rw [HNl.out]; exact hjn
    have hbd : F.sumJ j + ((F.kidsAt j).size + 1) ≤ F.size := by
      have h1 := sumJ_le F (i := j + 1) (n := F.len) hjF
      rw [sumJ_len] at h1
      exact h1
    have hjl : (j : Int) < (n : Int) := by omega
    obtain ⟨b, o, rfl, hFr⟩ := Vo.from_of_len (HIn.out.1.1 _ (Below.refl _ _)) hjF
    have hbw : Below W0.heap.size W0 wr := HIn.out.2.2.trans (HWj.out.2.1.mono hWB)
    obtain ⟨⟨c0, c1, c2, c3, c4, c5⟩, ck, ⟨cc1, cc2⟩, ch⟩ := Vo.from_at (Vo.from_grow hbw F b o hFr) hjF
    have HKid : Hid (((F.kidsAt j).In W0 (F.addrAt j) ∧ (F.kidsAt j).len ≤ F.capAt j ∧ F.capAt j ≤ maxLen) ∧ (F.hdAt j).In W0 ∧ FitJ (F.hdAt j) (F.kidsAt j)) := by
      obtain ⟨_, x2, x3, x4⟩ := Vo.from_at hFr hjF
      exact ⟨⟨x2, x3⟩, x4, fitJ_at hjF HIn.out.1.2⟩
    have HPc : Hid (jitems step.data.toList gap.data.toList (jtext step.data.toList gap.data.toList N) ob ns F line.data.toList (j + 1) = jitems step.data.toList gap.data.toList (jtext step.data.toList gap.data.toList N) ob ns F line.data.toList j ++ ((if j = 0 then [] else [44]) ++ ((line.data.toList ++ step.data.toList) ++ ((if ob then Qm.jquote (nameAt ns j).data.toList ++ ([58] ++ gap.data.toList) else []) ++ jtext step.data.toList gap.data.toList N (F.hdAt j) (F.kidsAt j) (line.data.toList ++ step.data.toList))))) := rfl
    have HBV := hideIt (Box.new wr 28 (vCells (F.hdAt j) (F.addrAt j) (F.kidsAt j).len (F.capAt j)))
    have HXa := hideIt (HXj.out.below ((Below.refl _ wr).alloc (Nat.le_refl _) (.cells (vCells (F.hdAt j) (F.addrAt j) (F.kidsAt j).len (F.capAt j)).toArray 28)) HXj.out.lt)
    have HWa := hideIt (HWj.out.alloc (.cells (vCells (F.hdAt j) (F.addrAt j) (F.kidsAt j).len (F.capAt j)).toArray 28))
    clear ck ch hFr HXj
    unfold vCells at HBV HXa HWa
    have hvk : wr.heap.size ≠ kb := by omega
    obtain ⟨A, hA⟩ : ∃ A, A = jitems step.data.toList gap.data.toList (jtext step.data.toList gap.data.toList N) ob ns F line.data.toList j := ⟨_, rfl⟩
    have HA := hideIt hA
    have hljA : Hid (A.length ≤ 13000 * F.sumJ j) := by rw [hA]; exact hlj.out
    rw [← hA] at HWa HPc
    clear hA HWj hlj
    obtain ⟨x0, x1, x2, x3, x4, x5, x6⟩ := wr_cells (HXa.out)
    have HSz : Hid (((line ++ step).data.toList = line.data.toList ++ step.data.toList ∧ (line ++ step).size = line.size + step.size) ∧ (line.data.toList ++ step.data.toList).length = line.size + step.size) := ⟨⟨HInd.out, HInz.out⟩, by rw [← HInd.out, Qm.len_eq]; exact HInz.out⟩
    generalize F.hdAt j = xh at *
    generalize F.kidsAt j = xk at *
    generalize F.addrAt j = xa at *
    generalize F.capAt j = xc at *
    by_cases hj0 : j = 0
    · have hj0' : ¬ 0 < j := by omega
      have HJ0 := hideIt hj0
      clear hj0
      have HWp0 := HWa.out
      rw [← List.append_nil A] at HWp0
      have HWp := hideIt HWp0
      clear HWp0
      have HXp := hideIt HXa.out
      have HVp := hideIt HBV.out
      clear HWa HXa HBV
      go_wp2_with fail
      have hj0 := HJ0.out
      clear HJ0 hj0'
      subst hj0
      refine (Wr.text HWp.out (line ++ step) (l := line.data.toList ++ step.data.toList) HSz.out.1.1 (by have h7 := hljA.out; have h8 := HSz.out.2; simp only [List.length_append, List.length_cons, List.length_nil] at h8 ⊢; omega)).mono ?_
      rintro e w6 ⟨rfl, h6, hk6, -⟩
      have HW6 := hideIt h6
      have HX6 := hideIt (HXp.out.kept hk6 hne (by decide))
      have HV6 := hideIt (HVp.out.kept hk6 hvk (by decide))
      clear x0 x1 x2 x3 x4 x5 x6
      clear h6 hk6 HWp HXp HVp
      have v0 := HV6.out.cell (i := 0) rfl
      have v1 := HV6.out.cell (i := 1) rfl
      have v2 := HV6.out.cell (i := 2) rfl
      have v3 := HV6.out.cell (i := 3) rfl
      have v4 := HV6.out.cell (i := 4) rfl
      have v5 := HV6.out.cell (i := 5) rfl
      obtain ⟨x0, x1, x2, x3, x4, x5, x6⟩ := wr_cells (HX6.out)
      rcases HIn.out.2.1 with ⟨rfl, rfl⟩ | ⟨_, h0⟩ | ⟨rfl, nb, no, nc, rfl, hnb, hnl, hS, hsz⟩
      · go_wp2_with fail
        clear x0 x1 x2 x3 x4 x5 x6
        clear v0 v1 v2 v3 v4 v5 HV6
        refine (H xh xa xc xk (line ++ step) (acc ++ (A ++ []) ++ (line.data.toList ++ step.data.toList)) B kb step gap w6 W0 (by omega) (by have := HSz.out.1.2; omega) hst hgp (by have h7 := hljA.out; have h8 := HSz.out.2; simp only [List.length_append, List.length_cons, List.length_nil] at h8 ⊢; omega) HKid.out.2.2 HKid.out.1.1 HKid.out.1.2.1 HKid.out.1.2.2 HKid.out.2.1 hWB hBk (HIn.out.2.2.trans (HW6.out.2.1.mono hWB)) HW6.out.1.1 HW6.out.1.2).mono ?_
        rintro r w8 ⟨rfl, h8⟩
        have HW8 := hideIt (HW6.out.then h8)
        have HX8 := hideIt (HX6.out.kept h8.2.2 hne (by decide))
        clear h8 HW6 HX6
        go_wp2_with fail
        go_round
        case rel =>
          refine ⟨0 + 1, by go_num, by omega, ?_, HX8.out⟩
          have h9 := HW8.out
          rw [HSz.out.1.1] at h9
          rw [HPc.out]
          simpa [List.append_assoc] using h9
        case measure => simp [intOf]; omega
      · rw [HNl.out] at h0
        omega
      · have hs := nameAt_some (ns := ns) (i := 0) (by rw [hnl]; exact hjF)
        have hcell := ((hS.grow (HIn.out.2.2.trans (HW6.out.2.1.mono hWB))).at hs).1
        have hjn2 : ((0 : Nat) : Int) < (ns.length : Int) := by rw [hnl, HNl.out]; exact hjl
        have hsj := hsz 0
        have HQ := hideIt (Qm.jquote_length (nameAt ns 0).data.toList)
        rw [Qm.len_eq] at HQ
        have HQ2 : Hid ((Qm.jquote (nameAt ns 0).data.toList ++ ([58] ++ gap.data.toList)).length ≤ 80) := by
          have h1 := HQ.out
          have h2 := HSl.out.2
          unfold Hid
          simp only [List.length_append, List.length_cons, List.length_nil]
          omega
        have HCell := hideIt hcell
        have HLs := hideIt (And.intro hnl hS)
        clear hcell hnl hS hs hsz
        go_wp2_with fail
        refine ji9 (j := 0) (s := nameAt ns 0) HX6.out HW6.out hne hjn2 hnb HCell.out (by omega) hgp (by have h7 := hljA.out; have h8 := HSz.out.2; have h9 := HQ2.out; simp only [List.length_append, List.length_cons, List.length_nil] at h8 h9 ⊢; omega) (fun _ d _ _ _ h => by cases d <;> exact h) ?_
        intro w7 v35 v36 v37 v38 v39 v40 v41 v42 v43 v44 v45 v46 v47 v48 v49 h7 hk7
        have HW7 := hideIt h7
        have HX7 := hideIt (HX6.out.kept hk7 hne (by decide))
        have HV7 := hideIt (HV6.out.kept hk7 hvk (by decide))
        clear x0 x1 x2 x3 x4 x5 x6
        clear v0 v1 v2 v3 v4 v5 h7 hk7 HW6 HX6 HV6 HCell
        have v0 := HV7.out.cell (i := 0) rfl
        have v1 := HV7.out.cell (i := 1) rfl
        have v2 := HV7.out.cell (i := 2) rfl
        have v3 := HV7.out.cell (i := 3) rfl
        have v4 := HV7.out.cell (i := 4) rfl
        have v5 := HV7.out.cell (i := 5) rfl
        obtain ⟨x0, x1, x2, x3, x4, x5, x6⟩ := wr_cells (HX7.out)
        go_wp2_with fail
        clear x0 x1 x2 x3 x4 x5 x6
        clear v0 v1 v2 v3 v4 v5 HV7
        refine (H xh xa xc xk (line ++ step) ((acc ++ (A ++ []) ++ (line.data.toList ++ step.data.toList)) ++ (Qm.jquote (nameAt ns 0).data.toList ++ ([58] ++ gap.data.toList))) B kb step gap w7 W0 (by omega) (by have := HSz.out.1.2; omega) hst hgp (by have h7 := hljA.out; have h8 := HSz.out.2; have h10 := HQ.out; have h11 := HSl.out.2; simp only [List.length_append, List.length_cons, List.length_nil] at h8 ⊢; omega) HKid.out.2.2 HKid.out.1.1 HKid.out.1.2.1 HKid.out.1.2.2 HKid.out.2.1 hWB hBk (HIn.out.2.2.trans (HW7.out.2.1.mono hWB)) HW7.out.1.1 HW7.out.1.2).mono ?_
        rintro r w8 ⟨rfl, h8⟩
        have HW8 := hideIt (HW7.out.then h8)
        have HX8 := hideIt (HX7.out.kept h8.2.2 hne (by decide))
        clear h8 HW7 HX7
        go_wp2_with fail
        go_round
        case rel =>
          refine ⟨0 + 1, by go_num, by omega, ?_, HX8.out⟩
          have h9 := HW8.out
          rw [HSz.out.1.1] at h9
          rw [HPc.out]
          simpa [List.append_assoc] using h9
        case measure => simp [intOf]; omega
    · have hj0' : 0 < j := by omega
      have HJ0 := hideIt hj0
      clear hj0
      go_wp2_with fail
      refine (Wr.text HWa.out ⟨#[44]⟩ (l := [44]) rfl (by have h7 := hljA.out; simp only [List.length_append, List.length_cons, List.length_nil]; omega)).mono ?_
      rintro e w5 ⟨rfl, h5, hk5, -⟩
      have HWp : Hid (Wr B kb w (acc ++ (A ++ [44])) w5) := by rw [← List.append_assoc]; exact h5
      have HXp := hideIt (HXa.out.kept hk5 hne (by decide))
      have HVp := hideIt (HBV.out.kept hk5 hvk (by decide))
      clear x0 x1 x2 x3 x4 x5 x6
      clear h5 hk5 HWa HXa HBV
      obtain ⟨x0, x1, x2, x3, x4, x5, x6⟩ := wr_cells (HXp.out)
      go_wp2_with fail
      have hj0 := HJ0.out
      refine (Wr.text HWp.out (line ++ step) (l := line.data.toList ++ step.data.toList) HSz.out.1.1 (by have h7 := hljA.out; have h8 := HSz.out.2; simp only [List.length_append, List.length_cons, List.length_nil] at h8 ⊢; omega)).mono ?_
      rintro e w6 ⟨rfl, h6, hk6, -⟩
      have HW6 := hideIt h6
      have HX6 := hideIt (HXp.out.kept hk6 hne (by decide))
      have HV6 := hideIt (HVp.out.kept hk6 hvk (by decide))
      clear x0 x1 x2 x3 x4 x5 x6
      clear h6 hk6 HWp HXp HVp
      have v0 := HV6.out.cell (i := 0) rfl
      have v1 := HV6.out.cell (i := 1) rfl
      have v2 := HV6.out.cell (i := 2) rfl
      have v3 := HV6.out.cell (i := 3) rfl
      have v4 := HV6.out.cell (i := 4) rfl
      have v5 := HV6.out.cell (i := 5) rfl
      obtain ⟨x0, x1, x2, x3, x4, x5, x6⟩ := wr_cells (HX6.out)
      rcases HIn.out.2.1 with ⟨rfl, rfl⟩ | ⟨_, h0⟩ | ⟨rfl, nb, no, nc, rfl, hnb, hnl, hS, hsz⟩
      · go_wp2_with fail
        clear x0 x1 x2 x3 x4 x5 x6
        clear v0 v1 v2 v3 v4 v5 HV6
        refine (H xh xa xc xk (line ++ step) (acc ++ (A ++ [44]) ++ (line.data.toList ++ step.data.toList)) B kb step gap w6 W0 (by omega) (by have := HSz.out.1.2; omega) hst hgp (by have h7 := hljA.out; have h8 := HSz.out.2; simp only [List.length_append, List.length_cons, List.length_nil] at h8 ⊢; omega) HKid.out.2.2 HKid.out.1.1 HKid.out.1.2.1 HKid.out.1.2.2 HKid.out.2.1 hWB hBk (HIn.out.2.2.trans (HW6.out.2.1.mono hWB)) HW6.out.1.1 HW6.out.1.2).mono ?_
        rintro r w8 ⟨rfl, h8⟩
        have HW8 := hideIt (HW6.out.then h8)
        have HX8 := hideIt (HX6.out.kept h8.2.2 hne (by decide))
        clear h8 HW6 HX6
        go_wp2_with fail
        go_round
        case rel =>
          refine ⟨j + 1, by go_num, by omega, ?_, HX8.out⟩
          have h9 := HW8.out
          rw [HSz.out.1.1] at h9
          rw [HPc.out]
          simpa [List.append_assoc, hj0] using h9
        case measure => simp [intOf]; omega
      · rw [HNl.out] at h0
        omega
      · have hs := nameAt_some (ns := ns) (i := j) (by rw [hnl]; exact hjF)
        have hcell := ((hS.grow (HIn.out.2.2.trans (HW6.out.2.1.mono hWB))).at hs).1
        have hjn2 : ((j : Nat) : Int) < (ns.length : Int) := by rw [hnl, HNl.out]; exact hjl
        have hsj := hsz j
        have HQ := hideIt (Qm.jquote_length (nameAt ns j).data.toList)
        rw [Qm.len_eq] at HQ
        have HQ2 : Hid ((Qm.jquote (nameAt ns j).data.toList ++ ([58] ++ gap.data.toList)).length ≤ 80) := by
          have h1 := HQ.out
          have h2 := HSl.out.2
          unfold Hid
          simp only [List.length_append, List.length_cons, List.length_nil]
          omega
        have HCell := hideIt hcell
        have HLs := hideIt (And.intro hnl hS)
        clear hcell hnl hS hs hsz
        go_wp2_with fail
        refine ji9 (j := j) (s := nameAt ns j) HX6.out HW6.out hne hjn2 hnb HCell.out (by omega) hgp (by have h7 := hljA.out; have h8 := HSz.out.2; have h9 := HQ2.out; simp only [List.length_append, List.length_cons, List.length_nil] at h8 h9 ⊢; omega) (fun _ d _ _ _ h => by cases d <;> exact h) ?_
        intro w7 v35 v36 v37 v38 v39 v40 v41 v42 v43 v44 v45 v46 v47 v48 v49 h7 hk7
        have HW7 := hideIt h7
        have HX7 := hideIt (HX6.out.kept hk7 hne (by decide))
        have HV7 := hideIt (HV6.out.kept hk7 hvk (by decide))
        clear x0 x1 x2 x3 x4 x5 x6
        clear v0 v1 v2 v3 v4 v5 h7 hk7 HW6 HX6 HV6 HCell
        have v0 := HV7.out.cell (i := 0) rfl
        have v1 := HV7.out.cell (i := 1) rfl
        have v2 := HV7.out.cell (i := 2) rfl
        have v3 := HV7.out.cell (i := 3) rfl
        have v4 := HV7.out.cell (i := 4) rfl
        have v5 := HV7.out.cell (i := 5) rfl
        obtain ⟨x0, x1, x2, x3, x4, x5, x6⟩ := wr_cells (HX7.out)
        go_wp2_with fail
        clear x0 x1 x2 x3 x4 x5 x6
        clear v0 v1 v2 v3 v4 v5 HV7
        refine (H xh xa xc xk (line ++ step) ((acc ++ (A ++ [44]) ++ (line.data.toList ++ step.data.toList)) ++ (Qm.jquote (nameAt ns j).data.toList ++ ([58] ++ gap.data.toList))) B kb step gap w7 W0 (by omega) (by have := HSz.out.1.2; omega) hst hgp (by have h7 := hljA.out; have h8 := HSz.out.2; have h10 := HQ.out; have h11 := HSl.out.2; simp only [List.length_append, List.length_cons, List.length_nil] at h8 ⊢; omega) HKid.out.2.2 HKid.out.1.1 HKid.out.1.2.1 HKid.out.1.2.2 HKid.out.2.1 hWB hBk (HIn.out.2.2.trans (HW7.out.2.1.mono hWB)) HW7.out.1.1 HW7.out.1.2).mono ?_
        rintro r w8 ⟨rfl, h8⟩
        have HW8 := hideIt (HW7.out.then h8)
        have HX8 := hideIt (HX7.out.kept h8.2.2 hne (by decide))
        clear h8 HW7 HX7
        go_wp2_with fail
        go_round
        case rel =>
          refine ⟨j + 1, by go_num, by omega, ?_, HX8.out⟩
          have h9 := HW8.out
          rw [HSz.out.1.1] at h9
          rw [HPc.out]
          simpa [List.append_assoc, hj0] using h9
        case measure => simp [intOf]; omega
end Go.Proofs.Ytfgchdnpbbgmjaa
/- Values as JSON, by the program: JsonPut. -/
namespace Go.Proofs.Ytfgchdnpbbgmjaa
open Go.RowKit
attribute [local go_sem] cell_alloc_is frozen_alloc_is
theorem value_all (N : Nat) : ValC N := by
  induction N with
  | zero => intro hd a c F line acc B kb step gap w W0 hF; omega
  | succ N ih => exact value_step N (items_step N ih)
set_option maxRecDepth 100000 in
set_option maxHeartbeats 1000000 in
theorem newJsonWriter_any (kb : Nat) (w : World) :
    Calls Try.prog 79 #[.pointer (some ⟨kb, 0, none⟩)] w fun e w' => e = .returned (wrV kb ⟨#[]⟩ ⟨#[]⟩) ∧ Below w.heap.size w w' := by
  go_enter Try.func79, Try.ntmps79
  go_wp2_with fail
  obtain ⟨W1, hW1⟩ : ∃ W1, w.alloc (.cells #[.pointer none, .string ⟨#[]⟩, .string ⟨#[]⟩, .string ⟨#[]⟩, .int .i64 0, .string ⟨#[]⟩, .string ⟨#[]⟩] 76) = W1 := ⟨_, rfl⟩
  have R1 : Row W1 w.heap.size [.pointer none, .string ⟨#[]⟩, .string ⟨#[]⟩, .string ⟨#[]⟩, .int .i64 0, .string ⟨#[]⟩, .string ⟨#[]⟩] := by rw [← hW1]; exact Row.new w [.pointer none, .string ⟨#[]⟩, .string ⟨#[]⟩, .string ⟨#[]⟩, .int .i64 0, .string ⟨#[]⟩, .string ⟨#[]⟩] 76
  have hB1 : Below w.heap.size w W1 := by rw [← hW1]; exact (Below.refl _ w).alloc (Nat.le_refl _) _
  rw [hW1]
  clear hW1
  refine (jsonQuoting_any _).mono ?_
  rintro e w2 ⟨rfl, hb2⟩
  have R2 := R1.below hb2 R1.lt
  have hB2 := hB1.trans (hb2.mono hB1.size)
  obtain ⟨y0, z0⟩ := R2 0 _ rfl
  obtain ⟨y1, z1⟩ := R2 1 _ rfl
  obtain ⟨y2, z2⟩ := R2 2 _ rfl
  obtain ⟨y3, z3⟩ := R2 3 _ rfl
  obtain ⟨y4, z4⟩ := R2 4 _ rfl
  obtain ⟨y5, z5⟩ := R2 5 _ rfl
  obtain ⟨y6, z6⟩ := R2 6 _ rfl
  clear hb2 hB1 R1
  go_wp2_with fail
  have R3 := (((((((R2.set (i := 0) (by simp) (.pointer (some ⟨kb, 0, none⟩))).set (i := 1) (by simp) (.string ⟨#[92, 117, 48, 48]⟩)).set (i := 2) (by simp) (.string ⟨#[34, 92, 47, 98, 102, 110, 114, 116]⟩)).set (i := 3) (by simp) (.string ⟨#[34, 92, 47, 8, 12, 10, 13, 9]⟩)).set (i := 4) (by simp) (.int .i64 2)).set (i := 5) (by simp) (.string ⟨#[]⟩)).set (i := 6) (by simp) (.string ⟨#[]⟩))
  have hB3 := (((((((hB2.setCell (p := ⟨w.heap.size, 0, none⟩) (Nat.le_refl _) (.pointer (some ⟨kb, 0, none⟩))).setCell (p := ⟨w.heap.size, 1, none⟩) (Nat.le_refl _) (.string ⟨#[92, 117, 48, 48]⟩)).setCell (p := ⟨w.heap.size, 2, none⟩) (Nat.le_refl _) (.string ⟨#[34, 92, 47, 98, 102, 110, 114, 116]⟩)).setCell (p := ⟨w.heap.size, 3, none⟩) (Nat.le_refl _) (.string ⟨#[34, 92, 47, 8, 12, 10, 13, 9]⟩)).setCell (p := ⟨w.heap.size, 4, none⟩) (Nat.le_refl _) (.int .i64 2)).setCell (p := ⟨w.heap.size, 5, none⟩) (Nat.le_refl _) (.string ⟨#[]⟩)).setCell (p := ⟨w.heap.size, 6, none⟩) (Nat.le_refl _) (.string ⟨#[]⟩))
  revert R3 hB3
  generalize (((((((w2.setCell _ _).setCell _ _).setCell _ _).setCell _ _).setCell _ _).setCell _ _).setCell _ _) = w9
  intro R3 hB3
  have c0 := (R3 0 _ rfl).1
  have c1 := (R3 1 _ rfl).1
  have c2 := (R3 2 _ rfl).1
  have c3 := (R3 3 _ rfl).1
  have c4 := (R3 4 _ rfl).1
  have c5 := (R3 5 _ rfl).1
  have c6 := (R3 6 _ rfl).1
  exact bodyPost_ret (v := wrV kb ⟨#[]⟩ ⟨#[]⟩) (by simp [results, Try.results79, go_sem, c0, c1, c2, c3, c4, c5, c6]) rfl ⟨rfl, hB3⟩
end Go.Proofs.Ytfgchdnpbbgmjaa
/- Values as JSON, by the specification: l7Put, JsonPut. -/
namespace Go.Proofs.Ytfgchdnpbbgmjaa
open Go.RowKit
theorem str_eq {a b : ByteArray} (h : a.data.toList = b.data.toList) : Value.string a = .string b := by
  have : a = b := by cases a; cases b; simpa using h
  rw [this]
def SPut (N : Nat) : Prop := ∀ (h : Hd) (a : Option Addr) (c : Nat) (F : Vo) (w : World), F.size < N → N ≤ 490 → FitJ h F → F.In w a → F.len ≤ c → c ≤ maxLen → h.In w →
  Calls Try.prog 61 #[valV h a F.len c] w fun r w' => r = .returned (.string ⟨(jtext [] [] N h F []).toArray⟩) ∧ Below w.heap.size w w'
set_option linter.unusedSimpArgs false in
set_option maxRecDepth 100000 in
set_option maxHeartbeats 2000000 in
theorem l7Put_step (N : Nat) (H : SPut N) : SPut (N + 1) := by
  intro h a c F w hF hN hfit hin hl hc hh
  obtain ⟨k, m, e, t, na, nc, ns⟩ := h
  have hone := oneJ hfit.1
  dsimp only at hone
  obtain ⟨⟨k0, k6⟩, k3, k4, k66, k44⟩ := hone
  have HK := hideIt (And.intro k3 (And.intro k4 k66))
  clear k3 k4 k66 k44
  obtain rfl | rfl | rfl | rfl | rfl | rfl | rfl : k = 0 ∨ k = 1 ∨ k = 2 ∨ k = 3 ∨ k = 4 ∨ k = 5 ∨ k = 6 := by omega
  · clear k0 k6
    clear hfit hin hh H HK
    go_enter Try.func61, Try.ntmps61
    go_wp2_with fail
    go_ret
    exact ⟨rfl, (Below.refl _ w).alloc (Nat.le_refl _) _⟩
  · clear k0 k6
    clear hfit hin hh H HK
    go_enter Try.func61, Try.ntmps61
    go_wp2_with fail
    go_ret
    exact ⟨rfl, (Below.refl _ w).alloc (Nat.le_refl _) _⟩
  · clear k0 k6
    clear hfit hin hh H HK
    go_enter Try.func61, Try.ntmps61
    go_wp2_with fail
    go_ret
    exact ⟨rfl, (Below.refl _ w).alloc (Nat.le_refl _) _⟩
  · clear k0 k6
    have ho := (Dm.ok_iff m e).1 (HK.out.1 rfl)
    have HT : Hid (jtext [] [] (N + 1) ⟨3, m, e, t, na, nc, ns⟩ F [] = Tm.text m e) := rfl
    have HB := hideIt ho
    clear hfit hin hh H HK ho
    go_enter Try.func61, Try.ntmps61
    go_wp2_with fail
    refine (l1Text_any m e _ (by have := HB.out; omega) (by have := HB.out; omega) (by have := HB.out; omega) (by have := HB.out; omega)).mono ?_
    rintro r w1 ⟨rfl, hb1⟩
    have hB1 := ((Below.refl _ w).alloc (Nat.le_refl _) (.cells #[.int .i64 3, .int .i64 m, .int .i64 e, .string t, .slice a F.len c, .slice na ns.length nc] 28)).trans (hb1.mono (by simp))
    clear hb1
    go_wp2_with fail
    go_ret
    exact ⟨by rw [HT.out]; rfl, hB1⟩
  · clear k0 k6
    have hts := HK.out.2.1 rfl
    have HT : Hid (jtext [] [] (N + 1) ⟨4, m, e, t, na, nc, ns⟩ F [] = Qm.jquote t.data.toList) := rfl
    clear hfit hin hh H HK
    go_enter Try.func61, Try.ntmps61
    go_wp2_with fail
    refine (l7Quote_any t _ (by omega)).mono ?_
    rintro r w1 ⟨rfl, hb1⟩
    have hB1 := ((Below.refl _ w).alloc (Nat.le_refl _) (.cells #[.int .i64 4, .int .i64 m, .int .i64 e, .string t, .slice a F.len c, .slice na ns.length nc] 28)).trans (hb1.mono (by simp))
    clear hb1
    go_wp2_with fail
    go_ret
    exact ⟨by rw [HT.out]; rfl, hB1⟩
  · clear k0 k6
    have hll := F.len_le
    obtain ⟨n, hn⟩ : ∃ n, F.len = n := ⟨_, rfl⟩
    have HNl := hideIt hn
    have HT : Hid (jtext [] [] (N + 1) ⟨5, m, e, t, na, nc, ns⟩ F [] = [91] ++ (jitems [] [] (jtext [] [] N) false [] F [] n ++ [93])) := by
      unfold Hid jtext jinner
      rw [← hn]
      have : (if F.len = 0 then ([] : List UInt8) else []) = [] := by split <;> rfl
      simp [this]
    have HLn : Hid (∀ j, j ≤ n → (jitems [] [] (jtext [] [] N) false [] F [] j).length ≤ 13000 * F.sumJ j) := by
      unfold Hid
      rw [← hn]
      exact jitems_len (by simp) (by simp) (by simp) (fun i hi => jtext_len (by simp) (by simp) N _ _ _ (by simp only [List.append_nil, List.length_nil]; omega) (fitJ_at hi hfit.2)) false (fun e i => by cases e)
    have HS : Hid (∀ j, j ≤ n → F.sumJ j ≤ F.size) := fun j hj => by
      have h1 := sumJ_le F (i := j) (n := F.len) (by omega)
      rw [sumJ_len] at h1
      exact h1
    obtain ⟨wp, hwp⟩ : ∃ wp, wp = w.alloc (.cells #[.int .i64 5, .int .i64 m, .int .i64 e, .string t, .slice a F.len c, .slice na ns.length nc] 28) := ⟨_, rfl⟩
    have hBp : Below w.heap.size w wp := by subst hwp; exact (Below.refl _ w).alloc (Nat.le_refl _) _
    have hA : BxV w.heap.size ⟨5, m, e, t, na, nc, ns⟩ (.slice a F.len c) wp := by subst hwp; exact BxV.new w ⟨5, m, e, t, na, nc, ns⟩ _ _
    have HX : Hid (∀ W, Below wp.heap.size wp W → BxV w.heap.size ⟨5, m, e, t, na, nc, ns⟩ (.slice a n c) W) := fun W hW => by rw [← hn]; exact hA.below hW
    have HI : Hid ((∀ W, Below wp.heap.size wp W → F.In W a ∧ Below w.heap.size w W) ∧ F.allOne) := ⟨fun W hW => ⟨hin.grow (hBp.trans (hW.mono hBp.size)), hBp.trans (hW.mono hBp.size)⟩, hfit.2⟩
    have HW := hideIt hwp
    have hzp := hBp.size
    rw [hn] at hl hll ⊢
    clear hwp hA hBp hin hfit hh HK hn
    go_enter Try.func61, Try.ntmps61
    go_wp2_with fail
    rw [HNl.out] at HW
    rw [← HW.out]
    clear HW
    go_loopw [3, 4] (fun o i wr => ∃ j : Nat, i = .int .i64 j ∧ j ≤ n ∧ o = .string ⟨(jitems [] [] (jtext [] [] N) false [] F [] j).toArray⟩ ∧ Below wp.heap.size wp wr) (fun _ i _ => n - (intOf i).toNat)
    case atStart => exact ⟨0, rfl, Nat.zero_le _, rfl, Below.refl _ _⟩
    case round =>
      obtain ⟨j, rfl, hj, rfl, hb⟩ := hrel
      obtain ⟨x0, x1, x2, x3, x4, x5⟩ := HX.out _ hb
      have hlj := HLn.out j hj
      have hsj := HS.out j hj
      by_cases hjn : j < n
      case neg =>
        have ej : j = n := by omega
        subst ej
        obtain ⟨A, hA⟩ : ∃ A, A = jitems [] [] (jtext [] [] N) false [] F [] j := ⟨_, rfl⟩
        have HT2 : Hid (jtext [] [] (N + 1) ⟨5, m, e, t, na, nc, ns⟩ F [] = [91] ++ (A ++ [93])) := by rw [hA]; exact HT.out
        rw [← hA] at hlj ⊢
        clear hA HT hjn hj
        have hq := arr_size A
        have hbe := (HI.out.1 _ hb).2
        go_wp2_with fail
        go_ret
        exact ⟨by rw [HT2.out]; exact ret_str (by simp [ByteArray.data_append]), hbe⟩
      have hjF : j < F.len := by rw [HNl.out]; exact hjn
      have hjl : (j : Int) < (n : Int) := by omega
      have hs1 := HS.out (j + 1) hjn
      have hs1' : F.sumJ j + ((F.kidsAt j).size + 1) ≤ F.size := hs1
      obtain ⟨b, o', rfl, hFr⟩ := Vo.from_of_len (HI.out.1 _ (Below.refl _ _)).1 hjF
      obtain ⟨⟨c0, c1, c2, c3, c4, c5⟩, ck, ⟨cc1, cc2⟩, ch⟩ := Vo.from_at (Vo.from_grow hb F b o' hFr) hjF
      have HF : Hid (FitJ (F.hdAt j) (F.kidsAt j)) := fitJ_at hjF HI.out.2
      have hklen := jtext_len (step := []) (gap := []) (by simp) (by simp) N (F.hdAt j) (F.kidsAt j) [] (by simp only [List.length_nil]; omega) HF.out
      have HP : Hid (jitems [] [] (jtext [] [] N) false [] F [] (j + 1) = jitems [] [] (jtext [] [] N) false [] F [] j ++ ((if j = 0 then [] else [44]) ++ ((([] : List UInt8) ++ []) ++ ((if false then Qm.jquote (nameAt [] j).data.toList ++ ([58] ++ []) else []) ++ jtext [] [] N (F.hdAt j) (F.kidsAt j) ([] ++ []))))) := rfl
      have HKid : Hid (((F.kidsAt j).In wp (F.addrAt j) ∧ (F.hdAt j).In wp)) := by
        obtain ⟨_, x2, _, x4⟩ := Vo.from_at hFr hjF
        exact ⟨x2, x4⟩
      clear ck ch
      rw [List.append_nil] at HP
      obtain ⟨A, hA⟩ : ∃ A, A = jitems [] [] (jtext [] [] N) false [] F [] j := ⟨_, rfl⟩
      rw [← hA] at hlj HP ⊢
      clear hA HT
      generalize F.hdAt j = xh at *
      generalize F.kidsAt j = xk at *
      generalize F.addrAt j = xa at *
      generalize F.capAt j = xc at *
      have HCk := hideIt (And.intro c0 (And.intro c1 (And.intro c2 (And.intro c3 (And.intro c4 c5)))))
      have hq := arr_size A
      have hqk := arr_size (jtext [] [] N xh xk [])
      by_cases hj0 : j = 0
      · have hj0' : ¬ 0 < j := by omega
        have HJ0 := hideIt hj0
        clear hj0
        go_wp2_with fail
        have hj0 := HJ0.out
        clear HJ0 hj0'
        subst hj0
        have hB1 := hb
        refine (H xh xa xc xk _ (by omega) (by omega) HF.out (HKid.out.1.grow hB1) cc1 cc2 (HKid.out.2.grow hB1)).mono ?_
        rintro r w2 ⟨rfl, hb2⟩
        have hB2 := hB1.trans (hb2.mono hB1.size)
        clear x0 x1 x2 x3 x4 x5 c0 c1 c2 c3 c4 c5
        go_wp2_with fail
        go_round
        case rel =>
          refine ⟨0 + 1, by go_num, by omega, ?_, hB2⟩
          rw [HP.out]
          exact str_eq (by simp [ByteArray.data_append])
        case measure => simp [intOf]; omega
      · have hj0' : 0 < j := by omega
        have HJ0 := hideIt hj0
        clear hj0
        go_wp2_with fail
        have hB1 := hb
        refine (H xh xa xc xk _ (by omega) (by omega) HF.out (HKid.out.1.grow hB1) cc1 cc2 (HKid.out.2.grow hB1)).mono ?_
        rintro r w2 ⟨rfl, hb2⟩
        have hB2 := hB1.trans (hb2.mono hB1.size)
        clear x0 x1 x2 x3 x4 x5 c0 c1 c2 c3 c4 c5
        go_wp2_with fail
        go_round
        case rel =>
          refine ⟨j + 1, by go_num, by omega, ?_, hB2⟩
          rw [HP.out]
          exact str_eq (by simp [ByteArray.data_append, HJ0.out])
        case measure => simp [intOf]; omega
  · clear k0 k6
    have hll := F.len_le
    obtain ⟨n, hn⟩ : ∃ n, F.len = n := ⟨_, rfl⟩
    have HNl := hideIt hn
    have HT : Hid (jtext [] [] (N + 1) ⟨6, m, e, t, na, nc, ns⟩ F [] = [123] ++ (jitems [] [] (jtext [] [] N) true ns F [] n ++ [125])) := by
      unfold Hid jtext jinner
      rw [← hn]
      have : (if F.len = 0 then ([] : List UInt8) else []) = [] := by split <;> rfl
      simp [this]
    have HLn : Hid (∀ j, j ≤ n → (jitems [] [] (jtext [] [] N) true ns F [] j).length ≤ 13000 * F.sumJ j) := by
      unfold Hid
      rw [← hn]
      exact jitems_len (by simp) (by simp) (by simp) (fun i hi => jtext_len (by simp) (by simp) N _ _ _ (by simp only [List.append_nil, List.length_nil]; omega) (fitJ_at hi hfit.2)) true (fun e i => asc_short (HK.out.2.2 rfl).2 i)
    have HS : Hid (∀ j, j ≤ n → F.sumJ j ≤ F.size) := fun j hj => by
      have h1 := sumJ_le F (i := j) (n := F.len) (by omega)
      rw [sumJ_len] at h1
      exact h1
    obtain ⟨wp, hwp⟩ : ∃ wp, wp = w.alloc (.cells #[.int .i64 6, .int .i64 m, .int .i64 e, .string t, .slice a F.len c, .slice na ns.length nc] 28) := ⟨_, rfl⟩
    have hBp : Below w.heap.size w wp := by subst hwp; exact (Below.refl _ w).alloc (Nat.le_refl _) _
    have hA : BxV w.heap.size ⟨6, m, e, t, na, nc, ns⟩ (.slice a F.len c) wp := by subst hwp; exact BxV.new w ⟨6, m, e, t, na, nc, ns⟩ _ _
    have HX : Hid (∀ W, Below wp.heap.size wp W → BxV w.heap.size ⟨6, m, e, t, na, nc, ns⟩ (.slice a n c) W) := fun W hW => by rw [← hn]; exact hA.below hW
    have HI : Hid ((∀ W, Below wp.heap.size wp W → F.In W a ∧ Below w.heap.size w W) ∧ F.allOne) := ⟨fun W hW => ⟨hin.grow (hBp.trans (hW.mono hBp.size)), hBp.trans (hW.mono hBp.size)⟩, hfit.2⟩
    have HNm : Hid ((ns.length = F.len ∧ ∀ i, (nameAt ns i).size ≤ 12) ∧ ∀ W, Below wp.heap.size wp W → SIn W ns na) := ⟨⟨(HK.out.2.2 rfl).1, fun i => asc_short (HK.out.2.2 rfl).2 i⟩, fun W hW => hh.1.grow (hBp.trans (hW.mono hBp.size))⟩
    have HW := hideIt hwp
    have hzp := hBp.size
    rw [hn] at hl hll ⊢
    clear hwp hA hBp hin hfit hh HK hn
    go_enter Try.func61, Try.ntmps61
    go_wp2_with fail
    rw [HNl.out] at HW
    rw [← HW.out]
    clear HW
    go_loopw [3, 4] (fun o i wr => ∃ j : Nat, i = .int .i64 j ∧ j ≤ n ∧ o = .string ⟨(jitems [] [] (jtext [] [] N) true ns F [] j).toArray⟩ ∧ Below wp.heap.size wp wr) (fun _ i _ => n - (intOf i).toNat)
    case atStart => exact ⟨0, rfl, Nat.zero_le _, rfl, Below.refl _ _⟩
    case round =>
      obtain ⟨j, rfl, hj, rfl, hb⟩ := hrel
      obtain ⟨x0, x1, x2, x3, x4, x5⟩ := HX.out _ hb
      have hlj := HLn.out j hj
      have hsj := HS.out j hj
      by_cases hjn : j < n
      case neg =>
        have ej : j = n := by omega
        subst ej
        obtain ⟨A, hA⟩ : ∃ A, A = jitems [] [] (jtext [] [] N) true ns F [] j := ⟨_, rfl⟩
        have HT2 : Hid (jtext [] [] (N + 1) ⟨6, m, e, t, na, nc, ns⟩ F [] = [123] ++ (A ++ [125])) := by rw [hA]; exact HT.out
        rw [← hA] at hlj ⊢
        clear hA HT hjn hj
        have hq := arr_size A
        have hbe := (HI.out.1 _ hb).2
        go_wp2_with fail
        go_ret
        exact ⟨by rw [HT2.out]; exact ret_str (by simp [ByteArray.data_append]), hbe⟩
      have hjF : j < F.len := by rw [HNl.out]; exact hjn
      have hjl : (j : Int) < (n : Int) := by omega
      have hs1 := HS.out (j + 1) hjn
      have hs1' : F.sumJ j + ((F.kidsAt j).size + 1) ≤ F.size := hs1
      obtain ⟨b, o', rfl, hFr⟩ := Vo.from_of_len (HI.out.1 _ (Below.refl _ _)).1 hjF
      obtain ⟨⟨c0, c1, c2, c3, c4, c5⟩, ck, ⟨cc1, cc2⟩, ch⟩ := Vo.from_at (Vo.from_grow hb F b o' hFr) hjF
      have HF : Hid (FitJ (F.hdAt j) (F.kidsAt j)) := fitJ_at hjF HI.out.2
      have hklen := jtext_len (step := []) (gap := []) (by simp) (by simp) N (F.hdAt j) (F.kidsAt j) [] (by simp only [List.length_nil]; omega) HF.out
      have HP : Hid (jitems [] [] (jtext [] [] N) true ns F [] (j + 1) = jitems [] [] (jtext [] [] N) true ns F [] j ++ ((if j = 0 then [] else [44]) ++ ((([] : List UInt8) ++ []) ++ ((if true then Qm.jquote (nameAt ns j).data.toList ++ ([58] ++ []) else []) ++ jtext [] [] N (F.hdAt j) (F.kidsAt j) ([] ++ []))))) := rfl
      have HKid : Hid (((F.kidsAt j).In wp (F.addrAt j) ∧ (F.hdAt j).In wp)) := by
        obtain ⟨_, x2, _, x4⟩ := Vo.from_at hFr hjF
        exact ⟨x2, x4⟩
      clear ck ch
      rw [List.append_nil] at HP
      obtain ⟨A, hA⟩ : ∃ A, A = jitems [] [] (jtext [] [] N) true ns F [] j := ⟨_, rfl⟩
      rw [← hA] at hlj HP ⊢
      clear hA HT
      generalize F.hdAt j = xh at *
      generalize F.kidsAt j = xk at *
      generalize F.addrAt j = xa at *
      generalize F.capAt j = xc at *
      have HCk := hideIt (And.intro c0 (And.intro c1 (And.intro c2 (And.intro c3 (And.intro c4 c5)))))
      have hq := arr_size A
      have hcl := HNm.out.1.2 j
      have hqn := arr_size (Qm.jquote (nameAt ns j).data.toList)
      have hql := Qm.jquote_length (nameAt ns j).data.toList
      rw [Qm.len_eq] at hql
      have hsn := nameAt_some (ns := ns) (i := j) (by rw [HNm.out.1.1]; exact hjF)
      obtain ⟨nb, no, e1, e3⟩ : ∃ nb no, na = some ⟨nb, no, none⟩ ∧ wr.cell? ⟨nb, no + j, none⟩ = some (.string (nameAt ns j)) := by
        rcases HNm.out.2 _ hb with e | ⟨nb, no, e, hS⟩
        · rw [e] at hsn; simp at hsn
        · exact ⟨nb, no, e, (hS.at hsn).1⟩
      subst e1
      have hjn2 : (j : Int) < (ns.length : Int) := by rw [HNm.out.1.1, HNl.out]; exact hjl
      clear hsn
      have hqk := arr_size (jtext [] [] N xh xk [])
      by_cases hj0 : j = 0
      · have hj0' : ¬ 0 < j := by omega
        have HJ0 := hideIt hj0
        clear hj0
        go_wp2_with fail
        have hj0 := HJ0.out
        clear HJ0 hj0'
        subst hj0
        refine (l7Quote_any _ _ (by omega)).mono ?_
        rintro r w1 ⟨rfl, hb1⟩
        have hB1 := hb.trans (hb1.mono hb.size)
        clear x0 x1 x2 x3 x4 x5 c0 c1 c2 c3 c4 c5 e3
        obtain ⟨x0, x1, x2, x3, x4, x5⟩ := HX.out _ hB1
        obtain ⟨c0, c1, c2, c3, c4, c5⟩ : Cells6 w1 b (o') xh (.slice xa xk.len xc) := (show Cells6 wr b (o') xh (.slice xa xk.len xc) from HCk.out).grow hb1
        go_wp2_with fail
        refine (H xh xa xc xk _ (by omega) (by omega) HF.out (HKid.out.1.grow hB1) cc1 cc2 (HKid.out.2.grow hB1)).mono ?_
        rintro r w2 ⟨rfl, hb2⟩
        have hB2 := hB1.trans (hb2.mono hB1.size)
        clear x0 x1 x2 x3 x4 x5 c0 c1 c2 c3 c4 c5
        go_wp2_with fail
        go_round
        case rel =>
          refine ⟨0 + 1, by go_num, by omega, ?_, hB2⟩
          rw [HP.out]
          exact str_eq (by simp [ByteArray.data_append])
        case measure => simp [intOf]; omega
      · have hj0' : 0 < j := by omega
        have HJ0 := hideIt hj0
        clear hj0
        go_wp2_with fail
        refine (l7Quote_any _ _ (by omega)).mono ?_
        rintro r w1 ⟨rfl, hb1⟩
        have hB1 := hb.trans (hb1.mono hb.size)
        clear x0 x1 x2 x3 x4 x5 c0 c1 c2 c3 c4 c5 e3
        obtain ⟨x0, x1, x2, x3, x4, x5⟩ := HX.out _ hB1
        obtain ⟨c0, c1, c2, c3, c4, c5⟩ : Cells6 w1 b (o' + j * 6) xh (.slice xa xk.len xc) := (show Cells6 wr b (o' + j * 6) xh (.slice xa xk.len xc) from HCk.out).grow hb1
        go_wp2_with fail
        refine (H xh xa xc xk _ (by omega) (by omega) HF.out (HKid.out.1.grow hB1) cc1 cc2 (HKid.out.2.grow hB1)).mono ?_
        rintro r w2 ⟨rfl, hb2⟩
        have hB2 := hB1.trans (hb2.mono hB1.size)
        clear x0 x1 x2 x3 x4 x5 c0 c1 c2 c3 c4 c5
        go_wp2_with fail
        go_round
        case rel =>
          refine ⟨j + 1, by go_num, by omega, ?_, hB2⟩
          rw [HP.out]
          exact str_eq (by simp [ByteArray.data_append, HJ0.out])
        case measure => simp [intOf]; omega
theorem l7Put_all (N : Nat) : SPut N := by
  induction N with
  | zero => intro h a c F w hF; omega
  | succ N ih => exact l7Put_step N ih
end Go.Proofs.Ytfgchdnpbbgmjaa
/- Values as lines, by the specification: the region of l12Toml that draws. -/
namespace Go.Proofs.Ytfgchdnpbbgmjaa
open Go.RowKit
set_option maxRecDepth 100000 in
set_option maxHeartbeats 1000000 in
theorem tm6 {Q : Exit → Act → World → Prop} {t0 t1 t3 t4 t7 t8 t9 t10 t11 t12 t13 t14 t15 t16 t17 t18 t19 t20 t21 t22 t23 t24 t25 t26 t27 t28 t29 t30 t31 t32 t33 t34 t35 t36 t37 t38 t39 t40 t41 t42 t43 t44 t45 t46 t47 t48 t49 t50 t51 t52 t53 t54 t55 t56 t57 t58 t59 t60 t61 t62 t63 t64 t65 t66 t67 t68 t69 t70 t71 t72 t73 t74 : Value} {W : World} {vb b o' nb no j n c : Nat} {h xh : Hd} {xa : Option Addr} {xk : Vo} {xc : Nat} {out nm tx : ByteArray}
    (hA : BxV vb h (.slice (some ⟨b, o', none⟩) n c) W) (hC : Cells6 W b (o' + j * 6) xh (.slice xa xk.len xc)) (hN : W.cell? ⟨nb, no + j, none⟩ = some (.string nm)) (hna : h.na = some ⟨nb, no, none⟩) (hjn : (j : Int) < (n : Int)) (hjm : (j : Int) < (h.ns.length : Int)) (hz : out.size + nm.size + tx.size + 4 ≤ 100000000) (hcall : ∀ W', Below W.heap.size W W' → Calls Try.prog 61 #[valV xh xa xk.len xc] W' fun r w' => r = .returned (.string tx) ∧ Below W'.heap.size W' w')
    (hp : ∀ p d v a w, Q (.panic p) (Act.put a d v) w → Q (.panic p) a w) (h_ : ∀ ws v23 v24 v25 v26 v27 v28 v29 v30 v31 v32 v33 v34 v35 v36 v37 v38, Below W.heap.size W ws → Q .normal { tmps := (t0 :: t1 :: (.pointer (some ⟨vb, 0, none⟩)) :: t3 :: t4 :: (.string (out ++ nm ++ ⟨#[32, 61, 32]⟩ ++ tx ++ ⟨#[10]⟩)) :: (.int .i64 (j : Int)) :: t7 :: t8 :: t9 :: t10 :: t11 :: t12 :: t13 :: t14 :: t15 :: t16 :: t17 :: t18 :: t19 :: t20 :: t21 :: t22 :: v23 :: v24 :: v25 :: v26 :: v27 :: v28 :: v29 :: v30 :: v31 :: v32 :: v33 :: v34 :: v35 :: v36 :: v37 :: v38 :: t39 :: t40 :: t41 :: t42 :: t43 :: t44 :: t45 :: t46 :: t47 :: t48 :: t49 :: t50 :: t51 :: t52 :: t53 :: t54 :: t55 :: t56 :: t57 :: t58 :: t59 :: t60 :: t61 :: t62 :: t63 :: t64 :: t65 :: t66 :: t67 :: t68 :: t69 :: t70 :: t71 :: t72 :: t73 :: t74 :: []).toArray, defers := [] } ws) :
    Code.wp Try.prog (Code.region 6 #[{ dst := some 23, op := Op.move (Operand.tmp 5), type := 9, pos := "l12_out.go:66", after := #[], guard := none }, { dst := some 24, op := Op.fieldAddr 28 (Operand.tmp 2) 4, type := 0, pos := "l12_out.go:66", after := #[], guard := none }, { dst := some 25, op := Op.load 26 (Operand.tmp 24), type := 26, pos := "l12_out.go:66", after := #[{ on := 1, ground := Ground.data }], guard := none }, { dst := some 26, op := Op.move (Operand.tmp 6), type := 3, pos := "l12_out.go:66", after := #[], guard := none }, { dst := some 27, op := Op.indexAddr 26 (Operand.tmp 25) (Operand.tmp 26), type := 0, pos := "l12_out.go:66", after := #[{ on := 2, ground := Ground.data }, { on := 3, ground := Ground.data }], guard := none }, { dst := some 28, op := Op.load 9 (Operand.tmp 27), type := 9, pos := "l12_out.go:66", after := #[{ on := 4, ground := Ground.data }], guard := none }, { dst := some 29, op := Op.binOp BinOp.add 9 (Operand.tmp 23) (Operand.tmp 28) 9, type := 9, pos := "l12_out.go:66", after := #[{ on := 0, ground := Ground.data }, { on := 5, ground := Ground.data }], guard := none }, { dst := some 30, op := Op.binOp BinOp.add 9 (Operand.tmp 29) (Operand.const (Value.string { data := #[32, 61, 32] })) 9, type := 9, pos := "l12_out.go:66", after := #[{ on := 6, ground := Ground.data }], guard := none }, { dst := some 31, op := Op.fieldAddr 28 (Operand.tmp 2) 3, type := 0, pos := "l12_out.go:66", after := #[], guard := none }, { dst := some 32, op := Op.load 25 (Operand.tmp 31), type := 25, pos := "l12_out.go:66", after := #[{ on := 8, ground := Ground.data }], guard := none }, { dst := some 33, op := Op.move (Operand.tmp 6), type := 3, pos := "l12_out.go:66", after := #[], guard := none }, { dst := some 34, op := Op.indexAddr 25 (Operand.tmp 32) (Operand.tmp 33), type := 0, pos := "l12_out.go:66", after := #[{ on := 9, ground := Ground.data }, { on := 10, ground := Ground.data }], guard := none }, { dst := some 35, op := Op.load 28 (Operand.tmp 34), type := 28, pos := "l12_out.go:66", after := #[{ on := 11, ground := Ground.data }], guard := none }, { dst := some 36, op := Op.call { callee := Callee.value (Operand.func 61), args := #[Operand.tmp 35], argTypes := #[28] }, type := 9, pos := "l12_out.go:66", after := #[{ on := 12, ground := Ground.data }], guard := none }, { dst := some 37, op := Op.binOp BinOp.add 9 (Operand.tmp 30) (Operand.tmp 36) 9, type := 9, pos := "l12_out.go:66", after := #[{ on := 7, ground := Ground.data }, { on := 13, ground := Ground.data }], guard := none }, { dst := some 38, op := Op.binOp BinOp.add 9 (Operand.tmp 37) (Operand.const (Value.string { data := #[10] })) 9, type := 9, pos := "l12_out.go:66", after := #[{ on := 14, ground := Ground.data }], guard := none }, { dst := some 5, op := Op.assign (Operand.tmp 38), type := 9, pos := "l12_out.go:66", after := #[{ on := 15, ground := Ground.data }, { on := 13, ground := Ground.chain }, { on := 0, ground := Ground.phase }, { on := 1, ground := Ground.phase }, { on := 2, ground := Ground.phase }, { on := 3, ground := Ground.phase }, { on := 4, ground := Ground.phase }, { on := 5, ground := Ground.phase }, { on := 6, ground := Ground.phase }, { on := 7, ground := Ground.phase }, { on := 8, ground := Ground.phase }, { on := 9, ground := Ground.phase }, { on := 10, ground := Ground.phase }, { on := 11, ground := Ground.phase }, { on := 12, ground := Ground.phase }, { on := 13, ground := Ground.phase }, { on := 14, ground := Ground.phase }, { on := 15, ground := Ground.phase }], guard := none }] true) Q { tmps := (t0 :: t1 :: (.pointer (some ⟨vb, 0, none⟩)) :: t3 :: t4 :: (.string out) :: (.int .i64 (j : Int)) :: t7 :: t8 :: t9 :: t10 :: t11 :: t12 :: t13 :: t14 :: t15 :: t16 :: t17 :: t18 :: t19 :: t20 :: t21 :: t22 :: t23 :: t24 :: t25 :: t26 :: t27 :: t28 :: t29 :: t30 :: t31 :: t32 :: t33 :: t34 :: t35 :: t36 :: t37 :: t38 :: t39 :: t40 :: t41 :: t42 :: t43 :: t44 :: t45 :: t46 :: t47 :: t48 :: t49 :: t50 :: t51 :: t52 :: t53 :: t54 :: t55 :: t56 :: t57 :: t58 :: t59 :: t60 :: t61 :: t62 :: t63 :: t64 :: t65 :: t66 :: t67 :: t68 :: t69 :: t70 :: t71 :: t72 :: t73 :: t74 :: []).toArray, defers := [] } W := by
  have HSof : Hid (∀ w', Below W.heap.size W w' → (BxV vb h (.slice (some ⟨b, o', none⟩) n c) w' ∧ Cells6 w' b (o' + j * 6) xh (.slice xa xk.len xc)) ∧ w'.cell? ⟨nb, no + j, none⟩ = some (.string nm)) := fun w' h => ⟨⟨hA.below h, hC.grow h⟩, (h.cell (World.block_lt_of_cell? W _ hN)).trans hN⟩
  have hB0 := (Below.refl W.heap.size W).drew
  have hS0 := HSof.out _ hB0
  obtain ⟨hk, hm, he, ht, hna', hnc, hns⟩ := h
  dsimp only at hna hjm
  subst hna
  clear hA hC hN
  refine wp_region_held_drew (S := fun w' => (BxV vb ⟨hk, hm, he, ht, some ⟨nb, no, none⟩, hnc, hns⟩ (.slice (some ⟨b, o', none⟩) n c) w' ∧ Cells6 w' b (o' + j * 6) xh (.slice xa xk.len xc)) ∧ w'.cell? ⟨nb, no + j, none⟩ = some (.string nm)) (by kernel_rfl) hS0 (fun hHeld => ?_)
  refine wpAnyH_take (i := 0) (v := .string out) rfl (by kernel_rfl) (by kernel_rfl) (by kernel_rfl) (fun _ _ _ h => hp _ _ _ _ _ h) (Or.inl ⟨by rfl, ?_⟩) (by assumption) ?_
  · intro w hSw
    (try dsimp only at hSw)
    go_simp
  (try simp only [Act.put, List.getElem_toArray, List.getElem_cons_zero, List.setIfInBounds_toArray, List.set_cons_zero, List.set_cons_succ])
  refine wpAnyH_take (i := 1) (v := .pointer (some ⟨vb, 5, none⟩)) rfl (by kernel_rfl) (by kernel_rfl) (by kernel_rfl) (fun _ _ _ h => hp _ _ _ _ _ h) (Or.inl ⟨by rfl, ?_⟩) (by assumption) ?_
  · intro w hSw
    (try dsimp only at hSw)
    go_simp
  (try simp only [Act.put, List.getElem_toArray, List.getElem_cons_zero, List.getElem_cons_succ, List.setIfInBounds_toArray, List.set_cons_zero, List.set_cons_succ])
  refine wpAnyH_take (i := 2) (v := .slice (some ⟨nb, no, none⟩) hns.length hnc) rfl (by kernel_rfl) (by kernel_rfl) (by kernel_rfl) (fun _ _ _ h => hp _ _ _ _ _ h) (Or.inl ⟨by rfl, ?_⟩) (by assumption) ?_
  · intro w hSw
    (try dsimp only at hSw)
    go_simp
  (try simp only [Act.put, List.getElem_toArray, List.getElem_cons_zero, List.getElem_cons_succ, List.setIfInBounds_toArray, List.set_cons_zero, List.set_cons_succ])
  refine wpAnyH_take (i := 3) (v := .int .i64 (j : Int)) rfl (by kernel_rfl) (by kernel_rfl) (by kernel_rfl) (fun _ _ _ h => hp _ _ _ _ _ h) (Or.inl ⟨by rfl, ?_⟩) (by assumption) ?_
  · intro w hSw
    (try dsimp only at hSw)
    go_simp
  (try simp only [Act.put, List.getElem_toArray, List.getElem_cons_zero, List.getElem_cons_succ, List.setIfInBounds_toArray, List.set_cons_zero, List.set_cons_succ])
  refine wpAnyH_take (i := 4) (v := .pointer (some ⟨nb, no + j, none⟩)) rfl (by kernel_rfl) (by kernel_rfl) (by kernel_rfl) (fun _ _ _ h => hp _ _ _ _ _ h) (Or.inl ⟨by rfl, ?_⟩) (by assumption) ?_
  · intro w hSw
    (try dsimp only at hSw)
    go_simp
  (try simp only [Act.put, List.getElem_toArray, List.getElem_cons_zero, List.getElem_cons_succ, List.setIfInBounds_toArray, List.set_cons_zero, List.set_cons_succ])
  refine wpAnyH_take (i := 5) (v := .string nm) rfl (by kernel_rfl) (by kernel_rfl) (by kernel_rfl) (fun _ _ _ h => hp _ _ _ _ _ h) (Or.inl ⟨by rfl, ?_⟩) (by assumption) ?_
  · intro w hSw
    (try dsimp only at hSw)
    go_simp
  (try simp only [Act.put, List.getElem_toArray, List.getElem_cons_zero, List.getElem_cons_succ, List.setIfInBounds_toArray, List.set_cons_zero, List.set_cons_succ])
  refine wpAnyH_take (i := 6) (v := .string (out ++ nm)) rfl (by kernel_rfl) (by kernel_rfl) (by kernel_rfl) (fun _ _ _ h => hp _ _ _ _ _ h) (Or.inl ⟨by rfl, ?_⟩) (by assumption) ?_
  · intro w hSw
    (try dsimp only at hSw)
    (go_simp; omega)
  (try simp only [Act.put, List.getElem_toArray, List.getElem_cons_zero, List.getElem_cons_succ, List.setIfInBounds_toArray, List.set_cons_zero, List.set_cons_succ])
  refine wpAnyH_take (i := 7) (v := .string (out ++ nm ++ ⟨#[32, 61, 32]⟩)) rfl (by kernel_rfl) (by kernel_rfl) (by kernel_rfl) (fun _ _ _ h => hp _ _ _ _ _ h) (Or.inl ⟨by rfl, ?_⟩) (by assumption) ?_
  · intro w hSw
    (try dsimp only at hSw)
    (go_simp; omega)
  (try simp only [Act.put, List.getElem_toArray, List.getElem_cons_zero, List.getElem_cons_succ, List.setIfInBounds_toArray, List.set_cons_zero, List.set_cons_succ])
  refine wpAnyH_take (i := 8) (v := .pointer (some ⟨vb, 4, none⟩)) rfl (by kernel_rfl) (by kernel_rfl) (by kernel_rfl) (fun _ _ _ h => hp _ _ _ _ _ h) (Or.inl ⟨by rfl, ?_⟩) (by assumption) ?_
  · intro w hSw
    (try dsimp only at hSw)
    go_simp
  (try simp only [Act.put, List.getElem_toArray, List.getElem_cons_zero, List.getElem_cons_succ, List.setIfInBounds_toArray, List.set_cons_zero, List.set_cons_succ])
  refine wpAnyH_take (i := 9) (v := .slice (some ⟨b, o', none⟩) n c) rfl (by kernel_rfl) (by kernel_rfl) (by kernel_rfl) (fun _ _ _ h => hp _ _ _ _ _ h) (Or.inl ⟨by rfl, ?_⟩) (by assumption) ?_
  · intro w hSw
    (try dsimp only at hSw)
    go_simp
  (try simp only [Act.put, List.getElem_toArray, List.getElem_cons_zero, List.getElem_cons_succ, List.setIfInBounds_toArray, List.set_cons_zero, List.set_cons_succ])
  refine wpAnyH_take (i := 10) (v := .int .i64 (j : Int)) rfl (by kernel_rfl) (by kernel_rfl) (by kernel_rfl) (fun _ _ _ h => hp _ _ _ _ _ h) (Or.inl ⟨by rfl, ?_⟩) (by assumption) ?_
  · intro w hSw
    (try dsimp only at hSw)
    go_simp
  (try simp only [Act.put, List.getElem_toArray, List.getElem_cons_zero, List.getElem_cons_succ, List.setIfInBounds_toArray, List.set_cons_zero, List.set_cons_succ])
  refine wpAnyH_take (i := 11) (v := .pointer (some ⟨b, o' + j * 6, none⟩)) rfl (by kernel_rfl) (by kernel_rfl) (by kernel_rfl) (fun _ _ _ h => hp _ _ _ _ _ h) (Or.inl ⟨by rfl, ?_⟩) (by assumption) ?_
  · intro w hSw
    (try dsimp only at hSw)
    go_simp
  (try simp only [Act.put, List.getElem_toArray, List.getElem_cons_zero, List.getElem_cons_succ, List.setIfInBounds_toArray, List.set_cons_zero, List.set_cons_succ])
  refine wpAnyH_take (i := 12) (v := .agg #[.int .i64 xh.k, .int .i64 xh.m, .int .i64 xh.e, .string xh.t, .slice xa xk.len xc, .slice xh.na xh.ns.length xh.nc]) rfl (by kernel_rfl) (by kernel_rfl) (by kernel_rfl) (fun _ _ _ h => hp _ _ _ _ _ h) (Or.inl ⟨by rfl, ?_⟩) (by assumption) ?_
  · intro w hSw
    (try dsimp only at hSw)
    (obtain ⟨⟨_, c0, c1, c2, c3, c4, c5⟩, _⟩ := hSw; go_simp)
  (try simp only [Act.put, List.getElem_toArray, List.getElem_cons_zero, List.getElem_cons_succ, List.setIfInBounds_toArray, List.set_cons_zero, List.set_cons_succ])
  refine wpAnyH_ready (rs := [13]) (by kernel_rfl) (by simp) ?_
  refine AllReadyH.cons rfl (fun K hK => ?_) AllReadyH.nil
  go_simp
  refine (hcall _ hB0).mono ?_
  rintro r w1 ⟨rfl, hb1⟩
  have hB1 := hB0.trans (hb1.mono hB0.size)
  go_wp2_with fail
  refine hK.out _ _ (HSof.out _ hB1) (fun hHeld => ?_)
  clear hK K hb1 hB0
  refine wpAnyH_take (i := 14) (v := .string (out ++ nm ++ ⟨#[32, 61, 32]⟩ ++ tx)) rfl (by kernel_rfl) (by kernel_rfl) (by kernel_rfl) (fun _ _ _ h => hp _ _ _ _ _ h) (Or.inl ⟨by rfl, ?_⟩) (by assumption) ?_
  · intro w hSw
    (try dsimp only at hSw)
    (go_simp; omega)
  (try simp only [Act.put, List.getElem_toArray, List.getElem_cons_zero, List.getElem_cons_succ, List.setIfInBounds_toArray, List.set_cons_zero, List.set_cons_succ])
  refine wpAnyH_take (i := 15) (v := .string (out ++ nm ++ ⟨#[32, 61, 32]⟩ ++ tx ++ ⟨#[10]⟩)) rfl (by kernel_rfl) (by kernel_rfl) (by kernel_rfl) (fun _ _ _ h => hp _ _ _ _ _ h) (Or.inl ⟨by rfl, ?_⟩) (by assumption) ?_
  · intro w hSw
    (try dsimp only at hSw)
    (go_simp; omega)
  (try simp only [Act.put, List.getElem_toArray, List.getElem_cons_zero, List.getElem_cons_succ, List.setIfInBounds_toArray, List.set_cons_zero, List.set_cons_succ])
  refine wpAnyH_take (i := 16) (v := .string (out ++ nm ++ ⟨#[32, 61, 32]⟩ ++ tx ++ ⟨#[10]⟩)) rfl (by kernel_rfl) (by kernel_rfl) (by kernel_rfl) (fun _ _ _ h => hp _ _ _ _ _ h) (Or.inl ⟨by rfl, ?_⟩) (by assumption) ?_
  · intro w hSw
    (try dsimp only at hSw)
    go_simp
  (try simp only [Act.put, List.getElem_toArray, List.getElem_cons_zero, List.getElem_cons_succ, List.setIfInBounds_toArray, List.set_cons_zero, List.set_cons_succ])
  refine wpAnyH_done (by kernel_rfl) ?_ _
  exact h_ _ _ _ _ _ _ _ _ _ _ _ _ _ _ _ _ _ hB1
end Go.Proofs.Ytfgchdnpbbgmjaa
/- Values as lines, by the specification: l12Toml. -/
namespace Go.Proofs.Ytfgchdnpbbgmjaa
open Go.RowKit
def STom (N : Nat) : Prop := ∀ (h : Hd) (a : Option Addr) (c : Nat) (F : Vo) (path : ByteArray) (w : World), F.size < N → N ≤ 200 → path.size + 13 * N ≤ 3000 → h.k = 6 → FitJ h F → F.In w a → F.len ≤ c → c ≤ maxLen → h.In w →
  Calls Try.prog 26 #[valV h a F.len c, .string path] w fun r w' => r = .returned (.string ⟨(ttext N h F path.data.toList).toArray⟩) ∧ Below w.heap.size w w'
set_option linter.unusedSimpArgs false in
set_option maxRecDepth 100000 in
set_option maxHeartbeats 2000000 in
theorem l12Toml_step (N : Nat) (H : STom N) : STom (N + 1) := by
  intro h a c F path w hF hN hpl hk hfit hin hl hc hh
  obtain ⟨k, m, e, t, na, nc, ns⟩ := h
  dsimp only at hk
  subst hk
  have hone := oneJ hfit.1
  dsimp only at hone
  obtain ⟨-, -, -, k66, -⟩ := hone
  have HK := hideIt (k66 rfl)
  clear k66
  have hll := F.len_le
  have hpz : path.data.toList.length = path.size := by rw [Array.length_toList]; rfl
  obtain ⟨n, hn⟩ : ∃ n, F.len = n := ⟨_, rfl⟩
  have HNl := hideIt hn
  have HT : Hid (ttext (N + 1) ⟨6, m, e, t, na, nc, ns⟩ F path.data.toList = tlines ns F n ++ theads (ttext N) ns F path.data.toList n) := by
    show tlines ns F F.len ++ theads (ttext N) ns F path.data.toList F.len = _
    rw [hn]
  have HCh : Hid (∀ i, i < F.len → (F.hdAt i).k = 6 → (ttext N (F.hdAt i) (F.kidsAt i) ((path.data.toList ++ (nameAt ns i).data.toList) ++ [46])).length ≤ 30000 * (F.kidsAt i).size) := fun i hi hk' => ttext_len N _ _ _ (by
    have h3 := asc_short HK.out.2 i
    have h4 : (nameAt ns i).data.toList.length = (nameAt ns i).size := by rw [Array.length_toList]; rfl
    simp only [List.length_append, List.length_cons, List.length_nil]
    omega) hk' (fitJ_at hi hfit.2)
  have HLn : Hid (∀ j, j ≤ n → (tlines ns F j).length + (theads (ttext N) ns F path.data.toList j).length ≤ 30000 * F.sumJ j) := by
    unfold Hid
    rw [← hn]
    exact tsum_len (by omega) (fun i => asc_short HK.out.2 i) hfit.2 HCh.out
  have HS : Hid (∀ j, j ≤ n → F.sumJ j ≤ F.size) := fun j hj => by
    have h1 := sumJ_le F (i := j) (n := F.len) (by omega)
    rw [sumJ_len] at h1
    exact h1
  obtain ⟨wp, hwp⟩ : ∃ wp, wp = w.alloc (.cells #[.int .i64 6, .int .i64 m, .int .i64 e, .string t, .slice a F.len c, .slice na ns.length nc] 28) := ⟨_, rfl⟩
  have hBp : Below w.heap.size w wp := by subst hwp; exact (Below.refl _ w).alloc (Nat.le_refl _) _
  have hA : BxV w.heap.size ⟨6, m, e, t, na, nc, ns⟩ (.slice a F.len c) wp := by subst hwp; exact BxV.new w ⟨6, m, e, t, na, nc, ns⟩ _ _
  have HX : Hid (∀ W, Below wp.heap.size wp W → BxV w.heap.size ⟨6, m, e, t, na, nc, ns⟩ (.slice a n c) W) := fun W hW => by rw [← hn]; exact hA.below hW
  have HI : Hid ((∀ W, Below wp.heap.size wp W → F.In W a ∧ Below w.heap.size w W) ∧ F.allOne) := ⟨fun W hW => ⟨hin.grow (hBp.trans (hW.mono hBp.size)), hBp.trans (hW.mono hBp.size)⟩, hfit.2⟩
  have HNm : Hid ((ns.length = F.len ∧ ∀ i, (nameAt ns i).size ≤ 12) ∧ ∀ W, Below wp.heap.size wp W → SIn W ns na) := ⟨⟨HK.out.1, fun i => asc_short HK.out.2 i⟩, fun W hW => hh.1.grow (hBp.trans (hW.mono hBp.size))⟩
  have HW := hideIt hwp
  have hzp := hBp.size
  rw [hn] at hl hll ⊢
  clear hwp hA hBp hin hfit hh HK hn hpz
  go_enter Try.func26, Try.ntmps26
  go_wp2_with fail
  rw [HNl.out] at HW
  rw [← HW.out]
  clear HW
  go_loopw [5, 6] (fun o i wr => ∃ j : Nat, i = .int .i64 j ∧ j ≤ n ∧ o = .string ⟨(tlines ns F j).toArray⟩ ∧ Below wp.heap.size wp wr) (fun _ i _ => n - (intOf i).toNat)
  case atStart => exact ⟨0, rfl, Nat.zero_le _, rfl, Below.refl _ _⟩
  case round =>
    obtain ⟨j, rfl, hj, rfl, hb⟩ := hrel
    obtain ⟨x0, x1, x2, x3, x4, x5⟩ := HX.out _ hb
    have hlj := HLn.out j hj
    have hsj := HS.out j hj
    by_cases hjn : j < n
    case neg =>
      have ej : j = n := by omega
      subst ej
      obtain ⟨L, hL⟩ : ∃ L, L = tlines ns F j := ⟨_, rfl⟩
      have HL0 := hideIt hL
      rw [← hL] at hlj ⊢
      clear hL hjn hj
      have hLl : L.length ≤ 30000 * F.sumJ j := by omega
      clear hlj
      have hqL := arr_size L
      go_wp2_with fail
      go_loopw [5, 7] (fun o i wr => ∃ j' : Nat, i = .int .i64 j' ∧ j' ≤ j ∧ o = .string ⟨(L ++ theads (ttext N) ns F path.data.toList j').toArray⟩ ∧ Below wp.heap.size wp wr) (fun _ i _ => j - (intOf i).toNat)
      case atStart => exact ⟨0, rfl, Nat.zero_le _, by simp [theads], hb⟩
      case round =>
        clear x0 x1 x2 x3 x4 x5 hb
        obtain ⟨j', rfl, hj, rfl, hb⟩ := hrel
        obtain ⟨x0, x1, x2, x3, x4, x5⟩ := HX.out _ hb
        have hlj := HLn.out j' hj
        have hsj' := HS.out j' hj
        by_cases hjn : j' < j
        case neg =>
          have ej : j' = j := by omega
          subst ej
          obtain ⟨A, hA⟩ : ∃ A, A = L ++ theads (ttext N) ns F path.data.toList j' := ⟨_, rfl⟩
          have HT2 : Hid (ttext (N + 1) ⟨6, m, e, t, na, nc, ns⟩ F path.data.toList = A) := by rw [hA, HL0.out]; exact HT.out
          rw [← hA]
          clear hA HT hjn hj
          have hbe := (HI.out.1 _ hb).2
          go_wp2_with fail
          go_ret
          exact ⟨by rw [HT2.out]; exact ret_str rfl, hbe⟩
        have hjF : j' < F.len := by rw [HNl.out]; exact hjn
        have hjl : (j' : Int) < (j : Int) := by omega
        have hs1 := HS.out (j' + 1) hjn
        have hs1' : F.sumJ j' + ((F.kidsAt j').size + 1) ≤ F.size := hs1
        obtain ⟨b, o', rfl, hFr⟩ := Vo.from_of_len (HI.out.1 _ (Below.refl _ _)).1 hjF
        obtain ⟨⟨c0, c1, c2, c3, c4, c5⟩, ck, ⟨cc1, cc2⟩, ch⟩ := Vo.from_at (Vo.from_grow hb F b o' hFr) hjF
        have HF : Hid (FitJ (F.hdAt j') (F.kidsAt j')) := fitJ_at hjF HI.out.2
        have HKid : Hid (((F.kidsAt j').In wp (F.addrAt j') ∧ (F.hdAt j').In wp)) := by
          obtain ⟨_, x2, _, x4⟩ := Vo.from_at hFr hjF
          exact ⟨x2, x4⟩
        have HCl : Hid ((F.hdAt j').k = 6 → (ttext N (F.hdAt j') (F.kidsAt j') ((path.data.toList ++ (nameAt ns j').data.toList) ++ [46])).length ≤ 30000 * (F.kidsAt j').size) := HCh.out j' hjF
        clear ck ch
        have HP : Hid (theads (ttext N) ns F path.data.toList (j' + 1) = theads (ttext N) ns F path.data.toList j' ++ (if (F.hdAt j').k = 6 then [91] ++ ((path.data.toList ++ (nameAt ns j').data.toList) ++ ([93, 10] ++ ttext N (F.hdAt j') (F.kidsAt j') ((path.data.toList ++ (nameAt ns j').data.toList) ++ [46]))) else [])) := rfl
        obtain ⟨A, hA⟩ : ∃ A, A = theads (ttext N) ns F path.data.toList j' := ⟨_, rfl⟩
        rw [← hA] at hlj HP ⊢
        clear hA HT
        generalize F.hdAt j' = xh at *
        generalize F.kidsAt j' = xk at *
        generalize F.addrAt j' = xa at *
        generalize F.capAt j' = xc at *
        have hq := arr_size (L ++ A)
        rw [List.length_append] at hq
        have hcl := HNm.out.1.2 j'
        have hsn := nameAt_some (ns := ns) (i := j') (by rw [HNm.out.1.1]; exact hjF)
        obtain ⟨nb, no, e1, e3⟩ : ∃ nb no, na = some ⟨nb, no, none⟩ ∧ wr.cell? ⟨nb, no + j', none⟩ = some (.string (nameAt ns j')) := by
          rcases HNm.out.2 _ hb with e | ⟨nb, no, e, hS⟩
          · rw [e] at hsn; simp at hsn
          · exact ⟨nb, no, e, (hS.at hsn).1⟩
        subst e1
        have hjn2 : (j' : Int) < (ns.length : Int) := by rw [HNm.out.1.1, HNl.out]; exact hjl
        clear hsn
        by_cases hk : xh.k = 6
        · have hk' : (xh.k == 6) = true := by simp [hk]
          have HKk := hideIt hk
          have hcl2 := HCl.out hk
          clear hk
          obtain ⟨nm, hnm⟩ : ∃ nm, nameAt ns j' = nm := ⟨_, rfl⟩
          rw [hnm] at hcl hcl2 e3 HP
          clear hnm
          have hnl : nm.data.toList.length = nm.size := by rw [Array.length_toList]; rfl
          obtain ⟨p2, hp2⟩ : ∃ p2 : ByteArray, path ++ nm ++ (⟨#[46]⟩ : ByteArray) = p2 := ⟨_, rfl⟩
          have hp3 : p2.size = path.size + nm.size + 1 := by rw [← hp2]; simp [ByteArray.size_append]; rfl
          have hp4 : (path.data.toList ++ nm.data.toList) ++ [46] = p2.data.toList := by rw [← hp2]; simp [ByteArray.data_append]
          have HP2 := hideIt (And.intro hp2 hp4)
          rw [hp4] at hcl2 HP
          clear hp2 hp4
          have hq2 := arr_size (ttext N xh xk p2.data.toList)
          go_wp2_with fail
          rw [HP2.out.1]
          refine (H xh xa xc xk p2 _ (by omega) (by omega) (by omega) HKk.out HF.out (HKid.out.1.grow hb) cc1 cc2 (HKid.out.2.grow hb)).mono ?_
          rintro r w2 ⟨rfl, hb2⟩
          have hB2 := hb.trans (hb2.mono hb.size)
          clear x0 x1 x2 x3 x4 x5 c0 c1 c2 c3 c4 c5 e3
          go_wp2_with fail
          go_round
          case rel =>
            refine ⟨j' + 1, by go_num, by omega, ?_, hB2⟩
            rw [HP.out, if_pos HKk.out]
            exact str_eq (by simp [ByteArray.data_append])
          case measure => simp [intOf]; omega
        · have hk' : (xh.k == 6) = false := by simp [hk]
          have HKk := hideIt hk
          clear hk
          go_wp2_with fail
          go_round
          case rel =>
            refine ⟨j' + 1, by go_num, by omega, ?_, hb⟩
            rw [HP.out, if_neg HKk.out, List.append_nil]
          case measure => simp [intOf]; omega
    have hjF : j < F.len := by rw [HNl.out]; exact hjn
    have hjl : (j : Int) < (n : Int) := by omega
    have hs1 := HS.out (j + 1) hjn
    have hs1' : F.sumJ j + ((F.kidsAt j).size + 1) ≤ F.size := hs1
    obtain ⟨b, o', rfl, hFr⟩ := Vo.from_of_len (HI.out.1 _ (Below.refl _ _)).1 hjF
    obtain ⟨⟨c0, c1, c2, c3, c4, c5⟩, ck, ⟨cc1, cc2⟩, ch⟩ := Vo.from_at (Vo.from_grow hb F b o' hFr) hjF
    have HF : Hid (FitJ (F.hdAt j) (F.kidsAt j)) := fitJ_at hjF HI.out.2
    have hklen := jtext_len (step := []) (gap := []) (by simp) (by simp) 200 (F.hdAt j) (F.kidsAt j) [] (by simp only [List.length_nil]; omega) HF.out
    have HP : Hid (tlines ns F (j + 1) = tlines ns F j ++ (if (F.hdAt j).k = 6 then [] else (nameAt ns j).data.toList ++ ([32, 61, 32] ++ (jtext [] [] 200 (F.hdAt j) (F.kidsAt j) [] ++ [10])))) := rfl
    have HKid : Hid (((F.kidsAt j).In wp (F.addrAt j) ∧ (F.hdAt j).In wp)) := by
      obtain ⟨_, x2, _, x4⟩ := Vo.from_at hFr hjF
      exact ⟨x2, x4⟩
    clear ck ch
    obtain ⟨A, hA⟩ : ∃ A, A = tlines ns F j := ⟨_, rfl⟩
    rw [← hA] at hlj HP ⊢
    clear hA HT
    generalize F.hdAt j = xh at *
    generalize F.kidsAt j = xk at *
    generalize F.addrAt j = xa at *
    generalize F.capAt j = xc at *
    have HCk := hideIt (And.intro c0 (And.intro c1 (And.intro c2 (And.intro c3 (And.intro c4 c5)))))
    have hq := arr_size A
    have hcl := HNm.out.1.2 j
    have hsn := nameAt_some (ns := ns) (i := j) (by rw [HNm.out.1.1]; exact hjF)
    obtain ⟨nb, no, e1, e3⟩ : ∃ nb no, na = some ⟨nb, no, none⟩ ∧ wr.cell? ⟨nb, no + j, none⟩ = some (.string (nameAt ns j)) := by
      rcases HNm.out.2 _ hb with e | ⟨nb, no, e, hS⟩
      · rw [e] at hsn; simp at hsn
      · exact ⟨nb, no, e, (hS.at hsn).1⟩
    subst e1
    have hjn2 : (j : Int) < (ns.length : Int) := by rw [HNm.out.1.1, HNl.out]; exact hjl
    clear hsn
    have hqk := arr_size (jtext [] [] 200 xh xk [])
    by_cases hk : xh.k = 6
    · have hk' : (xh.k != 6) = false := by simp [bne, hk]
      have HKk := hideIt hk
      clear hk
      go_wp2_with fail
      go_round
      case rel =>
        refine ⟨j + 1, by go_num, by omega, ?_, hb⟩
        rw [HP.out, if_pos HKk.out, List.append_nil]
      case measure => simp [intOf]; omega
    · have hk' : (xh.k != 6) = true := by simp [bne, hk]
      have HKk := hideIt hk
      clear hk
      go_wp2_with fail
      refine tm6 (tx := ⟨(jtext [] [] 200 xh xk []).toArray⟩) (HX.out _ hb) (show Cells6 wr b (o' + j * 6) xh (.slice xa xk.len xc) from HCk.out) e3 rfl hjl hjn2 (by omega) (fun W' hW => ?_) (fun _ d _ _ _ h => by cases d <;> exact h) ?_
      · have hB1 := hb.trans (hW.mono hb.size)
        exact l7Put_all 200 xh xa xc xk W' (by omega) (by omega) HF.out (HKid.out.1.grow hB1) cc1 cc2 (HKid.out.2.grow hB1)
      intro ws v23 v24 v25 v26 v27 v28 v29 v30 v31 v32 v33 v34 v35 v36 v37 v38 hb2
      have hB2 := hb.trans (hb2.mono hb.size)
      clear x0 x1 x2 x3 x4 x5 c0 c1 c2 c3 c4 c5 e3
      go_wp2_with fail
      go_round
      case rel =>
        refine ⟨j + 1, by go_num, by omega, ?_, hB2⟩
        rw [HP.out, if_neg HKk.out]
        exact str_eq (by simp [ByteArray.data_append])
      case measure => simp [intOf]; omega
theorem l12Toml_all (N : Nat) : STom N := by
  induction N with
  | zero => intro h a c F path w hF; omega
  | succ N ih => exact l12Toml_step N ih
end Go.Proofs.Ytfgchdnpbbgmjaa
/- Values as lines, by the specification: TomlPut. -/
namespace Go.Proofs.Ytfgchdnpbbgmjaa
open Go.RowKit
/-- an answer that is a text and a truth -/
abbrev pairV (p : ByteArray × Bool) : Value := .tuple #[.string p.1, .bool p.2]
set_option maxRecDepth 100000 in
set_option maxHeartbeats 1000000 in
theorem sTomlPut_any (hd : Hd) (a : Option Addr) (c : Nat) (F : Vo) (w : World) (hF : F.size ≤ 1048576) (hin : F.In w a) (hl : F.len ≤ c) (hc : c ≤ maxLen) (hh : hd.In w) :
    Calls Try.prog 8 #[valV hd a F.len c] w fun r w' => r = .returned (pairV (tput hd F)) ∧ Below w.heap.size w w' := by
  obtain ⟨wp, hwp⟩ : ∃ wp, wp = w.alloc (.cells #[.int .i64 hd.k, .int .i64 hd.m, .int .i64 hd.e, .string hd.t, .slice a F.len c, .slice hd.na hd.ns.length hd.nc] 28) := ⟨_, rfl⟩
  have hBp : Below w.heap.size w wp := by subst hwp; exact (Below.refl _ w).alloc (Nat.le_refl _) _
  have hA : BxV w.heap.size hd (.slice a F.len c) wp := by subst hwp; exact BxV.new w hd _ _
  have hX1 : Hid (∀ W, Below wp.heap.size wp W → BxV w.heap.size hd (.slice a F.len c) W) := fun W hW => hA.below hW
  have HI : Hid (∀ W, Below wp.heap.size wp W → (F.In W a ∧ hd.In W) ∧ Below w.heap.size w W) := fun W hW => by
    have hb := hBp.trans (hW.mono hBp.size)
    exact ⟨⟨hin.grow hb, hh.grow hb⟩, hb⟩
  have HW := hideIt hwp
  have hB0 := Below.refl wp.heap.size wp
  clear hwp hA hin hh hBp
  go_enter Try.func8, Try.ntmps8
  go_wp2_with fail
  rw [← HW.out]
  clear HW
  refine (sValueOk_any hd a c F _ (by omega) (HI.out _ hB0).1.1 hl hc (HI.out _ hB0).1.2).mono ?_
  rintro r w1 ⟨⟨q1, rfl, hq1⟩, hb1⟩
  have HQ1 := hideIt hq1
  clear hq1
  obtain ⟨x0, x1, x2, x3, x4, x5⟩ := hX1.out _ hb1
  cases q1
  · have HR : Hid (tput hd F = (⟨#[]⟩, false)) := tput_no (fun x => by have := HQ1.out.2 x.1; cases this)
    have hbb := (HI.out _ hb1).2
    go_wp2_with fail
    exact bodyPost_ret (v := pairV (⟨#[]⟩, false)) (by simp [results, Try.results8, go_sem]) rfl ⟨by rw [HR.out], hbb⟩
  · have hv : ValOk hd F := by have q := HQ1.out; simpa using q
    have HV := hideIt hv
    have hs2 : F.size + 1 ≤ 200 := hv.1
    clear HQ1 hv
    go_wp2_with fail
    refine (l12Fits_any 300 hd a c F _ (by omega) (by omega) (HI.out _ hb1).1.1 hl hc (HI.out _ hb1).1.2).mono ?_
    rintro r w2 ⟨⟨q2, rfl, hq2⟩, hb2⟩
    have HQ2 := hideIt hq2
    have hB2 := hb1.trans (hb2.mono hb1.size)
    clear hq2 x0 x1 x2 x3 x4 x5 hb2
    obtain ⟨x0, x1, x2, x3, x4, x5⟩ := hX1.out _ hB2
    cases q2
    · have HR : Hid (tput hd F = (⟨#[]⟩, false)) := tput_no (fun x => by have := HQ2.out.2 x.2; cases this)
      have hbb := (HI.out _ hB2).2
      go_wp2_with fail
      exact bodyPost_ret (v := pairV (⟨#[]⟩, false)) (by simp [results, Try.results8, go_sem]) rfl ⟨by rw [HR.out], hbb⟩
    · have hf : fitsV hd F := by have q := HQ2.out; simpa using q
      have HR : Hid (tput hd F = (⟨(ttext 200 hd F []).toArray⟩, true)) := tput_ok ⟨HV.out, hf⟩
      have HF := hideIt hf
      clear HQ2 hf
      go_wp2_with fail
      refine (l12Toml_all 200 hd a c F ⟨#[]⟩ _ (by omega) (by omega) (by show 0 + 13 * 200 ≤ 3000; omega) HF.out.1 ⟨HV.out.2.2.1, HV.out.2.2.2⟩ (HI.out _ hB2).1.1 hl hc (HI.out _ hB2).1.2).mono ?_
      rintro r w3 ⟨rfl, hb3⟩
      have hbb := (HI.out _ (hB2.trans (hb3.mono hB2.size))).2
      clear x0 x1 x2 x3 x4 x5
      go_wp2_with fail
      exact bodyPost_ret (v := pairV (⟨(ttext 200 hd F []).toArray⟩, true)) (by simp [results, Try.results8, go_sem]) rfl ⟨by rw [HR.out], hbb⟩
end Go.Proofs.Ytfgchdnpbbgmjaa
