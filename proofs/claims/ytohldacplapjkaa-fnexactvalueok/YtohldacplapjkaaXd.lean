/- Values that are ok: whether a value fits, by the program. -/
import Derived.Test.YtohldacplapjkaaXc
import Derived.Test.YtohldacplapjkaaOkA
namespace Go.Proofs.Ytohldacplapjkaa
open Go.RowKit
/-- a value has just what its kind has; so many values are right in it -/
def one (h : Hd) (n : Nat) : Prop :=
  ((h.k = 0 ∨ h.k = 1 ∨ h.k = 2) ∧ ((h.m = 0 ∧ h.e = 0 ∧ h.t = ⟨#[]⟩) ∧ h.ns = []) ∧ n = 0) ∨
  (h.k = 3 ∧ Dm.ok h.m h.e = true ∧ (h.t = ⟨#[]⟩ ∧ h.ns = []) ∧ n = 0) ∨
  (h.k = 4 ∧ h.t.size ≤ 1500 ∧ (h.m = 0 ∧ h.e = 0 ∧ h.ns = []) ∧ n = 0) ∨
  (h.k = 5 ∧ (h.m = 0 ∧ h.e = 0 ∧ h.t = ⟨#[]⟩) ∧ h.ns = []) ∨
  (h.k = 6 ∧ (h.ns.length = n ∧ nmAsc h.ns h.ns.length) ∧ h.m = 0 ∧ h.e = 0 ∧ h.t = ⟨#[]⟩)
set_option maxHeartbeats 1000000 in
theorem sort_0 (h : Hd) (a : Option Addr) (n c : Nat) (w : World) (hk : h.k = 0) :
    Calls Try.prog 32 #[valV h a n c] w fun r w' => r = .returned (.iface 81 (.agg #[])) ∧ Below w.heap.size w w' := by
  obtain ⟨k, m, e, t, na, nc, ns⟩ := h
  dsimp only at hk
  subst hk
  go_enter Try.func32, Try.ntmps32
  go_wp2_with fail
  go_ret
  exact ⟨rfl, (Below.refl _ w).alloc (Nat.le_refl _) _⟩
set_option maxHeartbeats 1000000 in
theorem sort_1 (h : Hd) (a : Option Addr) (n c : Nat) (w : World) (hk : h.k = 1) :
    Calls Try.prog 32 #[valV h a n c] w fun r w' => r = .returned (.iface 82 (.bool true)) ∧ Below w.heap.size w w' := by
  obtain ⟨k, m, e, t, na, nc, ns⟩ := h
  dsimp only at hk
  subst hk
  go_enter Try.func32, Try.ntmps32
  go_wp2_with fail
  go_ret
  exact ⟨rfl, (Below.refl _ w).alloc (Nat.le_refl _) _⟩
set_option maxHeartbeats 1000000 in
theorem sort_2 (h : Hd) (a : Option Addr) (n c : Nat) (w : World) (hk : h.k = 2) :
    Calls Try.prog 32 #[valV h a n c] w fun r w' => r = .returned (.iface 82 (.bool false)) ∧ Below w.heap.size w w' := by
  obtain ⟨k, m, e, t, na, nc, ns⟩ := h
  dsimp only at hk
  subst hk
  go_enter Try.func32, Try.ntmps32
  go_wp2_with fail
  go_ret
  exact ⟨rfl, (Below.refl _ w).alloc (Nat.le_refl _) _⟩
set_option maxHeartbeats 1000000 in
theorem sort_3 (h : Hd) (a : Option Addr) (n c : Nat) (w : World) (hk : h.k = 3) :
    Calls Try.prog 32 #[valV h a n c] w fun r w' => r = .returned (.iface 83 (.agg #[.int .i64 h.m, .int .i64 h.e])) ∧ Below w.heap.size w w' := by
  obtain ⟨k, m, e, t, na, nc, ns⟩ := h
  dsimp only at hk
  subst hk
  go_enter Try.func32, Try.ntmps32
  go_wp2_with fail
  go_ret
  exact ⟨rfl, (Below.refl _ w).alloc (Nat.le_refl _) _⟩
set_option maxHeartbeats 1000000 in
theorem sort_4 (h : Hd) (a : Option Addr) (n c : Nat) (w : World) (hk : h.k = 4) :
    Calls Try.prog 32 #[valV h a n c] w fun r w' => r = .returned (.iface 84 (.string h.t)) ∧ Below w.heap.size w w' := by
  obtain ⟨k, m, e, t, na, nc, ns⟩ := h
  dsimp only at hk
  subst hk
  go_enter Try.func32, Try.ntmps32
  go_wp2_with fail
  go_ret
  exact ⟨rfl, (Below.refl _ w).alloc (Nat.le_refl _) _⟩
set_option maxHeartbeats 1000000 in
theorem sort_5 (h : Hd) (a : Option Addr) (n c : Nat) (w : World) (hk : h.k = 5) :
    Calls Try.prog 32 #[valV h a n c] w fun r w' => r = .returned (.iface 85 (.slice a n c)) ∧ Below w.heap.size w w' := by
  obtain ⟨k, m, e, t, na, nc, ns⟩ := h
  dsimp only at hk
  subst hk
  go_enter Try.func32, Try.ntmps32
  go_wp2_with fail
  go_ret
  exact ⟨rfl, (Below.refl _ w).alloc (Nat.le_refl _) _⟩
set_option maxHeartbeats 1000000 in
theorem sort_6 (h : Hd) (a : Option Addr) (n c : Nat) (w : World) (hk : h.k = 6) :
    Calls Try.prog 32 #[valV h a n c] w fun r w' => r = .returned (.iface 87 (.agg #[.slice h.na h.ns.length h.nc, .slice a n c])) ∧ Below w.heap.size w w' := by
  obtain ⟨k, m, e, t, na, nc, ns⟩ := h
  dsimp only at hk
  subst hk
  go_enter Try.func32, Try.ntmps32
  go_wp2_with fail
  go_ret
  exact ⟨rfl, (Below.refl _ w).alloc (Nat.le_refl _) _⟩
set_option maxHeartbeats 1000000 in
theorem sort_no (h : Hd) (a : Option Addr) (n c : Nat) (w : World) (hk : ¬ (0 ≤ h.k ∧ h.k ≤ 6)) :
    Calls Try.prog 32 #[valV h a n c] w fun r w' => r = .returned .nilIface ∧ Below w.heap.size w w' := by
  obtain ⟨k, m, e, t, na, nc, ns⟩ := h
  dsimp only at hk
  have h0 : (k == 0) = false := by simp; omega
  have h1 : (k == 1) = false := by simp; omega
  have h2 : (k == 2) = false := by simp; omega
  have h3 : (k == 3) = false := by simp; omega
  have h4 : (k == 4) = false := by simp; omega
  have h5 : (k == 5) = false := by simp; omega
  have h6 : (k == 6) = false := by simp; omega
  go_enter Try.func32, Try.ntmps32
  go_wp2_with fail
  go_ret
  exact ⟨rfl, (Below.refl _ w).alloc (Nat.le_refl _) _⟩
set_option maxHeartbeats 1000000 in
theorem nullSortValue_any (w : World) :
    Calls Try.prog 68 #[.agg #[]] w fun r w' => r = .returned (valV ⟨0, 0, 0, ⟨#[]⟩, none, 0, []⟩ none 0 0) ∧ Below w.heap.size w w' := by
  go_enter Try.func68, Try.ntmps68
  go_wp2_with fail
  exact bodyPost_ret (v := valV ⟨0, 0, 0, ⟨#[]⟩, none, 0, []⟩ none 0 0) (by simp [results, Try.results68, go_sem]) rfl ⟨rfl, (by (repeat' (first | assumption | exact Below.refl _ _ | refine Below.alloc ?_ ?_ _ | refine Below.setCell ?_ ?_ _ | refine Below.drew ?_ | refine below_drewN ?_ _)) <;> (first | omega | (simp <;> omega)))⟩
set_option maxHeartbeats 1000000 in
theorem truthSortValue_any (q : Bool) (w : World) :
    Calls Try.prog 70 #[.bool q] w fun r w' => r = .returned (valV ⟨if q then 1 else 2, 0, 0, ⟨#[]⟩, none, 0, []⟩ none 0 0) ∧ Below w.heap.size w w' := by
  cases q
  all_goals
    go_enter Try.func70, Try.ntmps70
    go_wp2_with fail
    refine bodyPost_ret (by simp [results, Try.results70, go_sem]) rfl ⟨rfl, (by (repeat' (first | assumption | exact Below.refl _ _ | refine Below.alloc ?_ ?_ _ | refine Below.setCell ?_ ?_ _ | refine Below.drew ?_ | refine below_drewN ?_ _)) <;> (first | omega | (simp <;> omega)))⟩
set_option maxHeartbeats 1000000 in
theorem numSortValue_any (m e : Int) (w : World) :
    Calls Try.prog 72 #[.agg #[.int .i64 m, .int .i64 e]] w fun r w' => r = .returned (valV ⟨3, m, e, ⟨#[]⟩, none, 0, []⟩ none 0 0) ∧ Below w.heap.size w w' := by
  go_enter Try.func72, Try.ntmps72
  go_wp2_with fail
  exact bodyPost_ret (v := valV ⟨3, m, e, ⟨#[]⟩, none, 0, []⟩ none 0 0) (by simp [results, Try.results72, go_sem]) rfl ⟨rfl, (by (repeat' (first | assumption | exact Below.refl _ _ | refine Below.alloc ?_ ?_ _ | refine Below.setCell ?_ ?_ _ | refine Below.drew ?_ | refine below_drewN ?_ _)) <;> (first | omega | (simp <;> omega)))⟩
set_option maxHeartbeats 1000000 in
theorem textSortValue_any (t : ByteArray) (w : World) :
    Calls Try.prog 76 #[.string t] w fun r w' => r = .returned (valV ⟨4, 0, 0, t, none, 0, []⟩ none 0 0) ∧ Below w.heap.size w w' := by
  go_enter Try.func76, Try.ntmps76
  go_wp2_with fail
  exact bodyPost_ret (v := valV ⟨4, 0, 0, t, none, 0, []⟩ none 0 0) (by simp [results, Try.results76, go_sem]) rfl ⟨rfl, (by (repeat' (first | assumption | exact Below.refl _ _ | refine Below.alloc ?_ ?_ _ | refine Below.setCell ?_ ?_ _ | refine Below.drew ?_ | refine below_drewN ?_ _)) <;> (first | omega | (simp <;> omega)))⟩
set_option maxHeartbeats 1000000 in
theorem arraySortValue_any (a : Option Addr) (n c : Nat) (w : World) :
    Calls Try.prog 79 #[.slice a n c] w fun r w' => r = .returned (valV ⟨5, 0, 0, ⟨#[]⟩, none, 0, []⟩ a n c) ∧ Below w.heap.size w w' := by
  go_enter Try.func79, Try.ntmps79
  go_wp2_with fail
  exact bodyPost_ret (v := valV ⟨5, 0, 0, ⟨#[]⟩, none, 0, []⟩ a n c) (by simp [results, Try.results79, go_sem]) rfl ⟨rfl, (by (repeat' (first | assumption | exact Below.refl _ _ | refine Below.alloc ?_ ?_ _ | refine Below.setCell ?_ ?_ _ | refine Below.drew ?_ | refine below_drewN ?_ _)) <;> (first | omega | (simp <;> omega)))⟩
set_option maxHeartbeats 1000000 in
theorem objectSortValue_any (na : Option Addr) (nc : Nat) (ns : List ByteArray) (a : Option Addr) (n c : Nat) (w : World) :
    Calls Try.prog 81 #[.agg #[.slice na ns.length nc, .slice a n c]] w fun r w' => r = .returned (valV ⟨6, 0, 0, ⟨#[]⟩, na, nc, ns⟩ a n c) ∧ Below w.heap.size w w' := by
  go_enter Try.func81, Try.ntmps81
  go_wp2_with fail
  exact bodyPost_ret (v := valV ⟨6, 0, 0, ⟨#[]⟩, na, nc, ns⟩ a n c) (by simp [results, Try.results81, go_sem]) rfl ⟨rfl, (by (repeat' (first | assumption | exact Below.refl _ _ | refine Below.alloc ?_ ?_ _ | refine Below.setCell ?_ ?_ _ | refine Below.drew ?_ | refine below_drewN ?_ _)) <;> (first | omega | (simp <;> omega)))⟩
set_option maxHeartbeats 1000000 in
theorem nullSortFits_any (w : World) :
    Calls Try.prog 67 #[.agg #[]] w fun r w' => (∃ q : Bool, r = .returned (.bool q) ∧ q = true) ∧ Below w.heap.size w w' := by
  go_enter Try.func67, Try.ntmps67
  go_wp2_with fail
  go_ret
  exact ⟨⟨true, rfl, rfl⟩, (by (repeat' (first | assumption | exact Below.refl _ _ | refine Below.alloc ?_ ?_ _ | refine Below.setCell ?_ ?_ _ | refine Below.drew ?_ | refine below_drewN ?_ _)) <;> (first | omega | (simp <;> omega)))⟩
set_option maxHeartbeats 1000000 in
theorem truthSortFits_any (q : Bool) (w : World) :
    Calls Try.prog 69 #[.bool q] w fun r w' => (∃ q : Bool, r = .returned (.bool q) ∧ q = true) ∧ Below w.heap.size w w' := by
  go_enter Try.func69, Try.ntmps69
  go_wp2_with fail
  go_ret
  exact ⟨⟨true, rfl, rfl⟩, (by (repeat' (first | assumption | exact Below.refl _ _ | refine Below.alloc ?_ ?_ _ | refine Below.setCell ?_ ?_ _ | refine Below.drew ?_ | refine below_drewN ?_ _)) <;> (first | omega | (simp <;> omega)))⟩
set_option maxHeartbeats 1000000 in
theorem arraySortFits_any (a : Option Addr) (n c : Nat) (w : World) :
    Calls Try.prog 78 #[.slice a n c] w fun r w' => (∃ q : Bool, r = .returned (.bool q) ∧ q = true) ∧ Below w.heap.size w w' := by
  go_enter Try.func78, Try.ntmps78
  go_wp2_with fail
  go_ret
  exact ⟨⟨true, rfl, rfl⟩, (by (repeat' (first | assumption | exact Below.refl _ _ | refine Below.alloc ?_ ?_ _ | refine Below.setCell ?_ ?_ _ | refine Below.drew ?_ | refine below_drewN ?_ _)) <;> (first | omega | (simp <;> omega)))⟩
set_option maxHeartbeats 1000000 in
theorem numSortFits_any (m e : Int) (w : World) :
    Calls Try.prog 71 #[.agg #[.int .i64 m, .int .i64 e]] w fun r w' => (∃ q : Bool, r = .returned (.bool q) ∧ q = Dm.ok m e) ∧ Below w.heap.size w w' := by
  have hB0 := (Below.refl _ w).alloc (Nat.le_refl _) (.cells #[.int .i64 m, .int .i64 e] 83)
  go_enter Try.func71, Try.ntmps71
  go_wp2_with fail
  refine (iDecOk_any m e _).mono ?_
  rintro r w1 ⟨rfl, hb1⟩
  have hB1 := hB0.trans (hb1.mono hB0.size)
  go_wp2_with fail
  go_ret
  exact ⟨⟨_, rfl, rfl⟩, hB1⟩
set_option maxHeartbeats 1000000 in
theorem textSortFits_any (t : ByteArray) (w : World) (ht : t.size ≤ maxLen) :
    Calls Try.prog 75 #[.string t] w fun r w' => (∃ q : Bool, r = .returned (.bool q) ∧ q = decide (t.size ≤ 1500)) ∧ Below w.heap.size w w' := by
  go_enter Try.func75, Try.ntmps75
  go_wp2_with fail
  refine (shortText_any t w ht).mono ?_
  rintro r w1 ⟨rfl, rfl⟩
  go_wp2_with fail
  go_ret
  exact ⟨⟨_, rfl, rfl⟩, Below.refl _ _⟩
/-- what fits says, of a value of a sort -/
def FitOf (P : Bool → Prop) (s : Bool) (r : Ending) : Prop := ∃ q : Bool, r = .returned (.bool q) ∧ ((P false ∧ q = false) ∨ (P true ∧ q = s))
set_option maxRecDepth 100000 in
set_option maxHeartbeats 1000000 in
theorem fits_of {h g : Hd} {a ga : Option Addr} {n c gn gc T fid vid : Nat} {sv : Value} {P : Bool → Prop} (w : World) (hh : h.In w)
    (hs : ∀ W, Calls Try.prog 32 #[valV h a n c] W fun r w' => r = .returned (.iface T sv) ∧ Below W.heap.size W w')
    (he1 : ∀ args w, (callFunc fid args).run Try.prog w = .ok (.enter fid args) w) (he2 : ∀ args w, (callFunc vid args).run Try.prog w = .ok (.enter vid args) w)
    (hm1 : ∀ W', (method 217 T sv "loop.example/chancery/impl.fits").run Try.prog W' = .ok (fid, sv) W') (hm2 : ∀ W', (method 217 T sv "loop.example/chancery/impl.value").run Try.prog W' = .ok (vid, sv) W')
    (hfits : ∀ W', Below w.heap.size w W' → Calls Try.prog fid #[sv] W' fun r w' => (∃ q : Bool, r = .returned (.bool q) ∧ P q) ∧ Below W'.heap.size W' w')
    (hval : ∀ W', Calls Try.prog vid #[sv] W' fun r w' => r = .returned (valV g ga gn gc) ∧ Below W'.heap.size W' w') (hg : ∀ W', Below w.heap.size w W' → g.In W') :
    Calls Try.prog 23 #[valV h a n c] w fun r w' => FitOf P (headSameV h n g gn) r ∧ Below w.heap.size w w' := by
  have hB0 := (Below.refl _ w).alloc (Nat.le_refl _) (.cells #[.int .i64 h.k, .int .i64 h.m, .int .i64 h.e, .string h.t, .slice a n c, .slice h.na h.ns.length h.nc] 33)
  have X0 := BxV.new w h (.slice a n c) 33
  go_enter Try.func23, Try.ntmps23
  go_wp2_with fail
  refine (hs _).mono ?_
  rintro r w1 ⟨rfl, hb1⟩
  have hB1 := hB0.trans (hb1.mono hB0.size)
  have X1 := X0.below hb1
  clear X0 hB0 hb1 hs
  go_wp2_with fail
  refine ft2 (P := P) (P2 := fun q => q = headSameV h n g gn) X1 he1 he2 hm1 hm2 (fun W' hW => hfits W' (hB1.trans (hW.mono hB1.size))) (fun W' _ => hval W') (fun W' hW => ?_) (fun _ d _ _ _ h => by cases d <;> exact h) ?_
  · have hq := hB1.trans (hW.mono hB1.size)
    refine (sameHeadV_any h g a ga n c gn gc W' (hh.grow hq) (hg W' hq)).mono ?_
    rintro r w' ⟨rfl, hb'⟩
    exact ⟨⟨_, rfl, rfl⟩, hb'⟩
  · intro ws q v6 v7 v8 v9 v10 v11 v12 v13 v14 v15 v16 v17 hq hb2
    have hB2 := hB1.trans (hb2.mono hB1.size)
    have HQ : Hid ((P false ∧ q = false) ∨ (P true ∧ q = headSameV h n g gn)) := hq
    clear hq X1 he1 he2 hm1 hm2 hfits hval hg
    go_wp2_with fail
    go_ret
    exact ⟨⟨q, rfl, HQ.out⟩, hB2⟩
theorem headSame_true {h g : Hd} {n m : Nat} : headSameV h n g m = true ↔ h.same g ∧ n = m := by unfold headSameV; exact decide_eq_true_iff
theorem fitOf_says {P : Bool → Prop} {s : Bool} {p : Prop} (h1 : P false → ¬ p) (h2 : P true → (s = true ↔ p)) {r : Ending} (h : FitOf P s r) : SaysT p r := by
  obtain ⟨q, rfl, h⟩ := h
  rcases h with ⟨a, e⟩ | ⟨a, e⟩
  · rw [e]; exact ⟨false, rfl, fun e => (by cases e), fun e => absurd e (h1 a)⟩
  · rw [e]; exact ⟨s, rfl, h2 a⟩
theorem empty_in (k m e : Int) (t : ByteArray) (ht : t.size ≤ maxLen) (W : World) : Hd.In W ⟨k, m, e, t, none, 0, []⟩ := ⟨.inl rfl, ⟨Nat.le_refl _, by show 0 ≤ maxLen; omega⟩, ht⟩
theorem empty_size : (⟨#[]⟩ : ByteArray).size ≤ maxLen := by show 0 ≤ maxLen; omega
set_option maxRecDepth 100000 in
set_option maxHeartbeats 1000000 in
theorem fits_any (h : Hd) (a : Option Addr) (n c : Nat) (w : World) (hh : h.In w) :
    Calls Try.prog 23 #[valV h a n c] w fun r w' => SaysT (one h n) r ∧ Below w.heap.size w w' := by
  obtain ⟨k, m, e, t, na, nc, ns⟩ := h
  have ht : t.size ≤ maxLen := hh.2.2
  by_cases hk : 0 ≤ k ∧ k ≤ 6
  · have hc : k = 0 ∨ k = 1 ∨ k = 2 ∨ k = 3 ∨ k = 4 ∨ k = 5 ∨ k = 6 := by omega
    clear hk
    rcases hc with rfl | rfl | rfl | rfl | rfl | rfl | rfl
    · refine (fits_of (T := 81) w hh (fun W => sort_0 ⟨0, m, e, t, na, nc, ns⟩ a n c W rfl) (enters_of Try.func67 (by kernel_rfl) rfl) (enters_of Try.func68 (by kernel_rfl) rfl) (fun W' => by kernel_rfl) (fun W' => by kernel_rfl) (fun W' hW => nullSortFits_any W') (fun W' => nullSortValue_any W') (fun W' hW => empty_in _ _ _ _ empty_size W')).mono ?_
      rintro r w' ⟨hr, hb⟩
      exact ⟨fitOf_says (fun q => (by cases q)) (fun _ => by rw [headSame_true]; simp [one, Hd.same, and_assoc]) hr, hb⟩
    · refine (fits_of (T := 82) w hh (fun W => sort_1 ⟨1, m, e, t, na, nc, ns⟩ a n c W rfl) (enters_of Try.func69 (by kernel_rfl) rfl) (enters_of Try.func70 (by kernel_rfl) rfl) (fun W' => by kernel_rfl) (fun W' => by kernel_rfl) (fun W' hW => truthSortFits_any true W') (fun W' => truthSortValue_any true W') (fun W' hW => empty_in _ _ _ _ empty_size W')).mono ?_
      rintro r w' ⟨hr, hb⟩
      exact ⟨fitOf_says (fun q => (by cases q)) (fun _ => by rw [headSame_true]; simp [one, Hd.same, and_assoc]) hr, hb⟩
    · refine (fits_of (T := 82) w hh (fun W => sort_2 ⟨2, m, e, t, na, nc, ns⟩ a n c W rfl) (enters_of Try.func69 (by kernel_rfl) rfl) (enters_of Try.func70 (by kernel_rfl) rfl) (fun W' => by kernel_rfl) (fun W' => by kernel_rfl) (fun W' hW => truthSortFits_any false W') (fun W' => truthSortValue_any false W') (fun W' hW => empty_in _ _ _ _ empty_size W')).mono ?_
      rintro r w' ⟨hr, hb⟩
      exact ⟨fitOf_says (fun q => (by cases q)) (fun _ => by rw [headSame_true]; simp [one, Hd.same, and_assoc]) hr, hb⟩
    · refine (fits_of (T := 83) w hh (fun W => sort_3 ⟨3, m, e, t, na, nc, ns⟩ a n c W rfl) (enters_of Try.func71 (by kernel_rfl) rfl) (enters_of Try.func72 (by kernel_rfl) rfl) (fun W' => by kernel_rfl) (fun W' => by kernel_rfl) (fun W' hW => numSortFits_any m e W') (fun W' => numSortValue_any m e W') (fun W' hW => empty_in _ _ _ _ empty_size W')).mono ?_
      rintro r w' ⟨hr, hb⟩
      exact ⟨fitOf_says (fun q => by simp [one, ← q]) (fun q => by rw [headSame_true]; simp [one, Hd.same, and_assoc, ← q]) hr, hb⟩
    · refine (fits_of (T := 84) w hh (fun W => sort_4 ⟨4, m, e, t, na, nc, ns⟩ a n c W rfl) (enters_of Try.func75 (by kernel_rfl) rfl) (enters_of Try.func76 (by kernel_rfl) rfl) (fun W' => by kernel_rfl) (fun W' => by kernel_rfl) (fun W' hW => textSortFits_any t W' ht) (fun W' => textSortValue_any t W') (fun W' hW => empty_in _ _ _ _ ht W')).mono ?_
      rintro r w' ⟨hr, hb⟩
      exact ⟨fitOf_says (fun q => by have := of_decide_eq_false q.symm; simp [one]; intro x; omega) (fun q => by have := of_decide_eq_true q.symm; rw [headSame_true]; simp [one, Hd.same, and_assoc, this]) hr, hb⟩
    · refine (fits_of (T := 85) w hh (fun W => sort_5 ⟨5, m, e, t, na, nc, ns⟩ a n c W rfl) (enters_of Try.func78 (by kernel_rfl) rfl) (enters_of Try.func79 (by kernel_rfl) rfl) (fun W' => by kernel_rfl) (fun W' => by kernel_rfl) (fun W' hW => arraySortFits_any a n c W') (fun W' => arraySortValue_any a n c W') (fun W' hW => empty_in _ _ _ _ empty_size W')).mono ?_
      rintro r w' ⟨hr, hb⟩
      exact ⟨fitOf_says (fun q => (by cases q)) (fun _ => by rw [headSame_true]; simp [one, Hd.same, and_assoc]) hr, hb⟩
    · refine (fits_of (T := 87) w hh (fun W => sort_6 ⟨6, m, e, t, na, nc, ns⟩ a n c W rfl) (enters_of Try.func80 (by kernel_rfl) rfl) (enters_of Try.func81 (by kernel_rfl) rfl) (fun W' => by kernel_rfl) (fun W' => by kernel_rfl) (fun W' hW => objFits_any ns na nc a n c W' (hh.1.grow hW) hh.2.1.1 hh.2.1.2) (fun W' => objectSortValue_any na nc ns a n c W') (fun W' hW => ⟨hh.1.grow hW, hh.2.1, empty_size⟩)).mono ?_
      rintro r w' ⟨hr, hb⟩
      exact ⟨fitOf_says (fun q => by simp only [Bool.false_eq_true, false_iff] at q; simp [one]; intro x y; exact absurd ⟨x, y⟩ q) (fun q => by have hq := q.1 rfl; rw [headSame_true]; simp [one, Hd.same, and_assoc, hq.1]; intro _ _ _; have h2 := hq.2; rwa [hq.1] at h2) hr, hb⟩
  · have hno : ¬ one ⟨k, m, e, t, na, nc, ns⟩ n := by
      unfold one
      dsimp only
      intro h
      rcases h with ⟨h, _⟩ | ⟨h, _⟩ | ⟨h, _⟩ | ⟨h, _⟩ | ⟨h, _⟩ <;> omega
    have hB0 := (Below.refl _ w).alloc (Nat.le_refl _) (.cells #[.int .i64 k, .int .i64 m, .int .i64 e, .string t, .slice a n c, .slice na ns.length nc] 33)
    have HNO : Hid (¬ one ⟨k, m, e, t, na, nc, ns⟩ n) := hno
    clear hno
    go_enter Try.func23, Try.ntmps23
    go_wp2_with fail
    refine (sort_no ⟨k, m, e, t, na, nc, ns⟩ a n c _ hk).mono ?_
    rintro r w1 ⟨rfl, hb1⟩
    have hB1 := hB0.trans (hb1.mono hB0.size)
    go_wp2_with fail
    refine ft2n (fun _ d _ _ _ h => by cases d <;> exact h) ?_
    intro ws v6 v7 v8 v9 v10 v11 v12 v13 v14 v15 v16 v17 hb2
    have hB2 := hB1.trans (hb2.mono hB1.size)
    go_wp2_with fail
    go_ret
    exact ⟨⟨false, rfl, fun h => (by cases h), fun h => absurd h HNO.out⟩, hB2⟩
end Go.Proofs.Ytohldacplapjkaa
