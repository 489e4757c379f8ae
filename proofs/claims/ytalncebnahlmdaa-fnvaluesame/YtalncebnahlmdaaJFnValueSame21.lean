/- My own texts, joined: LFnValueSame. -/
import Derived.Test.YtalncebnahlmdaaJFnValueSame20
import Derived.Test.YtalncebnahlmdaaJFnValueSame7
/- The law FnValueSame walked. -/
namespace Go.Proofs.Ytalncebnahlmdaa
open Go.RowKit
attribute [local go_sem] cell_alloc_is frozen_alloc_is
theorem alike_reflV : ∀ F : Vo, F.alike F := by
  intro F
  induction F with
  | nil => trivial
  | cons h a c kids next ih1 ih2 => exact ⟨Hd.same_refl h, ih1, ih2⟩
theorem says_eq {p : Prop} {q r : Bool} (h : q = true ↔ p) (g : r = true ↔ p) : q = r := by
  have := h.trans g.symm
  cases q <;> cases r <;> simp_all
theorem jput_same {h g : Hd} {F G : Vo} (x : ValOk h F) (y : ValOk g G) : ((jput h F).toList == (jput g G).toList) = true ↔ h.same g ∧ F.alike G := by
  rw [jput_ok x, jput_ok y]
  constructor
  · intro e
    have e1 : jtext [] [] 200 h F [] = jtext [] [] 200 g G [] := by simpa using e
    have dF := x.2.1
    have dG := y.2.1
    exact (jtext_cut 200 (r := []) (s := []) (ok_fit x) (ok_fit y) (by omega) (by omega) (fun c t e => by cases e) (fun c t e => by cases e) (by rw [e1])).1
  · rintro ⟨a, b⟩
    rw [jtext_alike [] [] 200 [] a b]
    simp
theorem vcmp_same {h g : Hd} {F G : Vo} (x : ValOk h F) (y : ValOk g G) : (vcmp h F g G == 0) = true ↔ h.same g ∧ F.alike G := by
  rw [vcmp_ok x y]
  constructor
  · intro e
    have dF := x.2.1
    exact vord_zero 200 (by omega) (ok_fit x) (ok_fit y) (by simpa using e)
  · rintro ⟨a, b⟩
    rw [vord_alike 200 a b (Hd.same_refl g) (alike_reflV G)]
    have := vord_swap 200 g G g G
    simp
    omega
theorem sameS {B B' M M' : Nat} {W : World} {h g : Hd} {a a2 : Option Addr} {c c2 : Nat} {F G : Vo} (x : AnyS B M W h a c F) (y : AnyS B' M' W g a2 c2 G) (hM : M ≤ 1000) :
    Calls Try.prog 13 #[valV h a F.len c, valV g a2 G.len c2] W fun r w' => SaysT (same2V (⟨h, a, F, c⟩, ⟨g, a2, G, c2⟩)) r ∧ Below W.heap.size W w' := by
  obtain ⟨i1, i2, i3⟩ := Vo.kin_one.1 x.1.1
  obtain ⟨j1, j2, j3⟩ := Vo.kin_one.1 y.1.1
  have := x.2.2.1.1
  exact iValueSame_any ⟨h, a, F, c⟩ ⟨g, a2, G, c2⟩ W i1 j1 (by show F.size ≤ 1100000; omega) ⟨x.1.2.1, x.1.2.2.1⟩ ⟨y.1.2.1, y.1.2.2.1⟩ i3 j3
theorem sSameS {B B' M M' : Nat} {W : World} {h g : Hd} {a a2 : Option Addr} {c c2 : Nat} {F G : Vo} (x : AnyS B M W h a c F) (y : AnyS B' M' W g a2 c2 G) (hM : M ≤ 1000) :
    Calls Try.prog 14 #[valV h a F.len c, valV g a2 G.len c2] W fun r w' => SaysT (same2V (⟨h, a, F, c⟩, ⟨g, a2, G, c2⟩)) r ∧ Below W.heap.size W w' := by
  obtain ⟨i1, i2, i3⟩ := Vo.kin_one.1 x.1.1
  obtain ⟨j1, j2, j3⟩ := Vo.kin_one.1 y.1.1
  have := x.2.2.1.1
  exact sValueSame_any (F.size + 1) ⟨h, a, F, c⟩ ⟨g, a2, G, c2⟩ W (Nat.lt_succ_self _) (by omega) i1 j1 i3 j3
theorem sOkS {B M : Nat} {W : World} {h : Hd} {a : Option Addr} {c : Nat} {F : Vo} (x : AnyS B M W h a c F) (hM : M ≤ 1000) :
    Calls Try.prog 9 #[valV h a F.len c] W fun r w' => (∃ ok, r = .returned (.bool ok) ∧ (ok = true ↔ ValOk h F)) ∧ Below W.heap.size W w' := by
  obtain ⟨i1, i2, i3⟩ := Vo.kin_one.1 x.1.1
  have := x.2.2.1.1
  exact sValueOk_any h a c F W (by omega) i1 i2.1 i2.2 i3
set_option maxRecDepth 100000 in
set_option maxHeartbeats 2000000 in
theorem walk_FnValueSame (a : Option Addr) (len cap : Nat) (zs : List Int) (w : World) (hz : IsRow .u8 w a len cap zs) :
    Calls Try.prog 4 #[.slice a len cap] w fun e w' => e = .returned (.bool true) ∧ Below w.heap.size w w' := by
  have hc := codeIn_of hz
  clear hz
  have hm : cap ≤ maxLen := hc.2.2.1
  have hlc : len ≤ cap := hc.2.1
  unfold maxLen at hm
  by_cases hlen : len ≤ 1048576
  · go_enter Try.func4, Try.ntmps4
    go_wp2_with fail
    refine (drawValueSame_any w a len cap hc).mono ?_
    rintro e w1 ⟨⟨hA, FA, aa, ca, hB, FB, ab, cb, rfl, SA, SB⟩, hb1⟩
    clear hc
    have hbX : Below w1.heap.size w1 ((w1.alloc (.cells #[.int .i64 hA.k, .int .i64 hA.m, .int .i64 hA.e, .string hA.t, .slice aa FA.len ca, .slice hA.na hA.ns.length hA.nc] 28)).alloc (.cells #[.int .i64 hB.k, .int .i64 hB.m, .int .i64 hB.e, .string hB.t, .slice ab FB.len cb, .slice hB.na hB.ns.length hB.nc] 28)) := by exact (by (repeat' (first | assumption | exact Below.refl _ _ | refine Below.alloc ?_ ?_ _ | refine Below.setCell ?_ ?_ _ | refine Below.drew ?_ | refine below_drewN ?_ _)) <;> (first | omega | (simp <;> omega)))
    have X : Row ((w1.alloc (.cells #[.int .i64 hA.k, .int .i64 hA.m, .int .i64 hA.e, .string hA.t, .slice aa FA.len ca, .slice hA.na hA.ns.length hA.nc] 28)).alloc (.cells #[.int .i64 hB.k, .int .i64 hB.m, .int .i64 hB.e, .string hB.t, .slice ab FB.len cb, .slice hB.na hB.ns.length hB.nc] 28)) w1.heap.size (six hA aa FA.len ca) := (Row.new w1 _ _).below ((Below.refl _ _).alloc (Nat.le_refl _) _) (by simp)
    have Y : Row ((w1.alloc (.cells #[.int .i64 hA.k, .int .i64 hA.m, .int .i64 hA.e, .string hA.t, .slice aa FA.len ca, .slice hA.na hA.ns.length hA.nc] 28)).alloc (.cells #[.int .i64 hB.k, .int .i64 hB.m, .int .i64 hB.e, .string hB.t, .slice ab FB.len cb, .slice hB.na hB.ns.length hB.nc] 28)) (w1.heap.size + 1) (six hB ab FB.len cb) := by
      have := Row.new (w1.alloc (.cells #[.int .i64 hA.k, .int .i64 hA.m, .int .i64 hA.e, .string hA.t, .slice aa FA.len ca, .slice hA.na hA.ns.length hA.nc] 28)) (six hB ab FB.len cb) 28
      rw [World.size_alloc] at this
      exact this
    go_wp2_with fail
    obtain ⟨w2, hw2⟩ : ∃ w2, ((w1.alloc (.cells #[.int .i64 hA.k, .int .i64 hA.m, .int .i64 hA.e, .string hA.t, .slice aa FA.len ca, .slice hA.na hA.ns.length hA.nc] 28)).alloc (.cells #[.int .i64 hB.k, .int .i64 hB.m, .int .i64 hB.e, .string hB.t, .slice ab FB.len cb, .slice hB.na hB.ns.length hB.nc] 28)) = w2 := ⟨_, rfl⟩
    rw [hw2] at hbX X Y ⊢
    clear hw2
    have SA2 := SA.below hbX
    have SB2 := SB.below hbX
    have hB2 := hb1.trans (hbX.mono hb1.size)
    clear SA SB hbX hb1
    obtain ⟨va, hva⟩ : ∃ va, w1.heap.size = va := ⟨_, rfl⟩
    rw [hva] at X Y ⊢
    clear hva
    have HX : Hid (∀ W, Below w2.heap.size w2 W → Row W va (six hA aa FA.len ca) ∧ Row W (va + 1) (six hB ab FB.len cb)) := fun W h => ⟨X.below h X.lt, Y.below h Y.lt⟩
    have HS : Hid (∀ W, Below w2.heap.size w2 W → AnyS w.heap.size 1000 W hA aa ca FA ∧ AnyS w.heap.size 1000 W hB ab cb FB) := fun W h => ⟨SA2.below h, SB2.below h⟩
    have HB : Hid (∀ W, Below w2.heap.size w2 W → Below w.heap.size w W) := fun W h => hB2.trans (h.mono hB2.size)
    have hq := Below.refl w2.heap.size w2
    clear X Y SA2 SB2 hB2
    refine (sameS (HS.out _ hq).1 (HS.out _ hq).2 (Nat.le_refl _)).mono ?_
    rintro r w3 ⟨⟨sm, rfl, hsm⟩, hb⟩
    have hq' := hq.trans (hb.mono hq.size)
    clear hq hb
    have hq := hq'
    clear hq'
    obtain ⟨hX, hY⟩ := HX.out _ hq
    have x0 := (hX 0 _ rfl).1
    have x1 := (hX 1 _ rfl).1
    have x2 := (hX 2 _ rfl).1
    have x3 := (hX 3 _ rfl).1
    have x4 := (hX 4 _ rfl).1
    have x5 := (hX 5 _ rfl).1
    have y0 := (hY 0 _ rfl).1
    have y1 := (hY 1 _ rfl).1
    have y2 := (hY 2 _ rfl).1
    have y3 := (hY 3 _ rfl).1
    have y4 := (hY 4 _ rfl).1
    have y5 := (hY 5 _ rfl).1
    clear hX hY
    have HSM : Hid (sm = true ↔ (hA.same hB ∧ FA.alike FB)) := hsm
    clear hsm
    go_wp2_with fail
    refine (sSameS (HS.out _ hq).1 (HS.out _ hq).2 (Nat.le_refl _)).mono ?_
    rintro r w4 ⟨⟨s2, rfl, h2⟩, hb⟩
    have hq' := hq.trans (hb.mono hq.size)
    clear hq hb
    have hq := hq'
    clear hq'
    obtain rfl := says_eq HSM.out h2
    clear h2
    have hne : (sm != sm) = false := by cases sm <;> rfl
    clear x0 y0 x1 y1 x2 y2 x3 y3 x4 y4 x5 y5
    obtain ⟨hX, hY⟩ := HX.out _ hq
    have x0 := (hX 0 _ rfl).1
    have x1 := (hX 1 _ rfl).1
    have x2 := (hX 2 _ rfl).1
    have x3 := (hX 3 _ rfl).1
    have x4 := (hX 4 _ rfl).1
    have x5 := (hX 5 _ rfl).1
    have y0 := (hY 0 _ rfl).1
    have y1 := (hY 1 _ rfl).1
    have y2 := (hY 2 _ rfl).1
    have y3 := (hY 3 _ rfl).1
    have y4 := (hY 4 _ rfl).1
    have y5 := (hY 5 _ rfl).1
    clear hX hY
    go_wp2_with fail
    refine (sameS (HS.out _ hq).2 (HS.out _ hq).1 (Nat.le_refl _)).mono ?_
    rintro r w5 ⟨⟨s3, rfl, h3⟩, hb⟩
    have hq' := hq.trans (hb.mono hq.size)
    clear hq hb
    have hq := hq'
    clear hq'
    obtain rfl := says_eq HSM.out (h3.trans ⟨fun x => ⟨Hd.same_symm x.1, Vo.alike_sym x.2⟩, fun x => ⟨Hd.same_symm x.1, Vo.alike_sym x.2⟩⟩)
    clear h3
    clear x0 y0 x1 y1 x2 y2 x3 y3 x4 y4 x5 y5
    obtain ⟨hX, hY⟩ := HX.out _ hq
    have x0 := (hX 0 _ rfl).1
    have x1 := (hX 1 _ rfl).1
    have x2 := (hX 2 _ rfl).1
    have x3 := (hX 3 _ rfl).1
    have x4 := (hX 4 _ rfl).1
    have x5 := (hX 5 _ rfl).1
    have y0 := (hY 0 _ rfl).1
    have y1 := (hY 1 _ rfl).1
    have y2 := (hY 2 _ rfl).1
    have y3 := (hY 3 _ rfl).1
    have y4 := (hY 4 _ rfl).1
    have y5 := (hY 5 _ rfl).1
    clear hX hY
    go_wp2_with fail
    refine (sameS (HS.out _ hq).1 (HS.out _ hq).1 (Nat.le_refl _)).mono ?_
    rintro r w6 ⟨⟨s4, rfl, h4⟩, hb⟩
    have hq' := hq.trans (hb.mono hq.size)
    clear hq hb
    have hq := hq'
    clear hq'
    have h5 : s4 = true := h4.2 ⟨Hd.same_refl _, alike_reflV _⟩
    subst h5
    clear h4
    clear x0 y0 x1 y1 x2 y2 x3 y3 x4 y4 x5 y5
    obtain ⟨hX, hY⟩ := HX.out _ hq
    have x0 := (hX 0 _ rfl).1
    have x1 := (hX 1 _ rfl).1
    have x2 := (hX 2 _ rfl).1
    have x3 := (hX 3 _ rfl).1
    have x4 := (hX 4 _ rfl).1
    have x5 := (hX 5 _ rfl).1
    have y0 := (hY 0 _ rfl).1
    have y1 := (hY 1 _ rfl).1
    have y2 := (hY 2 _ rfl).1
    have y3 := (hY 3 _ rfl).1
    have y4 := (hY 4 _ rfl).1
    have y5 := (hY 5 _ rfl).1
    clear hX hY
    go_wp2_with fail
    refine (sOkS (HS.out _ hq).1 (Nat.le_refl _)).mono ?_
    rintro r w7 ⟨⟨okA, rfl, hokA⟩, hb⟩
    have hq' := hq.trans (hb.mono hq.size)
    clear hq hb
    have hq := hq'
    clear hq'
    clear x0 y0 x1 y1 x2 y2 x3 y3 x4 y4 x5 y5
    obtain ⟨hX, hY⟩ := HX.out _ hq
    have x0 := (hX 0 _ rfl).1
    have x1 := (hX 1 _ rfl).1
    have x2 := (hX 2 _ rfl).1
    have x3 := (hX 3 _ rfl).1
    have x4 := (hX 4 _ rfl).1
    have x5 := (hX 5 _ rfl).1
    have y0 := (hY 0 _ rfl).1
    have y1 := (hY 1 _ rfl).1
    have y2 := (hY 2 _ rfl).1
    have y3 := (hY 3 _ rfl).1
    have y4 := (hY 4 _ rfl).1
    have y5 := (hY 5 _ rfl).1
    clear hX hY
    cases okA
    · go_wp2_with fail
      all_goals
        go_ret
        exact ⟨rfl, HB.out _ hq⟩
    go_wp2_with fail
    refine (sOkS (HS.out _ hq).2 (Nat.le_refl _)).mono ?_
    rintro r w8 ⟨⟨okB, rfl, hokB⟩, hb⟩
    have hq' := hq.trans (hb.mono hq.size)
    clear hq hb
    have hq := hq'
    clear hq'
    clear x0 y0 x1 y1 x2 y2 x3 y3 x4 y4 x5 y5
    obtain ⟨hX, hY⟩ := HX.out _ hq
    have x0 := (hX 0 _ rfl).1
    have x1 := (hX 1 _ rfl).1
    have x2 := (hX 2 _ rfl).1
    have x3 := (hX 3 _ rfl).1
    have x4 := (hX 4 _ rfl).1
    have x5 := (hX 5 _ rfl).1
    have y0 := (hY 0 _ rfl).1
    have y1 := (hY 1 _ rfl).1
    have y2 := (hY 2 _ rfl).1
    have y3 := (hY 3 _ rfl).1
    have y4 := (hY 4 _ rfl).1
    have y5 := (hY 5 _ rfl).1
    clear hX hY
    cases okB
    · go_wp2_with fail
      all_goals
        go_ret
        exact ⟨rfl, HB.out _ hq⟩
    have vA := hokA.1 (by trivial)
    have vB := hokB.1 (by trivial)
    have HJ : Hid (((jput hA FA).toList == (jput hB FB).toList) = sm) := says_eq (jput_same vA vB) HSM.out
    have HN : Hid ((vcmp hA FA hB FB == 0) = sm) := says_eq (vcmp_same vA vB) HSM.out
    clear hokA hokB vA vB hne
    go_wp2_with fail
    clear x0 y0 x1 y1 x2 y2 x3 y3 x4 y4 x5 y5
    refine vs9 (HS.out _ hq).1 (HS.out _ hq).2 (HX.out _ hq).1 (HX.out _ hq).2 HJ.out HN.out (fun _ d _ _ _ h => by cases d <;> exact h) ?_
    intro ws v43 v44 v45 v46 v47 v48 v49 v50 v51 v52 v53 v54 v55 v56 v57 hbz
    have hq' := hq.trans (hbz.mono hq.size)
    go_wp2_with fail
    go_ret
    exact ⟨rfl, HB.out _ hq'⟩
  · have h1 : ¬ (len : Int) ≤ 1048576 := by omega
    go_enter Try.func4, Try.ntmps4
    go_wp2
    go_ret
    exact ⟨rfl, Below.refl _ _⟩
end Go.Proofs.Ytalncebnahlmdaa
