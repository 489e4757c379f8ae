/- Two values that are the same, by the program: keys that are places of lists of values; heads that are the same. -/
import Derived.Test.YtohldacplapjkaaVf
import Derived.Test.YtohldacplapjkaaSh
import Derived.Test.YtohldacplapjkaaKr
namespace Go.Proofs.Ytohldacplapjkaa
open Go.RowKit
theorem eq_ptrV (w : World) (d : Nat) (x y : Option Addr) (hx : PlOk w (x, 0)) (hy : PlOk w (y, 0)) :
    (Op.equalIn (d + 1) 64 (.pointer x) (.pointer y)).run Try.prog w = .ok (decide (x = y)) w := by
  cases x with
  | none => cases y <;> simp [Op.equalIn, run_underlying Try.underlying64]
  | some a =>
    cases y with
    | none => simp [Op.equalIn, run_underlying Try.underlying64]
    | some b =>
      rcases hx with hx | ⟨a', ca, ta, hx, ha⟩
      · cases hx
      cases hx
      rcases hy with hy | ⟨b', cb, tb, hy, hb⟩
      · cases hy
      cases hy
      obtain ⟨i, hi, hzz⟩ := Option.map_eq_some_iff.1 valInfo
      simp only [Prod.mk.injEq] at hzz
      have hs : i.size ≠ 0 := by rw [hzz.2.1]; decide
      by_cases hab : a = b
      · subst hab
        simp [Op.equalIn, run_underlying Try.underlying64, sizeOf, typeInfo, hi, run_sameAddr_same]
      · simp [Op.equalIn, run_underlying Try.underlying64, sizeOf, typeInfo, hi, hs, run_sameAddr_other w hab ha hb, hab]
set_option maxRecDepth 100000 in
theorem eq_placeV (w : World) (d : Nat) (p q : Pl) (hp : PlOk w p) (hq : PlOk w q) :
    (Op.equalIn (d + 2) 66 (plV p) (plV q)).run Try.prog w = .ok (decide (p = q)) w := by
  obtain ⟨x, n⟩ := p
  obtain ⟨y, m⟩ := q
  have h1 := eq_ptrV w d x y hp hq
  unfold plV
  simp [go_sem, h1]
  by_cases e1 : x = y <;> by_cases e2 : n = m <;> simp [e1, e2]
  all_goals (intro h; omega)
set_option maxRecDepth 100000 in
theorem eq_place2V (w : World) (d : Nat) (p q : Pl2) (hp : PlOk w p.1 ∧ PlOk w p.2) (hq : PlOk w q.1 ∧ PlOk w q.2) :
    (Op.equalIn (d + 3) 70 (pl2V p) (pl2V q)).run Try.prog w = .ok (decide (p = q)) w := by
  obtain ⟨⟨x, n⟩, y, m⟩ := p
  obtain ⟨⟨x', n'⟩, y', m'⟩ := q
  have h1 := eq_ptrV w d x x' hp.1 hq.1
  have h2 := eq_ptrV w d y y' hp.2 hq.2
  unfold pl2V
  simp [go_sem, h1, h2]
  by_cases e1 : x = x' <;> by_cases e2 : n = n' <;> by_cases e3 : y = y' <;> by_cases e4 : m = m' <;> simp [e1, e2, e3, e4, Int.ofNat_inj]
theorem check_placeV (w : World) (em : Bool) (x : Pl) : (Instr.checkKey em 10000 66 (plV x)).run Try.prog w = .ok () w := by kernel_rfl
theorem check_place2V (w : World) (em : Bool) (x : Pl2) : (Instr.checkKey em 10000 70 (pl2V x)).run Try.prog w = .ok () w := by kernel_rfl
/-- places of lists as keys -/
def plKeysV : Keys Pl Try.prog 66 where
  kv := plV
  ok := PlOk
  wide := by kernel_rfl
  eq := fun w x y hx hy => eq_placeV w 9998 x y hx hy
  check := check_placeV
  bits := bits_place 9999
/-- pairs of them -/
def pl2KeysV : Keys Pl2 Try.prog 70 where
  kv := pl2V
  ok := fun w p => PlOk w p.1 ∧ PlOk w p.2
  wide := by kernel_rfl
  eq := fun w x y hx hy => eq_place2V w 9997 x y hx hy
  check := check_place2V
  bits := bits_place2 9999
theorem Vo.from_inj {w : World} : ∀ (F G : Vo) (b o : Nat), F.From w b o → G.From w b o → F.len = G.len → F = G := by
  intro F
  induction F with
  | nil => intro G b o _ _ h; cases G with
    | nil => rfl
    | cons => exact absurd h.symm (Nat.succ_ne_zero _)
  | cons h a c kids next ih1 ih2 =>
    intro G b o hF hG hl
    cases G with
    | nil => exact absurd hl (Nat.succ_ne_zero _)
    | cons h' a' c' kids' next' =>
      obtain ⟨⟨f0, f1, f2, f3, f4, f5⟩, fk, _, ⟨fs, _⟩, fn⟩ := hF
      obtain ⟨⟨g0, g1, g2, g3, g4, g5⟩, gk, _, ⟨gs, _⟩, gn⟩ := hG
      have e0 : h.k = h'.k := by rw [f0] at g0; simpa using g0
      have e1 : h.m = h'.m := by rw [f1] at g1; simpa using g1
      have e2 : h.e = h'.e := by rw [f2] at g2; simpa using g2
      have e3 : h.t = h'.t := by rw [f3] at g3; simpa using g3
      have e4 : a = a' ∧ kids.len = kids'.len ∧ c = c' := by rw [f4] at g4; simpa using g4
      have e5 : h.na = h'.na ∧ h.ns.length = h'.ns.length ∧ h.nc = h'.nc := by rw [f5] at g5; simpa using g5
      have hss : h.ns = h'.ns := by
        rcases fs with fs | ⟨b1, o1, q1, fs⟩
        · rw [fs] at e5 ⊢
          exact (List.eq_nil_of_length_eq_zero e5.2.1.symm).symm
        · rcases gs with gs | ⟨b2, o2, q2, gs⟩
          · rw [gs] at e5 ⊢
            exact List.eq_nil_of_length_eq_zero e5.2.1
          · rw [e5.1, q2] at q1
            cases q1
            apply List.ext_getElem?
            intro i
            by_cases hi : i < h.ns.length
            · have s1 := (fs.at (List.getElem?_eq_getElem hi)).1
              have hi2 : i < h'.ns.length := by rw [← e5.2.1]; exact hi
              have s2 := (gs.at (List.getElem?_eq_getElem hi2)).1
              rw [s1] at s2
              rw [List.getElem?_eq_getElem hi, List.getElem?_eq_getElem hi2]
              simpa using s2
            · rw [List.getElem?_eq_none (by omega), List.getElem?_eq_none (by rw [← e5.2.1]; omega)]
      have hhd : h = h' := by
        cases h; cases h'
        simp only [Hd.mk.injEq]
        exact ⟨e0, e1, e2, e3, e5.1, e5.2.2, hss⟩
      have hkk : kids = kids' := by
        rcases fk with fk | ⟨b1, o1, q1, fk⟩
        · subst fk
          cases kids' with
          | nil => rfl
          | cons => exact absurd e4.2.1.symm (Nat.succ_ne_zero _)
        · rcases gk with gk | ⟨b2, o2, q2, gk⟩
          · subst gk
            cases kids with
            | nil => rfl
            | cons => exact absurd e4.2.1 (Nat.succ_ne_zero _)
          · rw [e4.1, q2] at q1
            cases q1
            exact ih1 kids' _ _ fk gk e4.2.1
      rw [hhd, e4.1, e4.2.2, hkk, ih2 next' b (o + 6) fn gn (Nat.succ.inj hl)]
set_option maxHeartbeats 400000 in
theorem placeOfV_any (a : Option Addr) (n c : Nat) (w : World) (h : n = 0 ∨ ∃ b o, a = some ⟨b, o, none⟩) (hn : n ≤ 2000000) :
    Calls Try.prog 34 #[.slice a n c] w fun e w' => e = .returned (plV (plOf a n)) ∧ Below w.heap.size w w' := by
  by_cases h0 : n = 0
  · subst h0
    go_enter Try.func34, Try.ntmps34
    go_wp2_with fail
    exact bodyPost_ret (v := plV (plOf a 0)) (by simp [results, Try.results34, go_sem, plV, plOf]) rfl ⟨rfl, (by (repeat' (first | assumption | exact Below.refl _ _ | refine Below.alloc ?_ ?_ _ | refine Below.setCell ?_ ?_ _ | refine Below.drew ?_ | refine below_drewN ?_ _)) <;> (first | omega | (simp <;> omega)))⟩
  · obtain ⟨b, o, rfl⟩ : ∃ b o, a = some ⟨b, o, none⟩ := by rcases h with h | h; exact absurd h h0; exact h
    have g0 : ((n : Int) == 0) = false := by simp; omega
    have g1 : (0 : Int) < (n : Int) := by omega
    go_enter Try.func34, Try.ntmps34
    go_wp2_with fail
    exact bodyPost_ret (v := plV (plOf (some ⟨b, o, none⟩) n)) (by simp [results, Try.results34, go_sem, plV, plOf, h0]) rfl ⟨rfl, (by (repeat' (first | assumption | exact Below.refl _ _ | refine Below.alloc ?_ ?_ _ | refine Below.setCell ?_ ?_ _ | refine Below.drew ?_ | refine below_drewN ?_ _)) <;> (first | omega | (simp <;> omega)))⟩
set_option maxHeartbeats 400000 in
theorem belowV_any (h : Hd) (a : Option Addr) (n c : Nat) (w : World) :
    Calls Try.prog 66 #[valV h a n c] w fun r w' => r = .returned (.slice a n c) ∧ Below w.heap.size w w' := by
  go_enter Try.func66, Try.ntmps66
  go_wp2_with fail
  go_ret
  exact ⟨rfl, (Below.refl _ w).alloc (Nat.le_refl _) _⟩
/-- which function the values' own is -/
theorem belowV_method (v : Value) (W : World) : (method 217 33 v "loop.example/chancery/impl.below").run Try.prog W = .ok (66, v) W := by kernel_rfl
theorem sameHeadV_method (v : Value) (W : World) : (method 217 33 v "loop.example/chancery/impl.sameHead").run Try.prog W = .ok (33, v) W := by kernel_rfl
instance (h g : Hd) : Decidable (h.same g) := by unfold Hd.same; infer_instance
/-- heads that are the same -/
def headSameV (h : Hd) (n : Nat) (g : Hd) (n' : Nat) : Bool := decide (h.same g ∧ n = n')
set_option maxRecDepth 100000 in
set_option maxHeartbeats 1000000 in
theorem sameHeadV_any (h g : Hd) (a a2 : Option Addr) (n c n2 c2 : Nat) (w : World) (hh : h.In w) (hg : g.In w) :
    Calls Try.prog 33 #[valV h a n c, valV g a2 n2 c2] w fun r w' => r = .returned (.bool (headSameV h n g n2)) ∧ Below w.heap.size w w' := by
  obtain ⟨k, m, e, t, na, nc, ns⟩ := h
  obtain ⟨k', m', e', t', na', nc', ns'⟩ := g
  have hB := ((Below.refl _ w).alloc (Nat.le_refl _) (.cells #[.int .i64 k, .int .i64 m, .int .i64 e, .string t, .slice a n c, .slice na ns.length nc] 33)).alloc (by simp) (.cells #[.int .i64 k', .int .i64 m', .int .i64 e', .string t', .slice a2 n2 c2, .slice na' ns'.length nc'] 33)
  have no : ∀ (P : Prop), (¬ ((⟨k, m, e, t, na, nc, ns⟩ : Hd).same ⟨k', m', e', t', na', nc', ns'⟩ ∧ n = n2)) → headSameV ⟨k, m, e, t, na, nc, ns⟩ n ⟨k', m', e', t', na', nc', ns'⟩ n2 = false := fun _ h => decide_eq_false h
  by_cases h1 : k = k'
  · subst h1
    by_cases h2 : m = m'
    · subst h2
      by_cases h3 : e = e'
      · subst h3
        by_cases h4 : t = t'
        · subst h4
          by_cases h5 : n = n2
          · subst h5
            have HI : Hid ((SIn w ns na ∧ SIn w ns' na') ∧ ns.length ≤ nc ∧ nc ≤ maxLen ∧ ns'.length ≤ nc') := ⟨⟨hh.1, hg.1⟩, hh.2.1.1, hh.2.1.2, hg.2.1.1⟩
            have HE : Hid (headSameV ⟨k, m, e, t, na, nc, ns⟩ n ⟨k, m, e, t, na', nc', ns'⟩ n = decide (ns = ns')) := by
              unfold Hid headSameV Hd.same
              simp
            clear hh hg no
            go_enter Try.func33, Try.ntmps33
            go_wp2_with fail
            refine (equalS_any ns ns' na na' nc nc' _ (HI.out.1.1.grow hB) (HI.out.1.2.grow hB) HI.out.2.1 HI.out.2.2.1 HI.out.2.2.2).mono ?_
            rintro r w1 ⟨rfl, hb1⟩
            have hB1 := hB.trans (hb1.mono hB.size)
            generalize hq : decide (ns = ns') = q
            rw [hq] at HE
            clear hq
            go_wp2_with fail
            go_ret
            exact ⟨by rw [HE.out]; rfl, hB1⟩
          · have HN : Hid _ := no True (fun x => h5 x.2)
            have h5' : ¬ (n : Int) = (n2 : Int) := by omega
            clear hh hg no
            go_enter Try.func33, Try.ntmps33
            go_wp2_with fail
            go_ret
            exact ⟨by rw [HN.out]; rfl, hB⟩
        · have HN : Hid _ := no True (fun x => h4 x.1.1.2.2.2)
          have h4' : (t.toList == t'.toList) = false := by have := text_ne h4; simpa using this
          clear hh hg no
          go_enter Try.func33, Try.ntmps33
          go_wp2_with fail
          go_ret
          exact ⟨by rw [HN.out]; rfl, hB⟩
      · have HN : Hid _ := no True (fun x => h3 x.1.1.2.2.1)
        clear hh hg no
        go_enter Try.func33, Try.ntmps33
        go_wp2_with fail
        go_ret
        exact ⟨by rw [HN.out]; rfl, hB⟩
    · have HN : Hid _ := no True (fun x => h2 x.1.1.2.1)
      clear hh hg no
      go_enter Try.func33, Try.ntmps33
      go_wp2_with fail
      go_ret
      exact ⟨by rw [HN.out]; rfl, hB⟩
  · have HN : Hid _ := no True (fun x => h1 x.1.1.1)
    clear hh hg no
    go_enter Try.func33, Try.ntmps33
    go_wp2_with fail
    go_ret
    exact ⟨by rw [HN.out]; rfl, hB⟩
end Go.Proofs.Ytohldacplapjkaa
