/- Contracts for trees that are ok, of the specification: the fields of an object, and a tree (they call each other). -/
import Derived.Test.YtcnhlkkbfdchnaaOkO
import Derived.Test.YtcnhlkkbfdchnaaDecA
namespace Go.Proofs.Ytcnhlkkbfdchnaa
open Go.RowKit
/-- of the first n all from a place on are so -/
def allN (p : Nat → Bool) (fr : Nat) : Nat → Bool
  | 0 => true
  | n + 1 => allN p fr n && (decide (n < fr) || p n)
/-- the first n are so, no two with one text -/
def Fo.fldN (F : Fo) (q : Nat → Bool) : Nat → Bool
  | 0 => true
  | n + 1 => F.fldN q n && (q n && F.newAt n n)
theorem allN_false {p : Nat → Bool} {fr i n : Nat} (h : p i = false) (hf : fr ≤ i) (hi : i < n) : allN p fr n = false := by
  induction n with
  | zero => omega
  | succ n ih =>
    show (allN p fr n && (decide (n < fr) || p n)) = false
    rcases Nat.lt_succ_iff_lt_or_eq.1 hi with hi | rfl
    · rw [ih hi]; rfl
    · rw [h, decide_eq_false (by omega)]; simp
theorem Fo.fldN_false {F : Fo} {q : Nat → Bool} {i n : Nat} (h : (q i && F.newAt i i) = false) (hi : i < n) : F.fldN q n = false := by
  induction n with
  | zero => omega
  | succ n ih =>
    show (F.fldN q n && (q n && F.newAt n n)) = false
    rcases Nat.lt_succ_iff_lt_or_eq.1 hi with hi | rfl
    · rw [ih hi]; rfl
    · rw [h]; simp
/-- what a tree asks of what is below, by its kind -/
def kidsOf (k : Int) (F : Fo) (p q : Nat → Bool) : Bool := if k = 22 then F.fldN q F.len else if k = 16 then F.nmOk (F.len - 1) && allN p (F.len - 1) F.len else allN p 0 F.len
/-- a tree is one of an expression, by the specification, if what is below is told -/
def oneOf (k : Int) (t : ByteArray) (m e : Int) (F : Fo) (p q : Nat → Bool) : Bool :=
  ((decide (1 ≤ k) && decide (k ≤ 24)) && (!decide (k = 23) && ((decide ((Om.low k : Int) ≤ (F.len : Int)) && decide ((F.len : Int) ≤ (Om.high k : Int))) && sText k t F.len))) &&
    (if k = 4 then Dm.ok m e && decide (0 ≤ m) else (decide (m = 0) && decide (e = 0)) && kidsOf k F p q)
/-- at each place: it is a tree; it is a field -/
def Fo.okp : Fo → Nat → Bool × Bool
  | .nil, _ => (false, false)
  | .cons k t m e _ _ kids _, 0 => (oneOf k t m e kids (fun i => (kids.okp i).1) (fun i => (kids.okp i).2), sField k t m e kids.len && (kids.okp 0).1)
  | .cons _ _ _ _ _ _ _ next, i + 1 => next.okp i
def okOne (k : Int) (t : ByteArray) (m e : Int) (F : Fo) : Bool := oneOf k t m e F (fun i => (F.okp i).1) (fun i => (F.okp i).2)
theorem Fo.okp1 : ∀ {F : Fo} {i : Nat}, i < F.len → (F.okp i).1 = okOne (F.kindAt i) (F.textAt i) (F.manAt i) (F.expAt i) (F.kidsAt i) := by
  intro F
  induction F with
  | nil => intro i h; exact absurd h (Nat.not_lt_zero _)
  | cons k t m e a c kids next _ ih =>
    intro i hi
    cases i with
    | zero => rfl
    | succ i => exact ih (show i < next.len from Nat.lt_of_succ_lt_succ hi)
theorem Fo.okp2 : ∀ {F : Fo} {i : Nat}, i < F.len → (F.okp i).2 = (sField (F.kindAt i) (F.textAt i) (F.manAt i) (F.expAt i) (F.kidsAt i).len && ((F.kidsAt i).okp 0).1) := by
  intro F
  induction F with
  | nil => intro i h; exact absurd h (Nat.not_lt_zero _)
  | cons k t m e a c kids next _ ih =>
    intro i hi
    cases i with
    | zero => rfl
    | succ i => exact ih (show i < next.len from Nat.lt_of_succ_lt_succ hi)
/-- what l3Ok says of all trees with less than so many below -/
abbrev OkBelow (N : Nat) : Prop := ∀ (k : Int) (t : ByteArray) (m e : Int) (a : Option Addr) (c : Nat) (F : Fo) (w : World), F.size < N → F.In w a → F.len ≤ c → c ≤ maxLen → t.size ≤ maxLen →
      Calls Try.prog 21 #[nodeV k t m e a F.len c] w fun r w' => r = .returned (.bool (okOne k t m e F)) ∧ Below w.heap.size w w'
abbrev FieldsBelow (N : Nat) : Prop := ∀ (a : Option Addr) (c : Nat) (F : Fo) (w : World), F.size ≤ N → F.In w a → F.len ≤ c → c ≤ maxLen →
      Calls Try.prog 39 #[.slice a F.len c] w fun r w' => r = .returned (.bool (F.fldN (fun i => (F.okp i).2) F.len)) ∧ Below w.heap.size w w'
theorem Fo.from_of_len {F : Fo} {w : World} {a : Option Addr} (hin : F.In w a) {i : Nat} (hi : i < F.len) : ∃ b o, a = some ⟨b, o, none⟩ ∧ F.From w b o := by
  rcases hin with rfl | h
  · exact absurd hi (Nat.not_lt_zero _)
  · exact h
set_option maxRecDepth 100000 in
set_option maxHeartbeats 3000000 in
theorem l3Fields_step (N : Nat) (H : OkBelow N) : FieldsBelow N := by
  intro a c F w hN hin hl hm
  unfold maxLen at hm
  have hcl : F.len ≤ 9223372036854775807 := by omega
  go_enter Try.func39, Try.ntmps39
  go_wp2_with fail
  go_loopw [3] (fun i wr => ∃ j : Nat, i = .int .i64 j ∧ F.fldN (fun i => (F.okp i).2) j = true ∧ j ≤ F.len ∧ Below w.heap.size w wr) (fun i _ => F.len - (intOf i).toNat)
  case atStart => exact ⟨0, rfl, rfl, Nat.zero_le _, Below.refl _ _⟩
  case round =>
    obtain ⟨j, rfl, hd, hj, hb⟩ := hrel
    have HD : Hid (F.fldN (fun i => (F.okp i).2) j = true) := hd
    clear hd
    by_cases hjn : j < F.len
    · have hjl : (j : Int) < (F.len : Int) := by omega
      obtain ⟨b, o, rfl, hF⟩ := Fo.from_of_len hin hjn
      clear hin
      obtain ⟨⟨h1, h2, h3, h4, h5⟩, hk, hkc, hcm, ht⟩ := Fo.from_at (Fo.from_grow hb F b o hF) hjn
      have HF : Hid (((F.okp j).2 && F.newAt j j) = false → F.fldN (fun i => (F.okp i).2) F.len = false) := fun h => Fo.fldN_false (q := fun i => (F.okp i).2) h hjn
      have HP : Hid ((F.okp j).2 = (sField (F.kindAt j) (F.textAt j) (F.manAt j) (F.expAt j) (F.kidsAt j).len && ((F.kidsAt j).okp 0).1)) := Fo.okp2 hjn
      have hsz := Fo.size_at hjn
      have HS := fun W => l3Field_any (F.kindAt j) (F.textAt j) (F.manAt j) (F.expAt j) (F.addrAt j) (F.kidsAt j).len (F.capAt j) W ht
      have H1 : Hid (sField (F.kindAt j) (F.textAt j) (F.manAt j) (F.expAt j) (F.kidsAt j).len = true → (F.kidsAt j).len = 1) := by
        unfold Hid sField; intro h; simp only [Bool.and_eq_true, decide_eq_true_eq] at h; exact h.2.2.1
      go_wp2_with fail
      refine (HS _).mono ?_
      rintro r w1 ⟨rfl, hb1⟩
      have hB1 := hb.trans (hb1.mono hb.size)
      clear hb1 hb h1 h2 h3 h4 h5 HS
      generalize hsf : sField (F.kindAt j) (F.textAt j) (F.manAt j) (F.expAt j) (F.kidsAt j).len = sf at HP H1
      cases sf
      · have HR : Hid (F.fldN (fun i => (F.okp i).2) F.len = false) := HF.out (by rw [HP.out]; rfl)
        go_wp2_with fail
        go_ret
        exact ⟨by rw [HR.out]; rfl, hB1⟩
      · have hk1 := H1.out rfl
        clear hsf H1
        obtain ⟨⟨_, _, _, _, g5⟩, hkk, _, _, _⟩ := Fo.from_at (Fo.from_grow hB1 F b o hF) hjn
        rw [hk1] at g5
        have h01 : 0 < (F.kidsAt j).len := by omega
        obtain ⟨b', o', ha, hG⟩ := Fo.from_of_len hkk h01
        rw [ha] at g5
        have hsz2 := Fo.size_at h01
        have HO : Hid (((F.kidsAt j).okp 0).1 = okOne ((F.kidsAt j).kindAt 0) ((F.kidsAt j).textAt 0) ((F.kidsAt j).manAt 0) ((F.kidsAt j).expAt 0) ((F.kidsAt j).kidsAt 0)) := Fo.okp1 h01
        obtain ⟨⟨u1, u2, u3, u4, u5⟩, uk, ukc, ucm, ut⟩ := Fo.from_at hG h01
        rw [Nat.zero_mul, Nat.add_zero] at u1 u2 u3 u4 u5
        have HC := fun W hW => H ((F.kidsAt j).kindAt 0) ((F.kidsAt j).textAt 0) ((F.kidsAt j).manAt 0) ((F.kidsAt j).expAt 0) ((F.kidsAt j).addrAt 0) ((F.kidsAt j).capAt 0) ((F.kidsAt j).kidsAt 0) W (by omega) hW ukc ucm ut
        rw [← HO.out] at HC
        clear HO hk hkk hsz hsz2 hG ha H
        go_wp2_with fail
        refine (HC _ uk).mono ?_
        rintro r w2 ⟨rfl, hb2⟩
        have hB2 := hB1.trans (hb2.mono hB1.size)
        clear hb2 hB1 u1 u2 u3 u4 u5 uk HC g5
        generalize hok : ((F.kidsAt j).okp 0).1 = ok at HP
        cases ok
        · have HR : Hid (F.fldN (fun i => (F.okp i).2) F.len = false) := HF.out (by rw [HP.out]; rfl)
          go_wp2_with fail
          go_ret
          exact ⟨by rw [HR.out]; rfl, hB2⟩
        · clear hok
          go_wp2_with fail
          go_loopw [4] (fun i wr => ∃ q : Nat, i = .int .i64 q ∧ F.newAt j q = true ∧ q ≤ j ∧ Below w.heap.size w wr) (fun i _ => j - (intOf i).toNat)
          case atStart => exact ⟨0, rfl, rfl, Nat.zero_le _, hB2⟩
          case round =>
            obtain ⟨q, rfl, hq, hqj, hb2⟩ := hrel
            have HQ : Hid (F.newAt j q = true) := hq
            clear hq
            by_cases hq2 : q < j
            · have hq2' : (q : Int) < (j : Int) := by omega
              have hqn : q < F.len := by omega
              have hqn' : (q : Int) < (F.len : Int) := by omega
              have hFr2 := Fo.from_grow hb2 F b o hF
              obtain ⟨⟨_, u2, _⟩, _⟩ := Fo.from_at hFr2 hjn
              obtain ⟨⟨_, v2, _⟩, _⟩ := Fo.from_at hFr2 hqn
              cases htt : ((F.textAt q).toList == (F.textAt j).toList)
              · have HS : Hid (F.newAt j (q + 1) = true) := by unfold Hid; show (F.newAt j q && !((F.textAt j).toList == (F.textAt q).toList)) = true; rw [HQ.out, BEq.comm, htt]; rfl
                clear hFr2 HQ
                go_wp2_with fail
                go_region
                all_goals
                  go_wp2_with fail
                  go_round
                  case rel => exact ⟨q + 1, by go_num, HS.out, by omega, hb2.drew⟩
                  case measure => simp [intOf]; omega
              · have HS : Hid (F.fldN (fun i => (F.okp i).2) F.len = false) := HF.out (by rw [Fo.newAt_false (by rw [BEq.comm]; exact htt) hq2]; simp)
                clear hFr2 HQ
                go_wp2_with fail
                go_region
                all_goals
                  go_wp2_with fail
                  go_ret
                  exact ⟨by rw [HS.out]; rfl, hb2.drew⟩
            · have e : q = j := by omega
              subst e
              have HS : Hid (F.fldN (fun i => (F.okp i).2) (q + 1) = true) := by unfold Hid; show (F.fldN (fun i => (F.okp i).2) q && ((F.okp q).2 && F.newAt q q)) = true; rw [HD.out, HQ.out, HP.out]; rfl
              clear HQ HD
              go_wp2_with fail
              go_round
              case rel => exact ⟨q + 1, by go_num, HS.out, by omega, hb2⟩
              case measure => simp [intOf]; omega
    · have hjl : ¬ (j : Int) < (F.len : Int) := by omega
      have e : j = F.len := by omega
      have HR : Hid (F.fldN (fun i => (F.okp i).2) F.len = true) := by unfold Hid; rw [← e]; exact HD.out
      go_wp2_with fail
      go_ret
      exact ⟨by rw [HR.out]; rfl, hb⟩
end Go.Proofs.Ytcnhlkkbfdchnaa
