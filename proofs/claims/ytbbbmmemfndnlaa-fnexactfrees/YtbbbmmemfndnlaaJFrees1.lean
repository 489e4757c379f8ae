/- My own texts, joined: OkO OkP OkQ OkI Mp OkE OkF DecB DecX. -/
import Derived.Test.YtbbbmmemfndnlaaJFrees0
import Derived.RangeFuncNested
import Derived.RangeFuncBound
import Derived.RangeFuncCalls
import Derived.RangeFuncLeaves
import Derived.RangeFuncFrom
import Derived.RangeFuncBox
import Derived.Shelf.Abstract
import Derived.Shelf.RegionOpen
import Derived.WalkKit
import Derived.OwnWalkIn
import Derived.TacticsInMore
import Derived.LoopNIn
import Derived.LoopIn
import Derived.Test.YtbbbmmemfndnlaaProg
import Derived.Below
import Derived.WideMake
import Derived.Maps.Own
import Derived.RangeFuncRecord
/- Contracts for trees that are ok, of the specification: the names of a function. -/
namespace Go.Proofs.Ytbbbmmemfndnlaa
open Go.RowKit
def Fo.nameHead (F : Fo) (i : Nat) : Bool := decide (F.kindAt i = 6) && (Qm.name (F.textAt i) && (decide (F.manAt i = 0) && (decide (F.expAt i = 0) && decide ((F.kidsAt i).len = 0))))
/-- the first n are names, no two alike -/
def Fo.nmOk (F : Fo) : Nat → Bool
  | 0 => true
  | n + 1 => F.nmOk n && (F.nameHead n && F.newAt n n)
theorem Fo.nmOk_false {F : Fo} {i n : Nat} (h : (F.nameHead i && F.newAt i i) = false) (hi : i < n) : F.nmOk n = false := by
  induction n with
  | zero => omega
  | succ n ih =>
    show (F.nmOk n && (F.nameHead n && F.newAt n n)) = false
    rcases Nat.lt_succ_iff_lt_or_eq.1 hi with hi | rfl
    · rw [ih hi]; rfl
    · rw [h]; simp
set_option maxRecDepth 100000 in
set_option maxHeartbeats 3000000 in
theorem l3Names_any (F : Fo) (a : Option Addr) (c : Nat) (w : World) (hin : F.In w a) (hl : F.len ≤ c) (hm : c ≤ maxLen) :
    Calls Try.prog 76 #[.slice a F.len c] w fun e w' => e = .returned (.bool (F.nmOk (F.len - 1))) ∧ Below w.heap.size w w' := by
  unfold maxLen at hm
  have hcl : F.len ≤ 9223372036854775807 := by omega
  go_enter Try.func76, Try.ntmps76
  go_wp2_with fail
  go_loopw [3] (fun i wr => ∃ j : Nat, i = .int .i64 j ∧ F.nmOk j = true ∧ j ≤ F.len - 1 ∧ Below w.heap.size w wr) (fun i _ => F.len - (intOf i).toNat)
  case atStart => exact ⟨0, rfl, rfl, Nat.zero_le _, Below.refl _ _⟩
  case round =>
    obtain ⟨j, rfl, hd, hj, hb⟩ := hrel
    have HD : Hid (F.nmOk j = true) := hd
    clear hd
    by_cases hlt : j + 1 < F.len
    · have hlt' : (j : Int) + 1 < (F.len : Int) := by omega
      have hjl : (j : Int) < (F.len : Int) := by omega
      have hjn : j < F.len := by omega
      obtain ⟨b, o, rfl, hF⟩ : ∃ b o, a = some ⟨b, o, none⟩ ∧ F.From w b o := by
        rcases hin with rfl | h
        · exact absurd hlt (by show ¬ j + 1 < 0; omega)
        · exact h
      clear hin
      obtain ⟨⟨h1, h2, h3, h4, h5⟩, _, _, _, ht⟩ := Fo.from_at (Fo.from_grow hb F b o hF) hjn
      have HF : Hid ((F.nameHead j && F.newAt j j) = false → F.nmOk (F.len - 1) = false) := fun h => Fo.nmOk_false h (by omega)
      have HH : Hid (F.nameHead j = (decide (F.kindAt j = 6) && (Qm.name (F.textAt j) && (decide (F.manAt j = 0) && (decide (F.expAt j = 0) && decide ((F.kidsAt j).len = 0)))))) := rfl
      by_cases q1 : F.kindAt j = 6
      · rw [q1] at h1
        have HN := fun W => sNameOk_any (F.textAt j) W ht
        generalize hnm : Qm.name (F.textAt j) = nm at HN
        have HNm : Hid (Qm.name (F.textAt j) = nm) := hnm
        clear hnm
        cases nm
        · have HR : Hid (F.nmOk (F.len - 1) = false) := HF.out (by rw [HH.out, HNm.out]; simp)
          go_wp2_with fail
          refine (HN _).mono ?_
          rintro r w1 ⟨rfl, hb1⟩
          have hB1 := hb.trans (hb1.mono hb.size)
          go_wp2_with fail
          go_ret
          exact ⟨by rw [HR.out]; rfl, hB1⟩
        · go_wp2_with fail
          refine (HN _).mono ?_
          rintro r w1 ⟨rfl, hb1⟩
          have hB1 := hb.trans (hb1.mono hb.size)
          have hFr := Fo.from_grow hB1 F b o hF
          obtain ⟨⟨_, g2, g3, g4, g5⟩, _, _, _, _⟩ := Fo.from_at hFr hjn
          clear h1 h2 h3 h4 h5 HN hb1 hb
          by_cases q3 : F.manAt j = 0 ∧ F.expAt j = 0
          · rw [q3.1] at g3
            rw [q3.2] at g4
            by_cases q4 : (F.kidsAt j).len = 0
            · rw [q4] at g5
              go_wp2_with fail
              go_loopw [4] (fun i wr => ∃ q : Nat, i = .int .i64 q ∧ F.newAt j q = true ∧ q ≤ j ∧ Below w.heap.size w wr) (fun i _ => j - (intOf i).toNat)
              case atStart => exact ⟨0, rfl, rfl, Nat.zero_le _, hB1⟩
              case round =>
                obtain ⟨q, rfl, hq, hqj, hb2⟩ := hrel
                have HQ : Hid (F.newAt j q = true) := hq
                clear hq
                by_cases hq2 : q < j
                · have hq2' : (q : Int) < (j : Int) := by omega
                  have hqn : q < F.len := by omega
                  have hqn' : (q : Int) < (F.len : Int) := by omega
                  have hFr2 := Fo.from_grow hb2 F b o hF
                  obtain ⟨⟨_, u2, _⟩, _⟩ := Fo.from_at hFr2 hjn
                  obtain ⟨⟨_, v2, _⟩, _⟩ := Fo.from_at hFr2 hqn
                  cases htt : ((F.textAt q).toList == (F.textAt j).toList)
                  · have HS : Hid (F.newAt j (q + 1) = true) := by unfold Hid; show (F.newAt j q && !((F.textAt j).toList == (F.textAt q).toList)) = true; rw [HQ.out, BEq.comm, htt]; rfl
                    clear hFr2 HQ g2 g3 g4 g5 hFr
                    go_wp2_with fail
                    go_region
                    all_goals
                      go_wp2_with fail
                      go_round
                      case rel => exact ⟨q + 1, by go_num, HS.out, by omega, hb2.drew⟩
                      case measure => simp [intOf]; omega
                  · have HS : Hid (F.nmOk (F.len - 1) = false) := HF.out (by rw [Fo.newAt_false (by rw [BEq.comm]; exact htt) hq2]; simp)
                    clear hFr2 HQ g2 g3 g4 g5 hFr
                    go_wp2_with fail
                    go_region
                    all_goals
                      go_wp2_with fail
                      go_ret
                      exact ⟨by rw [HS.out]; rfl, hb2.drew⟩
                · have e : q = j := by omega
                  subst e
                  have HS : Hid (F.nmOk (q + 1) = true) := by unfold Hid; show (F.nmOk q && (F.nameHead q && F.newAt q q)) = true; rw [HD.out, HQ.out, HH.out, HNm.out, q1, q3.1, q3.2, q4]; rfl
                  clear HQ HD g2 g3 g4 g5 hFr
                  go_wp2_with fail
                  go_round
                  case rel => exact ⟨q + 1, by go_num, HS.out, by omega, hb2⟩
                  case measure => simp [intOf]; omega
            · have q4' : (((F.kidsAt j).len : Int) != 0) = true := by simp; omega
              have HR : Hid (F.nmOk (F.len - 1) = false) := HF.out (by rw [HH.out]; simp [q4])
              go_wp2_with fail
              go_ret
              exact ⟨by rw [HR.out]; rfl, hB1⟩
          · have HR : Hid (F.nmOk (F.len - 1) = false) := HF.out (by rw [HH.out]; by_cases z : F.manAt j = 0 <;> simp_all)
            by_cases z : F.manAt j = 0
            · have z2 : ¬ F.expAt j = 0 := fun h => q3 ⟨z, h⟩
              have z2' : (F.expAt j == 0) = false := by simp [z2]
              rw [z] at g3
              go_wp2_with fail
              all_goals
                go_ret
                exact ⟨by rw [HR.out]; rfl, hB1⟩
            · have z' : (F.manAt j == 0) = false := by simp [z]
              go_wp2_with fail
              all_goals
                go_ret
                exact ⟨by rw [HR.out]; rfl, hB1⟩
      · have q1' : (F.kindAt j != 6) = true := by simp [q1]
        have HR : Hid (F.nmOk (F.len - 1) = false) := HF.out (by rw [HH.out]; simp [q1])
        go_wp2_with fail
        go_ret
        exact ⟨by rw [HR.out]; rfl, hb⟩
    · have hlt' : ¬ (j : Int) + 1 < (F.len : Int) := by omega
      have e : j = F.len - 1 := by omega
      have HR : Hid (F.nmOk (F.len - 1) = true) := by unfold Hid; rw [← e]; exact HD.out
      go_wp2_with fail
      go_ret
      exact ⟨by rw [HR.out]; rfl, hb⟩
end Go.Proofs.Ytbbbmmemfndnlaa
/- Contracts for trees that are ok, of the specification: the fields of an object, and a tree (they call each other). -/
namespace Go.Proofs.Ytbbbmmemfndnlaa
open Go.RowKit
/-- of the first n all from a place on are so -/
def allN (p : Nat → Bool) (fr : Nat) : Nat → Bool
  | 0 => true
  | n + 1 => allN p fr n && (decide (n < fr) || p n)
/-- the first n are so, no two with one text -/
def Fo.fldN (F : Fo) (q : Nat → Bool) : Nat → Bool
  | 0 => true
  | n + 1 => F.fldN q n && (q n && F.newAt n n)
theorem allN_false {p : Nat → Bool} {fr i n : Nat} (h : p i = false) (hf : fr ≤ i) (hi : i < n) : allN p fr n = false := by
  induction n with
  | zero => omega
  | succ n ih =>
    show (allN p fr n && (decide (n < fr) || p n)) = false
    rcases Nat.lt_succ_iff_lt_or_eq.1 hi with hi | rfl
    · rw [ih hi]; rfl
    · rw [h, decide_eq_false (by omega)]; simp
theorem Fo.fldN_false {F : Fo} {q : Nat → Bool} {i n : Nat} (h : (q i && F.newAt i i) = false) (hi : i < n) : F.fldN q n = false := by
  induction n with
  | zero => omega
  | succ n ih =>
    show (F.fldN q n && (q n && F.newAt n n)) = false
    rcases Nat.lt_succ_iff_lt_or_eq.1 hi with hi | rfl
    · rw [ih hi]; rfl
    · rw [h]; simp
/-- what a tree asks of what is below, by its kind -/
def kidsOf (k : Int) (F : Fo) (p q : Nat → Bool) : Bool := if k = 22 then F.fldN q F.len else if k = 16 then F.nmOk (F.len - 1) && allN p (F.len - 1) F.len else allN p 0 F.len
/-- a tree is one of an expression, by the specification, if what is below is told -/
def oneOf (k : Int) (t : ByteArray) (m e : Int) (F : Fo) (p q : Nat → Bool) : Bool :=
  ((decide (1 ≤ k) && decide (k ≤ 24)) && (!decide (k = 23) && ((decide ((Om.low k : Int) ≤ (F.len : Int)) && decide ((F.len : Int) ≤ (Om.high k : Int))) && sText k t F.len))) &&
    (if k = 4 then Dm.ok m e && decide (0 ≤ m) else (decide (m = 0) && decide (e = 0)) && kidsOf k F p q)
/-- at each place: it is a tree; it is a field -/
def Fo.okp : Fo → Nat → Bool × Bool
  | .nil, _ => (false, false)
  | .cons k t m e _ _ kids _, 0 => (oneOf k t m e kids (fun i => (kids.okp i).1) (fun i => (kids.okp i).2), sField k t m e kids.len && (kids.okp 0).1)
  | .cons _ _ _ _ _ _ _ next, i + 1 => next.okp i
def okOne (k : Int) (t : ByteArray) (m e : Int) (F : Fo) : Bool := oneOf k t m e F (fun i => (F.okp i).1) (fun i => (F.okp i).2)
theorem Fo.okp1 : ∀ {F : Fo} {i : Nat}, i < F.len → (F.okp i).1 = okOne (F.kindAt i) (F.textAt i) (F.manAt i) (F.expAt i) (F.kidsAt i) := by
  intro F
  induction F with
  | nil => intro i h; exact absurd h (Nat.not_lt_zero _)
  | cons k t m e a c kids next _ ih =>
    intro i hi
    cases i with
    | zero => rfl
    | succ i => exact ih (show i < next.len from Nat.lt_of_succ_lt_succ hi)
theorem Fo.okp2 : ∀ {F : Fo} {i : Nat}, i < F.len → (F.okp i).2 = (sField (F.kindAt i) (F.textAt i) (F.manAt i) (F.expAt i) (F.kidsAt i).len && ((F.kidsAt i).okp 0).1) := by
  intro F
  induction F with
  | nil => intro i h; exact absurd h (Nat.not_lt_zero _)
  | cons k t m e a c kids next _ ih =>
    intro i hi
    cases i with
    | zero => rfl
    | succ i => exact ih (show i < next.len from Nat.lt_of_succ_lt_succ hi)
/-- what l3Ok says of all trees with less than so many below -/
abbrev OkBelow (N : Nat) : Prop := ∀ (k : Int) (t : ByteArray) (m e : Int) (a : Option Addr) (c : Nat) (F : Fo) (w : World), F.size < N → F.In w a → F.len ≤ c → c ≤ maxLen → t.size ≤ maxLen →
      Calls Try.prog 50 #[nodeV k t m e a F.len c] w fun r w' => r = .returned (.bool (okOne k t m e F)) ∧ Below w.heap.size w w'
abbrev FieldsBelow (N : Nat) : Prop := ∀ (a : Option Addr) (c : Nat) (F : Fo) (w : World), F.size ≤ N → F.In w a → F.len ≤ c → c ≤ maxLen →
      Calls Try.prog 75 #[.slice a F.len c] w fun r w' => r = .returned (.bool (F.fldN (fun i => (F.okp i).2) F.len)) ∧ Below w.heap.size w w'
theorem Fo.from_of_len {F : Fo} {w : World} {a : Option Addr} (hin : F.In w a) {i : Nat} (hi : i < F.len) : ∃ b o, a = some ⟨b, o, none⟩ ∧ F.From w b o := by
  rcases hin with rfl | h
  · exact absurd hi (Nat.not_lt_zero _)
  · exact h
set_option maxRecDepth 100000 in
set_option maxHeartbeats 3000000 in
theorem l3Fields_step (N : Nat) (H : OkBelow N) : FieldsBelow N := by
  intro a c F w hN hin hl hm
  unfold maxLen at hm
  have hcl : F.len ≤ 9223372036854775807 := by omega
  go_enter Try.func75, Try.ntmps75
  go_wp2_with fail
  go_loopw [3] (fun i wr => ∃ j : Nat, i = .int .i64 j ∧ F.fldN (fun i => (F.okp i).2) j = true ∧ j ≤ F.len ∧ Below w.heap.size w wr) (fun i _ => F.len - (intOf i).toNat)
  case atStart => exact ⟨0, rfl, rfl, Nat.zero_le _, Below.refl _ _⟩
  case round =>
    obtain ⟨j, rfl, hd, hj, hb⟩ := hrel
    have HD : Hid (F.fldN (fun i => (F.okp i).2) j = true) := hd
    clear hd
    by_cases hjn : j < F.len
    · have hjl : (j : Int) < (F.len : Int) := by omega
      obtain ⟨b, o, rfl, hF⟩ := Fo.from_of_len hin hjn
      clear hin
      obtain ⟨⟨h1, h2, h3, h4, h5⟩, hk, hkc, hcm, ht⟩ := Fo.from_at (Fo.from_grow hb F b o hF) hjn
      have HF : Hid (((F.okp j).2 && F.newAt j j) = false → F.fldN (fun i => (F.okp i).2) F.len = false) := fun h => Fo.fldN_false (q := fun i => (F.okp i).2) h hjn
      have HP : Hid ((F.okp j).2 = (sField (F.kindAt j) (F.textAt j) (F.manAt j) (F.expAt j) (F.kidsAt j).len && ((F.kidsAt j).okp 0).1)) := Fo.okp2 hjn
      have hsz := Fo.size_at hjn
      have HS := fun W => l3Field_any (F.kindAt j) (F.textAt j) (F.manAt j) (F.expAt j) (F.addrAt j) (F.kidsAt j).len (F.capAt j) W ht
      have H1 : Hid (sField (F.kindAt j) (F.textAt j) (F.manAt j) (F.expAt j) (F.kidsAt j).len = true → (F.kidsAt j).len = 1) := by
        unfold Hid sField; intro h; simp only [Bool.and_eq_true, decide_eq_true_eq] at h; exact h.2.2.1
      go_wp2_with fail
      refine (HS _).mono ?_
      rintro r w1 ⟨rfl, hb1⟩
      have hB1 := hb.trans (hb1.mono hb.size)
      clear hb1 hb h1 h2 h3 h4 h5 HS
      generalize hsf : sField (F.kindAt j) (F.textAt j) (F.manAt j) (F.expAt j) (F.kidsAt j).len = sf at HP H1
      cases sf
      · have HR : Hid (F.fldN (fun i => (F.okp i).2) F.len = false) := HF.out (by rw [HP.out]; rfl)
        go_wp2_with fail
        go_ret
        exact ⟨by rw [HR.out]; rfl, hB1⟩
      · have hk1 := H1.out rfl
        clear hsf H1
        obtain ⟨⟨_, _, _, _, g5⟩, hkk, _, _, _⟩ := Fo.from_at (Fo.from_grow hB1 F b o hF) hjn
        rw [hk1] at g5
        have h01 : 0 < (F.kidsAt j).len := by omega
        obtain ⟨b', o', ha, hG⟩ := Fo.from_of_len hkk h01
        rw [ha] at g5
        have hsz2 := Fo.size_at h01
        have HO : Hid (((F.kidsAt j).okp 0).1 = okOne ((F.kidsAt j).kindAt 0) ((F.kidsAt j).textAt 0) ((F.kidsAt j).manAt 0) ((F.kidsAt j).expAt 0) ((F.kidsAt j).kidsAt 0)) := Fo.okp1 h01
        obtain ⟨⟨u1, u2, u3, u4, u5⟩, uk, ukc, ucm, ut⟩ := Fo.from_at hG h01
        rw [Nat.zero_mul, Nat.add_zero] at u1 u2 u3 u4 u5
        have HC := fun W hW => H ((F.kidsAt j).kindAt 0) ((F.kidsAt j).textAt 0) ((F.kidsAt j).manAt 0) ((F.kidsAt j).expAt 0) ((F.kidsAt j).addrAt 0) ((F.kidsAt j).capAt 0) ((F.kidsAt j).kidsAt 0) W (by omega) hW ukc ucm ut
        rw [← HO.out] at HC
        clear HO hk hkk hsz hsz2 hG ha H
        go_wp2_with fail
        refine (HC _ uk).mono ?_
        rintro r w2 ⟨rfl, hb2⟩
        have hB2 := hB1.trans (hb2.mono hB1.size)
        clear hb2 hB1 u1 u2 u3 u4 u5 uk HC g5
        generalize hok : ((F.kidsAt j).okp 0).1 = ok at HP
        cases ok
        · have HR : Hid (F.fldN (fun i => (F.okp i).2) F.len = false) := HF.out (by rw [HP.out]; rfl)
          go_wp2_with fail
          go_ret
          exact ⟨by rw [HR.out]; rfl, hB2⟩
        · clear hok
          go_wp2_with fail
          go_loopw [4] (fun i wr => ∃ q : Nat, i = .int .i64 q ∧ F.newAt j q = true ∧ q ≤ j ∧ Below w.heap.size w wr) (fun i _ => j - (intOf i).toNat)
          case atStart => exact ⟨0, rfl, rfl, Nat.zero_le _, hB2⟩
          case round =>
            obtain ⟨q, rfl, hq, hqj, hb2⟩ := hrel
            have HQ : Hid (F.newAt j q = true) := hq
            clear hq
            by_cases hq2 : q < j
            · have hq2' : (q : Int) < (j : Int) := by omega
              have hqn : q < F.len := by omega
              have hqn' : (q : Int) < (F.len : Int) := by omega
              have hFr2 := Fo.from_grow hb2 F b o hF
              obtain ⟨⟨_, u2, _⟩, _⟩ := Fo.from_at hFr2 hjn
              obtain ⟨⟨_, v2, _⟩, _⟩ := Fo.from_at hFr2 hqn
              cases htt : ((F.textAt q).toList == (F.textAt j).toList)
              · have HS : Hid (F.newAt j (q + 1) = true) := by unfold Hid; show (F.newAt j q && !((F.textAt j).toList == (F.textAt q).toList)) = true; rw [HQ.out, BEq.comm, htt]; rfl
                clear hFr2 HQ
                go_wp2_with fail
                go_region
                all_goals
                  go_wp2_with fail
                  go_round
                  case rel => exact ⟨q + 1, by go_num, HS.out, by omega, hb2.drew⟩
                  case measure => simp [intOf]; omega
              · have HS : Hid (F.fldN (fun i => (F.okp i).2) F.len = false) := HF.out (by rw [Fo.newAt_false (by rw [BEq.comm]; exact htt) hq2]; simp)
                clear hFr2 HQ
                go_wp2_with fail
                go_region
                all_goals
                  go_wp2_with fail
                  go_ret
                  exact ⟨by rw [HS.out]; rfl, hb2.drew⟩
            · have e : q = j := by omega
              subst e
              have HS : Hid (F.fldN (fun i => (F.okp i).2) (q + 1) = true) := by unfold Hid; show (F.fldN (fun i => (F.okp i).2) q && ((F.okp q).2 && F.newAt q q)) = true; rw [HD.out, HQ.out, HP.out]; rfl
              clear HQ HD
              go_wp2_with fail
              go_round
              case rel => exact ⟨q + 1, by go_num, HS.out, by omega, hb2⟩
              case measure => simp [intOf]; omega
    · have hjl : ¬ (j : Int) < (F.len : Int) := by omega
      have e : j = F.len := by omega
      have HR : Hid (F.fldN (fun i => (F.okp i).2) F.len = true) := by unfold Hid; rw [← e]; exact HD.out
      go_wp2_with fail
      go_ret
      exact ⟨by rw [HR.out]; rfl, hb⟩
end Go.Proofs.Ytbbbmmemfndnlaa
/- Contracts for trees that are ok, of the specification: a tree. -/
namespace Go.Proofs.Ytbbbmmemfndnlaa
open Go.RowKit
/-- what is asked of a tree ahead of its number and of what is below -/
def headOf (k : Int) (t : ByteArray) (n : Nat) : Bool := (decide (1 ≤ k) && decide (k ≤ 24)) && (!decide (k = 23) && ((decide ((Om.low k : Int) ≤ (n : Int)) && decide ((n : Int) ≤ (Om.high k : Int))) && sText k t n))
theorem okOne_not {k : Int} {t : ByteArray} {m e : Int} {F : Fo} (h : headOf k t F.len = false) : okOne k t m e F = false := by
  show (headOf k t F.len && _) = false
  rw [h]; rfl
theorem okOne_head {k : Int} {t : ByteArray} {m e : Int} {F : Fo} (h : headOf k t F.len = true) : okOne k t m e F = (if k = 4 then Dm.ok m e && decide (0 ≤ m) else (decide (m = 0) && decide (e = 0)) && kidsOf k F (fun i => (F.okp i).1) (fun i => (F.okp i).2)) := by
  show (headOf k t F.len && _) = _
  rw [h]; rfl
theorem allN_none (p : Nat → Bool) (fr : Nat) : ∀ n, n ≤ fr → allN p fr n = true := by
  intro n
  induction n with
  | zero => intro _; rfl
  | succ n ih => intro h; show (allN p fr n && (decide (n < fr) || p n)) = true; rw [ih (by omega), decide_eq_true (show n < fr by omega)]; rfl
set_option maxRecDepth 100000 in
set_option maxHeartbeats 3000000 in
theorem l3Ok_step (N : Nat) (H : OkBelow N) (HFs : FieldsBelow N) :
    ∀ (k : Int) (t : ByteArray) (m e : Int) (a : Option Addr) (c : Nat) (F : Fo) (w : World), F.size ≤ N → F.In w a → F.len ≤ c → c ≤ maxLen → t.size ≤ maxLen →
      Calls Try.prog 50 #[nodeV k t m e a F.len c] w fun r w' => r = .returned (.bool (okOne k t m e F)) ∧ Below w.heap.size w w' := by
  intro k t m e a c F w hN hin hl hm ht
  have hmm := hm
  unfold maxLen at hmm
  have hB0 := (Below.refl _ w).alloc (Nat.le_refl _) (.cells #[.int .i64 k, .string t, .int .i64 m, .int .i64 e, .slice a F.len c] 33)
  have a0 : (w.alloc (.cells #[.int .i64 k, .string t, .int .i64 m, .int .i64 e, .slice a F.len c] 33)).cell? ⟨w.heap.size, 0, none⟩ = some (.int .i64 k) := by simp
  have a2 : (w.alloc (.cells #[.int .i64 k, .string t, .int .i64 m, .int .i64 e, .slice a F.len c] 33)).cell? ⟨w.heap.size, 2, none⟩ = some (.int .i64 m) := by simp
  have a3 : (w.alloc (.cells #[.int .i64 k, .string t, .int .i64 m, .int .i64 e, .slice a F.len c] 33)).cell? ⟨w.heap.size, 3, none⟩ = some (.int .i64 e) := by simp
  have a4 := box4 w k t m e (.slice a F.len c) 33
  have hlo : Om.low k ≤ 3 := by unfold Om.low; (repeat' split) <;> omega
  have hhi : Om.high k ≤ 8 := by unfold Om.high; (repeat' split) <;> omega
  have HH : Hid (headOf k t F.len = ((decide (1 ≤ k) && decide (k ≤ 24)) && (!decide (k = 23) && ((decide ((Om.low k : Int) ≤ (F.len : Int)) && decide ((F.len : Int) ≤ (Om.high k : Int))) && sText k t F.len)))) := rfl
  have HL : Hid (1 ≤ Om.low 16) := by unfold Hid; decide
  have HLk : Hid (k = 16 → 1 ≤ Om.low k) := by rintro rfl; exact HL.out
  clear HL
  have HC := l3Count_any k
  have HT := fun W => l3Text_any k t m e a F.len c W ht
  generalize Om.low k = lo at *
  generalize Om.high k = hi at *
  generalize sText k t F.len = tx at *
  go_enter Try.func50, Try.ntmps50
  go_wp2_with fail
  refine (HC _).mono ?_
  rintro r w0 ⟨rfl, rfl⟩
  go_wp2_with fail
  refine (l1In_any k 1 24 _).mono ?_
  rintro r w0 ⟨rfl, rfl⟩
  by_cases h1 : 1 ≤ k ∧ k ≤ 24
  · have g1 : (decide (1 ≤ k) && decide (k ≤ 24)) = true := by simp [h1.1, h1.2]
    rw [g1]
    by_cases h23 : k = 23
    · subst h23
      have HR : Hid (okOne 23 t m e F = false) := okOne_not (by rw [HH.out]; simp)
      go_wp2_with fail
      go_ret
      exact ⟨by rw [HR.out]; rfl, hB0⟩
    have g23 : (k == 23) = false := by simp [h23]
    go_wp2_with fail
    refine (l1In_any F.len lo hi _).mono ?_
    rintro r w0 ⟨rfl, rfl⟩
    by_cases h2 : (lo : Int) ≤ (F.len : Int) ∧ (F.len : Int) ≤ (hi : Int)
    · have g2 : (decide ((lo : Int) ≤ (F.len : Int)) && decide ((F.len : Int) ≤ (hi : Int))) = true := by simp; omega
      rw [g2]
      go_wp2_with fail
      refine (HT _).mono ?_
      rintro r w1 ⟨rfl, hb1⟩
      have hB1 := hB0.trans (hb1.mono hB0.size)
      have c0 := (hb1.cell (p := ⟨w.heap.size, 0, none⟩) (by simp)).trans a0
      have c2 := (hb1.cell (p := ⟨w.heap.size, 2, none⟩) (by simp)).trans a2
      have c3 := (hb1.cell (p := ⟨w.heap.size, 3, none⟩) (by simp)).trans a3
      have c4 := (hb1.cell (p := ⟨w.heap.size, 4, none⟩) (by simp)).trans a4
      clear a0 a2 a3 a4 hb1 hB0 HT HC
      cases tx
      · have HR : Hid (okOne k t m e F = false) := okOne_not (by rw [HH.out]; simp)
        go_wp2_with fail
        go_ret
        exact ⟨by rw [HR.out]; rfl, hB1⟩
      have HE : Hid (okOne k t m e F = (if k = 4 then Dm.ok m e && decide (0 ≤ m) else (decide (m = 0) && decide (e = 0)) && kidsOf k F (fun i => (F.okp i).1) (fun i => (F.okp i).2))) := okOne_head (by rw [HH.out, g1, g2]; simp [h23])
      clear HH
      by_cases h4 : k = 4
      · subst h4
        have HE' : Hid (okOne 4 t m e F = (Dm.ok m e && decide (0 ≤ m))) := HE.out
        clear HE
        have HQ := fun W => sDecOk_any m e W
        generalize hdk : Dm.ok m e = dk at HE' HQ
        clear hdk
        go_wp2_with fail
        refine (HQ _).mono ?_
        rintro r w2 ⟨rfl, hb2⟩
        have hB2 := hB1.trans (hb2.mono hB1.size)
        have d2 := (hb2.cell (p := ⟨w.heap.size, 2, none⟩) (World.block_lt_of_cell? _ _ c2)).trans c2
        clear c0 c2 c3 c4 hb2
        cases dk
        · go_wp2_with fail
          go_ret
          exact ⟨lret_bool (by rw [HE'.out]; rfl), hB2⟩
        · go_wp2_with fail
          go_ret
          exact ⟨lret_bool (by rw [HE'.out]; first | rfl | simp), hB2⟩
      have g4 : (k == 4) = false := by simp [h4]
      by_cases hz : m = 0 ∧ e = 0
      · obtain ⟨rfl, rfl⟩ := hz
        have HE' : Hid (okOne k t 0 0 F = kidsOf k F (fun i => (F.okp i).1) (fun i => (F.okp i).2)) := by unfold Hid; rw [HE.out, if_neg h4]; rfl
        clear HE
        by_cases h22 : k = 22
        · subst h22
          have HE : Hid (okOne 22 t 0 0 F = F.fldN (fun i => (F.okp i).2) F.len) := HE'.out
          have HG := HFs a c F
          rw [← HE.out] at HG
          go_wp2_with fail
          refine (HG _ hN (hin.grow hB1) hl hm).mono ?_
          rintro r w2 ⟨rfl, hb2⟩
          have hB2 := hB1.trans (hb2.mono hB1.size)
          go_wp2_with fail
          go_ret
          exact ⟨rfl, hB2⟩
        have g22 : (k == 22) = false := by simp [h22]
        by_cases h16 : k = 16
        · subst h16
          have HE : Hid (okOne 16 t 0 0 F = (F.nmOk (F.len - 1) && allN (fun i => (F.okp i).1) (F.len - 1) F.len)) := HE'.out
          clear HE'
          have hl1 : 1 ≤ F.len := by have := HLk.out rfl; omega
          have HG := fun W hW => l3Names_any F a c W hW hl hm
          go_wp2_with fail
          refine (HG _ (hin.grow hB1)).mono ?_
          rintro r w2 ⟨rfl, hb2⟩
          have hB2 := hB1.trans (hb2.mono hB1.size)
          have d4 := (hb2.cell (p := ⟨w.heap.size, 4, none⟩) (World.block_lt_of_cell? _ _ c4)).trans c4
          clear c0 c2 c3 c4 hb2 HG
          generalize hnm : F.nmOk (F.len - 1) = nm at HE
          clear hnm
          cases nm
          · have HR : Hid (okOne 16 t 0 0 F = false) := HE.out
            go_wp2_with fail
            go_ret
            exact ⟨by rw [HR.out]; rfl, hB2⟩
          · obtain ⟨fr, hfr⟩ : ∃ fr : Nat, F.len - 1 = fr := ⟨_, rfl⟩
            have hfr' : (F.len : Int) - 1 = (fr : Int) := by omega
            rw [hfr] at HE
            have hA : allN (fun i => (F.okp i).1) fr fr = true := allN_none _ _ _ (Nat.le_refl _)
            have HA : Hid (allN (fun i => (F.okp i).1) fr fr = true) := hA
            clear hA
            go_wp2_with fail
            go_loopw [6] (fun i wr => ∃ j : Nat, i = .int .i64 j ∧ allN (fun i => (F.okp i).1) fr j = true ∧ fr ≤ j ∧ j ≤ F.len ∧ wr.cell? ⟨w.heap.size, 4, none⟩ = some (.slice a F.len c) ∧ Below w.heap.size w wr) (fun i _ => F.len - (intOf i).toNat)
            case atStart => exact ⟨fr, by go_num, HA.out, Nat.le_refl _, by omega, d4, hB2⟩
            case round =>
              obtain ⟨j, rfl, hd, hfj, hj, hc4, hb⟩ := hrel
              have HD : Hid (allN (fun i => (F.okp i).1) fr j = true) := hd
              clear hd
              by_cases hjn : j < F.len
              · have hjl : (j : Int) < (F.len : Int) := by omega
                obtain ⟨b, o, rfl, hF⟩ := Fo.from_of_len hin hjn
                obtain ⟨⟨u1, u2, u3, u4, u5⟩, uk, ukc, ucm, ut⟩ := Fo.from_at (Fo.from_grow hb F b o hF) hjn
                have hsz := Fo.size_at hjn
                have HP : Hid ((F.okp j).1 = okOne (F.kindAt j) (F.textAt j) (F.manAt j) (F.expAt j) (F.kidsAt j)) := Fo.okp1 hjn
                have HC := fun W hW => H (F.kindAt j) (F.textAt j) (F.manAt j) (F.expAt j) (F.addrAt j) (F.capAt j) (F.kidsAt j) W (by omega) hW ukc ucm ut
                rw [← HP.out] at HC
                clear HP H HFs hin hF
                go_wp2_with fail
                refine (HC _ uk).mono ?_
                rintro r w4 ⟨rfl, hb4⟩
                have hB4 := hb.trans (hb4.mono hb.size)
                have hc4' := (hb4.cell (p := ⟨w.heap.size, 4, none⟩) (World.block_lt_of_cell? _ _ hc4)).trans hc4
                clear hb4 hb hc4 u1 u2 u3 u4 u5 uk HC
                generalize hok : (F.okp j).1 = ok
                have HOK : Hid ((F.okp j).1 = ok) := hok
                clear hok
                cases ok
                · have HR : Hid (okOne 16 t 0 0 F = false) := by unfold Hid; rw [HE.out, allN_false (p := fun i => (F.okp i).1) HOK.out hfj hjn]; rfl
                  go_wp2_with fail
                  go_ret
                  exact ⟨by rw [HR.out]; rfl, hB4⟩
                · have HS : Hid (allN (fun i => (F.okp i).1) fr (j + 1) = true) := by unfold Hid; show (allN (fun i => (F.okp i).1) fr j && (decide (j < fr) || (F.okp j).1)) = true; rw [HD.out, HOK.out]; simp
                  clear HD HOK
                  go_wp2_with fail
                  go_round
                  case rel => exact ⟨j + 1, by go_num, HS.out, by omega, by omega, hc4', hB4⟩
                  case measure => simp [intOf]; omega
              · have hjl : ¬ (j : Int) < (F.len : Int) := by omega
                have e : j = F.len := by omega
                have HR : Hid (okOne 16 t 0 0 F = true) := by unfold Hid; rw [HE.out, ← e, HD.out]; rfl
                go_wp2_with fail
                go_ret
                exact ⟨by rw [HR.out]; rfl, hb⟩
        · have HE : Hid (okOne k t 0 0 F = allN (fun i => (F.okp i).1) 0 F.len) := by unfold Hid; rw [HE'.out]; unfold kidsOf; rw [if_neg h22, if_neg h16]
          clear HE'
          have g16 : (k == 16) = false := by simp [h16]
          go_wp2_with fail
          go_loopw [6] (fun i wr => ∃ j : Nat, i = .int .i64 j ∧ allN (fun i => (F.okp i).1) 0 j = true ∧ 0 ≤ j ∧ j ≤ F.len ∧ wr.cell? ⟨w.heap.size, 4, none⟩ = some (.slice a F.len c) ∧ Below w.heap.size w wr) (fun i _ => F.len - (intOf i).toNat)
          case atStart => exact ⟨0, rfl, rfl, Nat.le_refl _, by omega, c4, hB1⟩
          case round =>
            obtain ⟨j, rfl, hd, hfj, hj, hc4, hb⟩ := hrel
            have HD : Hid (allN (fun i => (F.okp i).1) 0 j = true) := hd
            clear hd
            by_cases hjn : j < F.len
            · have hjl : (j : Int) < (F.len : Int) := by omega
              obtain ⟨b, o, rfl, hF⟩ := Fo.from_of_len hin hjn
              obtain ⟨⟨u1, u2, u3, u4, u5⟩, uk, ukc, ucm, ut⟩ := Fo.from_at (Fo.from_grow hb F b o hF) hjn
              have hsz := Fo.size_at hjn
              have HP : Hid ((F.okp j).1 = okOne (F.kindAt j) (F.textAt j) (F.manAt j) (F.expAt j) (F.kidsAt j)) := Fo.okp1 hjn
              have HC := fun W hW => H (F.kindAt j) (F.textAt j) (F.manAt j) (F.expAt j) (F.addrAt j) (F.capAt j) (F.kidsAt j) W (by omega) hW ukc ucm ut
              rw [← HP.out] at HC
              clear HP H HFs hin hF
              go_wp2_with fail
              refine (HC _ uk).mono ?_
              rintro r w4 ⟨rfl, hb4⟩
              have hB4 := hb.trans (hb4.mono hb.size)
              have hc4' := (hb4.cell (p := ⟨w.heap.size, 4, none⟩) (World.block_lt_of_cell? _ _ hc4)).trans hc4
              clear hb4 hb hc4 u1 u2 u3 u4 u5 uk HC
              generalize hok : (F.okp j).1 = ok
              have HOK : Hid ((F.okp j).1 = ok) := hok
              clear hok
              cases ok
              · have HR : Hid (okOne k t 0 0 F = false) := by unfold Hid; rw [HE.out, allN_false (p := fun i => (F.okp i).1) HOK.out hfj hjn]
                go_wp2_with fail
                go_ret
                exact ⟨by rw [HR.out]; rfl, hB4⟩
              · have HS : Hid (allN (fun i => (F.okp i).1) 0 (j + 1) = true) := by unfold Hid; show (allN (fun i => (F.okp i).1) 0 j && (decide (j < 0) || (F.okp j).1)) = true; rw [HD.out, HOK.out]; simp
                clear HD HOK
                go_wp2_with fail
                go_round
                case rel => exact ⟨j + 1, by go_num, HS.out, by omega, by omega, hc4', hB4⟩
                case measure => simp [intOf]; omega
            · have hjl : ¬ (j : Int) < (F.len : Int) := by omega
              have e : j = F.len := by omega
              have HR : Hid (okOne k t 0 0 F = true) := by unfold Hid; rw [HE.out, ← e, HD.out]
              go_wp2_with fail
              go_ret
              exact ⟨by rw [HR.out]; rfl, hb⟩
      · have HR : Hid (okOne k t m e F = false) := by
          unfold Hid; rw [HE.out, if_neg h4]
          by_cases z : m = 0 <;> simp_all
        by_cases z : m = 0
        · have z2 : ¬ e = 0 := fun h => hz ⟨z, h⟩
          have z2' : (e == 0) = false := by simp [z2]
          subst z
          go_wp2_with fail
          all_goals
            go_ret
            exact ⟨by rw [HR.out]; rfl, hB1⟩
        · have z' : (m == 0) = false := by simp [z]
          go_wp2_with fail
          all_goals
            go_ret
            exact ⟨by rw [HR.out]; rfl, hB1⟩
    · have g2 : (decide ((lo : Int) ≤ (F.len : Int)) && decide ((F.len : Int) ≤ (hi : Int))) = false := by rw [← Bool.decide_and]; exact decide_eq_false h2
      have HR : Hid (okOne k t m e F = false) := okOne_not (by rw [HH.out, g2]; simp)
      rw [g2]
      go_wp2_with fail
      go_ret
      exact ⟨by rw [HR.out]; rfl, hB0⟩
  · have g1 : (decide (1 ≤ k) && decide (k ≤ 24)) = false := by rw [← Bool.decide_and]; exact decide_eq_false h1
    have HR : Hid (okOne k t m e F = false) := okOne_not (by rw [HH.out, g1]; simp)
    rw [g1]
    go_wp2_with fail
    go_ret
    exact ⟨by rw [HR.out]; rfl, hB0⟩
theorem l3Ok_all (N : Nat) : OkBelow N := by
  induction N with
  | zero => intro k t m e a c F w hF; omega
  | succ N ih => exact fun k t m e a c F w hF => l3Ok_step N ih (l3Fields_step N ih) k t m e a c F w (by omega)
end Go.Proofs.Ytbbbmmemfndnlaa
/- The iterator over a tree and all below it. -/
namespace Go.Proofs.Ytbbbmmemfndnlaa
open Go.RowKit Go.Shelf
attribute [local go_sem] Oper.semAt_some

/-- the trees of a list and all below, each ahead of those below it, with how deep it stands -/
def Fo.flat : Fo → Nat → List (Nat × Int × ByteArray × Int × Int × Fo)
  | .nil, _ => []
  | .cons k t m e _ _ kids next, d => (d, k, t, m, e, kids) :: (kids.flat (d + 1) ++ next.flat d)
theorem Fo.flat_len : ∀ (F : Fo) (d : Nat), (F.flat d).length = F.size := by
  intro F
  induction F with
  | nil => intro d; rfl
  | cons k t m e a c kids next ih1 ih2 => intro d; show ((d, k, t, m, e, kids) :: (kids.flat (d + 1) ++ next.flat d)).length = kids.size + 1 + next.size; simp [ih1, ih2]; omega
/-- whatever lies in the one world lies in the other -/
def Sub (w W : World) : Prop := ∀ b o v, w.cell? ⟨b, o, none⟩ = some v → W.cell? ⟨b, o, none⟩ = some v
theorem Fo.from_sub {w w' : World} (h : Sub w w') : ∀ (F : Fo) (b o : Nat), F.From w b o → F.From w' b o := by
  intro F
  induction F with
  | nil => intro b o _; trivial
  | cons k t m e a c kids next ih1 ih2 =>
    rintro b o ⟨⟨h1, h2, h3, h4, h5⟩, hk, hc, hm, ht, hn⟩
    refine ⟨⟨h _ _ _ h1, h _ _ _ h2, h _ _ _ h3, h _ _ _ h4, h _ _ _ h5⟩, ?_, hc, hm, ht, ih2 _ _ hn⟩
    rcases hk with hk | ⟨b', o', e1, e2⟩
    · exact .inl hk
    · exact .inr ⟨b', o', e1, ih1 _ _ e2⟩
theorem Fo.In.sub {w w' : World} {F : Fo} {a : Option Addr} (hF : F.In w a) (h : Sub w w') : F.In w' a := by
  rcases hF with rfl | ⟨b, o, rfl, hF⟩
  · exact .inl rfl
  · exact .inr ⟨b, o, rfl, Fo.from_sub h F b o hF⟩
/-- what a round keeps: the cells that lay ahead of the caller, and those that were made since the loop began -/
def Kept (n0 n1 : Nat) (W W' : World) : Prop := W.heap.size ≤ W'.heap.size ∧ ∀ j o, W.heap[j]? = some o → o.isCells = true → (j < n0 ∨ n1 ≤ j) → W'.heap[j]? = some o
theorem Kept.refl (n0 n1 : Nat) (W : World) : Kept n0 n1 W W := ⟨Nat.le_refl _, fun _ _ h _ _ => h⟩
theorem Kept.trans {n0 n1 : Nat} {A B C : World} (h : Kept n0 n1 A B) (k : Kept n0 n1 B C) : Kept n0 n1 A C := ⟨Nat.le_trans h.1 k.1, fun j o ho hc hj => k.2 j o (h.2 j o ho hc hj) hc hj⟩
theorem Kept.of_below {n0 n1 : Nat} {W W' : World} (h : Below W.heap.size W W') : Kept n0 n1 W W' := ⟨h.size, fun j _ ho _ _ => (h.block j (Array.getElem?_eq_some_iff.1 ho).1).trans ho⟩
theorem cells_of_cell {W : World} {b o : Nat} {v : Value} (h : W.cell? ⟨b, o, none⟩ = some v) : ∃ x, W.heap[b]? = some x ∧ x.isCells = true := by
  have hlt := World.block_lt_of_cell? W _ h
  refine ⟨W.heap[b]'hlt, Array.getElem?_eq_getElem hlt, ?_⟩
  have hb : W.heap[b]? = some (W.heap[b]'hlt) := Array.getElem?_eq_getElem hlt
  unfold World.cell? at h
  rw [hb] at h
  cases hx : W.heap[b]'hlt <;> simp_all [Obj.isCells]
theorem Kept.cell {n0 n1 : Nat} {W W' : World} (h : Kept n0 n1 W W') {b o : Nat} {v : Value} (hv : W.cell? ⟨b, o, none⟩ = some v) (hb : b < n0 ∨ n1 ≤ b) : W'.cell? ⟨b, o, none⟩ = some v := by
  obtain ⟨x, hx, hc⟩ := cells_of_cell hv
  exact (World.cell?_of_block ((h.2 b x hx hc hb).trans hx.symm)).trans hv
theorem Kept.sub {n0 n1 : Nat} {w W W' : World} (h : Kept n0 n1 W W') (hs : Sub w W) (hn : w.heap.size ≤ n0) : Sub w W' := fun b o v hv =>
  h.cell (hs b o v hv) (.inl (Nat.lt_of_lt_of_le (World.block_lt_of_cell? w _ hv) hn))
theorem Sub.of_below {w W : World} (h : Below w.heap.size w W) : Sub w W := fun b o _ hv => (h.cell (p := ⟨b, o, none⟩) (World.block_lt_of_cell? w _ hv)).trans hv
/-- a tree that is told, with how deep it stands; what is below it lies in the world w -/
structure TI (w : World) where
  d : Nat
  k : Int
  t : ByteArray
  m : Int
  e : Int
  a : Option Addr
  kids : Fo
  c : Nat
  hin : kids.In w a
  hl : kids.len ≤ c
  hc : c ≤ maxLen
  ht : t.size ≤ maxLen
def TI.raw {w : World} (x : TI w) : Nat × Int × ByteArray × Int × Int × Fo := (x.d, x.k, x.t, x.m, x.e, x.kids)
def TI.enc {w : World} (x : TI w) : Array Value := #[.int .i64 x.d, .agg #[.int .i64 x.k, .string x.t, .int .i64 x.m, .int .i64 x.e, .slice x.a x.kids.len x.c]]

theorem room_none {F : Fence} (hd : F.depth = none) (k : Nat) : F.room k := fun d h => by rw [hd] at h; cases h
theorem roundIn_any {F : Fence} (hd : F.depth = none) {m m' : Nat} {P : Program} {l : Nat} {f : FuncId} {tmps : Array Value} {assign body : Code} {w : World} {R : Ending → World → Prop}
    (h : RoundIn F m P l f tmps assign body w R) : RoundIn F m' P l f tmps assign body w R := ⟨h.1, fun c cs _ => h.2 c cs (room_none hd _)⟩
theorem yieldAt_any {F : Fence} (hd : F.depth = none) {m : Nat} (m' : Nat) {P : Program} {l : Nat} {args : Array Value} {W : World} {R : Ending → World → Prop} (h : YieldAt F m P l args W R) : YieldAt F m' P l args W R := by
  obtain ⟨fn, tmps, assign, body, hy, hR⟩ := h
  exact ⟨fn, tmps, assign, body, hy, roundIn_any hd hR⟩
theorem grown_below {W W' : World} (h : Below W.heap.size W W') : W.grownBy W' none := ⟨h.os, h.tape, h.output, h.size, fun k hk _ => h.block k hk⟩

set_option maxHeartbeats 400000 in
theorem below_any (k : Int) (t : ByteArray) (m e : Int) (v : Value) (w : World) (n c : Nat) (a : Option Addr) (hv : v = .slice a n c) :
    Calls Try.prog 124 #[.agg #[.int .i64 k, .string t, .int .i64 m, .int .i64 e, v]] w fun r w' => r = .returned v ∧ Below w.heap.size w w' := by
  subst hv
  go_enter Try.func124, Try.ntmps124
  go_wp2_with fail
  go_ret
  exact ⟨rfl, (Below.refl _ w).alloc (Nat.le_refl _) _⟩

/-- which function the trees' own is -/
theorem below_method (v : Value) (W : World) : (method 229 33 v "loop.example/chancery/impl.below").run Try.prog W = .ok (124, v) W := by kernel_rfl
set_option maxRecDepth 100000 in
set_option maxHeartbeats 2000000 in
theorem tell_in (w0 : World) (l n0 n1 N B : Nat) (J Jx : List (TI w0) → World → Prop) (hJ : AbidesFrom B J) (hn0 : w0.heap.size ≤ n0)
    (hY : ∀ (q : Nat) (pre : List (TI w0)) (x : TI w0) (W : World), J pre W → pre.length < N → YieldAt Fence.wide q Try.prog l x.enc W fun e W' =>
      (e = .returned (.bool true) ∧ J (pre ++ [x]) W' ∧ Kept n0 n1 W W') ∨ (e = .returned (.bool false) ∧ Jx (pre ++ [x]) W')) (M : Nat) :
    ∀ (n : Nat) (x : TI w0) (pre : List (TI w0)) (W : World), x.kids.size < M → x.d + x.kids.size ≤ 1000000000 → n1 ≤ W.heap.size → Sub w0 W → J pre W → pre.length + (x.kids.size + 1) ≤ N →
      CallsIn Fence.wide n Try.prog 91 #[.agg #[.int .i64 x.k, .string x.t, .int .i64 x.m, .int .i64 x.e, .slice x.a x.kids.len x.c], .int .i64 x.d, .func (.yield l) #[] #[]] W fun e W' =>
        (e = .returned (.bool true) ∧ (∃ ys : List (TI w0), ys.map TI.raw = x.raw :: x.kids.flat (x.d + 1) ∧ J (pre ++ ys) W') ∧ Kept n0 n1 W W') ∨
        (e = .returned (.bool false) ∧ ∃ ys : List (TI w0), ys.map TI.raw <+: (x.raw :: x.kids.flat (x.d + 1)) ∧ Jx (pre ++ ys) W') := by
  induction M with
  | zero => intro n x pre W h; omega
  | succ M ih =>
    intro n x pre W hM hd hn1 hsub hJ0 hN
    have hcc := x.hc
    unfold maxLen at hcc
    have hlc := x.hl
    have hll := x.kids.len_le
    have hin := x.hin
    have hsz1 : W.heap.size < (W.alloc (.cells #[.int .i64 x.k, .string x.t, .int .i64 x.m, .int .i64 x.e, .slice x.a x.kids.len x.c] 33)).heap.size := by simp
    have hb0 : Below W.heap.size W (W.alloc (.cells #[.int .i64 x.k, .string x.t, .int .i64 x.m, .int .i64 x.e, .slice x.a x.kids.len x.c] 33)) := (Below.refl _ W).alloc (Nat.le_refl _) _
    have hJ1 := hJ _ _ _ none hJ0 (grown_below hb0) (fun r e => by cases e)
    obtain ⟨fn, tmps, assign, body, hy, hR⟩ := hY (n - 1) pre x _ hJ1 (by omega)
    dsimp only [TI.enc] at hy
    refine callsIn_of_wp Try.func91 rfl trivial ?_ rfl
    simp only [Try.ntmps91, List.size_toArray, List.length_cons, List.length_nil, Nat.reduceAdd, Nat.reduceSub, Array.replicate_succ, Array.replicate_zero, List.push_toArray, List.append_toArray, List.nil_append, List.cons_append]
    gi_wp2
    refine ⟨fun h => (by cases h), hR.mono ?_⟩
    clear hR hy
    have c0 : (W.alloc (.cells #[.int .i64 x.k, .string x.t, .int .i64 x.m, .int .i64 x.e, .slice x.a x.kids.len x.c] 33)).cell? ⟨W.heap.size, 0, none⟩ = some (.int .i64 x.k) := by simp
    have c1 : (W.alloc (.cells #[.int .i64 x.k, .string x.t, .int .i64 x.m, .int .i64 x.e, .slice x.a x.kids.len x.c] 33)).cell? ⟨W.heap.size, 1, none⟩ = some (.string x.t) := by simp
    have c2 : (W.alloc (.cells #[.int .i64 x.k, .string x.t, .int .i64 x.m, .int .i64 x.e, .slice x.a x.kids.len x.c] 33)).cell? ⟨W.heap.size, 2, none⟩ = some (.int .i64 x.m) := by simp
    have c3 : (W.alloc (.cells #[.int .i64 x.k, .string x.t, .int .i64 x.m, .int .i64 x.e, .slice x.a x.kids.len x.c] 33)).cell? ⟨W.heap.size, 3, none⟩ = some (.int .i64 x.e) := by simp
    have c4 : (W.alloc (.cells #[.int .i64 x.k, .string x.t, .int .i64 x.m, .int .i64 x.e, .slice x.a x.kids.len x.c] 33)).cell? ⟨W.heap.size, 4, none⟩ = some (.slice x.a x.kids.len x.c) := by simp
    generalize W.alloc (.cells #[.int .i64 x.k, .string x.t, .int .i64 x.m, .int .i64 x.e, .slice x.a x.kids.len x.c] 33) = W1 at *
    rintro r W2 (⟨rfl, hJ2, hk2⟩ | ⟨rfl, hx2⟩)
    · have d0 := hk2.cell c0 (.inr hn1)
      have d1 := hk2.cell c1 (.inr hn1)
      have d2 := hk2.cell c2 (.inr hn1)
      have d3 := hk2.cell c3 (.inr hn1)
      have d4 := hk2.cell c4 (.inr hn1)
      have K2 : Kept n0 n1 W W2 := (Kept.of_below hb0).trans hk2
      clear c0 c1 c2 c3 c4 hJ1 hk2 hb0 hsz1 hJ0
      have hmeth := below_method
      gi_wp2
      refine ⟨trivial, fun h => (by cases h), (callsIn_wide.2 (below_any _ _ _ _ _ _ _ _ _ rfl)).mono ?_⟩
      rintro r W3 ⟨rfl, hb3⟩
      have hJ3 := hJ _ _ _ none hJ2 (grown_below hb3) (fun r e => by cases e)
      have K3 : Kept n0 n1 W W3 := K2.trans (Kept.of_below hb3)
      clear d0 d1 d2 d3 d4 hb3 hJ2 K2 hmeth
      gi_wp2
      gi_loopw [18] (fun i wr => ∃ (j : Nat) (ys : List (TI w0)) (G : Fo), i = .int .i64 j ∧ j + G.len = x.kids.len ∧ G.size ≤ x.kids.size ∧ ys.map TI.raw ++ G.flat (x.d + 1) = x.raw :: x.kids.flat (x.d + 1) ∧ (G = .nil ∨ ∃ b o, x.a = some ⟨b, o, none⟩ ∧ G.From w0 b (o + j * 5)) ∧ J (pre ++ ys) wr ∧ Kept n0 n1 W wr) (fun i _ => x.kids.len - (intOf i).toNat)
      case atStart =>
        refine ⟨0, [x], x.kids, rfl, by omega, Nat.le_refl _, rfl, ?_, hJ3, K3⟩
        rcases hin with h | ⟨b, o, e1, e2⟩
        · exact .inl h
        · exact .inr ⟨b, o, e1, by simpa using e2⟩
      case round =>
        obtain ⟨j, ys, G, rfl, hj, hs, hflat, hG, hJs, hK⟩ := hrel
        cases G with
        | nil =>
          have hj' : j = x.kids.len := by simpa [Fo.len] using hj
          have hf' : ys.map TI.raw = x.raw :: x.kids.flat (x.d + 1) := by simpa [Fo.flat] using hflat
          have hlt : ¬ (j : Int) < (x.kids.len : Int) := by omega
          clear hG hj hflat
          gi_wp2
          refine bodyPost_ret (results_tmp rfl _ _ _) rfl (.inl ⟨rfl, ⟨ys, hf', hJs⟩, hK⟩)
        | cons k' t' m' e' a' c' kids next =>
          rcases hG with hG | ⟨b, o, ha, hcells, hk, hc1, hc2, ht', hn⟩
          · cases hG
          have hln : j + (next.len + 1) = x.kids.len := hj
          have hsz : kids.size + 1 + next.size ≤ x.kids.size := hs
          have hlt : (j : Int) < (x.kids.len : Int) := by omega
          have hjl : j < x.kids.len := by omega
          have hyl : ys.length + (kids.size + 1 + next.size) = 1 + x.kids.size := by
            have := congrArg List.length hflat
            simp [Fo.flat_len] at this
            have h2 : (Fo.cons k' t' m' e' a' c' kids next).size = kids.size + 1 + next.size := rfl
            omega
          have hsubw : Sub w0 wr := hK.sub hsub hn0
          obtain ⟨h1, h2, h3, h4, h5⟩ := hcells
          have g1 := hsubw _ _ _ h1
          have g2 := hsubw _ _ _ h2
          have g3 := hsubw _ _ _ h3
          have g4 := hsubw _ _ _ h4
          have g5 := hsubw _ _ _ h5
          rw [ha] at *
          clear h1 h2 h3 h4 h5 hj hs
          have hbA : Below wr.heap.size wr (wr.alloc (.cells #[.int .i64 k', .string t', .int .i64 m', .int .i64 e', .slice a' kids.len c'] 33)) := (Below.refl _ wr).alloc (Nat.le_refl _) _
          have KA : Kept n0 n1 wr _ := Kept.of_below hbA
          have HI := ih (n - 1) ⟨x.d + 1, k', t', m', e', a', kids, c', hk, hc1, hc2, ht'⟩ (pre ++ ys) (wr.alloc (.cells #[.int .i64 k', .string t', .int .i64 m', .int .i64 e', .slice a' kids.len c'] 33))
            (by show kids.size < M; omega) (by show x.d + 1 + kids.size ≤ 1000000000; omega) (by have := hK.1; simp; omega) (KA.sub hsubw hn0) (hJ _ _ _ none hJs (grown_below hbA) (fun r e => by cases e)) (by show (pre ++ ys).length + (kids.size + 1) ≤ N; rw [List.length_append]; omega)
          have hfl : ys.map TI.raw ++ ((x.d + 1, k', t', m', e', kids) :: (kids.flat (x.d + 1 + 1) ++ next.flat (x.d + 1))) = x.raw :: x.kids.flat (x.d + 1) := hflat
          gi_wp2
          refine ⟨trivial, fun h => (by cases h), HI.mono ?_⟩
          clear HI ih hflat g1 g2 g3 g4 g5
          rintro r W4 (⟨rfl, ⟨zs, hz, hJz⟩, hKz⟩ | ⟨rfl, zs, hz, hxz⟩)
          · have hK4 : Kept n0 n1 W W4 := (hK.trans KA).trans hKz
            have hJ4 : J (pre ++ (ys ++ zs)) W4 := by rw [← List.append_assoc]; exact hJz
            have hf4 : (ys ++ zs).map TI.raw ++ next.flat (x.d + 1) = x.raw :: x.kids.flat (x.d + 1) := by
              rw [← hfl, List.map_append, hz]; simp [TI.raw]
            clear hJs hK KA hKz hJz hfl hz hsubw hbA
            gi_wp2
            go_roundw
            case rel =>
              refine ⟨j + 1, ys ++ zs, next, by go_num, by omega, by omega, hf4, .inr ⟨b, o, rfl, ?_⟩, hJ4, hK4⟩
              rw [show o + (j + 1) * 5 = o + j * 5 + 5 by omega]; exact hn
            case measure => simp [intOf]; omega
          · have hx4 : Jx (pre ++ (ys ++ zs)) W4 := by rw [← List.append_assoc]; exact hxz
            have hf4 : (ys ++ zs).map TI.raw <+: (x.raw :: x.kids.flat (x.d + 1)) := by
              obtain ⟨tl, htl⟩ := hz
              refine ⟨tl ++ next.flat (x.d + 1), ?_⟩
              rw [← hfl, List.map_append, List.append_assoc, ← List.append_assoc (zs.map TI.raw), htl]; simp [TI.raw]
            clear hJs hK KA hxz hfl hz hsubw hbA
            gi_wp2
            refine bodyPost_ret (results_tmp rfl _ _ _) rfl (.inr ⟨rfl, ys ++ zs, hf4, hx4⟩)
    · gi_wp2
      refine bodyPost_ret (results_tmp rfl _ _ _) rfl (.inr ⟨rfl, [x], ?_, hx2⟩)
      exact ⟨x.kids.flat (x.d + 1), rfl⟩

set_option maxHeartbeats 1000000 in
/-- the function that allOf hands back tells the tree and all below it -/
theorem all_stops (w0 : World) (n n0 n1 Bt : Nat) (x : TI w0) (w : World) (hd : x.d = 1) (hx : x.kids.size ≤ 2000000) (hn0 : w0.heap.size ≤ n0) (hn1 : n1 ≤ w.heap.size) (hsub : Sub w0 w)
    (c0 : w.cell? ⟨Bt, 0, none⟩ = some (.int .i64 x.k)) (c1 : w.cell? ⟨Bt, 1, none⟩ = some (.string x.t)) (c2 : w.cell? ⟨Bt, 2, none⟩ = some (.int .i64 x.m)) (c3 : w.cell? ⟨Bt, 3, none⟩ = some (.int .i64 x.e)) (c4 : w.cell? ⟨Bt, 4, none⟩ = some (.slice x.a x.kids.len x.c)) :
    SeqStopsK Fence.wide n Try.prog 90 #[.pointer (some ⟨Bt, 0, none⟩)] (fun y : TI w0 => y.enc) (Kept n0 n1) (fun ys => ys.map TI.raw = x.raw :: x.kids.flat 2) (fun ys => ys.map TI.raw <+: (x.raw :: x.kids.flat 2)) (x.kids.size + 1) w := fun l J Jx W hW hJ hJx hY h0 => by
  have hB := World.block_lt_of_cell? w _ c0
  have C0 := (hW.cell (p := ⟨Bt, 0, none⟩) hB).trans c0
  have C1 := (hW.cell (p := ⟨Bt, 1, none⟩) hB).trans c1
  have C2 := (hW.cell (p := ⟨Bt, 2, none⟩) hB).trans c2
  have C3 := (hW.cell (p := ⟨Bt, 3, none⟩) hB).trans c3
  have C4 := (hW.cell (p := ⟨Bt, 4, none⟩) hB).trans c4
  have hs := hW.size
  have HT := tell_in w0 l n0 n1 (x.kids.size + 1) _ J Jx hJ hn0 (fun q pre y W1 h1 h2 => yieldAt_any rfl q (hY pre y W1 h1 h2)) (x.kids.size + 1) (n - 1) x [] W (by omega) (by omega) (by omega) (fun b o v hv => (hW.cell (p := ⟨b, o, none⟩) (World.block_lt_of_cell? _ _ (hsub b o v hv))).trans (hsub b o v hv)) h0 (by simp)
  rw [hd] at HT
  clear c0 c1 c2 c3 c4 hY
  refine callsIn_of_wp Try.func90 rfl trivial ?_ rfl
  simp only [Try.ntmps90, List.size_toArray, List.length_cons, List.length_nil, Nat.reduceAdd, Nat.reduceSub, Array.replicate_succ, Array.replicate_zero, List.push_toArray, List.append_toArray, List.nil_append, List.cons_append]
  gi_wp2
  refine ⟨trivial, fun h => (by cases h), HT.mono ?_⟩
  clear HT
  rintro r W1 (⟨rfl, ⟨ys, hz, hJz⟩, _⟩ | ⟨rfl, ys, hz, hxz⟩)
  · gi_wp2
    go_end0
    exact ⟨⟨_, rfl⟩, .inl ⟨ys, hz, by simpa using hJz⟩⟩
  · gi_wp2
    go_end0
    exact ⟨⟨_, rfl⟩, .inr ⟨ys, hz, by simpa using hxz⟩⟩

set_option maxHeartbeats 400000 in
theorem allOf_any (v : Value) (k : Int) (t : ByteArray) (m e : Int) (a : Option Addr) (n c : Nat) (w : World) (hv : v = nodeV k t m e a n c) :
    Calls Try.prog 68 #[v] w fun r w' => r = .returned (.func (.func 90) #[] #[.pointer (some ⟨w.heap.size, 0, none⟩)]) ∧ w' = w.alloc (.cells #[.int .i64 k, .string t, .int .i64 m, .int .i64 e, .slice a n c] 33) := by
  subst hv
  go_enter Try.func68, Try.ntmps68
  go_wp2_with fail
  go_ret
  exact ⟨rfl, rfl⟩
set_option maxHeartbeats 400000 in
theorem nodes_any (k : Int) (t : ByteArray) (m e : Int) (a : Option Addr) (n c : Nat) (w : World) :
    Calls Try.prog 46 #[nodeV k t m e a n c] w fun r w' => ∃ B, w.heap.size ≤ B ∧ r = .returned (.func (.func 90) #[] #[.pointer (some ⟨B, 0, none⟩)]) ∧
      (w'.cell? ⟨B, 0, none⟩ = some (.int .i64 k) ∧ w'.cell? ⟨B, 1, none⟩ = some (.string t) ∧ w'.cell? ⟨B, 2, none⟩ = some (.int .i64 m) ∧ w'.cell? ⟨B, 3, none⟩ = some (.int .i64 e) ∧ w'.cell? ⟨B, 4, none⟩ = some (.slice a n c)) ∧ Below w.heap.size w w' := by
  go_enter Try.func46, Try.ntmps46
  go_wp2_with fail
  refine (allOf_any _ k t m e a n c _ rfl).mono ?_
  rintro r w1 ⟨rfl, rfl⟩
  go_wp2_with fail
  go_ret
  exact ⟨_, by simp, rfl, ⟨by simp, by simp, by simp, by simp, by simp⟩, ((Below.refl _ w).alloc (Nat.le_refl _) _).alloc (by simp) _⟩
end Go.Proofs.Ytbbbmmemfndnlaa
/- A map of texts and numbers, as it is made of a literal and looked into. -/
namespace Go.Proofs.Ytbbbmmemfndnlaa
open Go.RowKit
/-- the entries of a map, born one after the other -/
def ents : List (ByteArray × Int) → Nat → List MapEntry
  | [], _ => []
  | (s, v) :: t, n => { key := .string s, val := .int .i64 v, born := n } :: ents t (n + 1)
def seek (s : ByteArray) : List (ByteArray × Int) → Nat → Option (Nat × Value)
  | [], _ => none
  | (x, v) :: t, i => if s == x then some (i, .int .i64 v) else seek s t (i + 1)
/-- what stands there, or 0 -/
def seekV (s : ByteArray) : List (ByteArray × Int) → Int
  | [] => 0
  | (x, v) :: t => if s == x then v else seekV s t
theorem findNow_ents (s : ByteArray) : ∀ (L : List (ByteArray × Int)) (n i : Nat), Instr.findNow .string (.string s) (ents L n) i = some (seek s L i) := by
  intro L
  induction L with
  | nil => intro n i; rfl
  | cons p t ih =>
    obtain ⟨x, v⟩ := p
    intro n i
    show (match Instr.sameNow .string (.string s) (.string x) with
      | some true => some (some (i, Value.int .i64 v))
      | some false => Instr.findNow .string (.string s) (ents t (n + 1)) (i + 1)
      | none => none) = some (if s == x then some (i, Value.int .i64 v) else seek s t (i + 1))
    show (match some (s == x) with
      | some true => some (some (i, Value.int .i64 v))
      | some false => Instr.findNow .string (.string s) (ents t (n + 1)) (i + 1)
      | none => none) = some (if s == x then some (i, Value.int .i64 v) else seek s t (i + 1))
    cases h : (s == x)
    · simp [ih]
    · simp
theorem ents_snoc (s : ByteArray) (v : Int) : ∀ (L : List (ByteArray × Int)) (n : Nat), ents (L ++ [(s, v)]) n = ents L n ++ [{ key := .string s, val := .int .i64 v, born := n + L.length }] := by
  intro L
  induction L with
  | nil => intro n; rfl
  | cons p t ih =>
    obtain ⟨x, u⟩ := p
    intro n
    show _ :: ents (t ++ [(s, v)]) (n + 1) = _ :: (ents t (n + 1) ++ _)
    rw [ih (n + 1)]
    simp
    omega
theorem seek_val (s : ByteArray) : ∀ (L : List (ByteArray × Int)) (i : Nat), (match seek s L i with | some (_, v) => v | none => Value.int .i64 0) = Value.int .i64 (seekV s L) := by
  intro L
  induction L with
  | nil => intro i; rfl
  | cons p t ih =>
    obtain ⟨x, v⟩ := p
    intro i
    unfold seek seekV
    cases h : (s == x)
    · simpa using ih (i + 1)
    · simp
/-- block b is that map -/
def IsMap (w : World) (b : Nat) (L : List (ByteArray × Int)) : Prop := w.heap[b]? = some (.map (ents L 0).toArray L.length)
theorem IsMap.grown {w w' : World} {b : Nat} {L : List (ByteArray × Int)} (h : IsMap w b L) (hb : Below w.heap.size w w') : IsMap w' b L := by
  have hlt := (Array.getElem?_eq_some_iff.1 h).1
  exact (hb.block b hlt).trans h
theorem run_insert_new {P : Program} {w : World} {mty kt et : TypeId} {b : Nat} {L : List (ByteArray × Int)} {s : ByteArray} {v : Int} (hm : P.underlying mty = some (.map kt et)) (hk : P.underlying kt = some .string)
    (hb : IsMap w b L) (hf : seek s L 0 = none) :
    (Instr.mapUpdate mty (.map (some b)) (.string s) (.int .i64 v)).run P w = .ok () { w with heap := w.heap.setIfInBounds b (.map (ents (L ++ [(s, v)]) 0).toArray (L ++ [(s, v)]).length) } := by
  have hff : Instr.findNow .string (.string s) (ents L 0).toArray.toList 0 = some none := by rw [List.toList_toArray, findNow_ents, hf]
  have hc : (Instr.checkKey false 10000 kt (.string s)).run P w = .ok () w := MapKept.run_checkKey (k := .string s) hk (by simp [MapKept.IsKey]) false 9999
  have e : (ents (L ++ [(s, v)]) 0).toArray = (ents L 0).toArray.push { key := .string s, val := .int .i64 v, born := L.length } := by rw [ents_snoc]; simp
  rw [e]
  simp [Instr.mapUpdate, run_underlying hm, MapKept.run_getObj_map hb, hc, MapKept.run_findKey hk hff, MapKept.run_setObj_map _ hb, Result.andThen]
theorem run_look {P : Program} {w : World} {mty kt et : TypeId} {b : Nat} {L : List (ByteArray × Int)} {s : ByteArray} (hm : P.underlying mty = some (.map kt et)) (hk : P.underlying kt = some .string)
    (hz : (zeroValue et).run P w = .ok (.int .i64 0) w) (hb : IsMap w b L) :
    (Instr.lookup mty (.map (some b)) (.string s) false).run P w = .ok (.int .i64 (seekV s L)) w := by
  have hff : Instr.findNow .string (.string s) (ents L 0) 0 = some (seek s L 0) := findNow_ents s L 0 0
  have hc : ∀ em, (Instr.checkKey em 10000 kt (.string s)).run P w = .ok () w := fun em => MapKept.run_checkKey (k := .string s) hk (by simp [MapKept.IsKey]) em 9999
  have hv := seek_val s L 0
  cases h : seek s L 0 with
  | none => rw [h] at hv hff; rw [← hv]; simp [Instr.lookup, run_underlying hm, MapKept.run_getObj_map hb, hc, MapKept.run_findKey hk hff, hz]
  | some p => obtain ⟨i, v⟩ := p; rw [h] at hv hff; rw [← hv]; simp [Instr.lookup, run_underlying hm, MapKept.run_getObj_map hb, hc, MapKept.run_findKey hk hff]
theorem beq_list (s : ByteArray) (l : List UInt8) : (s == ⟨l.toArray⟩) = (s.toList == l) := by
  rw [Bool.eq_iff_iff, MapKept.bytes_beq, beq_iff_eq, ByteArray.toList_eq]
  constructor
  · intro h; subst h; simp
  · intro h; subst h; cases s; simp
end Go.Proofs.Ytbbbmmemfndnlaa
/- Contracts for trees that are ok: the signs between two; the table of kinds. -/
namespace Go.Proofs.Ytbbbmmemfndnlaa
open Go.RowKit
/-- the signs, with how much they bind -/
def binds : List (List UInt8 × Int) := [([124, 124], 1), ([38, 38], 2), ([61, 61], 3), ([33, 61], 3), ([60], 4), ([60, 61], 4), ([62], 4), ([62, 61], 4), ([43], 5), ([45], 5), ([42], 6), ([47], 6), ([37], 6)]
def bindsB : List (ByteArray × Int) := binds.map fun p => (⟨p.1.toArray⟩, p.2)
theorem binds_pos {s : ByteArray} : ∀ {L : List (List UInt8 × Int)}, (∀ p ∈ L, 0 < p.2) → decide (0 < seekV s (L.map fun p => (⟨p.1.toArray⟩, p.2))) = Qm.has (L.map (·.1)) s.toList := by
  intro L
  induction L with
  | nil => intro _; rfl
  | cons p t ih =>
    intro h
    show decide (0 < (if s == ⟨p.1.toArray⟩ then p.2 else seekV s (t.map fun p => (⟨p.1.toArray⟩, p.2)))) = ((s.toList == p.1) || Qm.has (t.map (·.1)) s.toList)
    rw [beq_list]
    have := ih (fun q hq => h q (List.mem_cons_of_mem _ hq))
    cases hs : (s.toList == p.1)
    · simpa using this
    · have := h p (by simp)
      simpa using this
theorem binds_has (s : ByteArray) : decide (0 < seekV s bindsB) = Qm.has Om.signs s.toList := by
  have := @binds_pos s binds (by decide)
  rw [show binds.map (·.1) = Om.signs from rfl] at this
  exact this
theorem zeroInt (w : World) : (zeroValue 3).run Try.prog w = .ok (.int .i64 0) w := by kernel_rfl

set_option maxHeartbeats 1000000 in
theorem has_any (b : Nat) (s : ByteArray) (w : World) (hb : IsMap w b bindsB) :
    Calls Try.prog 80 #[.map (some b), .string s] w fun e w' => e = .returned (.bool (Qm.has Om.signs s.toList)) ∧ w' = w := by
  have hrun := run_look (P := Try.prog) (s := s) Try.underlying93 Try.underlying9 (zeroInt w) hb
  have HB : Hid (decide (0 < seekV s bindsB) = Qm.has Om.signs s.toList) := binds_has s
  generalize seekV s bindsB = z at *
  go_enter Try.func80, Try.ntmps80
  go_wp2_with fail
  go_ret
  exact ⟨by rw [← HB.out]; rfl, rfl⟩

theorem ins_step {w : World} {b : Nat} {L : List (ByteArray × Int)} {s : ByteArray} {v : Int} (hb : IsMap w b L) (hf : seek s L 0 = none) :
    ∃ w', (Instr.mapUpdate 93 (.map (some b)) (.string s) (.int .i64 v)).run Try.prog w = .ok () w' ∧ IsMap w' b (L ++ [(s, v)]) ∧ w.grownBy w' (some b) := by
  have hlt := (Array.getElem?_eq_some_iff.1 hb).1
  refine ⟨_, run_insert_new Try.underlying93 Try.underlying9 hb hf, ?_, ⟨rfl, rfl, rfl, by simp, fun i _ hi => ?_⟩⟩
  · unfold IsMap
    simp [hlt]
  · have hne : b ≠ i := fun e => hi (by rw [e])
    simp [hne]
set_option maxRecDepth 100000 in
set_option maxHeartbeats 4000000 in
theorem signBindings_any (w : World) :
    Calls Try.prog 77 #[] w fun e w' => e = .returned (.map (some w.heap.size)) ∧ IsMap w' w.heap.size bindsB ∧ Below w.heap.size w w' := by
  have hmm := @run_makeMap Try.prog
  have hb0 : Below w.heap.size w (w.alloc (.map #[] 0)) := (Below.refl _ w).alloc (Nat.le_refl _) _
  have hm0 : IsMap (w.alloc (.map #[] 0)) w.heap.size [] := World.alloc_heap_new w _
  go_enter Try.func77, Try.ntmps77
  go_wp2_with fail
  obtain ⟨w1, hr, hm1, hg⟩ := ins_step (s := ⟨#[124, 124]⟩) (v := 1) hm0 (by decide +kernel)
  rw [hr]
  have hb1 := hb0.grown hg hb0.size (fun k e => by cases e; exact Nat.le_refl _)
  clear hr hg hm0 hb0
  go_wp2_with fail
  obtain ⟨w2, hr, hm2, hg⟩ := ins_step (s := ⟨#[38, 38]⟩) (v := 2) hm1 (by decide +kernel)
  rw [hr]
  have hb2 := hb1.grown hg hb1.size (fun k e => by cases e; exact Nat.le_refl _)
  clear hr hg hm1 hb1
  go_wp2_with fail
  obtain ⟨w3, hr, hm3, hg⟩ := ins_step (s := ⟨#[61, 61]⟩) (v := 3) hm2 (by decide +kernel)
  rw [hr]
  have hb3 := hb2.grown hg hb2.size (fun k e => by cases e; exact Nat.le_refl _)
  clear hr hg hm2 hb2
  go_wp2_with fail
  obtain ⟨w4, hr, hm4, hg⟩ := ins_step (s := ⟨#[33, 61]⟩) (v := 3) hm3 (by decide +kernel)
  rw [hr]
  have hb4 := hb3.grown hg hb3.size (fun k e => by cases e; exact Nat.le_refl _)
  clear hr hg hm3 hb3
  go_wp2_with fail
  obtain ⟨w5, hr, hm5, hg⟩ := ins_step (s := ⟨#[60]⟩) (v := 4) hm4 (by decide +kernel)
  rw [hr]
  have hb5 := hb4.grown hg hb4.size (fun k e => by cases e; exact Nat.le_refl _)
  clear hr hg hm4 hb4
  go_wp2_with fail
  obtain ⟨w6, hr, hm6, hg⟩ := ins_step (s := ⟨#[60, 61]⟩) (v := 4) hm5 (by decide +kernel)
  rw [hr]
  have hb6 := hb5.grown hg hb5.size (fun k e => by cases e; exact Nat.le_refl _)
  clear hr hg hm5 hb5
  go_wp2_with fail
  obtain ⟨w7, hr, hm7, hg⟩ := ins_step (s := ⟨#[62]⟩) (v := 4) hm6 (by decide +kernel)
  rw [hr]
  have hb7 := hb6.grown hg hb6.size (fun k e => by cases e; exact Nat.le_refl _)
  clear hr hg hm6 hb6
  go_wp2_with fail
  obtain ⟨w8, hr, hm8, hg⟩ := ins_step (s := ⟨#[62, 61]⟩) (v := 4) hm7 (by decide +kernel)
  rw [hr]
  have hb8 := hb7.grown hg hb7.size (fun k e => by cases e; exact Nat.le_refl _)
  clear hr hg hm7 hb7
  go_wp2_with fail
  obtain ⟨w9, hr, hm9, hg⟩ := ins_step (s := ⟨#[43]⟩) (v := 5) hm8 (by decide +kernel)
  rw [hr]
  have hb9 := hb8.grown hg hb8.size (fun k e => by cases e; exact Nat.le_refl _)
  clear hr hg hm8 hb8
  go_wp2_with fail
  obtain ⟨w10, hr, hm10, hg⟩ := ins_step (s := ⟨#[45]⟩) (v := 5) hm9 (by decide +kernel)
  rw [hr]
  have hb10 := hb9.grown hg hb9.size (fun k e => by cases e; exact Nat.le_refl _)
  clear hr hg hm9 hb9
  go_wp2_with fail
  obtain ⟨w11, hr, hm11, hg⟩ := ins_step (s := ⟨#[42]⟩) (v := 6) hm10 (by decide +kernel)
  rw [hr]
  have hb11 := hb10.grown hg hb10.size (fun k e => by cases e; exact Nat.le_refl _)
  clear hr hg hm10 hb10
  go_wp2_with fail
  obtain ⟨w12, hr, hm12, hg⟩ := ins_step (s := ⟨#[47]⟩) (v := 6) hm11 (by decide +kernel)
  rw [hr]
  have hb12 := hb11.grown hg hb11.size (fun k e => by cases e; exact Nat.le_refl _)
  clear hr hg hm11 hb11
  go_wp2_with fail
  obtain ⟨w13, hr, hm13, hg⟩ := ins_step (s := ⟨#[37]⟩) (v := 6) hm12 (by decide +kernel)
  rw [hr]
  have hb13 := hb12.grown hg hb12.size (fun k e => by cases e; exact Nat.le_refl _)
  clear hr hg hm12 hb12
  go_wp2_with fail
  go_ret
  exact ⟨rfl, hm13, hb13⟩
end Go.Proofs.Ytbbbmmemfndnlaa
/- Contracts for trees that are ok: the table of kinds. -/
namespace Go.Proofs.Ytbbbmmemfndnlaa
open Go.RowKit
/-- a function, as a value -/
abbrev fnV (n : Nat) : Value := .func (.func n) #[] #[]
/-- the rows of the table: a function on the text, at least and at most so many below -/
def tblV (b : Nat) : Array Value := #[.nilFunc, .int .i64 0, .int .i64 0,
  fnV 78, .int .i64 0, .int .i64 0, fnV 78, .int .i64 0, .int .i64 0, fnV 78, .int .i64 0, .int .i64 0, fnV 78, .int .i64 0, .int .i64 0,
  fnV 79, .int .i64 0, .int .i64 0, fnV 41, .int .i64 0, .int .i64 0, fnV 78, .int .i64 0, .int .i64 0, fnV 41, .int .i64 0, .int .i64 0, fnV 41, .int .i64 0, .int .i64 0,
  fnV 78, .int .i64 1, .int .i64 1, fnV 78, .int .i64 1, .int .i64 1, fnV 78, .int .i64 1, .int .i64 1,
  .func (.func 80) #[.map (some b)] #[], .int .i64 2, .int .i64 2, fnV 78, .int .i64 3, .int .i64 3, fnV 41, .int .i64 2, .int .i64 2,
  fnV 78, .int .i64 1, .int .i64 8, fnV 78, .int .i64 1, .int .i64 8, fnV 41, .int .i64 1, .int .i64 1, fnV 78, .int .i64 2, .int .i64 2,
  fnV 78, .int .i64 0, .int .i64 8, fnV 41, .int .i64 2, .int .i64 2, fnV 78, .int .i64 0, .int .i64 8, fnV 41, .int .i64 1, .int .i64 1, fnV 81, .int .i64 1, .int .i64 3]
theorem tbl_size (b : Nat) : (tblV b).size = 75 := rfl
theorem tblInfo : (Try.prog.info? 72).map (·.size) = some 75 := by kernel_rfl
/-- a whole array is stored into a variable of its own -/
theorem wpList_store_row {P : Program} {ops : Array Oper} {rest : List Oper} {op : Oper} {a : Act} {w : World} {Q : Exit → Act → World → Prop} (hgd : op.guard = none) (ty : TypeId) (x y : Operand) (ho : op.op = .store ty x y)
    (b : Nat) (c c' : Array Value) (hx : a.eval x = .pointer (some ⟨b, 0, none⟩)) (hy : a.eval y = .agg c') (hb : w.heap[b]? = some (.cells c ty (0, 0))) (hi : (P.info? ty).map (·.size) = some c'.size) (hs : c.size = c'.size) (h1 : c'.all (·.oneCell') = true)
    (h : wpList P ops Q rest (a.put op.dst undef) (w.setRow b c')) : wpList P ops Q (op :: rest) a w := by
  refine wpList_plain hgd fun K hK => ?_
  unfold Oper.wp execOp
  simp only [ho, hx, hy, Instr.storeAt, Instr.sureAddr, Sem.run_bind, Sem.run_pure, Result.andThen_ok, run_storeVar_row w b ty ty c c' hb hi hs h1]
  exact hK _ _ h
theorem zeroTbl_size : Try.zeroCells72.size = 75 := Try.zeroCells72_size
theorem tbl_one (b : Nat) : (tblV b).all (·.oneCell') = true := by unfold tblV; simp [Value.oneCell']
theorem setRow_same {w : World} {b : Nat} {c : Array Value} {t : TypeId} (h : w.heap[b]? = some (.cells c t (0, 0))) (c' : Array Value) : (w.setRow b c').heap[b]? = some (.cells c' t (0, 0)) := by
  unfold World.setRow
  simp [Array.getElem?_modify, h]
theorem setRow_grown {b : Nat} (w : World) (c : Array Value) : w.grownBy (w.setRow b c) (some b) :=
  ⟨rfl, rfl, rfl, by simp [World.setRow], fun i _ hi => by
    have hne : b ≠ i := fun e => hi (by rw [e])
    simp [World.setRow, Array.getElem?_modify, hne]⟩
theorem results_cell {P : Program} {fn : Func} {c : Tmp} {t : TypeId} (h : fn.results = #[.cell c t]) {tmps : Array Value} {a : Addr} {v : Value} {w : World} (ht : tmps.getD c undef = .pointer (some a)) (hl : (loadVar t a).run P w = .ok v w) :
    (results fn tmps).run P w = .ok v w := by
  have ht' : tmps[c]?.getD undef = .pointer (some a) := by simpa using ht
  simp [results, h, asAddr, ht', hl]
/-- an operation whose value is known -/
theorem wpList_run {P : Program} {ops : Array Oper} {rest : List Oper} {op : Oper} {a : Act} {w : World} {Q : Exit → Act → World → Prop} (hgd : op.guard = none) (k : Nat) (_hd : op.dst = some k) (v : Value)
    (hrun : (execOp a.eval op).run P w = .ok (.value v) w) (h : wpList P ops Q rest (a.put op.dst v) w) : wpList P ops Q (op :: rest) a w := by
  refine wpList_plain hgd fun K hK => ?_
  unfold Oper.wp
  rw [hrun]
  exact hK _ _ h
set_option maxRecDepth 100000 in
set_option maxHeartbeats 400000 in
theorem nodeKinds_any (w : World) :
    Calls Try.prog 54 #[] w fun e w' => ∃ b, e = .returned (.agg (tblV b)) ∧ w.heap.size ≤ b ∧ IsMap w' b bindsB ∧ Below w.heap.size w w' := by
  go_enter Try.func54, Try.ntmps54
  go_wp2_with fail
  refine (signBindings_any _).mono ?_
  rintro e w1 ⟨rfl, hm, hb⟩
  have hB1 : Below w.heap.size w w1 := ((Below.refl _ w).alloc (Nat.le_refl _) _).trans (hb.mono (by simp))
  have hblk : w1.heap[w.heap.size]? = some (.cells Try.zeroCells72 72 (0, 0)) := (hb.block _ (by simp)).trans (World.alloc_heap_new w _)
  rw [World.size_alloc] at *
  clear hb
  go_wp2_with (first | (refine wpList_run rfl 29 rfl (.agg (tblV (w.heap.size + 1))) (by kernel_rfl) ?_) | refine wpList_store_row rfl 72 (.tmp 0) (.tmp 29) rfl w.heap.size _ (tblV (w.heap.size + 1)) rfl rfl hblk tblInfo zeroTbl_size (tbl_one _) ?_)
  have hrow : (w1.setRow w.heap.size (tblV (w.heap.size + 1))).heap[w.heap.size]? = some (.cells (tblV (w.heap.size + 1)) 72 (0, 0)) := setRow_same hblk _
  have hload := run_loadVar_row (P := Try.prog) _ _ 72 72 _ (0, 0) _ hrow Try.underlying72 rfl tblInfo
  have hg := setRow_grown (b := w.heap.size) w1 (tblV (w.heap.size + 1))
  have hlt := (Array.getElem?_eq_some_iff.1 hm).1
  refine bodyPost_ret (v := .agg (tblV (w.heap.size + 1))) ?_ rfl ⟨_, rfl, by omega, (hg.block _ hlt (by simp)).trans hm, hB1.grown hg hB1.size (fun k e => by cases e; exact Nat.le_refl _)⟩
  exact results_cell (c := 0) Try.results54 rfl hload
end Go.Proofs.Ytbbbmmemfndnlaa
/- Small facts on worlds. -/
namespace Go.Proofs.Ytbbbmmemfndnlaa
open Go.RowKit
/-- every cell that was there is as it was, and may be written as before: two rules that need no reckoning with blocks -/
theorem bsome {W w1 : World} (hb : Below W.heap.size W w1) : (∀ b o, (W.cell? ⟨b, o, none⟩).isSome = true → w1.cell? ⟨b, o, none⟩ = W.cell? ⟨b, o, none⟩) ∧ (∀ b o, (W.cell? ⟨b, o, none⟩).isSome = true → w1.frozen? ⟨b, o, none⟩ = W.frozen? ⟨b, o, none⟩) := by
  refine ⟨fun b o h => ?_, fun b o h => ?_⟩
  · obtain ⟨u, hu⟩ := Option.isSome_iff_exists.1 h
    exact hb.cell (p := ⟨b, o, none⟩) (World.block_lt_of_cell? W _ hu)
  · obtain ⟨u, hu⟩ := Option.isSome_iff_exists.1 h
    exact hb.frozen (p := ⟨b, o, none⟩) (World.block_lt_of_cell? W _ hu)
theorem cell_alloc_is (w : World) (b o : Nat) (x : Obj) (h : (w.cell? ⟨b, o, none⟩).isSome = true) : (w.alloc x).cell? ⟨b, o, none⟩ = w.cell? ⟨b, o, none⟩ :=
  (bsome ((Below.refl _ w).alloc (Nat.le_refl _) x)).1 b o h
theorem frozen_alloc_is (w : World) (b o : Nat) (x : Obj) (h : (w.cell? ⟨b, o, none⟩).isSome = true) : (w.alloc x).frozen? ⟨b, o, none⟩ = w.frozen? ⟨b, o, none⟩ :=
  (bsome ((Below.refl _ w).alloc (Nat.le_refl _) x)).2 b o h

end Go.Proofs.Ytbbbmmemfndnlaa
/- Contracts of what the exact laws alone call: toDec, eqDec. -/
namespace Go.Proofs.Ytbbbmmemfndnlaa
open Go.RowKit

set_option maxHeartbeats 400000 in
theorem eqDec_any (m x n y : Int) (w : World) :
    Calls Try.prog 30 #[.agg #[.int .i64 m, .int .i64 x], .agg #[.int .i64 n, .int .i64 y]] w fun e w' => e = .returned (.bool (decide (m = n) && decide (x = y))) ∧ Below w.heap.size w w' := by
  go_enter Try.func30, Try.ntmps30
  go_wp2
  all_goals
    go_ret
    exact ⟨ret_bool (by simp_all), ((Below.refl _ _).alloc (Nat.le_refl _) _).alloc (by simp) _⟩
end Go.Proofs.Ytbbbmmemfndnlaa
