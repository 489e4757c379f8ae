/- Contract: ValueOk of the specification; both say the same. -/
import Derived.Test.YtohldacplapjkaaXf
import Derived.Test.YtohldacplapjkaaXh
namespace Go.Proofs.Ytohldacplapjkaa
open Go.RowKit
theorem Vo.deep_le (F : Vo) : F.deep ≤ F.size := by
  induction F with
  | nil => exact Nat.le_refl _
  | cons h a c kids next ih1 ih2 => show max (kids.deep + 1) next.deep ≤ kids.size + 1 + next.size; omega
set_option maxHeartbeats 1000000 in
theorem sValueSize_any (N : Nat) : ∀ (h : Hd) (a : Option Addr) (c : Nat) (F : Vo) (w : World), F.size < N → N ≤ 2000000 → F.In w a → F.len ≤ c → c ≤ maxLen →
    Calls Try.prog 13 #[valV h a F.len c] w fun e w' => e = .returned (.int .i64 (F.size + 1 : Nat)) ∧ Below w.heap.size w w' := by
  induction N with
  | zero => intro h a c F w hF; omega
  | succ N ih =>
    intro h a c F w hF hN hin hl hc
    unfold maxLen at hc
    have hll := F.len_le
    go_enter Try.func13, Try.ntmps13
    go_wp2_with fail
    go_loopw [3, 4] (fun o i wr => ∃ (j s : Nat) (G : Vo), i = .int .i64 j ∧ o = .int .i64 s ∧ j + G.len = F.len ∧ s + G.size = F.size + 1 ∧ 1 ≤ s ∧ (G = .nil ∨ ∃ b o', a = some ⟨b, o', none⟩ ∧ G.From wr b (o' + j * 6)) ∧ wr.cell? ⟨w.heap.size, 4, none⟩ = some (.slice a F.len c) ∧ Below w.heap.size w wr) (fun _ i _ => F.len - (intOf i).toNat)
    case atStart =>
      refine ⟨0, 1, F, rfl, rfl, by omega, by omega, Nat.le_refl _, ?_, by simp, (Below.refl _ _).alloc (Nat.le_refl _) _⟩
      rcases hin with h | ⟨b, o', e1, e2⟩
      · exact .inl h
      · exact .inr ⟨b, o', e1, by simpa using Vo.from_grow ((Below.refl _ w).alloc (Nat.le_refl _) _) F b o' e2⟩
    case round =>
      obtain ⟨j, s, G, rfl, rfl, hj, hs, hs1, hG, hcell, hb⟩ := hrel
      cases G with
      | nil =>
        have hj' : j = F.len := by simpa [Vo.len] using hj
        have hs' : s = F.size + 1 := by simpa [Vo.size] using hs
        subst hj' hs'
        clear hG hj hs
        go_wp2_with fail
        go_ret
        exact ⟨rfl, hb⟩
      | cons h' a' c' kids next =>
        rcases hG with hG | ⟨b, o', rfl, ⟨h1, h2, h3, h4, h5, h6⟩, hk, ⟨hc1, hc2⟩, _, hn⟩
        · cases hG
        · have hlt : (j : Int) < (F.len : Int) := by have : j + (next.len + 1) = F.len := hj; omega
          have hjl : j < F.len := by omega
          have hsz : s + (kids.size + 1 + next.size) = F.size + 1 := hs
          have hln : j + (next.len + 1) = F.len := hj
          clear hj hs hin
          go_wp2_with fail
          refine (ih h' a' c' kids wr (by omega) (by omega) hk hc1 hc2).mono ?_
          rintro e w1 ⟨rfl, hb1⟩
          have hn1 := Vo.from_grow hb1 next b _ hn
          have hz := hb.size
          have hlw := World.block_lt_of_cell? wr _ hcell
          have hcell1 : w1.cell? ⟨w.heap.size, 4, none⟩ = some (.slice (some ⟨b, o', none⟩) F.len c) := (hb1.cell (p := ⟨w.heap.size, 4, none⟩) hlw).trans hcell
          have hb2 := hb.trans (hb1.mono hz)
          clear h1 h2 h3 h4 h5 h6 hk hn hcell hb1 hb ih
          go_wp2_with fail
          go_round
          case rel =>
            refine ⟨j + 1, s + (kids.size + 1), next, by go_num, by go_num, by omega, by omega, by omega, .inr ⟨b, o', rfl, ?_⟩, hcell1, hb2⟩
            rw [show o' + (j + 1) * 6 = o' + j * 6 + 6 by omega]; exact hn1
          case measure => simp [intOf]; omega
set_option maxHeartbeats 1000000 in
theorem sDeepV_any (N : Nat) : ∀ (h : Hd) (a : Option Addr) (c : Nat) (F : Vo) (w : World), F.size < N → N ≤ 2000000 → F.In w a → F.len ≤ c → c ≤ maxLen →
    Calls Try.prog 17 #[valV h a F.len c] w fun e w' => e = .returned (.int .i64 (F.deep + 1 : Nat)) ∧ Below w.heap.size w w' := by
  induction N with
  | zero => intro h a c F w hF; omega
  | succ N ih =>
    intro h a c F w hF hN hin hl hc
    unfold maxLen at hc
    have hll := F.len_le
    have hdd := F.deep_le
    go_enter Try.func17, Try.ntmps17
    go_wp2_with fail
    go_loopw [3, 4] (fun o i wr => ∃ (j s : Nat) (G : Vo), i = .int .i64 j ∧ o = .int .i64 s ∧ j + G.len = F.len ∧ max s G.deep = F.deep ∧ G.size ≤ F.size ∧ (G = .nil ∨ ∃ b o', a = some ⟨b, o', none⟩ ∧ G.From wr b (o' + j * 6)) ∧ wr.cell? ⟨w.heap.size, 4, none⟩ = some (.slice a F.len c) ∧ Below w.heap.size w wr) (fun _ i _ => F.len - (intOf i).toNat)
    case atStart =>
      refine ⟨0, 0, F, rfl, rfl, by omega, by omega, Nat.le_refl _, ?_, by simp, (Below.refl _ _).alloc (Nat.le_refl _) _⟩
      rcases hin with h | ⟨b, o', e1, e2⟩
      · exact .inl h
      · exact .inr ⟨b, o', e1, by simpa using Vo.from_grow ((Below.refl _ w).alloc (Nat.le_refl _) _) F b o' e2⟩
    case round =>
      obtain ⟨j, s, G, rfl, rfl, hj, hs, hs1, hG, hcell, hb⟩ := hrel
      cases G with
      | nil =>
        have hj' : j = F.len := by simpa [Vo.len] using hj
        have hs' : s = F.deep := by simpa [Vo.deep] using hs
        subst hj' hs'
        clear hG hj hs
        go_wp2_with fail
        go_ret
        exact ⟨rfl, hb⟩
      | cons h' a' c' kids next =>
        rcases hG with hG | ⟨b, o', rfl, ⟨h1, h2, h3, h4, h5, h6⟩, hk, ⟨hc1, hc2⟩, _, hn⟩
        · cases hG
        · have hlt : (j : Int) < (F.len : Int) := by have : j + (next.len + 1) = F.len := hj; omega
          have hjl : j < F.len := by omega
          have hsz : kids.size + 1 + next.size ≤ F.size := hs1
          have hds : max s (max (kids.deep + 1) next.deep) = F.deep := hs
          have hln : j + (next.len + 1) = F.len := hj
          clear hj hs hin hs1
          go_wp2_with fail
          refine (ih h' a' c' kids wr (by omega) (by omega) hk hc1 hc2).mono ?_
          rintro e w1 ⟨rfl, hb1⟩
          have hn1 := Vo.from_grow hb1 next b _ hn
          have hz := hb.size
          have hlw := World.block_lt_of_cell? wr _ hcell
          have hcell1 : w1.cell? ⟨w.heap.size, 4, none⟩ = some (.slice (some ⟨b, o', none⟩) F.len c) := (hb1.cell (p := ⟨w.heap.size, 4, none⟩) hlw).trans hcell
          have hb2 := hb.trans (hb1.mono hz)
          have hkd : kids.deep + 1 ≤ F.deep := by omega
          clear h1 h2 h3 h4 h5 h6 hk hn hcell hb1 hb ih
          have HD : Hid (max s (max (kids.deep + 1) next.deep) = F.deep) := hds
          clear hds
          by_cases hd : s < kids.deep + 1
          · have hd' : (s : Int) < (kids.deep : Int) + 1 := by omega
            go_wp2_with fail
            go_round
            case rel =>
              refine ⟨j + 1, kids.deep + 1, next, by go_num, by go_num, by omega, ?_, by omega, .inr ⟨b, o', rfl, ?_⟩, hcell1, hb2⟩
              · have := HD.out; omega
              · rw [show o' + (j + 1) * 6 = o' + j * 6 + 6 by omega]; exact hn1
            case measure => simp [intOf]; omega
          · have hd' : ¬ (s : Int) < (kids.deep : Int) + 1 := by omega
            go_wp2_with fail
            go_round
            case rel =>
              refine ⟨j + 1, s, next, by go_num, by go_num, by omega, ?_, by omega, .inr ⟨b, o', rfl, ?_⟩, hcell1, hb2⟩
              · have := HD.out; omega
              · rw [show o' + (j + 1) * 6 = o' + j * 6 + 6 by omega]; exact hn1
            case measure => simp [intOf]; omega
/-- all in a list, and all in these, have just what their kinds have -/
def Vo.allOne : Vo → Prop
  | .nil => True
  | .cons h _ _ kids next => one h kids.len ∧ kids.allOne ∧ next.allOne
set_option maxRecDepth 100000 in
set_option maxHeartbeats 1000000 in
theorem l7All_any (N : Nat) : ∀ (h : Hd) (a : Option Addr) (c : Nat) (F : Vo) (w : World), F.size < N → N ≤ 2000000 → F.In w a → F.len ≤ c → c ≤ maxLen → h.In w →
    Calls Try.prog 18 #[valV h a F.len c] w fun r w' => SaysT (one h F.len ∧ F.allOne) r ∧ Below w.heap.size w w' := by
  induction N with
  | zero => intro h a c F w hF; omega
  | succ N ih =>
    intro h a c F w hF hN hin hl hc hh
    unfold maxLen at hc
    have hll := F.len_le
    have hB0 := (Below.refl _ w).alloc (Nat.le_refl _) (.cells #[.int .i64 h.k, .int .i64 h.m, .int .i64 h.e, .string h.t, .slice a F.len c, .slice h.na h.ns.length h.nc] 33)
    have R0 := Row.new w [.int .i64 h.k, .int .i64 h.m, .int .i64 h.e, .string h.t, .slice a F.len c, .slice h.na h.ns.length h.nc] 33
    have HO := fun W (hW : h.In W) => l7One_any h a F.len c W hW
    go_enter Try.func18, Try.ntmps18
    go_wp2_with fail
    refine (HO _ (hh.grow hB0)).mono ?_
    rintro r w1 ⟨⟨q, rfl, hq⟩, hb1⟩
    have hB1 := hB0.trans (hb1.mono hB0.size)
    have hcell0 := (R0.below hb1 R0.lt 4 _ rfl).1
    have HQ : Hid (q = true ↔ one h F.len) := hq
    clear hq R0 hB0 hb1 HO
    cases q
    · have HN : Hid (¬ (one h F.len ∧ F.allOne)) := fun x => by have := HQ.out.2 x.1; cases this
      clear ih hin
      go_wp2_with fail
      go_ret
      exact ⟨⟨false, rfl, fun h => (by cases h), fun h => absurd h HN.out⟩, hB1⟩
    · have HY : Hid (one h F.len) := HQ.out.1 rfl
      clear HQ
      go_wp2_with fail
      go_loopw [3] (fun i wr => ∃ (j : Nat) (G : Vo), i = .int .i64 j ∧ j + G.len = F.len ∧ (F.allOne ↔ G.allOne) ∧ G.size ≤ F.size ∧ (G = .nil ∨ ∃ b o', a = some ⟨b, o', none⟩ ∧ G.From wr b (o' + j * 6)) ∧ wr.cell? ⟨w.heap.size, 4, none⟩ = some (.slice a F.len c) ∧ Below w.heap.size w wr) (fun i _ => F.len - (intOf i).toNat)
      case atStart =>
        refine ⟨0, F, rfl, by omega, Iff.rfl, Nat.le_refl _, ?_, hcell0, hB1⟩
        rcases hin with h | ⟨b, o', e1, e2⟩
        · exact .inl h
        · exact .inr ⟨b, o', e1, by simpa using Vo.from_grow hB1 F b o' e2⟩
      case round =>
        obtain ⟨j, G, rfl, hj, hs, hs1, hG, hcell, hb⟩ := hrel
        have HA : Hid (F.allOne ↔ G.allOne) := hs
        clear hs hcell0
        cases G with
        | nil =>
          have hj' : j = F.len := by simpa [Vo.len] using hj
          have HR : Hid (one h F.len ∧ F.allOne) := ⟨HY.out, HA.out.2 trivial⟩
          subst hj'
          clear hG hj HA ih
          go_wp2_with fail
          go_ret
          exact ⟨⟨true, rfl, fun _ => HR.out, fun _ => rfl⟩, hb⟩
        | cons h' a' c' kids next =>
          rcases hG with hG | ⟨b, o', rfl, ⟨h1, h2, h3, h4, h5, h6⟩, hk, ⟨hc1, hc2⟩, hh', hn⟩
          · cases hG
          · have hln : j + (next.len + 1) = F.len := hj
            have hlt : (j : Int) < (F.len : Int) := by omega
            have hjl : j < F.len := by omega
            have hsz : kids.size + 1 + next.size ≤ F.size := hs1
            clear hj hs1 hin
            go_wp2_with fail
            refine (ih h' a' c' kids wr (by omega) (by omega) hk hc1 hc2 hh').mono ?_
            rintro r w2 ⟨⟨q, rfl, hq⟩, hb2⟩
            have HQ : Hid (q = true ↔ (one h' kids.len ∧ kids.allOne)) := hq
            have hn2 := Vo.from_grow hb2 next b _ hn
            have hcell2 : w2.cell? ⟨w.heap.size, 4, none⟩ = some (.slice (some ⟨b, o', none⟩) F.len c) := (hb2.cell (p := ⟨w.heap.size, 4, none⟩) (World.block_lt_of_cell? wr _ hcell)).trans hcell
            have hb3 := hb.trans (hb2.mono hb.size)
            clear h1 h2 h3 h4 h5 h6 hk hn hcell hb2 hb ih hq hh'
            cases q
            · have HN : Hid (¬ (one h F.len ∧ F.allOne)) := fun x => by
                have hx := HA.out.1 x.2
                have := HQ.out.2 ⟨hx.1, hx.2.1⟩
                cases this
              go_wp2_with fail
              go_ret
              exact ⟨⟨false, rfl, fun h => (by cases h), fun h => absurd h HN.out⟩, hb3⟩
            · have HA2 : Hid (F.allOne ↔ next.allOne) := HA.out.trans ⟨fun x => x.2.2, fun x => ⟨(HQ.out.1 rfl).1, (HQ.out.1 rfl).2, x⟩⟩
              clear HQ HA
              go_wp2_with fail
              go_round
              case rel =>
                refine ⟨j + 1, next, by go_num, by omega, HA2.out, by omega, .inr ⟨b, o', rfl, ?_⟩, hcell2, hb3⟩
                rw [show o' + (j + 1) * 6 = o' + j * 6 + 6 by omega]; exact hn2
              case measure => simp [intOf]; omega
/-- a value that is ok, as the specification has it -/
def ValOk (h : Hd) (F : Vo) : Prop := F.size + 1 ≤ 200 ∧ F.deep + 1 ≤ 20 ∧ one h F.len ∧ F.allOne
set_option maxRecDepth 100000 in
set_option maxHeartbeats 1000000 in
theorem sValueOk_any (h : Hd) (a : Option Addr) (c : Nat) (F : Vo) (w : World) (hF : F.size ≤ 1900000) (hin : F.In w a) (hl : F.len ≤ c) (hc : c ≤ maxLen) (hh : h.In w) :
    Calls Try.prog 7 #[valV h a F.len c] w fun r w' => SaysT (ValOk h F) r ∧ Below w.heap.size w w' := by
  have hdd := F.deep_le
  have hB0 := (Below.refl _ w).alloc (Nat.le_refl _) (.cells #[.int .i64 h.k, .int .i64 h.m, .int .i64 h.e, .string h.t, .slice a F.len c, .slice h.na h.ns.length h.nc] 33)
  have X0 := BxV.new w h (.slice a F.len c) 33
  have HI : Hid (∀ W, Below w.heap.size w W → F.In W a ∧ h.In W) := fun W h' => ⟨hin.grow h', hh.grow h'⟩
  clear hin hh
  go_enter Try.func7, Try.ntmps7
  go_wp2_with fail
  refine (sValueSize_any (F.size + 1) h a c F _ (Nat.lt_succ_self _) (by omega) (HI.out _ hB0).1 hl hc).mono ?_
  rintro r w1 ⟨rfl, hb1⟩
  have hB1 := hB0.trans (hb1.mono hB0.size)
  have X1 := X0.below hb1
  clear X0 hB0 hb1
  by_cases h1 : F.size + 1 ≤ 200
  · have h1' : (F.size : Int) + 1 ≤ 200 := by omega
    obtain ⟨x0, x1, x2, x3, x4, x5⟩ := id X1
    go_wp2_with fail
    refine (sDeepV_any (F.size + 1) h a c F _ (Nat.lt_succ_self _) (by omega) (HI.out _ hB1).1 hl hc).mono ?_
    rintro r w2 ⟨rfl, hb2⟩
    have hB2 := hB1.trans (hb2.mono hB1.size)
    have X2 := X1.below hb2
    clear X1 hB1 hb2 x0 x1 x2 x3 x4 x5
    by_cases h2 : F.deep + 1 ≤ 20
    · have h2' : (F.deep : Int) + 1 ≤ 20 := by omega
      obtain ⟨x0, x1, x2, x3, x4, x5⟩ := id X2
      go_wp2_with fail
      refine (l7All_any (F.size + 1) h a c F _ (Nat.lt_succ_self _) (by omega) (HI.out _ hB2).1 hl hc (HI.out _ hB2).2).mono ?_
      rintro r w3 ⟨⟨q, rfl, hq⟩, hb3⟩
      have hB3 := hB2.trans (hb3.mono hB2.size)
      have HQ : Hid (q = true ↔ ValOk h F) := hq.trans ⟨fun x => ⟨h1, h2, x.1, x.2⟩, fun x => ⟨x.2.2.1, x.2.2.2⟩⟩
      clear hq X2 x0 x1 x2 x3 x4 x5
      go_wp2_with fail
      go_ret
      exact ⟨⟨q, rfl, HQ.out⟩, hB3⟩
    · have h2' : ¬ (F.deep : Int) + 1 ≤ 20 := by omega
      have HN : Hid (¬ ValOk h F) := fun x => h2 x.2.1
      go_wp2_with fail
      go_ret
      exact ⟨⟨false, rfl, fun h => (by cases h), fun h => absurd h HN.out⟩, hB2⟩
  · have h1' : ¬ (F.size : Int) + 1 ≤ 200 := by omega
    have HN : Hid (¬ ValOk h F) := fun x => h1 x.1
    go_wp2_with fail
    go_ret
    exact ⟨⟨false, rfl, fun h => (by cases h), fun h => absurd h HN.out⟩, hB1⟩
theorem all_flat (B : Nat) : ∀ (F : Vo) (d : Nat), (∀ x ∈ F.flat d, x.1 ≤ B ∧ one x.2.1 x.2.2.len) ↔ ((F.deep = 0 ∨ d + F.deep ≤ B + 1) ∧ F.allOne) := by
  intro F
  induction F with
  | nil => intro d; exact ⟨fun _ => ⟨.inl rfl, trivial⟩, fun _ x hx => absurd hx List.not_mem_nil⟩
  | cons h a c kids next ih1 ih2 =>
    intro d
    have e : (Vo.cons h a c kids next).deep = max (kids.deep + 1) next.deep := rfl
    have i1 := ih1 (d + 1)
    have i2 := ih2 d
    constructor
    · intro hx
      have x0 := hx (d, h, kids) (List.mem_cons_self)
      have x1 := i1.1 fun x m => hx x (List.mem_cons_of_mem _ (List.mem_append_left _ m))
      have x2 := i2.1 fun x m => hx x (List.mem_cons_of_mem _ (List.mem_append_right _ m))
      refine ⟨.inr ?_, x0.2, x1.2, x2.2⟩
      have := x0.1
      rw [e]
      dsimp only at this
      omega
    · rintro ⟨hd, h1, h2, h3⟩ x hx
      rw [e] at hd
      rcases List.mem_cons.1 hx with rfl | hx
      · exact ⟨by show d ≤ B; omega, h1⟩
      · rcases List.mem_append.1 hx with hx | hx
        · exact i1.2 ⟨by omega, h2⟩ x hx
        · exact i2.2 ⟨by omega, h3⟩ x hx
/-- both say the same -/
theorem good_ok (h : Hd) (F : Vo) : ValGood h F ↔ ValOk h F := by
  unfold ValGood ValOk
  have hl : ((1, h, F) :: F.flat 2).length = F.size + 1 := by rw [List.length_cons, F.flat_len]
  rw [hl]
  have ha := all_flat 20 F 2
  constructor
  · rintro ⟨h1, h2⟩
    have x0 := h2 (1, h, F) List.mem_cons_self
    have x1 := ha.1 fun x m => h2 x (List.mem_cons_of_mem _ m)
    exact ⟨h1, by omega, x0.2, x1.2⟩
  · rintro ⟨h1, h2, h3, h4⟩
    refine ⟨h1, fun x hx => ?_⟩
    rcases List.mem_cons.1 hx with rfl | hx
    · exact ⟨by show 1 ≤ 20; omega, h3⟩
    · exact ha.2 ⟨by omega, h4⟩ x hx
theorem Vo.alike_deep : ∀ {G F : Vo}, F.alike G → F.deep = G.deep := by
  intro G
  induction G with
  | nil => intro F h; rw [Vo.alike_nil h]
  | cons h a c kids next ih1 ih2 =>
    intro F x
    obtain ⟨h', a', c', kids', next', rfl, _, h1, h2⟩ := Vo.alike_cons x
    show max (kids'.deep + 1) next'.deep = max (kids.deep + 1) next.deep
    rw [ih1 h1, ih2 h2]
theorem one_same {h g : Hd} (x : h.same g) (n : Nat) : one h n ↔ one g n := by
  obtain ⟨⟨e1, e2, e3, e4⟩, e5⟩ := x
  unfold one
  rw [e1, e2, e3, e4, e5]
theorem Vo.alike_one : ∀ {G F : Vo}, F.alike G → (F.allOne ↔ G.allOne) := by
  intro G
  induction G with
  | nil => intro F h; rw [Vo.alike_nil h]
  | cons h a c kids next ih1 ih2 =>
    intro F x
    obtain ⟨h', a', c', kids', next', rfl, h0, h1, h2⟩ := Vo.alike_cons x
    show (one h' kids'.len ∧ kids'.allOne ∧ next'.allOne) ↔ (one h kids.len ∧ kids.allOne ∧ next.allOne)
    rw [Vo.alike_len h1, one_same h0, ih1 h1, ih2 h2]
/-- a copy is ok just if what it was made of is -/
theorem ok_copy {h : Hd} {m : Nat} {F F1 : Vo} (x : F1.alike F) : ValOk (h.to m) F1 ↔ ValOk h F := by
  unfold ValOk
  rw [Vo.alike_size x, Vo.alike_deep x, Vo.alike_len x, one_same (h.to_same m), Vo.alike_one x]
end Go.Proofs.Ytohldacplapjkaa
