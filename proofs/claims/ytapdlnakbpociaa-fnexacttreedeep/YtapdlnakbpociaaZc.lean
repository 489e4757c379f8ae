/- How many trees a tree has and how deep it is, by the program: lists told apart by places; those right below that were not met. -/
import Derived.Test.YtapdlnakbpociaaZb
import Derived.Test.YtapdlnakbpociaaSg
import Derived.Test.YtapdlnakbpociaaKr
import Derived.Test.YtapdlnakbpociaaRw
namespace Go.Proofs.Ytapdlnakbpociaa
open Go.RowKit
/-- a list as a slice -/
structure Li where
  a : Option Addr
  F : Fo
  c : Nat
def Li.pl (x : Li) : Pl := plOf x.a x.F.len
def Li.kid (x : Li) (i : Nat) : Li := ⟨x.F.addrAt i, x.F.kidsAt i, x.F.capAt i⟩
def Li.v (x : Li) : Value := .slice x.a x.F.len x.c
/-- it lies there, in cells that are not frozen -/
def Li.Ok (w : World) (x : Li) : Prop := x.F.In w x.a ∧ PlOk w x.pl ∧ x.F.Cl w ∧ x.F.size ≤ 1100000
theorem Li.ok_kid {w : World} {x : Li} {i : Nat} (h : x.Ok w) (hi : i < x.F.len) : (x.kid i).Ok w := by
  have hk := h.2.2.1.at hi
  have hs := Fo.size_at hi
  have h4 := h.2.2.2
  exact ⟨In_kid h.1 hi, hk.1, hk.2, by show (x.F.kidsAt i).size ≤ 1100000; omega⟩
theorem Li.F_inj {w : World} {x y : Li} (hx : x.Ok w) (hy : y.Ok w) (h : x.pl = y.pl) : x.F = y.F :=
  pl_inj (w := w) (x := ⟨0, ⟨#[]⟩, 0, 0, x.a, x.F, x.c⟩) (y := ⟨0, ⟨#[]⟩, 0, 0, y.a, y.F, y.c⟩) hx.1 hy.1 h
/-- lists of trees in a world -/
abbrev liSys (w : World) : LSys where
  A := Li
  len := fun x => x.F.len
  kid := Li.kid
  size := fun x => x.F.size
  pl := Li.pl
  ok := Li.Ok w
  ok_kid := fun h hi => Li.ok_kid h hi
  small := fun _ hi => Fo.size_at hi
  inj := fun {a b} ha hb h => .inr (by
    have e := Li.F_inj ha hb h
    refine ⟨by rw [e], by rw [e], fun i _ => ?_⟩
    unfold Li.kid Li.pl
    rw [e])
theorem li_sum (w : World) (x : Li) : (liSys w).sumTo x x.F.len ≤ x.F.size := by
  have : ∀ n, (liSys w).sumTo x n = x.F.upTo n := by
    intro n
    induction n with
    | zero => rfl
    | succ n ih => show (liSys w).sumTo x n + ((x.F.kidsAt n).size + 1) = x.F.upTo n + ((x.F.kidsAt n).size + 1); rw [ih]
  rw [this, upTo_len]
  exact Nat.le_refl _
/-- the map counts how often a place was met -/
def Counts (L : List (Pl × Value)) (M : Pl → Nat) : Prop := ∀ p, getL p L = if M p = 0 then none else some (.int .i64 (M p : Nat))
theorem counts_zero : Counts [] (fun _ => 0) := fun _ => rfl
theorem counts_get {L : List (Pl × Value)} {M : Pl → Nat} (h : Counts L M) (p : Pl) : (getL p L).getD (.int .i64 0) = .int .i64 (M p : Nat) := by
  rw [h p]
  split
  · rename_i e; rw [e]; rfl
  · rfl
theorem counts_put {L : List (Pl × Value)} {M : Pl → Nat} (h : Counts L M) (p : Pl) : Counts (putL p (.int .i64 ((M p : Int) + 1)) L) (bump M p) := fun q => by
  rw [getL_put]
  by_cases e : q = p
  · subst e
    rw [if_pos rfl, bump_same, if_neg (by omega)]
    rfl
  · rw [if_neg e, bump_other e]; exact h q
theorem len_or' {w : World} {F : Fo} {a : Option Addr} (h : F.In w a) : F.len = 0 ∨ ∃ b o, a = some ⟨b, o, none⟩ := by
  rcases h with rfl | ⟨b, o, e, _⟩
  · exact .inl rfl
  · exact .inr ⟨b, o, e⟩
theorem ob_or' (v : Value) : v.ownBlock = none ∨ v.ownBlock ≠ none := by
  cases h : v.ownBlock with
  | none => exact .inl rfl
  | some b => exact .inr (fun e => by cases e)
theorem listsInfo : (Try.prog.info? 30).map (fun i => (i.zero, i.size, i.bytes)) = some (some (.slice none 0 0), 1, 24) := by kernel_rfl
set_option maxRecDepth 100000 in
set_option maxHeartbeats 2000000 in
theorem unmet_any (x : Li) (M : Pl → Nat) (L : List (Pl × Value)) (mb : Nat) (w0 w : World) (hok : x.Ok w0) (hw : Below w0.heap.size w0 w) (hn : x.F.len ≤ 2000000) (hm : plKeys.Has w mb L) (hC : Counts L M) (hks : ∀ q ∈ L, PlOk w0 q.1) (hsm : ∀ i, i < x.F.len → (x.F.kidsAt i).len ≤ 2000000) :
    Calls Try.prog 84 #[x.v, .map (some mb)] w fun r w' => (∃ v, r = .returned v ∧ w'.ownsRow w.heap.size 30 1 v ((liSys w0).unm M x x.F.len).length (((liSys w0).unm M x x.F.len).map Li.v)) ∧ Below w.heap.size w w' := by
  obtain ⟨i0, hi, hz0, hz1, hz2⟩ := info_parts listsInfo
  have hmeth := below_method
  obtain ⟨a, F, c⟩ := x
  obtain ⟨N, hN⟩ : ∃ N, F.len = N := ⟨_, rfl⟩
  have HN : Hid (F.len = N) := hN
  have HO : Hid (Li.Ok w0 ⟨a, F, c⟩) := hok
  have HC : Hid (Counts L M) := hC
  have HKs : Hid (∀ q ∈ L, PlOk w0 q.1) := hks
  have HMp : Hid (plKeys.Has w mb L) := hm
  have HSm : Hid (∀ i, i < F.len → (F.kidsAt i).len ≤ 2000000) := hsm
  have HUl : Hid (∀ j, ((liSys w0).unm M ⟨a, F, c⟩ j).length ≤ j) := fun j => by
    induction j with
    | zero => exact Nat.le_refl _
    | succ j ih => show ((liSys w0).unm M ⟨a, F, c⟩ j ++ _).length ≤ j + 1; rw [List.length_append]; split <;> simp <;> omega
  dsimp only [Li.v] at hn ⊢
  rw [hN] at hn ⊢
  clear hN hok hC hks hm hsm
  go_enter Try.func84, Try.ntmps84
  go_wp2_with fail
  go_loopw [5, 10] (fun v i wr => ∃ j : Nat, i = .int .i64 j ∧ j ≤ N ∧ wr.ownsRow w.heap.size 30 1 v ((liSys w0).unm M ⟨a, F, c⟩ j).length (((liSys w0).unm M ⟨a, F, c⟩ j).map Li.v) ∧ Below w.heap.size w wr) (fun _ i _ => N - (intOf i).toNat)
  case atStart => exact ⟨0, rfl, Nat.zero_le _, ⟨rfl, .inl ⟨rfl, rfl⟩⟩, Below.refl _ _⟩
  case round =>
    obtain ⟨j, rfl, hj, hown, hb⟩ := hrel
    by_cases hjn : j < N
    · have hjl : (j : Int) < (N : Int) := by omega
      have hjF : j < F.len := by rw [HN.out]; exact hjn
      obtain ⟨b, o, rfl, hFr⟩ := Fo.from_of_len' HO.out.1 hjF
      have hbw := hw.trans (hb.mono hw.size)
      obtain ⟨⟨h1, h2, h3, h4, h5⟩, _⟩ := Fo.from_at (Fo.from_grow hbw F b o hFr) hjF
      have hko := Li.ok_kid HO.out hjF
      have hkl := HSm.out j hjF
      have hka := len_or' hko.1
      have HKo : Hid (Li.Ok w0 (Li.kid ⟨some ⟨b, o, none⟩, F, c⟩ j)) := hko
      have HOw : Hid (wr.ownsRow w.heap.size 30 1 u5 ((liSys w0).unm M ⟨some ⟨b, o, none⟩, F, c⟩ j).length (((liSys w0).unm M ⟨some ⟨b, o, none⟩, F, c⟩ j).map Li.v)) := hown
      have hul := HUl.out j
      have hB1 := (Below.refl wr.heap.size wr).alloc (Nat.le_refl _) (.cells #[.int .i64 (F.kindAt j), .string (F.textAt j), .int .i64 (F.manAt j), .int .i64 (F.expAt j), .slice (F.addrAt j) (F.kidsAt j).len (F.capAt j)] 32)
      have R1 := Row.new wr [.int .i64 (F.kindAt j), .string (F.textAt j), .int .i64 (F.manAt j), .int .i64 (F.expAt j), .slice (F.addrAt j) (F.kidsAt j).len (F.capAt j)] 32
      clear hFr hko hown
      go_wp2_with fail
      refine (below_any _ _ _ _ (.slice (F.addrAt j) (F.kidsAt j).len (F.capAt j)) _ (F.kidsAt j).len (F.capAt j) (F.addrAt j) rfl).mono ?_
      rintro r w2 ⟨rfl, hb2⟩
      have R2 := R1.below hb2 R1.lt
      have hb2' : Below wr.heap.size wr w2 := hB1.trans (hb2.mono (by simp))
      clear h1 h2 h3 h4 h5 R1 hb2 hB1
      go_wp2_with fail
      refine (placeOf_any (F.addrAt j) (F.kidsAt j).len (F.capAt j) _ hka hkl).mono ?_
      rintro r w3 ⟨rfl, hb3⟩
      have R3 := R2.below hb3 R2.lt
      have hb3' := hb2'.trans (hb3.mono hb2'.size)
      have hB3 := hb.trans (hb3'.mono hb.size)
      have hW := hw.trans (hB3.mono hw.size)
      have hz : (zeroValue 3).run Try.prog w3 = .ok (.int .i64 0) w3 := by kernel_rfl
      have hm3 : plKeys.Has w3 mb L := HMp.out.same _ (hB3.block _ (by obtain ⟨es, clock, h, _⟩ := HMp.out; exact (Array.getElem?_eq_some_iff.1 h).1))
      have hlook0 := plKeys.look (mty := 113) (et := 3) Try.underlying113 (plOf (F.addrAt j) (F.kidsAt j).len) (HKo.out.2.1.below hW) (fun q hq => (HKs.out q hq).below hW) hm3.is hz
      rw [counts_get HC.out] at hlook0
      have hlook : (Instr.lookup 113 (.map (some mb)) (.agg #[.pointer (plOf (F.addrAt j) (F.kidsAt j).len).1, .int .i64 (plOf (F.addrAt j) (F.kidsAt j).len).2]) false).run Try.prog w3 = .ok (.int .i64 (M (plOf (F.addrAt j) (F.kidsAt j).len) : Nat)) w3 := hlook0
      have HOw3 : Hid (w3.ownsRow w.heap.size 30 1 u5 ((liSys w0).unm M ⟨some ⟨b, o, none⟩, F, c⟩ j).length (((liSys w0).unm M ⟨some ⟨b, o, none⟩, F, c⟩ j).map Li.v)) := HOw.out.kept (row := none) ⟨hb3'.os, hb3'.tape, hb3'.output, hb3'.size, fun k hk _ => hb3'.block k hk⟩ (ob_or' _)
      clear hlook0 hz hm3 R2 hb3 hb2' HOw hW
      have HU : Hid ((liSys w0).unm M ⟨some ⟨b, o, none⟩, F, c⟩ (j + 1) = (liSys w0).unm M ⟨some ⟨b, o, none⟩, F, c⟩ j ++ (if M (plOf (F.addrAt j) (F.kidsAt j).len) = 0 then [Li.kid ⟨some ⟨b, o, none⟩, F, c⟩ j] else [])) := rfl
      unfold plV
      by_cases hM : M (plOf (F.addrAt j) (F.kidsAt j).len) = 0
      · rw [hM] at hlook
        have hlook' : (Instr.lookup 113 (.map (some mb)) (.agg #[.pointer (plOf (F.addrAt j) (F.kidsAt j).len).1, .int .i64 (plOf (F.addrAt j) (F.kidsAt j).len).2]) false).run Try.prog w3 = .ok (.int .i64 0) w3 := hlook
        obtain ⟨x0, _⟩ := R3 0 _ rfl
        obtain ⟨x1, _⟩ := R3 1 _ rfl
        obtain ⟨x2, _⟩ := R3 2 _ rfl
        obtain ⟨x3, _⟩ := R3 3 _ rfl
        obtain ⟨x4, _⟩ := R3 4 _ rfl
        clear hlook
        go_wp2_with fail
        refine (below_any _ _ _ _ (.slice (F.addrAt j) (F.kidsAt j).len (F.capAt j)) _ (F.kidsAt j).len (F.capAt j) (F.addrAt j) rfl).mono ?_
        rintro r w4 ⟨rfl, hb4⟩
        have hB4 := hB3.trans (hb4.mono hB3.size)
        have hown4 := HOw3.out.kept (row := none) ⟨hb4.os, hb4.tape, hb4.output, hb4.size, fun k hk _ => hb4.block k hk⟩ (ob_or' _)
        have hz4 := hB4.size
        clear x0 x1 x2 x3 x4 R3 hlook' hb4 HOw3
        go_wp2_with (at_builtin; refine wpList_append_own _ rfl _ _ 114 rfl w.heap.size 30 i0 (.slice none 0 0) 1 24 Try.underlying114 hi hz0 hz1 hz2 rfl (by decide) _ _ _ rfl (hown4.alloc _) ⟨w4.heap.size, 0, none⟩ 1 1 [.slice (F.addrAt j) (F.kidsAt j).len (F.capAt j)] rfl rfl (cell_one_new _ _ _) (fun x hx => by simp at hx; subst hx; rfl) (by unfold maxLen; omega) (by omega) (by simp; omega) ?_; intro v' w5 hown5 hgrow5 hnil5)
        have hB4a := hB4.alloc hB4.size (.cells #[.slice (F.addrAt j) (F.kidsAt j).len (F.capAt j)] 30)
        have hB5 : Below w.heap.size w w5 := hB4a.grown hgrow5 (by have := hB4a.size; omega) (fun k hk => ((hown4.alloc (.cells #[.slice (F.addrAt j) (F.kidsAt j).len (F.capAt j)] 30)).lt k hk).1)
        go_round
        case rel =>
          refine ⟨j + 1, by go_num, by omega, ?_, hB5⟩
          rw [HU.out, if_pos hM, List.length_append, List.map_append]
          exact hown5
        case measure => simp [intOf]; omega
      · have hM' : ((M (plOf (F.addrAt j) (F.kidsAt j).len) : Int) == 0) = false := by simp; omega
        clear R3
        go_wp2_with fail
        go_round
        case rel =>
          refine ⟨j + 1, by go_num, by omega, ?_, hB3⟩
          rw [HU.out, if_neg hM, List.append_nil]
          exact HOw3.out
        case measure => simp [intOf]; omega
    · have e : j = N := by omega
      subst e
      go_wp2_with fail
      go_ret
      exact ⟨⟨_, rfl, hown⟩, hb⟩
end Go.Proofs.Ytapdlnakbpociaa
