/- The law FnExactPapersOk walked. -/
import Derived.Test.YtkdilgmlabaehaaPaC
namespace Go.Proofs.Ytkdilgmlabaehaa
open Go.RowKit
set_option maxRecDepth 100000 in
set_option maxHeartbeats 2000000 in
theorem walk_FnExactPapersOk (a : Option Addr) (n c : Nat) (nm tx : Nat → ByteArray) (w : World) (hin : PIn w a n nm tx) (hl : n ≤ c) (hc : c ≤ maxLen) (hS : PShort n nm tx) :
    Calls Try.prog 6 #[.slice a n c] w fun r w' => r = .returned (.bool true) ∧ Below w.heap.size w w' := by
  have HSz := szPaperS_any a n c nm tx w hin hl hc hS
  have HI : Hid (∀ W, Below w.heap.size w W → PIn W a n nm tx) := fun W h => hin.grow h
  clear hin
  go_enter Try.func6, Try.ntmps6
  go_wp2_with fail
  refine HSz.mono ?_
  rintro r w1 ⟨⟨d, rfl, hd0, hd1, hd2⟩, hB1⟩
  clear HSz
  by_cases hd : d < 0
  · go_wp2_with fail
    go_ret
    exact ⟨rfl, hB1⟩
  · have hn : n ≤ 1048576 := hd2 (by omega)
    clear hd2
    have HC := fun W hW => toPaperS_any a n c nm tx W hW hn
    go_wp2_with fail
    refine (HC _ (HI.out _ hB1)).mono ?_
    rintro r w2 ⟨⟨nb1, rfl, hP1, hn1⟩, hb2⟩
    have hB2 := hB1.trans (hb2.mono hB1.size)
    clear hb2 hB1 hn1
    go_wp2_with fail
    refine (sPapersOk_any _ n n nm tx _ hP1 hn hS).mono ?_
    rintro r w3 ⟨rfl, hb3⟩
    have hB3 := hB2.trans (hb3.mono hB2.size)
    clear hb3 hB2 hP1
    go_wp2_with fail
    refine (HC _ (HI.out _ hB3)).mono ?_
    rintro r w4 ⟨⟨nb2, rfl, hP2, hn2⟩, hb4⟩
    have hB4 := hB3.trans (hb4.mono hB3.size)
    clear hb4 hB3 hn2
    go_wp2_with fail
    refine (iPapersOk_any _ n n nm tx _ hP2 hn hS).mono ?_
    rintro r w5 ⟨rfl, hb5⟩
    have hB5 := hB4.trans (hb5.mono hB4.size)
    have hP5 := hP2.grow hb5
    clear hb5 hB4 hP2
    generalize (papsOk nm tx n && decide (n ≤ 6)) = q
    go_wp2_with fail
    refine (HC _ (HI.out _ hB5)).mono ?_
    rintro r w6 ⟨⟨nb3, rfl, hP3, hn3⟩, hb6⟩
    have hB6 := hB5.trans (hb6.mono hB5.size)
    have hP6 := hP5.grow hb6
    clear hb6 hB5 hP5 hn3
    go_wp2_with fail
    refine (eqPaperS_any _ _ n n n nm tx _ hP6 hP3 hn).mono ?_
    rintro r w7 ⟨rfl, hb7⟩
    have hB7 := hB6.trans (hb7.mono hB6.size)
    clear hb7 hB6 hP6 hP3
    go_wp2_with fail
    go_ret
    exact ⟨rfl, hB7⟩
end Go.Proofs.Ytkdilgmlabaehaa
