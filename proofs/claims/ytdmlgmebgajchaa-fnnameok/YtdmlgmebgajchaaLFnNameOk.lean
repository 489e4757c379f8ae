/- The law FnNameOk walked. -/
import Derived.Test.YtdmlgmebgajchaaLexC
import Derived.Test.YtdmlgmebgajchaaQn
import Derived.Test.YtdmlgmebgajchaaDrawW
namespace Go.Proofs.Ytdmlgmebgajchaa
open Go.RowKit

set_option maxHeartbeats 1000000 in
theorem walk_FnNameOk (a : Option Addr) (len cap : Nat) (zs : List Int) (w : World) (hz : IsRow .u8 w a len cap zs) :
    Calls Try.prog 4 #[.slice a len cap] w fun e w' => e = .returned (.bool true) ∧ Below w.heap.size w w' := by
  have hc := codeIn_of hz
  clear hz
  have hm : cap ≤ maxLen := hc.2.2.1
  have hlc : len ≤ cap := hc.2.1
  unfold maxLen at hm
  by_cases h : len ≤ 1048576
  · go_enter Try.func4, Try.ntmps4
    go_wp2_with fail
    refine (drawNameOk_any w a len cap hc).mono ?_
    rintro e w1 ⟨⟨s, rfl, hs⟩, hb1⟩
    have hS : s.size ≤ maxLen := by unfold maxLen; omega
    have hQs := Qm.q_size s
    have hQ : ((⟨#[113]⟩ : ByteArray) ++ s).size ≤ maxLen := by unfold maxLen; omega
    have H1 : Hid (Qm.name s = true → 1 ≤ s.size ∧ s.size ≤ 12) := fun h => Qm.name_sizes h
    have H2 : Hid (Qm.name s = true → s.size < 12 → Qm.name ((⟨#[113]⟩ : ByteArray) ++ s) = true) := fun h h2 => Qm.name_q h h2
    clear hQs
    go_wp2_with fail
    refine (iNameOk_any s _ hS).mono ?_
    rintro e w2 ⟨rfl, rfl⟩
    cases hn : Qm.name s
    · cases hN : Qm.name ({ data := #[113] } ++ s)
      all_goals
        go_wp2_with fail
        refine (sNameOk_any s _ hS).mono ?_
        rintro e w3 ⟨rfl, hb3⟩
        rw [hn]
        go_wp2_with fail
        refine (iNameOk_any _ _ hQ).mono ?_
        rintro e w4 ⟨rfl, rfl⟩
        rw [hN]
        go_wp2_with fail
        refine (sNameOk_any _ _ hQ).mono ?_
        rintro e w5 ⟨rfl, hb5⟩
        rw [hN]
        go_wp2_with fail
        go_ret
        exact ⟨rfl, (hb1.trans (hb3.mono hb1.size)).trans (hb5.mono (Nat.le_trans hb1.size hb3.size))⟩
    · obtain ⟨z1, z2⟩ := H1.out hn
      by_cases z3 : s.size = 12
      · have z4 : ((s.size : Int) == 12) = true := by simp; omega
        cases hN : Qm.name ({ data := #[113] } ++ s)
        all_goals
          go_wp2_with fail
          refine (sNameOk_any s _ hS).mono ?_
          rintro e w3 ⟨rfl, hb3⟩
          rw [hn]
          go_wp2_with fail
          refine (iNameOk_any _ _ hQ).mono ?_
          rintro e w4 ⟨rfl, rfl⟩
          rw [hN]
          go_wp2_with fail
          refine (sNameOk_any _ _ hQ).mono ?_
          rintro e w5 ⟨rfl, hb5⟩
          rw [hN]
          go_wp2_with fail
          go_ret
          exact ⟨rfl, (hb1.trans (hb3.mono hb1.size)).trans (hb5.mono (Nat.le_trans hb1.size hb3.size))⟩
      · have z4 : ((s.size : Int) == 12) = false := by simp; omega
        have hN := H2.out hn (by omega)
        go_wp2_with fail
        refine (sNameOk_any s _ hS).mono ?_
        rintro e w3 ⟨rfl, hb3⟩
        rw [hn]
        go_wp2_with fail
        refine (iNameOk_any _ _ hQ).mono ?_
        rintro e w4 ⟨rfl, rfl⟩
        rw [hN]
        go_wp2_with fail
        refine (sNameOk_any _ _ hQ).mono ?_
        rintro e w5 ⟨rfl, hb5⟩
        rw [hN]
        go_wp2_with fail
        refine (iNameOk_any _ _ hQ).mono ?_
        rintro e w6 ⟨rfl, rfl⟩
        rw [hN]
        go_wp2_with fail
        go_ret
        exact ⟨rfl, (hb1.trans (hb3.mono hb1.size)).trans (hb5.mono (Nat.le_trans hb1.size hb3.size))⟩
  · go_enter Try.func4, Try.ntmps4
    go_wp2_with fail
    go_ret
    exact ⟨rfl, Below.refl _ _⟩
end Go.Proofs.Ytdmlgmebgajchaa
