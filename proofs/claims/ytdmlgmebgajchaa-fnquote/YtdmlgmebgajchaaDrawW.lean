/- Contracts of the drawing functions: one of some texts; DrawNameOk. -/
import Derived.Test.YtdmlgmebgajchaaDraw
namespace Go.Proofs.Ytdmlgmebgajchaa
open Go.RowKit

set_option maxHeartbeats 1000000 in
/-- one of a list of texts that lies in a block of its own -/
theorem of_any {w0 : World} {B b : Nat} {a : Option Addr} {len cap : Nat} {p : Int} {W : World} (h : Rd w0 B b a len cap p W) (p1 : p ≤ 100000) (l n : Nat) (zs : List ByteArray) (hl : ¬ l = b) (hn : zs.length = n) (n1 : 1 ≤ n) (n2 : n ≤ 100)
    (hc : ∀ i, i < n → W.cell? ⟨l, i, none⟩ = some (.string (zs.getD i default))) :
    Calls Try.prog 25 #[.pointer (some ⟨b, 0, none⟩), .slice (some ⟨l, 0, none⟩) n n] W fun e w' => (∃ v, e = .returned (.string v) ∧ v ∈ zs) ∧ Stepped b p W w' := by
  go_enter Try.func25, Try.ntmps25
  go_wp2_with fail
  refine (pick_any _ h p1 (by omega) (by omega)).mono ?_
  rintro e w1 ⟨⟨v, rfl, v0, v1⟩, hs⟩
  obtain ⟨i, rfl⟩ := Int.eq_ofNat_of_zero_le v0
  have hi : i < n := by omega
  have hci : w1.cell? ⟨l, i, none⟩ = some (.string (zs.getD i default)) := (hs.other.1 l i hl).trans (hc i hi)
  have hmem : zs.getD i default ∈ zs := by rw [List.getD_eq_getElem?_getD, List.getElem?_eq_getElem (by omega)]; exact List.getElem_mem _
  generalize zs.getD i default = z at *
  clear hc h
  go_wp2_with fail
  go_ret
  exact ⟨⟨z, rfl, hmem⟩, hs⟩

/-- what DrawNameOk draws of -/
def drawnNames : List ByteArray := [⟨#[97]⟩, ⟨#[120, 49]⟩, ⟨#[95]⟩, ⟨#[49, 120]⟩, ⟨#[65]⟩, ⟨#[]⟩, ⟨#[97, 98, 99, 100, 101, 102, 103, 104, 105, 106, 107, 108]⟩, ⟨#[97, 98, 99, 100, 101, 102, 103, 104, 105, 106, 107, 108, 109]⟩, ⟨#[110, 117, 108, 108]⟩, ⟨#[115, 116, 100]⟩, ⟨#[110, 117, 108, 108, 115]⟩, ⟨#[115, 101, 108, 102]⟩]
theorem drawnNames_size : ∀ s ∈ drawnNames, s.size ≤ 13 := by decide +kernel

set_option maxHeartbeats 1000000 in
theorem drawNameOk_any (W : World) (a : Option Addr) (len cap : Nat) (h : CodeIn W a len cap) :
    Calls Try.prog 10 #[.slice a len cap] W fun e w' => (∃ s, e = .returned (.string s) ∧ s.size ≤ 13) ∧ Below W.heap.size W w' := by
  go_enter Try.func10, Try.ntmps10
  go_wp2_with fail
  refine (l1Open_any W a len cap h).mono ?_
  rintro e w1 ⟨len', rfl, hR⟩
  go_wp2_with fail
  have hR2 := hR.below ((Below.refl w1.heap.size w1).alloc (Nat.le_refl _) (.cells #[.string ⟨#[97]⟩, .string ⟨#[120, 49]⟩, .string ⟨#[95]⟩, .string ⟨#[49, 120]⟩, .string ⟨#[65]⟩, .string ⟨#[]⟩, .string ⟨#[97, 98, 99, 100, 101, 102, 103, 104, 105, 106, 107, 108]⟩, .string ⟨#[97, 98, 99, 100, 101, 102, 103, 104, 105, 106, 107, 108, 109]⟩, .string ⟨#[110, 117, 108, 108]⟩, .string ⟨#[115, 116, 100]⟩, .string ⟨#[110, 117, 108, 108, 115]⟩, .string ⟨#[115, 101, 108, 102]⟩] 9))
  have hlt := hR.lt
  refine (of_any hR2 (by omega) w1.heap.size 12 drawnNames (by omega) rfl (by omega) (by omega) ?_).mono ?_
  · intro i hi
    have : i = 0 ∨ i = 1 ∨ i = 2 ∨ i = 3 ∨ i = 4 ∨ i = 5 ∨ i = 6 ∨ i = 7 ∨ i = 8 ∨ i = 9 ∨ i = 10 ∨ i = 11 := by omega
    rcases this with rfl | rfl | rfl | rfl | rfl | rfl | rfl | rfl | rfl | rfl | rfl | rfl
    all_goals simp [drawnNames]
  · rintro e w2 ⟨⟨v, rfl, hv⟩, hs⟩
    have hB := (hR2.step hs).1
    go_wp2_with fail
    go_ret
    exact ⟨⟨v, rfl, drawnNames_size v hv⟩, hB⟩
end Go.Proofs.Ytdmlgmebgajchaa
