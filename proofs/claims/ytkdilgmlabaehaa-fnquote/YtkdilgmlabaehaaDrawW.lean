/- Contracts of the drawing functions: one of some texts; DrawNameOk. -/
import Derived.Test.YtkdilgmlabaehaaDraw
namespace Go.Proofs.Ytkdilgmlabaehaa
open Go.RowKit

set_option maxHeartbeats 1000000 in
/-- one of a list of texts that lies in a block of its own -/
theorem of_any {w0 : World} {B b : Nat} {a : Option Addr} {len cap : Nat} {p : Int} {W : World} (h : Rd w0 B b a len cap p W) (p1 : p ≤ 100000) (l n : Nat) (zs : List ByteArray) (hl : ¬ l = b) (hn : zs.length = n) (n1 : 1 ≤ n) (n2 : n ≤ 100)
    (hc : ∀ i, i < n → W.cell? ⟨l, i, none⟩ = some (.string (zs.getD i default))) :
    Calls Try.prog 26 #[.pointer (some ⟨b, 0, none⟩), .slice (some ⟨l, 0, none⟩) n n] W fun e w' => (∃ v, e = .returned (.string v) ∧ v ∈ zs) ∧ Stepped b p W w' := by
  go_enter Try.func26, Try.ntmps26
  go_wp2_with fail
  refine (pick_any _ h p1 (by omega) (by omega)).mono ?_
  rintro e w1 ⟨⟨v, rfl, v0, v1⟩, hs⟩
  obtain ⟨i, rfl⟩ := Int.eq_ofNat_of_zero_le v0
  have hi : i < n := by omega
  have hci : w1.cell? ⟨l, i, none⟩ = some (.string (zs.getD i default)) := (hs.other.1 l i hl).trans (hc i hi)
  have hmem : zs.getD i default ∈ zs := by rw [List.getD_eq_getElem?_getD, List.getElem?_eq_getElem (by omega)]; exact List.getElem_mem _
  generalize zs.getD i default = z at *
  clear hc h
  go_wp2_with fail
  go_ret
  exact ⟨⟨z, rfl, hmem⟩, hs⟩

/-- what DrawNameOk draws of -/
def drawnNames : List ByteArray := [⟨#[97]⟩, ⟨#[120, 49]⟩, ⟨#[95]⟩, ⟨#[49, 120]⟩, ⟨#[65]⟩, ⟨#[]⟩, ⟨#[97, 98, 99, 100, 101, 102, 103, 104, 105, 106, 107, 108]⟩, ⟨#[97, 98, 99, 100, 101, 102, 103, 104, 105, 106, 107, 108, 109]⟩, ⟨#[110, 117, 108, 108]⟩, ⟨#[115, 116, 100]⟩, ⟨#[110, 117, 108, 108, 115]⟩, ⟨#[115, 101, 108, 102]⟩]
theorem drawnNames_size : ∀ s ∈ drawnNames, s.size ≤ 13 := by decide +kernel

end Go.Proofs.Ytkdilgmlabaehaa
