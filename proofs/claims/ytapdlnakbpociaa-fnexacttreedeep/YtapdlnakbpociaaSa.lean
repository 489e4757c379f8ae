/- Two trees that are the same, by the program: places of lists, heads, pairs. -/
import Derived.Test.YtapdlnakbpociaaKp
import Derived.Test.YtapdlnakbpociaaOkI
import Derived.Deep.AppendLies
import Derived.Deep.RegionHeld3
import Derived.Deep.DeepCutAuto
namespace Go.Proofs.Ytapdlnakbpociaa
open Go.RowKit
/-- what lies at one place with one length is one list -/
theorem Fo.from_inj {w : World} : ∀ (F G : Fo) (b o : Nat), F.From w b o → G.From w b o → F.len = G.len → F = G := by
  intro F
  induction F with
  | nil =>
    intro G b o _ _ h
    cases G with
    | nil => rfl
    | cons => exact absurd h.symm (Nat.succ_ne_zero _)
  | cons k t m e a c kids next ih1 ih2 =>
    intro G b o h1 h2 h
    cases G with
    | nil => exact absurd h (Nat.succ_ne_zero _)
    | cons k' t' m' e' a' c' kids' next' =>
      obtain ⟨⟨x0, x1, x2, x3, x4⟩, hk, _, _, _, hn⟩ := h1
      obtain ⟨⟨y0, y1, y2, y3, y4⟩, hk', _, _, _, hn'⟩ := h2
      rw [x0] at y0; rw [x1] at y1; rw [x2] at y2; rw [x3] at y3; rw [x4] at y4
      simp only [Option.some.injEq, Value.int.injEq, Value.string.injEq, Value.slice.injEq, true_and] at y0 y1 y2 y3 y4
      obtain ⟨ha, hl, hc⟩ := y4
      subst y0 y1 y2 y3 ha hc
      have hkk : kids = kids' := by
        rcases hk with hk | ⟨b', o', e1, hF⟩
        · subst hk
          cases kids' with
          | nil => rfl
          | cons => exact absurd hl.symm (Nat.succ_ne_zero _)
        · rcases hk' with hk' | ⟨b2, o2, e2, hG⟩
          · subst hk'
            cases kids with
            | nil => rfl
            | cons => exact absurd hl (Nat.succ_ne_zero _)
          · rw [e1] at e2
            cases e2
            exact ih1 _ _ _ hF hG hl
      subst hkk
      rw [ih2 next' b (o + 5) hn hn' (Nat.succ.inj h)]
/-- where a list lies -/
def plOf (a : Option Addr) (n : Nat) : Pl := if n = 0 then (none, 0) else (a, n)
set_option maxHeartbeats 400000 in
theorem placeOf_any (a : Option Addr) (n c : Nat) (w : World) (h : n = 0 ∨ ∃ b o, a = some ⟨b, o, none⟩) (hn : n ≤ 2000000) :
    Calls Try.prog 49 #[.slice a n c] w fun e w' => e = .returned (plV (plOf a n)) ∧ Below w.heap.size w w' := by
  by_cases h0 : n = 0
  · subst h0
    go_enter Try.func49, Try.ntmps49
    go_wp2_with fail
    exact bodyPost_ret (v := plV (plOf a 0)) (by simp [results, Try.results49, go_sem, plV, plOf]) rfl ⟨rfl, (by (repeat' (first | assumption | exact Below.refl _ _ | refine Below.alloc ?_ ?_ _ | refine Below.setCell ?_ ?_ _ | refine Below.drew ?_ | refine below_drewN ?_ _)) <;> (first | omega | (simp <;> omega)))⟩
  · obtain ⟨b, o, rfl⟩ : ∃ b o, a = some ⟨b, o, none⟩ := by rcases h with h | h; exact absurd h h0; exact h
    have g0 : ((n : Int) == 0) = false := by simp; omega
    have g1 : (0 : Int) < (n : Int) := by omega
    go_enter Try.func49, Try.ntmps49
    go_wp2_with fail
    exact bodyPost_ret (v := plV (plOf (some ⟨b, o, none⟩) n)) (by simp [results, Try.results49, go_sem, plV, plOf, h0]) rfl ⟨rfl, (by (repeat' (first | assumption | exact Below.refl _ _ | refine Below.alloc ?_ ?_ _ | refine Below.setCell ?_ ?_ _ | refine Below.drew ?_ | refine below_drewN ?_ _)) <;> (first | omega | (simp <;> omega)))⟩
/-- heads that are the same -/
def headSame (k : Int) (t : ByteArray) (m e : Int) (n : Nat) (k' : Int) (t' : ByteArray) (m' e' : Int) (n' : Nat) : Bool := decide (k = k') && (decide (t.toList = t'.toList) && ((decide (m = m') && decide (e = e')) && decide (n = n')))
theorem Fo.from_of_len' {F : Fo} {w : World} {a : Option Addr} (hin : F.In w a) {i : Nat} (hi : i < F.len) : ∃ b o, a = some ⟨b, o, none⟩ ∧ F.From w b o := by
  rcases hin with rfl | h
  · exact absurd hi (Nat.not_lt_zero _)
  · exact h
/-- the cells of the tree at a place -/
def Fo.cellsAt (F : Fo) (i : Nat) : List Value := [.int .i64 (F.kindAt i), .string (F.textAt i), .int .i64 (F.manAt i), .int .i64 (F.expAt i), .slice (F.addrAt i) (F.kidsAt i).len (F.capAt i)]
/-- the cells of the first n pairs -/
def pairCells (F G : Fo) : Nat → List Value
  | 0 => []
  | n + 1 => pairCells F G n ++ (F.cellsAt n ++ G.cellsAt n)
theorem pairCells_length (F G : Fo) (n : Nat) : (pairCells F G n).length = n * 10 := by
  induction n with
  | zero => rfl
  | succ n ih => show (pairCells F G n ++ (F.cellsAt n ++ G.cellsAt n)).length = _; rw [List.length_append, ih]; show _ + 10 = _; omega
/-- two trees in memory, and nothing old changed -/
abbrev HeldV (W0 : World) (b o b2 o2 : Nat) (F G : Fo) (j : Nat) (w : World) : Prop :=
  (w.cell? ⟨b, o + j * 5, none⟩ = some (.int .i64 (F.kindAt j)) ∧ w.cell? ⟨b, o + j * 5 + 1, none⟩ = some (.string (F.textAt j)) ∧ w.cell? ⟨b, o + j * 5 + 2, none⟩ = some (.int .i64 (F.manAt j)) ∧ w.cell? ⟨b, o + j * 5 + 3, none⟩ = some (.int .i64 (F.expAt j)) ∧ w.cell? ⟨b, o + j * 5 + 4, none⟩ = some (.slice (F.addrAt j) (F.kidsAt j).len (F.capAt j))) ∧
  (w.cell? ⟨b2, o2 + j * 5, none⟩ = some (.int .i64 (G.kindAt j)) ∧ w.cell? ⟨b2, o2 + j * 5 + 1, none⟩ = some (.string (G.textAt j)) ∧ w.cell? ⟨b2, o2 + j * 5 + 2, none⟩ = some (.int .i64 (G.manAt j)) ∧ w.cell? ⟨b2, o2 + j * 5 + 3, none⟩ = some (.int .i64 (G.expAt j)) ∧ w.cell? ⟨b2, o2 + j * 5 + 4, none⟩ = some (.slice (G.addrAt j) (G.kidsAt j).len (G.capAt j))) ∧
  Below W0.heap.size W0 w
end Go.Proofs.Ytapdlnakbpociaa
