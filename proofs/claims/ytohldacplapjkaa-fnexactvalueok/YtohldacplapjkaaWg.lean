/- Two values that are the same, by the program: keys that can be held against each other. -/
import Derived.Test.YtohldacplapjkaaWd
import Derived.Test.YtohldacplapjkaaSg
namespace Go.Proofs.Ytohldacplapjkaa
open Go.RowKit
/-- all lists below lie in cells that are not frozen -/
def Vo.Cl (w : World) : Vo → Prop
  | .nil => True
  | .cons _ a _ kids next => PlOk w (plOf a kids.len) ∧ kids.Cl w ∧ next.Cl w
def ItV.Good (w : World) (x : ItV) : Prop := PlOk w x.pl ∧ x.F.Cl w
theorem Vo.Cl.at {w : World} : ∀ {F : Vo}, F.Cl w → ∀ {i : Nat}, i < F.len → (F.itAt i).Good w := by
  intro F
  induction F with
  | nil => intro _ i hi; exact absurd hi (Nat.not_lt_zero _)
  | cons hd a c kids next _ ih =>
    rintro ⟨h1, h2, h3⟩ i hi
    cases i with
    | zero => exact ⟨h1, h2⟩
    | succ i => exact ih h3 (Nat.lt_of_succ_lt_succ hi)
theorem plOk_ofV {w : World} {n : Nat} (hc : Clean n w) {b o : Nat} {F : Vo} (hn : n ≤ b) (hF : F.From w b o) : PlOk w (plOf (some ⟨b, o, none⟩) F.len) := by
  cases F with
  | nil => exact .inl rfl
  | cons hd a c kids next =>
    have hlt : b < w.heap.size := hF.1.lt
    obtain ⟨cs, t', h⟩ := hc b _ hn (Array.getElem?_eq_getElem hlt)
    exact .inr ⟨⟨b, o, none⟩, cs, t', by unfold plOf; rw [if_neg (show ¬ (Vo.cons hd a c kids next).len = 0 from Nat.succ_ne_zero _)], by rw [Array.getElem?_eq_getElem hlt, h]⟩
theorem Vo.cl_of {w : World} {n : Nat} (hc : Clean n w) : ∀ (F : Vo) (b o : Nat), F.From w b o → F.Blk (fun b => n ≤ b) → F.Cl w := by
  intro F
  induction F with
  | nil => intro b o _ _; trivial
  | cons hd a c kids next ih1 ih2 =>
    rintro b o ⟨_, hk, _, _, hn⟩ ⟨_, h1, h2, h3⟩
    rcases hk with rfl | ⟨b', o', rfl, e2⟩
    · exact ⟨.inl rfl, trivial, ih2 _ _ hn h3⟩
    · rcases h1 with rfl | ⟨b2, o2, e, hP⟩
      · exact ⟨.inl rfl, trivial, ih2 _ _ hn h3⟩
      · cases e
        exact ⟨plOk_ofV hc hP e2, ih1 _ _ e2 h2, ih2 _ _ hn h3⟩
theorem LoopV.keysOk {w W : World} {top : It2V} {T : Nat} {S D : List It2V} {L : List (Pl2 × Value)} (h : LoopV w top T S L D) (hg : ∀ p, p ∈ D ∨ p ∈ S → p.1.Good w ∧ p.2.Good w) (hb : Below w.heap.size w W) : ∀ q ∈ L, pl2KeysV.ok W q.1 := by
  intro q hq
  obtain ⟨v, hv⟩ := getL_mem hq
  obtain ⟨p, hp, e⟩ := h.keys _ _ hv
  obtain ⟨g1, g2⟩ := hg p (.inl hp)
  rw [e]
  exact ⟨g1.1.below hb, g2.1.below hb⟩
theorem good_oldV {w : World} {S D : List It2V} {p : It2V} (hg : ∀ q, q ∈ D ∨ q ∈ S ++ [p] → q.1.Good w ∧ q.2.Good w) : ∀ q, q ∈ p :: D ∨ q ∈ S → q.1.Good w ∧ q.2.Good w := by
  intro q hq
  rcases hq with hq | hq
  · rcases List.mem_cons.1 hq with rfl | hq
    · exact hg q (.inr (by simp))
    · exact hg q (.inl hq)
  · exact hg q (.inr (List.mem_append_left _ hq))
theorem good_newV {w : World} {S D : List It2V} {p : It2V} (hp : hsameV p = true) (hg : ∀ q, q ∈ D ∨ q ∈ S ++ [p] → q.1.Good w ∧ q.2.Good w) : ∀ q, q ∈ p :: D ∨ q ∈ S ++ kidPairsV p.1.F p.2.F p.1.F.len → q.1.Good w ∧ q.2.Good w := by
  intro q hq
  rcases hq with hq | hq
  · exact good_oldV hg q (.inl hq)
  · rcases List.mem_append.1 hq with hq | hq
    · exact good_oldV hg q (.inr hq)
    · obtain ⟨i, hi, rfl⟩ := kidPairs_memV.1 hq
      obtain ⟨g1, g2⟩ := hg p (.inr (by simp))
      have hl := ((hsame_iffV p).1 hp).2
      exact ⟨g1.2.at hi, g2.2.at (by omega)⟩
theorem LoopV.count {w : World} {top : It2V} {T : Nat} {S D : List It2V} {L : List (Pl2 × Value)} (h : LoopV w top T S L D) (x : Pl2) : ∃ n0 : Nat, (getL x L).getD (.int .i64 0) = .int .i64 n0 ∧ n0 ≤ T ∧ (n0 = 0 ∨ (1 ≤ n0 ∧ getL x L = some (.int .i64 n0))) := by
  cases hx : getL x L with
  | none => exact ⟨0, rfl, Nat.zero_le _, .inl rfl⟩
  | some v =>
    obtain ⟨n, rfl, h1, h2⟩ := h.vals x v hx
    have := h.room
    exact ⟨n, rfl, by omega, .inr ⟨h1, rfl⟩⟩
/-- what the loop keeps, in memory: so much is to be done yet -/
def SameInvV (w : World) (x y : ItV) (v : Value) (wr : World) (n : Nat) : Prop :=
  ∃ (S : List It2V) (L : List (Pl2 × Value)) (D : List It2V), LoopV w (x, y) (x.F.size + 1) S L D ∧ (∀ p, p ∈ D ∨ p ∈ S → p.1.Good w ∧ p.2.Good w) ∧ wr.ownsRow w.heap.size 62 12 v S.length (S.flatMap pcellsV) ∧ pl2KeysV.Has wr (w.heap.size + 1 + 1) L ∧ Below w.heap.size w wr ∧ wsumV S = n
end Go.Proofs.Ytohldacplapjkaa
