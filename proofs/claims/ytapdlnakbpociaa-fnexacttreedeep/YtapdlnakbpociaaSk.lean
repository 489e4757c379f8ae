/- Two trees that are the same: TreeSame of the program, and copies that can be held against each other. -/
import Derived.Test.YtapdlnakbpociaaSf
import Derived.Test.YtapdlnakbpociaaFoE
import Derived.Test.YtapdlnakbpociaaFoB
namespace Go.Proofs.Ytapdlnakbpociaa
open Go.RowKit
theorem Fo.Cl.below {w w' : World} (hb : Below w.heap.size w w') : ∀ {F : Fo}, F.Cl w → F.Cl w' := by
  intro F
  induction F with
  | nil => intro _; trivial
  | cons k t m e a c kids next ih1 ih2 => rintro ⟨h1, h2, h3⟩; exact ⟨h1.below hb, ih1 h2, ih2 h3⟩
theorem It.Good.below {w w' : World} {x : It} (h : x.Good w) (hb : Below w.heap.size w w') : x.Good w' := ⟨h.1.below hb, h.2.below hb⟩
/-- a copy of a tree, in new memory that is not frozen -/
def CopiedC (w' : World) (k : Int) (t : ByteArray) (m e : Int) (F : Fo) (r : Ending) : Prop :=
  ∃ (nb : Nat) (F' : Fo), r = .returned (nodeV k t m e (some ⟨nb, 0, none⟩) F'.len F'.len) ∧ F'.alike F ∧ F'.From w' nb 0 ∧ It.Good w' ⟨k, t, m, e, some ⟨nb, 0, none⟩, F', F'.len⟩
theorem toNodeC_any (k : Int) (t : ByteArray) (m e : Int) (a : Option Addr) (c : Nat) (F : Fo) (w : World) (h0 : F.size ≤ 2000000) (h1 : F.In w a) (h2 : F.len ≤ c) (h3 : c ≤ maxLen) (h4 : t.size ≤ maxLen) :
      Calls Try.prog 10 #[nodeV k t m e a F.len c] w fun r w' => CopiedC w' k t m e F r ∧ Below w.heap.size w w' := by
  refine (toNodeC_all (F.size + 1) k t m e a c F w (by omega) h0 h1 h2 h3 h4).mono ?_
  rintro r w' ⟨⟨nb, F', hr, hn, ha, hk, hF, hc⟩, hb⟩
  exact ⟨⟨nb, F', hr, ha, hF, plOk_of hc hn hF, Fo.cl_of hc F' _ _ hF hk⟩, hb⟩
theorem alike_symS : ∀ {G F : Fo}, F.alike G → G.alike F := by
  intro G
  induction G with
  | nil => intro F h; rw [Fo.alike_nil h]; trivial
  | cons k t m e a c kids next ih1 ih2 =>
    intro F h
    obtain ⟨a', c', kids', next', rfl, h1, h2⟩ := Fo.alike_cons h
    exact ⟨⟨rfl, rfl, rfl, rfl⟩, ih1 h1, ih2 h2⟩
theorem alike_transS : ∀ {G F E : Fo}, F.alike G → G.alike E → F.alike E := by
  intro G
  induction G with
  | nil => intro F E h1 h2; rw [Fo.alike_nil h1]; exact h2
  | cons k t m e a c kids next ih1 ih2 =>
    intro F E h1 h2
    obtain ⟨a', c', kids', next', rfl, h3, h4⟩ := Fo.alike_cons h1
    cases E with
    | nil => exact h2.elim
    | cons k2 t2 m2 e2 a2 c2 kids2 next2 =>
      obtain ⟨⟨rfl, rfl, rfl, rfl⟩, h5, h6⟩ := h2
      exact ⟨⟨rfl, rfl, rfl, rfl⟩, ih1 h3 h5, ih2 h4 h6⟩
/-- copies are the same just if what they were made of is -/
theorem same2_copy {k k2 : Int} {t t2 : ByteArray} {m e m2 e2 : Int} {a a2 b b2 : Option Addr} {F G F1 G1 : Fo} {c c2 d d2 : Nat} (h1 : F1.alike F) (h2 : G1.alike G) :
    same2 (⟨k, t, m, e, a, F1, c⟩, ⟨k2, t2, m2, e2, a2, G1, c2⟩) ↔ same2 (⟨k, t, m, e, b, F, d⟩, ⟨k2, t2, m2, e2, b2, G, d2⟩) := by
  constructor
  · rintro ⟨h, h3⟩; exact ⟨h, alike_transS (alike_symS h1) (alike_transS h3 h2)⟩
  · rintro ⟨h, h3⟩; exact ⟨h, alike_transS h1 (alike_transS h3 (alike_symS h2))⟩
/-- a tree in its box -/
abbrev Bx (b : Nat) (k : Int) (t : ByteArray) (m e : Int) (s : Value) (w : World) : Prop := w.cell? ⟨b, 0, none⟩ = some (.int .i64 k) ∧ w.cell? ⟨b, 1, none⟩ = some (.string t) ∧ w.cell? ⟨b, 2, none⟩ = some (.int .i64 m) ∧ w.cell? ⟨b, 3, none⟩ = some (.int .i64 e) ∧ w.cell? ⟨b, 4, none⟩ = some s
theorem Bx.below {b : Nat} {k : Int} {t : ByteArray} {m e : Int} {s : Value} {w w' : World} (h : Bx b k t m e s w) (hb : Below w.heap.size w w') : Bx b k t m e s w' := by
  have hl : b < w.heap.size := World.block_lt_of_cell? _ _ h.1
  obtain ⟨h0, h1, h2, h3, h4⟩ := h
  exact ⟨(hb.cell (p := ⟨b, 0, none⟩) hl).trans h0, (hb.cell (p := ⟨b, 1, none⟩) hl).trans h1, (hb.cell (p := ⟨b, 2, none⟩) hl).trans h2, (hb.cell (p := ⟨b, 3, none⟩) hl).trans h3, (hb.cell (p := ⟨b, 4, none⟩) hl).trans h4⟩
theorem Bx.new (w : World) (k : Int) (t : ByteArray) (m e : Int) (s : Value) (T : TypeId) : Bx w.heap.size k t m e s (w.alloc (.cells #[.int .i64 k, .string t, .int .i64 m, .int .i64 e, s] T)) := by
  refine ⟨?_, ?_, ?_, ?_, ?_⟩ <;> simp
end Go.Proofs.Ytapdlnakbpociaa
