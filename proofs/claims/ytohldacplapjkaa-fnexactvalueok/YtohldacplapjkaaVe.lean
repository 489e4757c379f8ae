/- Contracts over values: the laws' own copy of a value. -/
import Derived.Test.YtohldacplapjkaaVd
namespace Go.Proofs.Ytohldacplapjkaa
open Go.RowKit
attribute [local go_sem] cell_alloc_is frozen_alloc_is
set_option maxHeartbeats 1000000 in
theorem toValue_step (N : Nat) (H : ∀ (a : Option Addr) (c : Nat) (F : Vo) (w : World), F.size ≤ N → F.size ≤ 1100000 → F.few 1100000 → F.In w a → F.len ≤ c → c ≤ maxLen →
      Calls Try.prog 20 #[.slice a F.len c] w fun r w' => (∃ (nb : Nat) (F' : Vo), r = .returned (.slice (some ⟨nb, 0, none⟩) F'.len F'.len) ∧ w.heap.size ≤ nb ∧ F'.alike F ∧ F'.Blk (fun b => w.heap.size ≤ b) ∧ F'.From w' nb 0 ∧ Clean w.heap.size w') ∧ Below w.heap.size w w') :
    ∀ (h : Hd) (a : Option Addr) (c : Nat) (F : Vo) (w : World), F.size ≤ N → F.size ≤ 1100000 → F.few 1100000 → h.ns.length ≤ 1100000 → F.In w a → F.len ≤ c → c ≤ maxLen → h.In w →
      Calls Try.prog 8 #[valV h a F.len c] w fun r w' => CopV w w' h F r ∧ Below w.heap.size w w' := by
  intro h a c F w hF hF2 hfw hnl hin hl hc hh
  obtain ⟨W0, hW0⟩ : ∃ W0, W0 = ((w.alloc (.cells #[.int .i64 h.k, .int .i64 h.m, .int .i64 h.e, .string h.t, .slice a F.len c, .slice h.na h.ns.length h.nc] 27)).alloc (.cells #[.int .i64 0, .int .i64 0, .int .i64 0, .string ⟨#[]⟩, .slice none 0 0, .slice none 0 0] 33)).alloc (.cells #[.int .i64 h.k, .int .i64 0, .int .i64 0, .string ⟨#[]⟩, .slice none 0 0, .slice none 0 0] 33) := ⟨_, rfl⟩
  have hB0 : Below w.heap.size w W0 := by subst hW0; exact (by (repeat' (first | assumption | exact Below.refl _ _ | refine Below.alloc ?_ ?_ _ | refine Below.setCell ?_ ?_ _ | refine Below.drew ?_ | refine below_drewN ?_ _)) <;> (first | omega | (simp <;> omega)))
  have HC0 : Hid (Clean w.heap.size W0) := by unfold Hid; subst hW0; exact (((Clean.refl w).alloc _ _).alloc _ _).alloc _ _
  have hsz : W0.heap.size = w.heap.size + 1 + 1 + 1 := by subst hW0; simp
  have A0 : Row W0 w.heap.size [.int .i64 h.k, .int .i64 h.m, .int .i64 h.e, .string h.t, .slice a F.len c, .slice h.na h.ns.length h.nc] := by
    subst hW0
    exact ((Row.new w _ _).below ((Below.refl _ _).alloc (Nat.le_refl _) _) (by simp)).below ((Below.refl _ _).alloc (Nat.le_refl _) _) (by simp; omega)
  have B0 : Row W0 (w.heap.size + 1) [.int .i64 0, .int .i64 0, .int .i64 0, .string ⟨#[]⟩, .slice none 0 0, .slice none 0 0] := by
    subst hW0
    have := Row.new (w.alloc (.cells #[.int .i64 h.k, .int .i64 h.m, .int .i64 h.e, .string h.t, .slice a F.len c, .slice h.na h.ns.length h.nc] 27)) [.int .i64 0, .int .i64 0, .int .i64 0, .string ⟨#[]⟩, .slice none 0 0, .slice none 0 0] 33
    rw [World.size_alloc] at this
    exact this.below ((Below.refl _ _).alloc (Nat.le_refl _) _) (by simp)
  have C0 : Row W0 (w.heap.size + 1 + 1) [.int .i64 h.k, .int .i64 0, .int .i64 0, .string ⟨#[]⟩, .slice none 0 0, .slice none 0 0] := by
    subst hW0
    have := Row.new ((w.alloc (.cells #[.int .i64 h.k, .int .i64 h.m, .int .i64 h.e, .string h.t, .slice a F.len c, .slice h.na h.ns.length h.nc] 27)).alloc (.cells #[.int .i64 0, .int .i64 0, .int .i64 0, .string ⟨#[]⟩, .slice none 0 0, .slice none 0 0] 33)) [.int .i64 h.k, .int .i64 0, .int .i64 0, .string ⟨#[]⟩, .slice none 0 0, .slice none 0 0] 33
    rw [World.size_alloc, World.size_alloc] at this
    exact this
  have l1 : w.heap.size < W0.heap.size := by omega
  have l2 : w.heap.size + 1 < W0.heap.size := by omega
  have l3 : w.heap.size + 1 + 1 < W0.heap.size := by omega
  have HSZ : Hid (W0.heap.size = w.heap.size + 1 + 1 + 1) := hsz
  clear hsz
  go_enter Try.func8, Try.ntmps8
  go_wp2_with fail
  rw [← hW0]
  clear hW0
  refine (toDecC_any _ _ _).mono ?_
  rintro r w1 ⟨rfl, hb1, hcl1⟩
  have HC1 : Hid (Clean w.heap.size w1) := HC0.out.trans hb1 hcl1
  clear HC0 hcl1
  have A1 := A0.below hb1 l1
  have B1 := B0.below hb1 l2
  have C1 := C0.below hb1 l3
  have hB1 := hB0.trans (hb1.mono (Nat.le_of_lt l1))
  have hz1 := hb1.size
  clear A0 B0 C0 hB0 hb1
  have a3 := (A1 3 _ rfl).1
  have a4 := (A1 4 _ rfl).1
  obtain ⟨c1, g1⟩ := C1 1 _ rfl
  obtain ⟨c2, g2⟩ := C1 2 _ rfl
  obtain ⟨c3, g3⟩ := C1 3 _ rfl
  go_wp2_with fail
  obtain ⟨W2, hW2⟩ : ∃ W2, W2 = ((w1.setCell ⟨w.heap.size + 1 + 1, 1, none⟩ (.int .i64 h.m)).setCell ⟨w.heap.size + 1 + 1, 2, none⟩ (.int .i64 h.e)).setCell ⟨w.heap.size + 1 + 1, 3, none⟩ (.string h.t) := ⟨_, rfl⟩
  have A2 : Row W2 w.heap.size [.int .i64 h.k, .int .i64 h.m, .int .i64 h.e, .string h.t, .slice a F.len c, .slice h.na h.ns.length h.nc] := by rw [hW2]; exact ((A1.setOther (by omega) _ _).setOther (by omega) _ _).setOther (by omega) _ _
  have C2 : Row W2 (w.heap.size + 1 + 1) [.int .i64 h.k, .int .i64 h.m, .int .i64 h.e, .string h.t, .slice none 0 0, .slice none 0 0] := by rw [hW2]; exact ((C1.set (i := 1) (by simp) _).set (i := 2) (by simp) _).set (i := 3) (by simp) _
  have B2 : Row W2 (w.heap.size + 1) [.int .i64 0, .int .i64 0, .int .i64 0, .string ⟨#[]⟩, .slice none 0 0, .slice none 0 0] := by rw [hW2]; exact ((B1.setOther (by omega) _ _).setOther (by omega) _ _).setOther (by omega) _ _
  have hB2 : Below w.heap.size w W2 := by rw [hW2]; exact ((hB1.setCell (p := ⟨w.heap.size + 1 + 1, 1, none⟩) (by show _ ≤ _ + 1 + 1; omega) _).setCell (p := ⟨w.heap.size + 1 + 1, 2, none⟩) (by show _ ≤ _ + 1 + 1; omega) _).setCell (p := ⟨w.heap.size + 1 + 1, 3, none⟩) (by show _ ≤ _ + 1 + 1; omega) _
  have HC2 : Hid (Clean w.heap.size W2) := by unfold Hid; rw [hW2]; exact ((HC1.out.setCell _ _).setCell _ _).setCell _ _
  rw [← hW2]
  clear HC1
  clear hW2 a3 a4 c1 g1 c2 g2 c3 g3 A1 B1 C1 hB1
  refine (H a c F W2 hF hF2 hfw (hin.grow hB2) hl hc).mono ?_
  rintro r w3 ⟨⟨nb, F', rfl, hnb, hA, hK, hFr, hcl3⟩, hb3⟩
  have HC3 : Hid (Clean w.heap.size w3) := HC2.out.trans hb3 hcl3
  clear HC2 hcl3
  have lC := C2.lt
  have A3 := A2.below hb3 A2.lt
  have C3 := C2.below hb3 lC
  have B3 := B2.below hb3 B2.lt
  have hB3 := hB2.trans (hb3.mono hB2.size)
  have hz3 := hb3.size
  clear A2 B2 C2 hB2 hb3 H hin
  have a5 := (A3 5 _ rfl).1
  obtain ⟨c4, g4⟩ := C3 4 _ rfl
  go_wp2_with fail
  obtain ⟨W4, hW4⟩ : ∃ W4, W4 = w3.setCell ⟨w.heap.size + 1 + 1, 4, none⟩ (.slice (some ⟨nb, 0, none⟩) F'.len F'.len) := ⟨_, rfl⟩
  have C4 : Row W4 (w.heap.size + 1 + 1) [.int .i64 h.k, .int .i64 h.m, .int .i64 h.e, .string h.t, .slice (some ⟨nb, 0, none⟩) F'.len F'.len, .slice none 0 0] := by rw [hW4]; exact C3.set (i := 4) (by simp) _
  have B4 : Row W4 (w.heap.size + 1) [.int .i64 0, .int .i64 0, .int .i64 0, .string ⟨#[]⟩, .slice none 0 0, .slice none 0 0] := by rw [hW4]; exact B3.setOther (by omega) _ _
  have hB4 : Below w.heap.size w W4 := by rw [hW4]; exact hB3.setCell (p := ⟨w.heap.size + 1 + 1, 4, none⟩) (by show _ ≤ _ + 1 + 1; omega) _
  have HC4 : Hid (Clean w.heap.size W4) := by unfold Hid; rw [hW4]; exact HC3.out.setCell _ _
  have hF4 : F'.From W4 nb 0 := by
    refine Vo.from_agree (P := fun b => W2.heap.size ≤ b) (fun b o v hb hv => ?_) F' nb 0 hnb hK hFr
    rw [hW4]
    exact (World.cell?_setCell_other _ _ _ _ (fun e => by have : w.heap.size + 1 + 1 = b := by simpa using congrArg Addr.block e
                                                          omega)).trans hv
  have hsz4 : W2.heap.size ≤ W4.heap.size := by rw [hW4]; simpa [World.setCell] using hz3
  rw [← hW4]
  clear hW4 a5 c4 g4 A3 B3 C3 hB3 HC3 hFr
  have HF : Hid (F'.alike F ∧ F'.Blk (fun b => W2.heap.size ≤ b) ∧ F'.From W4 nb 0) := ⟨hA, hK, hF4⟩
  clear hA hK hF4
  refine (toStringS_any h.ns h.na h.nc W4 (hh.1.grow hB4) (by omega)).mono ?_
  rintro r w5 ⟨⟨n2, rfl, hn2, hS5, hcl5⟩, hb5⟩
  have HC5 : Hid (Clean w.heap.size w5) := HC4.out.trans hb5 hcl5
  have lC4 := C4.lt
  have C5 := C4.below hb5 lC4
  have B5 := B4.below hb5 B4.lt
  have hB5 := hB4.trans (hb5.mono hB4.size)
  have HF5 : Hid ((F'.alike F ∧ F'.Blk (fun b => W2.heap.size ≤ b) ∧ F'.From w5 nb 0) ∧ SFrom w5 h.ns n2 0) := ⟨⟨HF.out.1, HF.out.2.1, Vo.from_grow hb5 _ _ _ HF.out.2.2⟩, hS5⟩
  clear HF hS5 hcl5 HC4 B4 C4 hB4 hb5
  obtain ⟨c0, _⟩ := C5 0 _ rfl
  obtain ⟨c1, _⟩ := C5 1 _ rfl
  obtain ⟨c2, _⟩ := C5 2 _ rfl
  obtain ⟨c3, _⟩ := C5 3 _ rfl
  obtain ⟨c4, _⟩ := C5 4 _ rfl
  obtain ⟨c5, g5⟩ := C5 5 _ rfl
  obtain ⟨b0, e0⟩ := B5 0 _ rfl
  obtain ⟨b1, e1⟩ := B5 1 _ rfl
  obtain ⟨b2, e2⟩ := B5 2 _ rfl
  obtain ⟨b3, e3⟩ := B5 3 _ rfl
  obtain ⟨b4, e4⟩ := B5 4 _ rfl
  obtain ⟨b5, e5⟩ := B5 5 _ rfl
  have hne : ∀ o : Nat, ((w5.setCell ⟨w.heap.size + 1 + 1, 5, none⟩ (.slice (some ⟨n2, 0, none⟩) h.ns.length h.ns.length)).cell? ⟨w.heap.size + 1, o, none⟩) = w5.cell? ⟨w.heap.size + 1, o, none⟩ := fun o => World.cell?_setCell_other _ _ _ _ (by simp)
  go_wp2_with fail
  have hcs : ∀ q, q < 6 → ∃ u, (w5.setCell ⟨w.heap.size + 1 + 1, 5, none⟩ (.slice (some ⟨n2, 0, none⟩) h.ns.length h.ns.length)).cell? ⟨w.heap.size + 1, 0 + q, none⟩ = some u := fun q hq => by
    rw [hne, Nat.zero_add]
    have : q = 0 ∨ q = 1 ∨ q = 2 ∨ q = 3 ∨ q = 4 ∨ q = 5 := by omega
    rcases this with rfl | rfl | rfl | rfl | rfl | rfl
    · exact ⟨_, b0⟩
    · exact ⟨_, b1⟩
    · exact ⟨_, b2⟩
    · exact ⟨_, b3⟩
    · exact ⟨_, b4⟩
    · exact ⟨_, b5⟩
  obtain ⟨W6, hW6⟩ : ∃ W6, W6 = put6 (w5.setCell ⟨w.heap.size + 1 + 1, 5, none⟩ (.slice (some ⟨n2, 0, none⟩) h.ns.length h.ns.length)) (w.heap.size + 1) 0 (.int .i64 h.k) (.int .i64 h.m) (.int .i64 h.e) (.string h.t) (.slice (some ⟨nb, 0, none⟩) F'.len F'.len) (.slice (some ⟨n2, 0, none⟩) h.ns.length h.ns.length) := ⟨_, rfl⟩
  have p0 : W6.cell? ⟨w.heap.size + 1, 0, none⟩ = some (.int .i64 h.k) := by rw [hW6]; exact put6_cell hcs (i := 0) rfl
  have p1 : W6.cell? ⟨w.heap.size + 1, 1, none⟩ = some (.int .i64 h.m) := by rw [hW6]; exact put6_cell hcs (i := 1) rfl
  have p2 : W6.cell? ⟨w.heap.size + 1, 2, none⟩ = some (.int .i64 h.e) := by rw [hW6]; exact put6_cell hcs (i := 2) rfl
  have p3 : W6.cell? ⟨w.heap.size + 1, 3, none⟩ = some (.string h.t) := by rw [hW6]; exact put6_cell hcs (i := 3) rfl
  have p4 : W6.cell? ⟨w.heap.size + 1, 4, none⟩ = some (.slice (some ⟨nb, 0, none⟩) F'.len F'.len) := by rw [hW6]; exact put6_cell hcs (i := 4) rfl
  have p5 : W6.cell? ⟨w.heap.size + 1, 5, none⟩ = some (.slice (some ⟨n2, 0, none⟩) h.ns.length h.ns.length) := by rw [hW6]; exact put6_cell hcs (i := 5) rfl
  have hB6 : Below w.heap.size w W6 := by rw [hW6]; exact put6_below (hB5.setCell (p := ⟨w.heap.size + 1 + 1, 5, none⟩) (by show _ ≤ _ + 1 + 1; omega) _) (by omega) _ _ _ _ _ _
  have HC6 : Hid (Clean w.heap.size W6) := by unfold Hid; rw [hW6]; exact (HC5.out.setCell _ _).put6 _ _ _ _ _ _ _ _
  have hag : ∀ b o v, W2.heap.size ≤ b → w5.cell? ⟨b, o, none⟩ = some v → W6.cell? ⟨b, o, none⟩ = some v := fun b o v hb hv => by
    rw [hW6, put6_other (.inl (by omega))]
    exact (World.cell?_setCell_other _ _ _ _ (fun e => by have : w.heap.size + 1 + 1 = b := by simpa using congrArg Addr.block e
                                                          omega)).trans hv
  show bodyPost Try.prog Try.f8 _ Exit.ret _ (put6 (w5.setCell ⟨w.heap.size + 1 + 1, 5, none⟩ (.slice (some ⟨n2, 0, none⟩) h.ns.length h.ns.length)) (w.heap.size + 1) 0 (.int .i64 h.k) (.int .i64 h.m) (.int .i64 h.e) (.string h.t) (.slice (some ⟨nb, 0, none⟩) F'.len F'.len) (.slice (some ⟨n2, 0, none⟩) h.ns.length h.ns.length))
  rw [← hW6]
  obtain ⟨⟨hA, hK, hF5⟩, hS5⟩ := HF5.out
  refine bodyPost_ret (v := valV (h.to n2) (some ⟨nb, 0, none⟩) F'.len F'.len) (by simp [results, Try.results8, go_sem, p0, p1, p2, p3, p4, p5, Hd.to]) rfl ⟨⟨nb, n2, F', rfl, ⟨by omega, by omega⟩, hA, hK.mono (fun b hb => by omega), Vo.from_agree hag F' nb 0 hnb hK hF5, hS5.agree hag (by omega), HC6.out⟩, hB6⟩
theorem toValue_all (N : Nat) : ∀ (h : Hd) (a : Option Addr) (c : Nat) (F : Vo) (w : World), F.size < N → F.size ≤ 1100000 → F.few 1100000 → h.ns.length ≤ 1100000 → F.In w a → F.len ≤ c → c ≤ maxLen → h.In w →
      Calls Try.prog 8 #[valV h a F.len c] w fun r w' => CopV w w' h F r ∧ Below w.heap.size w w' := by
  induction N with
  | zero => intro h a c F w hF; omega
  | succ N ih => exact fun h a c F w hF h2 h3 h4 h5 h6 h7 h8 => toValue_step N (toValueS_step N ih) h a c F w (by omega) h2 h3 h4 h5 h6 h7 h8
end Go.Proofs.Ytohldacplapjkaa
