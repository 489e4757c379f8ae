/- My own texts, joined: Lm Lp Lq Ln Lg Lr Ls Lt Ec Le Lf Lv Lx. -/
import Derived.Test.YtbbbmmemfndnlaaJFrees4
import Derived.Laws.IdiomStrings
import Derived.Test.YtbbbmmemfndnlaaJFrees3
import Derived.Deep.RegionHeld3
import Derived.Shelf.Pu.Clone
import Derived.Test.YtbbbmmemfndnlaaProg
/- Marks: the text of a mark; a list of texts that is owned is marked, and holds its marks. -/
namespace Go.Proofs.Ytbbbmmemfndnlaa
open Go.RowKit
attribute [local go_sem] cell_alloc_is frozen_alloc_is
/-- the figures of a number ahead of a text -/
def mfig : Nat → Nat → List UInt8 → List UInt8
  | 0, _, out => out
  | f + 1, k, out => if k = 0 then out else mfig f (k / 10) (UInt8.ofNat (48 + k % 10) :: out)
def mtext (k : Nat) : ByteArray := if k = 0 then ⟨#[109, 48]⟩ else ⟨(109 :: mfig 20 k []).toArray⟩
set_option maxHeartbeats 1000000 in
theorem conv1M (W : World) (b : Nat) (c : Int) (h0 : 0 ≤ c) (h1 : c ≤ 255) (hc : W.cell? ⟨b, 0, none⟩ = some (.int .u8 c)) :
    (convert 77 9 (.slice (some ⟨b, 0, none⟩) 1 1)).run Try.prog W = .ok (.string ⟨#[UInt8.ofNat c.toNat]⟩) W := by
  have e : (UInt8.ofNat c.toNat).toNat = c.toNat := by rw [UInt8.toNat_ofNat']; omega
  exact run_convert_bytes_back (P := Try.prog) W 77 9 5 ⟨b, 0, none⟩ 1 [UInt8.ofNat c.toNat] Try.underlying77 Try.underlying5 Try.underlying9 (by
    intro j hj
    have hj0 : j = 0 := by simp at hj; omega
    subst hj0
    simp only [List.getElem_cons_zero, e]
    rw [show ((c.toNat : Nat) : Int) = c from by omega]
    exact hc)
theorem mfig_step (f j : Nat) (l : List UInt8) (h : 0 < j) (hf : 1 ≤ f) : mfig f j l = mfig (f - 1) (j / 10) (UInt8.ofNat (48 + j % 10) :: l) := by
  obtain ⟨g, rfl⟩ : ∃ g, f = g + 1 := ⟨f - 1, by omega⟩
  show (if j = 0 then l else mfig g (j / 10) (UInt8.ofNat (48 + j % 10) :: l)) = _
  rw [if_neg (by omega)]; rfl
theorem mfig_zero (f : Nat) (l : List UInt8) : mfig f 0 l = l := by cases f <;> rfl
theorem pow_step {f j : Nat} (h : 0 < j) (hj : j < 10 ^ f) : 1 ≤ f ∧ j / 10 < 10 ^ (f - 1) := by
  cases f with
  | zero => simp at hj; omega
  | succ f =>
    rw [Nat.pow_succ] at hj
    exact ⟨by omega, by show j / 10 < 10 ^ f; omega⟩
set_option maxRecDepth 100000 in
set_option maxHeartbeats 1000000 in
theorem markText_any (k : Nat) (w : World) (hk : k ≤ 1000000000000000) :
    Calls Try.prog 33 #[.int .i64 (k : Nat)] w fun r w' => r = .returned (.string (mtext k)) ∧ Below w.heap.size w w' := by
  by_cases h0 : k = 0
  · subst h0
    go_enter Try.func33, Try.ntmps33
    go_wp2_with fail
    go_ret
    exact ⟨rfl, Below.refl _ _⟩
  · have hp : (0 : Int) < (k : Int) := by omega
    have HK : Hid (mtext k = ⟨(109 :: mfig 20 k []).toArray⟩) := if_neg h0
    have HP : Hid (k < 10 ^ 20) := by unfold Hid; omega
    clear h0
    go_enter Try.func33, Try.ntmps33
    go_wp2_with fail
    go_loopw [0, 3] (fun kk o wr => ∃ (f j : Nat) (l : List UInt8) (s : ByteArray), kk = .int .i64 j ∧ o = .string s ∧ Hid (s = ⟨l.toArray⟩ ∧ mfig f j l = mfig 20 k [] ∧ j < 10 ^ f) ∧ j ≤ k ∧ f ≤ 20 ∧ l.length + f ≤ 20 ∧ s.size ≤ 20 ∧ Below w.heap.size w wr) (fun kk _ _ => (intOf kk).toNat)
    case atStart => exact ⟨20, k, [], ⟨#[]⟩, rfl, rfl, ⟨rfl, rfl, HP.out⟩, Nat.le_refl _, Nat.le_refl _, Nat.le_refl _, Nat.zero_le _, Below.refl _ _⟩
    case round =>
      obtain ⟨f, j, l, s, rfl, rfl, HM, hjk, hf, hl, hs, hb⟩ := hrel
      by_cases hlt : 0 < j
      · have hlt' : (0 : Int) < (j : Int) := by omega
        have hcv := fun W b => conv1M W b (48 + (j : Int) % 10) (by omega) (by omega)
        obtain ⟨hs0, hm0, hp0⟩ := HM.out
        obtain ⟨hf1, hp1⟩ := pow_step hlt hp0
        have e8 : (48 : UInt8) + UInt8.ofNat (j % 10) = UInt8.ofNat (48 + j % 10) := by
          apply UInt8.toNat_inj.1
          simp
        have HN : Hid ((⟨#[48 + UInt8.ofNat (j % 10)]⟩ : ByteArray) ++ s = ⟨(UInt8.ofNat (48 + j % 10) :: l).toArray⟩ ∧ mfig (f - 1) (j / 10) (UInt8.ofNat (48 + j % 10) :: l) = mfig 20 k [] ∧ j / 10 < 10 ^ (f - 1)) := by
          refine ⟨?_, by rw [← mfig_step f j l hlt hf1]; exact hm0, hp1⟩
          rw [hs0, e8]
          exact ByteArray.ext (by simp)
        have HL : Hid (s.size = l.length) := by unfold Hid; rw [hs0]; simp [ByteArray.size]
        clear hs0 hm0 hp0 hp1 e8
        go_wp2_with fail
        go_round
        case rel =>
          refine ⟨f - 1, j / 10, UInt8.ofNat (48 + j % 10) :: l, _, by go_num, rfl, HN, by omega, by omega, by rw [List.length_cons]; omega, ?_, hb.alloc hb.size _⟩
          rw [HN.out.1]
          have := HL.out
          simp [ByteArray.size]
          omega
        case measure => simp [intOf]; omega
      · have hj0 : j = 0 := by omega
        subst hj0
        have hlt' : ¬ (0 : Int) < ((0 : Nat) : Int) := by omega
        have HF : Hid ((⟨#[109]⟩ : ByteArray) ++ s = mtext k) := by
          obtain ⟨hs0, hm0, _⟩ := HM.out
          unfold Hid
          rw [HK.out, hs0, ← hm0, mfig_zero]
          exact ByteArray.ext (by simp)
        clear HM
        go_wp2_with fail
        go_ret
        exact ⟨by rw [← HF.out]; rfl, hb⟩
theorem mtext_size (k : Nat) : (mtext k).size ≤ 30 := by
  have h : ∀ f j l, (mfig f j l).length ≤ l.length + f := by
    intro f
    induction f with
    | zero => intro j l; exact Nat.le_refl _
    | succ f ih =>
      intro j l
      show (if j = 0 then l else mfig f (j / 10) (UInt8.ofNat (48 + j % 10) :: l)).length ≤ _
      split
      · omega
      · have := ih (j / 10) (UInt8.ofNat (48 + j % 10) :: l)
        simp only [List.length_cons] at this
        omega
  have := h 20 k []
  unfold mtext
  split
  · show (2 : Nat) ≤ 30; omega
  · show ((109 :: mfig 20 k []).toArray).size ≤ 30
    simp only [List.size_toArray, List.length_cons]
    simp only [List.length_nil] at this
    omega
/-- the marks from a number on -/
def marks (k : Nat) : Nat → List ByteArray
  | 0 => []
  | n + 1 => mtext k :: marks (k + 1) n
theorem marks_len : ∀ (n k : Nat), (marks k n).length = n := by
  intro n
  induction n with
  | zero => intro k; rfl
  | succ n ih => intro k; show (marks (k + 1) n).length + 1 = n + 1; rw [ih]
theorem marks_at : ∀ (n k i : Nat), i < n → (marks k n)[i]? = some (mtext (k + i)) := by
  intro n
  induction n with
  | zero => intro k i h; omega
  | succ n ih =>
    intro k i h
    cases i with
    | zero => rfl
    | succ i =>
      show (marks (k + 1) n)[i]? = _
      rw [ih (k + 1) i (by omega), show k + 1 + i = k + (i + 1) by omega]
set_option maxHeartbeats 1000000 in
theorem markStringS_any {B : Nat} {w : World} {a : Option Addr} {c k : Nat} {ns : List ByteArray} (h : OwnT B w a c ns) (hB : B ≤ w.heap.size) (hn : ns.length ≤ 1100000) (hk : k ≤ 100000000) :
    Calls Try.prog 14 #[.slice a ns.length c, .int .i64 (k : Nat)] w fun r w' => r = .returned (.int .i64 ((k + ns.length : Nat) : Int)) ∧ OwnT B w' a c (marks k ns.length) ∧ Below B w w' ∧ ∀ x, x < w.heap.size → some x ≠ a.map (·.block) → w'.heap[x]? = w.heap[x]? := by
  rcases h with ⟨rfl, rfl, rfl⟩ | ⟨g, f, rfl, hg, ⟨hc1, hc2⟩, hrow, hf⟩
  · go_enter Try.func14, Try.ntmps14
    go_wp2_with fail
    go_loopw [1, 5] (fun kk i wr => kk = .int .i64 (k : Nat) ∧ i = .int .i64 0 ∧ wr = w) (fun _ _ _ => 0)
    case atStart => exact ⟨rfl, rfl, rfl⟩
    case round =>
      obtain ⟨rfl, rfl, rfl⟩ := hrel
      go_wp2_with fail
      go_ret
      exact ⟨rfl, .inl ⟨rfl, rfl, rfl⟩, Below.refl _ _, fun _ _ _ => rfl⟩
  · obtain ⟨n, hnn⟩ : ∃ n, ns.length = n := ⟨_, rfl⟩
    have HO : Hid (w.rowIs g 9 c f) := hrow
    rw [hnn] at hc1 hn ⊢
    have hgl := hrow.lt
    clear hf hrow hnn
    unfold maxLen at hc2
    go_enter Try.func14, Try.ntmps14
    go_wp2_with fail
    go_loopw [1, 5] (fun kk i wr => ∃ (j : Nat) (fj : Nat → Value), kk = .int .i64 ((k + j : Nat) : Int) ∧ i = .int .i64 j ∧ j ≤ n ∧ wr.rowIs g 9 c fj ∧ (∀ q, q < j → fj q = .string (mtext (k + q))) ∧ Below B w wr ∧ ∀ x, x < w.heap.size → ¬ x = g → wr.heap[x]? = w.heap[x]?) (fun _ i _ => n - (intOf i).toNat)
    case atStart => exact ⟨0, f, by simp, rfl, Nat.zero_le _, HO.out, fun q hq => absurd hq (Nat.not_lt_zero _), Below.refl _ _, fun _ _ _ => rfl⟩
    case round =>
      obtain ⟨j, fj, rfl, rfl, hj, hrj, hfj, hb, hfr⟩ := hrel
      by_cases hlt : j < n
      · have hlt' : (j : Int) < (n : Int) := by omega
        have HM := markText_any (k + j) wr (by omega)
        have HFJ : Hid (∀ q, q < j → fj q = .string (mtext (k + q))) := hfj
        clear hfj
        go_wp2_with fail
        refine HM.mono ?_
        rintro r w1 ⟨rfl, hb1⟩
        have hr1 := hrj.of_block (hb1.block g hrj.lt)
        have hcl := hr1.cell (i := j) (by omega)
        have hfz := hr1.frozen j
        have HR : Hid ((w1.setCell ⟨g, j, none⟩ (.string (mtext (k + j)))).rowIs g 9 c (fun q => if q = j then .string (mtext (k + j)) else fj q)) := hr1.set j _
        have hb2 : Below B w (w1.setCell ⟨g, j, none⟩ (.string (mtext (k + j)))) := (hb.trans (hb1.mono (Nat.le_trans hB hb.size))).setCell (p := ⟨g, j, none⟩) hg _
        have hfr2 : ∀ x, x < w.heap.size → ¬ x = g → (w1.setCell ⟨g, j, none⟩ (.string (mtext (k + j)))).heap[x]? = w.heap[x]? := fun x hx hxg => by
          rw [Go.Deep.blk_setCell_other _ _ _ _ hxg]
          exact (hb1.block x (Nat.lt_of_lt_of_le hx hb.size)).trans (hfr x hx hxg)
        have HB2 : Hid (Below B w (w1.setCell ⟨g, j, none⟩ (.string (mtext (k + j)))) ∧ ∀ x, x < w.heap.size → ¬ x = g → (w1.setCell ⟨g, j, none⟩ (.string (mtext (k + j)))).heap[x]? = w.heap[x]?) := ⟨hb2, hfr2⟩
        clear HM hrj hr1 hb hb1 hfr hb2 hfr2
        generalize hmt : mtext (k + j) = mt at *
        have HMT : Hid (mtext (k + j) = mt) := hmt
        clear hmt
        go_wp2_with fail
        go_round
        case rel =>
          refine ⟨j + 1, _, by go_num, by go_num, by omega, HR.out, fun q hq => ?_, HB2.out⟩
          by_cases e : q = j
          · rw [if_pos e, e, HMT.out]
          · rw [if_neg e]; exact HFJ.out q (by omega)
        case measure => simp [intOf]; omega
      · have hje : j = n := by omega
        have hlt' : ¬ (j : Int) < (n : Int) := by omega
        have HF : Hid (OwnT B wr (some ⟨g, 0, none⟩) c (marks k n)) := .inr ⟨g, fj, rfl, hg, ⟨by rw [marks_len]; exact hc1, hc2⟩, hrj, fun i x hx => by
          have hi := (List.getElem?_eq_some_iff.1 hx).1
          rw [marks_len] at hi
          rw [marks_at n k i hi] at hx
          cases hx
          exact hfj i (by omega)⟩
        clear hrj hfj
        subst hje
        go_wp2_with fail
        go_ret
        exact ⟨rfl, HF.out, hb, fun x hx hne => hfr x hx (fun e => hne (by simp [e]))⟩
end Go.Proofs.Ytbbbmmemfndnlaa
/- Marks: all in a tree is written over; the tree's own lists stay where they are. -/
namespace Go.Proofs.Ytbbbmmemfndnlaa
open Go.RowKit
attribute [local go_sem] cell_alloc_is frozen_alloc_is
/-- where a tree's lists lie, whatever stands in it -/
def Fo.Sh (w : World) : Fo → Nat → Nat → Prop
  | .nil, _, _ => True
  | .cons _ _ _ _ a c kids next, b, o => ((∀ q, q < 4 → (w.cell? ⟨b, o + q, none⟩).isSome = true ∧ w.frozen? ⟨b, o + q, none⟩ = false) ∧ w.cell? ⟨b, o + 4, none⟩ = some (.slice a kids.len c)) ∧ (kids.len ≤ c ∧ c ≤ maxLen) ∧ (kids = .nil ∨ ∃ b', a = some ⟨b', 0, none⟩ ∧ kids.Sh w b' 0) ∧ next.Sh w b (o + 5)
theorem Fo.sh_of : ∀ {F : Fo} {w : World} {P : Nat → Prop} {n b o : Nat}, F.From w b o → F.BlkZ P → Clean n w → n ≤ b → (∀ x, P x → n ≤ x) → F.Sh w b o := by
  intro F
  induction F with
  | nil => intros; trivial
  | cons k t m e a c kids next ih1 ih2 =>
    rintro w P n b o ⟨⟨h1, h2, h3, h4, h5⟩, hk, hc, hm, ht, hn⟩ ⟨z1, z2, z3⟩ hC hb hP
    have hfz : ∀ q, w.frozen? ⟨b, o + q, none⟩ = false := fun q => by
      have hl := World.block_lt_of_cell? w _ h1
      obtain ⟨cs, T, e⟩ := hC b _ hb (Array.getElem?_eq_getElem hl)
      unfold World.frozen?
      simp only []
      rw [Array.getElem?_eq_getElem hl, e]
      simp
    refine ⟨⟨fun q hq => ⟨?_, hfz q⟩, h5⟩, ⟨hc, hm⟩, ?_, ih2 hn z3 hC hb hP⟩
    · have : q = 0 ∨ q = 1 ∨ q = 2 ∨ q = 3 := by omega
      rcases this with rfl | rfl | rfl | rfl
      · rw [Nat.add_zero, h1]; rfl
      · rw [h2]; rfl
      · rw [h3]; rfl
      · rw [h4]; rfl
    · rcases z1 with z1 | ⟨b', o', e1, e2, rfl⟩
      · exact .inl z1
      · rcases hk with hk | ⟨b'', o'', e3, e4⟩
        · exact .inl hk
        · rw [e1] at e3
          cases e3
          exact .inr ⟨b', e1, ih1 e4 z2 hC (hP _ e2) hP⟩
theorem Fo.Sh.agree : ∀ {F : Fo} {w w' : World} {b o : Nat}, F.Sh w b o → o % 5 = 0 → (∀ b o, o % 5 = 4 → ∀ v, w.cell? ⟨b, o, none⟩ = some v → w'.cell? ⟨b, o, none⟩ = some v) →
    (∀ b o, (w.cell? ⟨b, o, none⟩).isSome = true → w.frozen? ⟨b, o, none⟩ = false → (w'.cell? ⟨b, o, none⟩).isSome = true ∧ w'.frozen? ⟨b, o, none⟩ = false) → F.Sh w' b o := by
  intro F
  induction F with
  | nil => intros; trivial
  | cons k t m e a c kids next ih1 ih2 =>
    rintro w w' b o ⟨⟨h1, h2⟩, h3, h4, h5⟩ ho hA hB
    refine ⟨⟨fun q hq => hB _ _ (h1 q hq).1 (h1 q hq).2, hA _ _ (by omega) _ h2⟩, h3, ?_, ih2 h5 (by omega) hA hB⟩
    rcases h4 with h4 | ⟨b', e1, e2⟩
    · exact .inl h4
    · exact .inr ⟨b', e1, ih1 e2 rfl hA hB⟩
/-- what marks do -/
def Mk (B : Nat) (P : Nat → Prop) (w w' : World) : Prop := Below B w w' ∧ (∀ x, x < w.heap.size → ¬ P x → w'.heap[x]? = w.heap[x]?) ∧
  (∀ b o, o % 5 = 4 → ∀ v, w.cell? ⟨b, o, none⟩ = some v → w'.cell? ⟨b, o, none⟩ = some v) ∧ (∀ b o, (w.cell? ⟨b, o, none⟩).isSome = true → w.frozen? ⟨b, o, none⟩ = false → (w'.cell? ⟨b, o, none⟩).isSome = true ∧ w'.frozen? ⟨b, o, none⟩ = false)
theorem Mk.refl (B : Nat) (P : Nat → Prop) (w : World) : Mk B P w w := ⟨Below.refl _ _, fun _ _ _ => rfl, fun _ _ _ _ h => h, fun _ _ h1 h2 => ⟨h1, h2⟩⟩
theorem Mk.trans {B : Nat} {P : Nat → Prop} {a b c : World} (h : Mk B P a b) (k : Mk B P b c) : Mk B P a c :=
  ⟨h.1.trans k.1, fun x hx hp => (k.2.1 x (Nat.lt_of_lt_of_le hx h.1.size) hp).trans (h.2.1 x hx hp), fun b o ho v hv => k.2.2.1 b o ho v (h.2.2.1 b o ho v hv), fun b o h1 h2 => by obtain ⟨h3, h4⟩ := h.2.2.2 b o h1 h2; exact k.2.2.2 b o h3 h4⟩
theorem Mk.of_below {B : Nat} {P : Nat → Prop} {w w' : World} (h : Below w.heap.size w w') (hB : B ≤ w.heap.size) : Mk B P w w' := by
  have hl : ∀ b o, (w.cell? ⟨b, o, none⟩).isSome = true → b < w.heap.size := fun b o h1 => by
    obtain ⟨v, hv⟩ := Option.isSome_iff_exists.1 h1
    exact World.block_lt_of_cell? w _ hv
  refine ⟨h.mono hB, fun x hx _ => h.block x hx, fun b o _ v hv => (h.cell (p := ⟨b, o, none⟩) (World.block_lt_of_cell? w _ hv)).trans hv, fun b o h1 h2 => ?_⟩
  have := hl b o h1
  exact ⟨by rw [h.cell (p := ⟨b, o, none⟩) this]; exact h1, by rw [h.frozen (p := ⟨b, o, none⟩) this]; exact h2⟩
theorem Mk.set {B : Nat} {P : Nat → Prop} (w : World) {b o : Nat} (hP : P b) (hB : B ≤ b) (ho : ¬ o % 5 = 4) (v : Value) : Mk B P w (w.setCell ⟨b, o, none⟩ v) := by
  refine ⟨(Below.refl _ _).setCell (p := ⟨b, o, none⟩) hB v, fun x _ hx => Go.Deep.blk_setCell_other _ _ _ _ (fun e => hx (by rw [e]; exact hP)), fun b' o' ho' u hu => ?_, fun b' o' h1 h2 => ⟨?_, ?_⟩⟩
  · exact (World.cell?_setCell_other _ _ _ _ (fun e => by have := congrArg Addr.off e; simp at this; omega)).trans hu
  · by_cases e : (⟨b', o', none⟩ : Addr) = ⟨b, o, none⟩
    · rw [e] at h1 ⊢
      obtain ⟨u, hu⟩ := Option.isSome_iff_exists.1 h1
      rw [World.cell?_setCell_same (h := hu)]; rfl
    · rw [World.cell?_setCell_other _ _ _ _ (fun e2 => e e2.symm)]; exact h1
  · simpa using h2
theorem Mk.sh {B : Nat} {P : Nat → Prop} {w w' : World} (h : Mk B P w w') {F : Fo} {b o : Nat} (hF : F.Sh w b o) (ho : o % 5 = 0) : F.Sh w' b o := hF.agree ho h.2.2.1 h.2.2.2
end Go.Proofs.Ytbbbmmemfndnlaa
/- Contracts over trees: a tree that is owned is marked, node after node. -/
namespace Go.Proofs.Ytbbbmmemfndnlaa
open Go.RowKit
attribute [local go_sem] cell_alloc_is frozen_alloc_is
theorem Fo.Sh.cells {w : World} {k : Int} {t : ByteArray} {m e : Int} {a : Option Addr} {c b o : Nat} {kids next : Fo} (h : (Fo.cons k t m e a c kids next).Sh w b o) :
    ((∃ v, w.cell? ⟨b, o, none⟩ = some v) ∧ (∃ v, w.cell? ⟨b, o + 1, none⟩ = some v) ∧ (∃ v, w.cell? ⟨b, o + 2, none⟩ = some v) ∧ (∃ v, w.cell? ⟨b, o + 3, none⟩ = some v) ∧ w.cell? ⟨b, o + 4, none⟩ = some (.slice a kids.len c)) ∧ (w.frozen? ⟨b, o, none⟩ = false ∧ w.frozen? ⟨b, o + 1, none⟩ = false ∧ w.frozen? ⟨b, o + 2, none⟩ = false ∧ w.frozen? ⟨b, o + 3, none⟩ = false) ∧ (kids.len ≤ c ∧ c ≤ maxLen) ∧ (kids = .nil ∨ ∃ b', a = some ⟨b', 0, none⟩ ∧ kids.Sh w b' 0) ∧ next.Sh w b (o + 5) := by
  obtain ⟨⟨h1, h2⟩, h3, h4, h5⟩ := h
  exact ⟨⟨Option.isSome_iff_exists.1 (h1 0 (by omega)).1, Option.isSome_iff_exists.1 (h1 1 (by omega)).1, Option.isSome_iff_exists.1 (h1 2 (by omega)).1, Option.isSome_iff_exists.1 (h1 3 (by omega)).1, h2⟩, ⟨(h1 0 (by omega)).2, (h1 1 (by omega)).2, (h1 2 (by omega)).2, (h1 3 (by omega)).2⟩, h3, h4, h5⟩
set_option maxHeartbeats 1000000 in
theorem markNodeS_all (N : Nat) : ∀ (B : Nat) (P : Nat → Prop) (a : Option Addr) (c k : Nat) (F : Fo) (w : World), F.size < N → (F = .nil ∨ ∃ b, a = some ⟨b, 0, none⟩ ∧ P b ∧ F.Sh w b 0) → F.BlkZ P → (∀ x, P x → B ≤ x) → B ≤ w.heap.size → F.len ≤ c → c ≤ maxLen → k + 4 * F.size ≤ 100000000 →
    Calls Try.prog 32 #[.slice a F.len c, .int .i64 (k : Nat)] w fun r w' => r = .returned (.int .i64 ((k + 4 * F.size : Nat) : Int)) ∧ Mk B P w w' := by
  induction N with
  | zero => intro B P a c k F w hF; omega
  | succ N ih =>
    intro B P a c k F w hF hin hz hP hB hl hc hk
    have hll := F.len_le
    unfold maxLen at hc
    go_enter Try.func32, Try.ntmps32
    go_wp2_with fail
    go_loopw [1, 5] (fun kk i wr => ∃ (j s K : Nat) (G : Fo), kk = .int .i64 (K : Nat) ∧ i = .int .i64 j ∧ K = k + 4 * s ∧ s + G.size = F.size ∧ j + G.len = F.len ∧ (G = .nil ∨ ∃ b, a = some ⟨b, 0, none⟩ ∧ P b ∧ G.Sh wr b (j * 5)) ∧ G.BlkZ P ∧ Mk B P w wr) (fun _ i _ => F.len - (intOf i).toNat)
    case atStart =>
      refine ⟨0, 0, k, F, rfl, rfl, by omega, by omega, by omega, ?_, hz, Mk.refl _ _ _⟩
      rcases hin with h | ⟨b, e1, e2, e3⟩
      · exact .inl h
      · exact .inr ⟨b, e1, e2, by simpa using e3⟩
    case round =>
      obtain ⟨j, s, K, G, rfl, rfl, hK, hs, hj, hG, hGz, hM⟩ := hrel
      have HM : Hid (Mk B P w wr) := hM
      clear hM
      cases G with
      | nil =>
        have hj' : j = F.len := by simpa [Fo.len] using hj
        have hs' : K = k + 4 * F.size := by have : s + 0 = F.size := hs; omega
        clear hj hs hG ih hK hz hin hGz
        subst hj'
        go_wp2_with fail
        go_ret
        exact ⟨by rw [hs']; rfl, HM.out⟩
      | cons k' t' m' e' a' c' kids next =>
        rcases hG with hG | ⟨b, rfl, hPb, hSh⟩
        · cases hG
        · have hss : s + (kids.size + 1 + next.size) = F.size := hs
          have hln : j + (next.len + 1) = F.len := hj
          have hlt : (j : Int) < (F.len : Int) := by omega
          obtain ⟨z1, z2, z3⟩ := hGz
          have HZ : Hid ((kids = .nil ∨ ∃ b' o', a' = some ⟨b', o', none⟩ ∧ (P b' ∧ o' = 0)) ∧ kids.BlkZ P ∧ next.BlkZ P) := ⟨z1, z2, z3⟩
          have HS : Hid ((Fo.cons k' t' m' e' a' c' kids next).Sh wr b (j * 5)) := hSh
          have HI : Hid (∀ (a : Option Addr) (c k : Nat) (F : Fo) (w : World), F.size < N → (F = .nil ∨ ∃ b, a = some ⟨b, 0, none⟩ ∧ P b ∧ F.Sh w b 0) → F.BlkZ P → B ≤ w.heap.size → F.len ≤ c → c ≤ maxLen → k + 4 * F.size ≤ 100000000 →
              Calls Try.prog 32 #[.slice a F.len c, .int .i64 (k : Nat)] w fun r w' => r = .returned (.int .i64 ((k + 4 * F.size : Nat) : Int)) ∧ Mk B P w w') := fun a c k F w h1 h2 h3 h4 h5 h6 h7 => ih B P a c k F w h1 h2 h3 hP h4 h5 h6 h7
          have hBb := hP b hPb
          have hKb : K + 4 * kids.size + 4 ≤ 100000000 := by omega
          have HK : Hid (K + 4 * kids.size + 4 = k + 4 * (s + kids.size + 1)) := by unfold Hid; omega
          have HSs : Hid (s + kids.size + 1 + next.size = F.size) := by unfold Hid; omega
          have hkn : kids.size < N := by omega
          have HP : Hid (P b) := hPb
          have hB1 : B ≤ wr.heap.size := Nat.le_trans hB HM.out.1.size
          obtain ⟨⟨⟨v0, c0⟩, -, -, -, -⟩, ⟨g0, -, -, -⟩, -, -, -⟩ := hSh.cells
          clear hK hss hs hj z1 z2 z3 hSh ih hin hz hP hPb
          go_wp2_with fail
          have M1 : Mk B P wr (wr.setCell ⟨b, j * 5, none⟩ (.int .i64 (K : Nat))) := Mk.set wr HP.out hBb (by omega) _
          generalize wr.setCell ⟨b, j * 5, none⟩ (.int .i64 (K : Nat)) = w1 at *
          have hB2 : B ≤ w1.heap.size := Nat.le_trans hB1 M1.1.size
          rw [show (K : Int) + 1 = ((K + 1 : Nat) : Int) by omega]
          refine (markText_any (K + 1) w1 (by omega)).mono ?_
          rintro r w2 ⟨rfl, hb2⟩
          have M2 : Mk B P wr w2 := M1.trans (Mk.of_below hb2 hB2)
          have HS2 : Hid ((Fo.cons k' t' m' e' a' c' kids next).Sh w2 b (j * 5)) := M2.sh HS.out (by omega)
          have HM2 : Hid (Mk B P w w2) := HM.out.trans M2
          have hB3 : B ≤ w2.heap.size := Nat.le_trans hB1 M2.1.size
          obtain ⟨⟨-, ⟨v1, c1⟩, ⟨v2, c2⟩, ⟨v3, c3⟩, c4⟩, ⟨-, g1, g2, g3⟩, -, -, -⟩ := HS2.out.cells
          have hmt := mtext_size (K + 1)
          generalize mtext (K + 1) = mt at *
          clear M1 M2 HM HS c0 g0 v0 hb2 hB2
          go_wp2_with fail
          have M3 : Mk B P w2 (((w2.setCell ⟨b, j * 5 + 1, none⟩ (.string mt)).setCell ⟨b, j * 5 + 2, none⟩ (.int .i64 ((K : Int) + 1 + 1))).setCell ⟨b, j * 5 + 2 + 1, none⟩ (.int .i64 ((K : Int) + 1 + 1 + 1))) :=
            ((Mk.set w2 HP.out hBb (by omega) _).trans (Mk.set _ HP.out hBb (by omega) _)).trans (Mk.set _ HP.out hBb (by omega) _)
          generalize ((w2.setCell ⟨b, j * 5 + 1, none⟩ (.string mt)).setCell ⟨b, j * 5 + 2, none⟩ (.int .i64 ((K : Int) + 1 + 1))).setCell ⟨b, j * 5 + 2 + 1, none⟩ (.int .i64 ((K : Int) + 1 + 1 + 1)) = w3 at *
          have HS3 : Hid ((Fo.cons k' t' m' e' a' c' kids next).Sh w3 b (j * 5)) := M3.sh HS2.out (by omega)
          have HM3 : Hid (Mk B P w w3) := HM2.out.trans M3
          have hB4 : B ≤ w3.heap.size := Nat.le_trans hB3 M3.1.size
          rw [show (K : Int) + 1 + 1 + 1 + 1 = ((K + 4 : Nat) : Int) by omega]
          have hcall := HI.out a' c' (K + 4) kids w3 hkn (by
            obtain ⟨-, -, -, hk, -⟩ := HS3.out.cells
            rcases hk with hk | ⟨b', e1, e2⟩
            · exact .inl hk
            · rcases HZ.out.1 with h | ⟨b'', o', e3, e4, rfl⟩
              · exact .inl h
              · rw [e1] at e3
                cases e3
                exact .inr ⟨b', e1, e4, e2⟩) HZ.out.2.1 hB4 HS3.out.cells.2.2.1.1 HS3.out.cells.2.2.1.2 (by omega)
          clear M3 HS2 HM2 c1 c2 c3 c4 g1 g2 g3 v1 v2 v3 hB3
          refine hcall.mono ?_
          rintro r w4 ⟨rfl, M4⟩
          have HS4 : Hid ((Fo.cons k' t' m' e' a' c' kids next).Sh w4 b (j * 5)) := M4.sh HS3.out (by omega)
          have HM4 : Hid (Mk B P w w4) := HM3.out.trans M4
          clear M4 hcall HS3 HM3 hB4
          go_wp2_with fail
          go_round
          case rel =>
            refine ⟨j + 1, s + kids.size + 1, K + 4 + 4 * kids.size, next, by go_num, by go_num, by have := HK.out; omega, HSs.out, by omega, .inr ⟨b, rfl, HP.out, ?_⟩, HZ.out.2.2, HM4.out⟩
            rw [show (j + 1) * 5 = j * 5 + 5 by omega]
            exact HS4.out.cells.2.2.2.2
          case measure => simp [intOf]; omega
set_option maxHeartbeats 400000 in
theorem markNode_any (k' : Int) (t' : ByteArray) (m' e' : Int) (B : Nat) (P : Nat → Prop) (a : Option Addr) (c k : Nat) (F : Fo) (w : World) (hin : F = .nil ∨ ∃ b, a = some ⟨b, 0, none⟩ ∧ P b ∧ F.Sh w b 0) (hz : F.BlkZ P) (hP : ∀ x, P x → B ≤ x) (hB : B ≤ w.heap.size) (hl : F.len ≤ c) (hc : c ≤ maxLen) (hk : k + 4 * F.size ≤ 100000000) :
    Calls Try.prog 13 #[nodeV k' t' m' e' a F.len c, .int .i64 (k : Nat)] w fun r w' => r = .returned (.int .i64 ((k + 4 * F.size : Nat) : Int)) ∧ Mk B P w w' := by
  go_enter Try.func13, Try.ntmps13
  go_wp2_with fail
  have M0 : Mk B P w (w.alloc (.cells #[.int .i64 k', .string t', .int .i64 m', .int .i64 e', .slice a F.len c] 33)) := Mk.of_below ((Below.refl _ _).alloc (Nat.le_refl _) _) hB
  refine (markNodeS_all (F.size + 1) B P a c k F _ (Nat.lt_succ_self _) ?_ hz hP (Nat.le_trans hB M0.1.size) hl hc hk).mono ?_
  · rcases hin with h | ⟨b, e1, e2, e3⟩
    · exact .inl h
    · exact .inr ⟨b, e1, e2, M0.sh e3 rfl⟩
  · rintro r w1 ⟨rfl, M1⟩
    have HM : Hid (Mk B P w w1) := M0.trans M1
    clear M1 M0 hin
    go_wp2_with fail
    go_ret
    exact ⟨rfl, HM.out⟩
end Go.Proofs.Ytbbbmmemfndnlaa
/- Marks: a list of texts that holds its marks. -/
namespace Go.Proofs.Ytbbbmmemfndnlaa
open Go.RowKit
attribute [local go_sem] cell_alloc_is frozen_alloc_is
set_option maxRecDepth 100000 in
set_option maxHeartbeats 2000000 in
theorem hs4 {Q : Exit → Act → World → Prop} {t2 t3 t4 t6 t7 t8 t9 t10 t11 t12 t13 t14 t15 t16 t17 t18 t19 t20 t21 : Value} {W : World} {b o n c k j : Nat}
    (hc : W.cell? ⟨b, o + j, none⟩ = some (.string (mtext k))) (hj : j < n) (hk : k ≤ 1000000000000000)
    (hp : ∀ p d v a w, Q (.panic p) (Act.put a d v) w → Q (.panic p) a w) (h : ∀ ws v12 v13 v14 v15 v16 v17, Below W.heap.size W ws → Q .normal { tmps := (.slice (some ⟨b, o, none⟩) n c :: .int .i64 (k : Nat) :: t2 :: t3 :: t4 :: .int .i64 (j : Nat) :: t6 :: t7 :: t8 :: t9 :: t10 :: t11 :: v12 :: v13 :: v14 :: v15 :: v16 :: v17 :: .bool false :: t19 :: t20 :: t21 :: []).toArray, defers := [] } ws) :
    Code.wp Try.prog (Code.region 4 #[{ dst := some 12, op := Op.move (Operand.tmp 0), type := 28, pos := "exact.go:302", after := #[], guard := none }, { dst := some 13, op := Op.move (Operand.tmp 5), type := 3, pos := "exact.go:302", after := #[], guard := none }, { dst := some 14, op := Op.indexAddr 28 (Operand.tmp 12) (Operand.tmp 13), type := 0, pos := "exact.go:302", after := #[{ on := 0, ground := Ground.data }, { on := 1, ground := Ground.data }], guard := none }, { dst := some 15, op := Op.load 9 (Operand.tmp 14), type := 9, pos := "exact.go:302", after := #[{ on := 2, ground := Ground.data }], guard := none }, { dst := some 16, op := Op.move (Operand.tmp 1), type := 3, pos := "exact.go:302", after := #[], guard := none }, { dst := some 17, op := Op.call { callee := Callee.value (Operand.func 33), args := #[Operand.tmp 16], argTypes := #[3] }, type := 9, pos := "exact.go:302", after := #[{ on := 4, ground := Ground.data }], guard := none }, { dst := some 18, op := Op.binOp BinOp.neq 9 (Operand.tmp 15) (Operand.tmp 17) 9, type := 4, pos := "exact.go:302", after := #[{ on := 3, ground := Ground.data }, { on := 5, ground := Ground.data }], guard := none }] true) Q { tmps := (.slice (some ⟨b, o, none⟩) n c :: .int .i64 (k : Nat) :: t2 :: t3 :: t4 :: .int .i64 (j : Nat) :: t6 :: t7 :: t8 :: t9 :: t10 :: t11 :: t12 :: t13 :: t14 :: t15 :: t16 :: t17 :: t18 :: t19 :: t20 :: t21 :: []).toArray, defers := [] } W := by
  have hvl := World.block_lt_of_cell? W _ hc
  have HS : Hid (∀ w', Below W.heap.size W w' → w'.cell? ⟨b, o + j, none⟩ = some (.string (mtext k))) := fun w' h => (h.cell (p := ⟨b, o + j, none⟩) hvl).trans hc
  have hB0 := (Below.refl W.heap.size W).drew
  have hS0 := HS.out _ hB0
  have hlt : (j : Int) < (n : Int) := by omega
  have HM := markText_any k W.drew hk
  clear hc
  generalize mtext k = mt at *
  refine wp_region_held_drew (S := fun w' => w'.cell? ⟨b, o + j, none⟩ = some (.string mt)) (by kernel_rfl) hS0 (fun hHeld => ?_)
  generalize W.drew = Wd at *
  refine wpAnyH_take (i := 0) (v := .slice (some ⟨b, o, none⟩) n c) rfl (by kernel_rfl) (by kernel_rfl) (by kernel_rfl) (fun _ _ _ h => hp _ _ _ _ _ h) (Or.inl ⟨by rfl, ?_⟩) (by assumption) ?_
  · intro w hSw
    (try dsimp only at hSw)
    go_simp
  (try simp only [Act.put, List.getElem_toArray, List.getElem_cons_zero, List.setIfInBounds_toArray, List.set_cons_zero, List.set_cons_succ])
  refine wpAnyH_take (i := 1) (v := .int .i64 (j : Nat)) rfl (by kernel_rfl) (by kernel_rfl) (by kernel_rfl) (fun _ _ _ h => hp _ _ _ _ _ h) (Or.inl ⟨by rfl, ?_⟩) (by assumption) ?_
  · intro w hSw
    (try dsimp only at hSw)
    go_simp
  (try simp only [Act.put, List.getElem_toArray, List.getElem_cons_zero, List.getElem_cons_succ, List.setIfInBounds_toArray, List.set_cons_zero, List.set_cons_succ])
  refine wpAnyH_take (i := 2) (v := .pointer (some ⟨b, o + j, none⟩)) rfl (by kernel_rfl) (by kernel_rfl) (by kernel_rfl) (fun _ _ _ h => hp _ _ _ _ _ h) (Or.inl ⟨by rfl, ?_⟩) (by assumption) ?_
  · intro w hSw
    (try dsimp only at hSw)
    go_simp
  (try simp only [Act.put, List.getElem_toArray, List.getElem_cons_zero, List.getElem_cons_succ, List.setIfInBounds_toArray, List.set_cons_zero, List.set_cons_succ])
  refine wpAnyH_take (i := 3) (v := .string mt) rfl (by kernel_rfl) (by kernel_rfl) (by kernel_rfl) (fun _ _ _ h => hp _ _ _ _ _ h) (Or.inl ⟨by rfl, ?_⟩) (by assumption) ?_
  · intro w hSw
    (try dsimp only at hSw)
    go_simp
  (try simp only [Act.put, List.getElem_toArray, List.getElem_cons_zero, List.getElem_cons_succ, List.setIfInBounds_toArray, List.set_cons_zero, List.set_cons_succ])
  refine wpAnyH_take (i := 4) (v := .int .i64 (k : Nat)) rfl (by kernel_rfl) (by kernel_rfl) (by kernel_rfl) (fun _ _ _ h => hp _ _ _ _ _ h) (Or.inl ⟨by rfl, ?_⟩) (by assumption) ?_
  · intro w hSw
    (try dsimp only at hSw)
    go_simp
  (try simp only [Act.put, List.getElem_toArray, List.getElem_cons_zero, List.getElem_cons_succ, List.setIfInBounds_toArray, List.set_cons_zero, List.set_cons_succ])
  clear hS0 hHeld
  refine wpAnyH_ready (rs := [5]) (by kernel_rfl) (by simp) ?_
  refine AllReadyH.cons rfl (fun K hK => ?_) AllReadyH.nil
  go_simp
  refine HM.mono ?_
  rintro r w1 ⟨rfl, hb1⟩
  have hB1 := hB0.trans (hb1.mono hB0.size)
  go_wp2_with fail
  refine hK.out _ _ (HS.out _ hB1) (fun hHeld => ?_)
  clear hK K
  refine wpAnyH_take (i := 6) (v := .bool false) rfl (by kernel_rfl) (by kernel_rfl) (by kernel_rfl) (fun _ _ _ h => hp _ _ _ _ _ h) (Or.inl ⟨by rfl, ?_⟩) (by assumption) ?_
  · intro w hSw
    (try dsimp only at hSw)
    (go_simp <;> simp)
  (try simp only [Act.put, List.getElem_toArray, List.getElem_cons_zero, List.getElem_cons_succ, List.setIfInBounds_toArray, List.set_cons_zero, List.set_cons_succ])
  refine wpAnyH_done (by kernel_rfl) ?_ _
  exact h _ _ _ _ _ _ _ hB1
set_option maxRecDepth 100000 in
set_option maxHeartbeats 1000000 in
theorem heldStringS_any (n : Nat) (a : Option Addr) (c k : Nat) (w : World) (hs : SIn w (marks k n) a) (hc : n ≤ c ∧ c ≤ maxLen) (hn : n ≤ 1100000) (hk : k ≤ 100000000) :
    Calls Try.prog 15 #[.slice a n c, .int .i64 (k : Nat)] w fun r w' => r = .returned (.int .i64 ((k + n : Nat) : Int)) ∧ Below w.heap.size w w' := by
  have hcm : c ≤ 2 ^ 63 - 1 := hc.2
  have HS : Hid (∀ j, j < n → ∃ b o, a = some ⟨b, o, none⟩ ∧ w.cell? ⟨b, o + j, none⟩ = some (.string (mtext (k + j)))) := fun j hj => by
    rcases hs with h0 | ⟨b, o, e, hs⟩
    · have := congrArg List.length h0
      rw [marks_len] at this
      simp at this
      omega
    · exact ⟨b, o, e, (hs.at (marks_at n k j hj)).1⟩
  clear hs
  go_enter Try.func15, Try.ntmps15
  go_wp2_with fail
  go_loopw [1, 5] (fun kk i wr => ∃ (j : Nat), kk = .int .i64 ((k + j : Nat) : Int) ∧ i = .int .i64 j ∧ j ≤ n ∧ Below w.heap.size w wr) (fun _ i _ => n - (intOf i).toNat)
  case atStart => exact ⟨0, by simp, rfl, Nat.zero_le _, Below.refl _ _⟩
  case round =>
    obtain ⟨j, rfl, rfl, hj, hb⟩ := hrel
    by_cases hlt : j < n
    · have hlt' : (j : Int) < (n : Int) := by omega
      obtain ⟨b, o, rfl, hcell⟩ := HS.out j hlt
      have hcell2 : wr.cell? ⟨b, o + j, none⟩ = some (.string (mtext (k + j))) := (hb.cell (p := ⟨b, o + j, none⟩) (World.block_lt_of_cell? w _ hcell)).trans hcell
      clear hcell
      go_wp2_with fail
      refine hs4 (k := k + j) hcell2 hlt (by omega) (fun _ d _ _ _ h => by cases d <;> exact h) ?_
      intro ws v12 v13 v14 v15 v16 v17 hb1
      have hb2 := hb.trans (hb1.mono hb.size)
      clear hcell2 hb hb1
      go_wp2_with fail
      go_round
      case rel => exact ⟨j + 1, by go_num, by go_num, by omega, hb2⟩
      case measure => simp [intOf]; omega
    · have hje : j = n := by omega
      have hlt' : ¬ (j : Int) < (n : Int) := by omega
      subst hje
      go_wp2_with fail
      go_ret
      exact ⟨rfl, hb⟩
end Go.Proofs.Ytbbbmmemfndnlaa
/- All papers that a tree takes in, by the specification: l6Imports, Imports. -/
namespace Go.Proofs.Ytbbbmmemfndnlaa
open Go.RowKit
attribute [local go_sem] cell_alloc_is frozen_alloc_is
end Go.Proofs.Ytbbbmmemfndnlaa
/- Contracts over trees: the names that a tree binds in what stands below it. -/
namespace Go.Proofs.Ytbbbmmemfndnlaa
open Go.RowKit
attribute [local go_sem] cell_alloc_is frozen_alloc_is
/-- the texts of a list of trees -/
def Fo.txts : Fo → List ByteArray
  | .nil => []
  | .cons _ t _ _ _ _ _ next => t :: next.txts
theorem Fo.txts_len (F : Fo) : F.txts.length = F.len := by
  induction F with
  | nil => rfl
  | cons k t m e a c kids next ih1 ih2 => show next.txts.length + 1 = next.len + 1; rw [ih2]
/-- what a tree binds in its tree below at a place -/
def bnd (k : Int) (t : ByteArray) (F : Fo) (i : Nat) : List ByteArray :=
  if k = 15 ∨ (k = 21 ∧ i = 1) then [t] else if k = 16 then F.txts.take (F.len - 1) else []
theorem texts_snoc (L : List ByteArray) (s : ByteArray) : texts (L ++ [s]) = texts L ++ [Value.string s] := by
  unfold texts; simp
theorem txts_at : ∀ {F : Fo} {j : Nat} {k : Int} {t : ByteArray} {m e : Int} {a : Option Addr} {c : Nat} {kids next : Fo}, F.drop j = .cons k t m e a c kids next → F.txts[j]? = some t := by
  intro F
  induction F with
  | nil => intro j k t m e a c kids next h; cases j <;> cases h
  | cons k0 t0 m0 e0 a0 c0 kids0 next0 _ ih =>
    intro j k t m e a c kids next h
    cases j with
    | zero => cases h; rfl
    | succ j => exact ih h
set_option maxRecDepth 100000 in
set_option maxHeartbeats 1000000 in
theorem l6Bound_any (k : Int) (t : ByteArray) (m e : Int) (a : Option Addr) (c i : Nat) (F : Fo) (w : World) (hin : F.In w a) (hl : F.len ≤ c) (hc : c ≤ maxLen) (ht : t.size ≤ maxLen) (hts : ∀ s ∈ F.txts, s.size ≤ maxLen) (hF : F.size ≤ 1060000) (hib : i ≤ 1060000) :
    Calls Try.prog 53 #[nodeV k t m e a F.len c, .int .i64 (i : Nat)] w fun r w' => (∃ a' c', r = .returned (.slice a' (bnd k t F i).length c') ∧ SIn w' (bnd k t F i) a' ∧ ((bnd k t F i).length ≤ c' ∧ c' ≤ maxLen)) ∧ Below w.heap.size w w' := by
  obtain ⟨i0, hi, hz0, hz1, hz2⟩ := info_parts textInfo
  have hb0 : Below w.heap.size w (w.alloc (.cells #[.int .i64 k, .string t, .int .i64 m, .int .i64 e, .slice a F.len c] 33)) := (Below.refl _ _).alloc (Nat.le_refl _) _
  have f0 := Five.new w (.int .i64 k) (.string t) (.int .i64 m) (.int .i64 e) (.slice a F.len c) 33
  have hb1 := hb0.alloc hb0.size (.cells #[] 9)
  have f1 := f0.below ((Below.refl _ _).alloc (Nat.le_refl _) (.cells #[] 9)) f0.lt
  have own0 := own_nothing (w.alloc (.cells #[.int .i64 k, .string t, .int .i64 m, .int .i64 e, .slice a F.len c] 33)) (w.heap.size + 1) 1 9 (by simp)
  have hll := F.len_le
  unfold maxLen at hc
  have HI : Hid (F.In w a) := hin
  clear hin
  have hone := cell_one_new ((w.alloc (.cells #[.int .i64 k, .string t, .int .i64 m, .int .i64 e, .slice a F.len c] 33)).alloc (.cells #[] 9)) (.string t) 9
  simp only [World.size_alloc] at own0 hone
  have HF : ∀ (L : List ByteArray) (v : Value) (W : World), (∀ s ∈ L, s.size ≤ maxLen) → W.ownsRow (w.heap.size + 1) 9 1 v L.length (texts L) → ∃ a' c', v = .slice a' L.length c' ∧ SIn W L a' ∧ (L.length ≤ c' ∧ c' ≤ maxLen) := fun L v W hs ho => by
    obtain ⟨a', c', e1, e2, e3, -⟩ := own_lies ho
    exact ⟨a', c', e1, e2.sin hs, e3⟩
  have hbw : Below (w.heap.size + 1) (w.alloc (.cells #[.int .i64 k, .string t, .int .i64 m, .int .i64 e, .slice a F.len c] 33)) ((w.alloc (.cells #[.int .i64 k, .string t, .int .i64 m, .int .i64 e, .slice a F.len c] 33)).alloc (.cells #[] 9)) := (Below.refl _ _).alloc (by simp) _
  clear f1
  by_cases hA : k = 15 ∨ (k = 21 ∧ i = 1)
  · have HE : Hid (bnd k t F i = [t]) := if_pos hA
    have hib2 : k = 21 → (i : Int) = 1 := fun h => by omega
    have hsh : w.heap.size + 1 ≤ ((w.alloc (.cells #[.int .i64 k, .string t, .int .i64 m, .int .i64 e, .slice a F.len c] 33)).alloc (.cells #[] 9)).heap.size := by simp
    rcases hA with rfl | ⟨rfl, rfl⟩
    all_goals
      go_enter Try.func53, Try.ntmps53
      go_wp2_with (at_builtin; refine wpList_append_own _ rfl _ _ 28 rfl (w.heap.size + 1) 9 i0 (.string ⟨#[]⟩) 1 16 Try.underlying28 hi hz0 hz1 hz2 rfl (by decide) _ _ _ rfl (own0.alloc _) ⟨w.heap.size + 1 + 1, 0, none⟩ 1 1 [.string t] rfl rfl hone (fun x hx => by simp at hx; subst hx; rfl) (by unfold maxLen; omega) (by omega) (by simp <;> omega) ?_; intro v' w3 hown3 hgrow3 hnil3)
      have hB3 := hb0.trans ((below_grown (hbw.alloc (by simp) (.cells #[.string t] 9)) (own0.alloc _) hgrow3 (by simp)).mono (by omega))
      have HR := HF [t] v' w3 (fun s hs => by simp at hs; subst hs; exact ht) hown3
      clear hgrow3 hnil3 hown3
      go_ret
      rw [HE.out]
      obtain ⟨a', c', rfl, h2, h3⟩ := HR
      exact ⟨⟨a', c', rfl, h2, h3⟩, hB3⟩
  · by_cases h16 : k = 16
    · subst h16
      have HE : Hid (bnd 16 t F i = F.txts.take (F.len - 1)) := by unfold Hid bnd; rw [if_neg hA, if_pos rfl]
      have HT : Hid (∀ s ∈ F.txts, s.size ≤ maxLen) := hts
      clear hA hone
      go_enter Try.func53, Try.ntmps53
      go_wp2_with fail
      go_loopw [5, 6] (fun v i wr => ∃ (j : Nat) (G : Fo), i = .int .i64 j ∧ F.drop j = G ∧ j + G.len = F.len ∧ (j = 0 ∨ j + 1 ≤ F.len) ∧ (G = .nil ∨ ∃ b o', a = some ⟨b, o', none⟩ ∧ G.From w b (o' + j * 5)) ∧ wr.ownsRow (w.heap.size + 1) 9 1 v j (texts (F.txts.take j)) ∧ Below (w.heap.size + 1) (w.alloc (.cells #[.int .i64 16, .string t, .int .i64 m, .int .i64 e, .slice a F.len c] 33)) wr) (fun _ i _ => F.len - (intOf i).toNat)
      case atStart =>
        refine ⟨0, F, rfl, by cases F <;> rfl, by omega, .inl rfl, ?_, own0, hbw⟩
        rcases HI.out with h | ⟨b, o', e1, e2⟩
        · exact .inl h
        · exact .inr ⟨b, o', e1, by simpa using e2⟩
      case round =>
        obtain ⟨j, G, rfl, hd, hj, hj1, hG, hown, hbw3⟩ := hrel
        have hb := hb0.trans (hbw3.mono (by omega))
        have hzz : w.heap.size + 1 ≤ wr.heap.size := by have := hbw3.size; simp at this; omega
        have hf := f0.below hbw3 (Nat.lt_succ_self _)
        obtain ⟨⟨x0, x1, x2, x3, x4⟩, _⟩ := id hf
        by_cases hlt : j + 1 < F.len
        · have hlt' : (j : Int) + 1 < (F.len : Int) := by omega
          cases G with
          | nil => simp [Fo.len] at hj; omega
          | cons k' t' m' e' a' c' kids next =>
            rcases hG with hG | ⟨b, o', rfl, hfrom⟩
            · cases hG
            · obtain ⟨⟨h1, h2, h3, h4, h5⟩, hk, hc1, hc2, ht', hn⟩ := Fo.from_grow hb _ _ _ hfrom
              have hnw : next.From w b (o' + j * 5 + 5) := hfrom.2.2.2.2.2
              have hln : j + (next.len + 1) = F.len := hj
              have hjl : j < F.len := by omega
              have hone := cell_one_new wr (.string t') 9
              have HD : Hid (F.drop j = .cons k' t' m' e' a' c' kids next ∧ next.From w b (o' + j * 5 + 5)) := ⟨hd, hnw⟩
              have HX : Hid (j = 0 ∨ j + 1 ≤ F.len) := hj1
              clear hj hd hfrom hn hk hj1 h1 h3 h4 h5 hnw
              go_wp2_with (at_builtin; refine wpList_append_own _ rfl _ _ 28 rfl (w.heap.size + 1) 9 i0 (.string ⟨#[]⟩) 1 16 Try.underlying28 hi hz0 hz1 hz2 rfl (by decide) _ _ _ rfl (hown.alloc _) ⟨wr.heap.size, 0, none⟩ 1 1 [.string t'] rfl rfl hone (fun x hx => by simp at hx; subst hx; rfl) (by unfold maxLen; omega) (by omega) (by simp <;> omega) ?_; intro v' w3 hown3 hgrow3 hnil3)
              have hB3 := below_grown (hbw3.alloc hzz (.cells #[.string t'] 9)) (hown.alloc _) hgrow3 (by simp <;> omega)
              clear hgrow3 hnil3 hbw3 hb hf x0 x1 x2 x3 x4 h2 hone
              refine ⟨⟨j + 1, next, by go_num, Fo.drop_next HD.out.1, by omega, .inr (by omega), .inr ⟨b, o', rfl, ?_⟩, ?_, hB3⟩, ?_⟩
              · rw [show o' + (j + 1) * 5 = o' + j * 5 + 5 by omega]; exact HD.out.2
              · have ha := txts_at HD.out.1
                rw [List.take_add_one, ha, Option.toList_some, texts_snoc]
                exact hown3
              · simp [intOf]; omega
        · have hlt' : ¬ (j : Int) + 1 < (F.len : Int) := by omega
          have hjj : j = F.len - 1 := by omega
          have HR := HF (F.txts.take j) _ wr (fun s hs => HT.out s (List.mem_of_mem_take hs)) (by rw [List.length_take, Fo.txts_len, Nat.min_eq_left (by omega)]; exact hown)
          obtain ⟨a', c', rfl, h2, h3⟩ := HR
          have HZ : Hid (SIn wr (F.txts.take (F.len - 1)) a' ∧ ((F.txts.take (F.len - 1)).length ≤ c' ∧ c' ≤ maxLen)) := by rw [hjj] at h2 h3; exact ⟨h2, h3⟩
          clear h2 h3 hown hG hd hj hj1
          rw [hjj]
          clear hjj
          go_wp2_with fail
          go_ret
          rw [HE.out]
          exact ⟨⟨a', c', by rw [List.length_take]; rfl, HZ.out⟩, hb⟩
    · have HE : Hid (bnd k t F i = []) := by unfold Hid bnd; rw [if_neg hA, if_neg h16]
      have h15 : ¬ k = 15 := fun h => hA (.inl h)
      have h21 : ¬ k = 21 ∨ ¬ (i : Int) = 1 := by
        by_cases h : k = 21
        · exact .inr fun h2 => hA (.inr ⟨h, by omega⟩)
        · exact .inl h
      have HR := HF [] _ _ (fun s hs => by cases hs) own0
      clear hA hone HF HI hbw f0 hb0
      rcases h21 with h21 | h21
      · go_enter Try.func53, Try.ntmps53
        go_wp2_with fail
        go_ret
        rw [HE.out]
        obtain ⟨a', c', e1, h2, h3⟩ := HR
        exact ⟨⟨a', c', by rw [← e1]; rfl, h2, h3⟩, hb1⟩
      · by_cases h : k = 21
        · subst h
          go_enter Try.func53, Try.ntmps53
          go_wp2_with fail
          go_ret
          rw [HE.out]
          obtain ⟨a', c', e1, h2, h3⟩ := HR
          exact ⟨⟨a', c', by rw [← e1]; rfl, h2, h3⟩, hb1⟩
        · go_enter Try.func53, Try.ntmps53
          go_wp2_with fail
          go_ret
          rw [HE.out]
          obtain ⟨a', c', e1, h2, h3⟩ := HR
          exact ⟨⟨a', c', by rw [← e1]; rfl, h2, h3⟩, hb1⟩
end Go.Proofs.Ytbbbmmemfndnlaa
/- Names from outside, by the specification: plain mathematics, and where what is bound begins. -/
namespace Go.Proofs.Ytbbbmmemfndnlaa
open Go.RowKit
attribute [local go_sem] cell_alloc_is frozen_alloc_is
/-- the first place below a tree that is an expression -/
def fromP (k : Int) (F : Fo) : Nat := if k = 16 then F.len - 1 else 0
/-- the names from outside of a list of trees below (pk, pt, pF), from its place i on, put among others -/
def Fo.frs : Fo → Int → ByteArray → Fo → List ByteArray → Nat → List ByteArray → List ByteArray
  | .nil, _, _, _, _, _, ns => ns
  | .cons k t _ _ _ _ kids next, pk, pt, pF, bound, i, ns =>
    next.frs pk pt pF bound (i + 1) (if i < fromP pk pF then ns else if k = 6 ∧ hasT t (bound ++ bnd pk pt pF i) = false then put1 t ns else kids.frs k t kids (bound ++ bnd pk pt pF i) 0 ns)
/-- the same of one tree -/
def frs1 (k : Int) (t : ByteArray) (F : Fo) (bound ns : List ByteArray) : List ByteArray := if k = 6 ∧ hasT t bound = false then put1 t ns else F.frs k t F bound 0 ns
theorem frs_len (F : Fo) : ∀ (pk : Int) (pt : ByteArray) (pF : Fo) (bound : List ByteArray) (i : Nat) (ns : List ByteArray), (F.frs pk pt pF bound i ns).length ≤ ns.length + F.size := by
  induction F with
  | nil => intro pk pt pF bound i ns; exact Nat.le_refl _
  | cons k t m e a c kids next ih1 ih2 =>
    intro pk pt pF bound i ns
    have e2 : (Fo.cons k t m e a c kids next).size = kids.size + 1 + next.size := rfl
    obtain ⟨x, hx, hl⟩ : ∃ x, (if i < fromP pk pF then ns else if k = 6 ∧ hasT t (bound ++ bnd pk pt pF i) = false then put1 t ns else kids.frs k t kids (bound ++ bnd pk pt pF i) 0 ns) = x ∧ x.length ≤ ns.length + kids.size + 1 := by
      refine ⟨_, rfl, ?_⟩
      have h1 := ih1 k t kids (bound ++ bnd pk pt pF i) 0 ns
      have h2 := put1_len t ns
      split
      · omega
      · split <;> omega
    have h3 := ih2 pk pt pF bound (i + 1) x
    show (next.frs pk pt pF bound (i + 1) (if i < fromP pk pF then ns else if k = 6 ∧ hasT t (bound ++ bnd pk pt pF i) = false then put1 t ns else kids.frs k t kids (bound ++ bnd pk pt pF i) 0 ns)).length ≤ _
    rw [hx, e2]
    omega
theorem alike_txts : ∀ {F G : Fo}, F.alike G → F.txts = G.txts := by
  intro F G
  induction G generalizing F with
  | nil => intro h; rw [Fo.alike_nil h]
  | cons k t m e a c kids next ih1 ih2 =>
    intro h
    obtain ⟨a', c', kids', next', rfl, h1, h2⟩ := Fo.alike_cons h
    show t :: next'.txts = t :: next.txts
    rw [ih2 h2]
theorem alike_bnd {F G : Fo} (h : F.alike G) (k : Int) (t : ByteArray) (i : Nat) : bnd k t F i = bnd k t G i := by
  unfold bnd; rw [alike_txts h, Fo.alike_len h]
theorem alike_fromP {F G : Fo} (h : F.alike G) (k : Int) : fromP k F = fromP k G := by
  unfold fromP; rw [Fo.alike_len h]
theorem alike_frs : ∀ {F G : Fo}, F.alike G → ∀ (pk : Int) (pt : ByteArray) (pF pG : Fo) (bound : List ByteArray) (i : Nat) (ns : List ByteArray), pF.alike pG → F.frs pk pt pF bound i ns = G.frs pk pt pG bound i ns := by
  intro F G
  induction G generalizing F with
  | nil => intro h pk pt pF pG bound i ns hp; rw [Fo.alike_nil h]; rfl
  | cons k t m e a c kids next ih1 ih2 =>
    intro h pk pt pF pG bound i ns hp
    obtain ⟨a', c', kids', next', rfl, h1, h2⟩ := Fo.alike_cons h
    show next'.frs pk pt pF bound (i + 1) (if i < fromP pk pF then ns else if k = 6 ∧ hasT t (bound ++ bnd pk pt pF i) = false then put1 t ns else kids'.frs k t kids' (bound ++ bnd pk pt pF i) 0 ns) = next.frs pk pt pG bound (i + 1) (if i < fromP pk pG then ns else if k = 6 ∧ hasT t (bound ++ bnd pk pt pG i) = false then put1 t ns else kids.frs k t kids (bound ++ bnd pk pt pG i) 0 ns)
    rw [alike_bnd hp, alike_fromP hp, ih1 h1 k t kids' kids _ 0 ns h1, ih2 h2 pk pt pF pG _ _ _ hp]
set_option maxHeartbeats 400000 in
theorem l6From_any (k : Int) (t : ByteArray) (m e : Int) (a : Option Addr) (c : Nat) (F : Fo) (w : World) (hf : k = 16 → 0 < F.len) (hl : F.len ≤ maxLen) :
    Calls Try.prog 52 #[nodeV k t m e a F.len c] w fun r w' => r = .returned (.int .i64 (fromP k F : Nat)) ∧ Below w.heap.size w w' := by
  have hb0 : Below w.heap.size w (w.alloc (.cells #[.int .i64 k, .string t, .int .i64 m, .int .i64 e, .slice a F.len c] 33)) := (Below.refl _ _).alloc (Nat.le_refl _) _
  unfold maxLen at hl
  by_cases h : k = 16
  · subst h
    have h0 := hf rfl
    have HE : Hid ((fromP 16 F : Int) = (F.len : Int) - 1) := by unfold Hid fromP; rw [if_pos rfl]; omega
    go_enter Try.func52, Try.ntmps52
    go_wp2_with fail
    go_ret
    exact ⟨by rw [HE.out]; rfl, hb0⟩
  · have HE : Hid ((fromP k F : Int) = 0) := by unfold Hid fromP; rw [if_neg h]; rfl
    go_enter Try.func52, Try.ntmps52
    go_wp2_with fail
    go_ret
    exact ⟨by rw [HE.out]; rfl, hb0⟩
end Go.Proofs.Ytbbbmmemfndnlaa
/- Trees that are ok: a function has something below, a 'for' has two. -/
namespace Go.Proofs.Ytbbbmmemfndnlaa
open Go.RowKit
def lamOk (k : Int) (F : Fo) : Prop := (k = 16 → 0 < F.len) ∧ (k = 21 → F.len = 2)
/-- so all below -/
def Fo.Lam : Fo → Prop
  | .nil => True
  | .cons k _ _ _ _ _ kids next => lamOk k kids ∧ kids.Lam ∧ next.Lam
theorem lam_of_fit {k : Int} {t : ByteArray} {m e : Int} {F : Fo} (h : Om.fit k t m e F = true) : lamOk k F := by
  unfold Om.fit at h
  simp only [Bool.and_eq_true, decide_eq_true_eq] at h
  obtain ⟨⟨-, ⟨h1, h2⟩, -⟩, -⟩ := h
  refine ⟨fun hk => ?_, fun hk => ?_⟩
  · subst hk
    have : Om.low' 16 = 1 := by decide
    omega
  · subst hk
    have e1 : Om.low' 21 = 2 := by decide
    have e2 : Om.high' 21 = 2 := by decide
    omega
theorem lam_flat : ∀ {F : Fo} {d : Nat}, (∀ x ∈ F.flat d, Om.fit x.2.1 x.2.2.1 x.2.2.2.1 x.2.2.2.2.1 x.2.2.2.2.2 = true) → F.Lam := by
  intro F
  induction F with
  | nil => intros; trivial
  | cons k t m e a c kids next ih1 ih2 =>
    intro d h
    exact ⟨lam_of_fit (h (d, k, t, m, e, kids) (by unfold Fo.flat; simp)), ih1 (d := d + 1) (fun x hx => h x (by unfold Fo.flat; simp [hx])), ih2 (d := d) (fun x hx => h x (by unfold Fo.flat; simp [hx]))⟩
/-- of a good tree -/
theorem good_lam {k : Int} {t : ByteArray} {m e : Int} {F : Fo} (h : TreeGood k t m e F) : lamOk k F ∧ F.Lam ∧ F.size ≤ 199 :=
  ⟨lam_of_fit (h.2 (1, k, t, m, e, F) (by simp)).2, lam_flat (d := 2) (fun x hx => (h.2 x (by simp [hx])).2), by
    have := h.1
    rw [List.length_cons, Fo.flat_len] at this
    omega⟩
end Go.Proofs.Ytbbbmmemfndnlaa
/- The library's contract on strings.Clone at this dump. -/
namespace Go.Proofs.Ytbbbmmemfndnlaa
open Go.Shelf Go.RowKit
def renC25 : Ren := ⟨fun | 25 => 89 | n => n, fun | 0 => 0 | 3 => 3 | 4 => 4 | 5 => 5 | 9 => 9 | 37 => 77 | 47 => 106 | n => n, fun | n => n⟩
theorem laysC25 : LaysPu.n25 Try.prog renC25 := {
  mixed := by kernel_rfl
  f25 := Try.func89.trans (congrArg some (by kernel_rfl))
  t0 := Try.underlying0
  a0 := Try.isAgg0
  z0 := Try.sizeOf0
  v0 := Try.zeroValue0
  i0 := by kernel_rfl
  t3 := Try.underlying3
  a3 := Try.isAgg3
  z3 := Try.sizeOf3
  v3 := Try.zeroValue3
  i3 := by kernel_rfl
  t4 := Try.underlying4
  a4 := Try.isAgg4
  z4 := Try.sizeOf4
  v4 := Try.zeroValue4
  i4 := by kernel_rfl
  t5 := Try.underlying5
  a5 := Try.isAgg5
  z5 := Try.sizeOf5
  v5 := Try.zeroValue5
  i5 := by kernel_rfl
  t9 := Try.underlying9
  a9 := Try.isAgg9
  z9 := Try.sizeOf9
  v9 := Try.zeroValue9
  i9 := by kernel_rfl
  t37 := Try.underlying77
  a37 := Try.isAgg77
  z37 := Try.sizeOf77
  v37 := Try.zeroValue77
  i37 := by kernel_rfl
  t47 := Try.underlying106
  a47 := Try.isAgg106
  z47 := Try.sizeOf106
  v47 := Try.zeroValue106
  i47 := by kernel_rfl }
theorem stringsClone_any (s : ByteArray) (w : World) (hs : s.size ≤ 281474976710656) :
    Calls Try.prog 67 #[.string s] w fun e w' => e = .returned (.string s) ∧ Below w.heap.size w w' := by
  go_enter Try.func67, Try.ntmps67
  go_wp2_with fail
  refine (AnyPu.stringslite_Clone laysC25 s w hs).mono ?_
  rintro e w1 ⟨rfl, hb1⟩
  go_wp2_with fail
  go_ret
  exact ⟨rfl, hb1⟩
end Go.Proofs.Ytbbbmmemfndnlaa
/- Names, each once, ascending: the program's nameList and its add. -/
namespace Go.Proofs.Ytbbbmmemfndnlaa
open Go.RowKit
attribute [local go_sem] cell_alloc_is frozen_alloc_is
/-- a list of names in its box, its texts in a block of their own -/
def NL (B : Nat) (w : World) (lb : Nat) (ns : List ByteArray) : Prop := ∃ a c, OwnT B w a c ns ∧ w.rowIs lb 49 1 (fun _ => .slice a ns.length c) ∧ a.map (·.block) ≠ some lb
/-- what a round may write: the box, and a list of texts that is not older than it -/
def Wr (B lb : Nat) (w w' : World) : Prop := Below B w w' ∧ ∀ x, x < w.heap.size → ¬ x = lb → (x < B ∨ ∀ cs z, w.heap[x]? ≠ some (.cells cs 9 z)) → w'.heap[x]? = w.heap[x]?
theorem row_one (w : World) (s : ByteArray) : (w.alloc (.cells #[.string s] 9)).rowIs w.heap.size 9 1 (fun _ => .string s) :=
  World.rowIs_alloc w #[.string s] 9 _ (fun i hi => by
    have h0 : i = 0 := by simp at hi; exact hi
    subst h0; rfl)
theorem OwnT.block {B : Nat} {w : World} {a : Option Addr} {c : Nat} {ns : List ByteArray} (h : OwnT B w a c ns) {x : Nat} (e : a.map (·.block) = some x) : ∃ g, a = some ⟨g, 0, none⟩ := by
  rcases h with ⟨h, _⟩ | ⟨g, f, h, _⟩
  · rw [h] at e; cases e
  · exact ⟨g, h⟩
theorem OwnT.isText {B : Nat} {w : World} {a : Option Addr} {c : Nat} {ns : List ByteArray} (h : OwnT B w a c ns) {g : Nat} (e : a = some ⟨g, 0, none⟩) : ∃ cs, w.heap[g]? = some (.cells cs 9 (0, 0)) := by
  rcases h with ⟨h, _⟩ | ⟨g', f, h, _, _, ⟨cs, h1, _⟩, _⟩
  · rw [h] at e; cases e
  · rw [h] at e; cases e; exact ⟨cs, h1⟩
set_option maxRecDepth 100000 in
set_option maxHeartbeats 2000000 in
theorem na2 {Q : Exit → Act → World → Prop} {t2 t3 t5 t6 t7 t8 t9 t10 t11 t12 t13 t14 t15 t16 t17 t18 t19 t20 t21 t22 t23 t24 t25 t26 t27 t28 : Value} {W : World} {lb k B c : Nat} {a : Option Addr} {ns : List ByteArray} {s : ByteArray}
    (hO : OwnT B W a c ns) (hL : W.rowIs lb 49 1 (fun _ => .slice a ns.length c)) (hne : a.map (·.block) ≠ some lb) (hB : B ≤ W.heap.size) (hBl : B ≤ lb) (hk : k ≤ ns.length) (hn : ns.length ≤ 1100000) (hs : s.size ≤ 281474976710656)
    (hp : ∀ p d v a w, Q (.panic p) (Act.put a d v) w → Q (.panic p) a w) (h : ∀ ws v17 v18 v19 v20 v21 v22 v23 v24 v25 v26 v27 v28, NL B ws lb (ns.take k ++ s :: ns.drop k) → Wr B lb W ws → Q .normal { tmps := (.pointer (some ⟨lb, 0, none⟩) :: .string s :: t2 :: t3 :: .int .i64 (k : Nat) :: t5 :: t6 :: t7 :: t8 :: t9 :: t10 :: t11 :: t12 :: t13 :: t14 :: t15 :: t16 :: v17 :: v18 :: v19 :: v20 :: v21 :: v22 :: v23 :: v24 :: v25 :: v26 :: v27 :: v28 :: []).toArray, defers := [] } ws) :
    Code.wp Try.prog (Code.region 2 #[{ dst := some 17, op := Op.move (Operand.tmp 0), type := 74, pos := "l6_scope.go:70", after := #[], guard := none }, { dst := some 18, op := Op.move (Operand.tmp 0), type := 74, pos := "l6_scope.go:70", after := #[], guard := none }, { dst := some 19, op := Op.nilCheck (Operand.tmp 18), type := 0, pos := "l6_scope.go:70", after := #[{ on := 1, ground := Ground.data }], guard := none }, { dst := some 20, op := Op.fieldAddr 49 (Operand.tmp 19) 0, type := 0, pos := "l6_scope.go:70", after := #[{ on := 2, ground := Ground.data }], guard := none }, { dst := some 21, op := Op.load 28 (Operand.tmp 20), type := 28, pos := "l6_scope.go:70", after := #[{ on := 3, ground := Ground.data }], guard := none }, { dst := some 22, op := Op.move (Operand.tmp 4), type := 3, pos := "l6_scope.go:70", after := #[], guard := none }, { dst := some 23, op := Op.move (Operand.tmp 1), type := 9, pos := "l6_scope.go:70", after := #[], guard := none }, { dst := some 24, op := Op.call { callee := Callee.value (Operand.func 67), args := #[Operand.tmp 23], argTypes := #[9] }, type := 9, pos := "l6_scope.go:70", after := #[{ on := 6, ground := Ground.data }], guard := none }, { dst := some 25, op := Op.buildSlice 28 1 #[(0, Operand.tmp 24)], type := 28, pos := "l6_scope.go:70", after := #[{ on := 7, ground := Ground.data }], guard := none }, { dst := some 26, op := Op.call { callee := Callee.value (Operand.func 70), args := #[Operand.tmp 21, Operand.tmp 22, Operand.tmp 25], argTypes := #[28, 3, 28] }, type := 28, pos := "l6_scope.go:70", after := #[{ on := 4, ground := Ground.data }, { on := 5, ground := Ground.data }, { on := 8, ground := Ground.data }, { on := 7, ground := Ground.chain }], guard := none }, { dst := some 27, op := Op.nilCheck (Operand.tmp 17), type := 0, pos := "l6_scope.go:70", after := #[{ on := 0, ground := Ground.data }, { on := 0, ground := Ground.phase }, { on := 1, ground := Ground.phase }, { on := 2, ground := Ground.phase }, { on := 3, ground := Ground.phase }, { on := 4, ground := Ground.phase }, { on := 5, ground := Ground.phase }, { on := 6, ground := Ground.phase }, { on := 7, ground := Ground.phase }, { on := 8, ground := Ground.phase }, { on := 9, ground := Ground.phase }], guard := none }, { dst := some 28, op := Op.fieldAddr 49 (Operand.tmp 27) 0, type := 0, pos := "l6_scope.go:70", after := #[{ on := 10, ground := Ground.data }, { on := 0, ground := Ground.phase }, { on := 1, ground := Ground.phase }, { on := 2, ground := Ground.phase }, { on := 3, ground := Ground.phase }, { on := 4, ground := Ground.phase }, { on := 5, ground := Ground.phase }, { on := 6, ground := Ground.phase }, { on := 7, ground := Ground.phase }, { on := 8, ground := Ground.phase }, { on := 9, ground := Ground.phase }], guard := none }, { dst := none, op := Op.store 28 (Operand.tmp 28) (Operand.tmp 26), type := 0, pos := "l6_scope.go:70", after := #[{ on := 11, ground := Ground.data }, { on := 9, ground := Ground.data }, { on := 9, ground := Ground.chain }, { on := 0, ground := Ground.phase }, { on := 1, ground := Ground.phase }, { on := 2, ground := Ground.phase }, { on := 3, ground := Ground.phase }, { on := 4, ground := Ground.phase }, { on := 5, ground := Ground.phase }, { on := 6, ground := Ground.phase }, { on := 7, ground := Ground.phase }, { on := 8, ground := Ground.phase }, { on := 9, ground := Ground.phase }], guard := none }] true) Q { tmps := (.pointer (some ⟨lb, 0, none⟩) :: .string s :: t2 :: t3 :: .int .i64 (k : Nat) :: t5 :: t6 :: t7 :: t8 :: t9 :: t10 :: t11 :: t12 :: t13 :: t14 :: t15 :: t16 :: t17 :: t18 :: t19 :: t20 :: t21 :: t22 :: t23 :: t24 :: t25 :: t26 :: t27 :: t28 :: []).toArray, defers := [] } W := by
  have hll := hL.lt
  have HG : Hid (∀ w', Below W.heap.size W w' → OwnT B w' a c ns ∧ w'.rowIs lb 49 1 (fun _ => .slice a ns.length c)) := fun w' h => ⟨hO.of_block (fun g hg => h.block g (hO.lt hg).2), hL.of_block (h.block lb hll)⟩
  have HN : Hid (a.map (·.block) ≠ some lb) := hne
  clear hO hL hne
  have hB0 := (Below.refl W.heap.size W).drew
  refine wp_region_held_drew (S := fun _ => True) (by kernel_rfl) trivial (fun _ => ?_)
  generalize W.drew = Wd at *
  have hSw : (fun _ : World => True) Wd := trivial
  refine wpAnyH_take (i := 0) (v := .pointer (some ⟨lb, 0, none⟩)) rfl (by kernel_rfl) (by kernel_rfl) (by kernel_rfl) (fun _ _ _ h => hp _ _ _ _ _ h) (Or.inl ⟨by rfl, ?_⟩) (by assumption) ?_
  · intro w hSw
    (try dsimp only at hSw)
    go_simp
  (try simp only [Act.put, List.getElem_toArray, List.getElem_cons_zero, List.setIfInBounds_toArray, List.set_cons_zero, List.set_cons_succ])
  refine wpAnyH_take (i := 1) (v := .pointer (some ⟨lb, 0, none⟩)) rfl (by kernel_rfl) (by kernel_rfl) (by kernel_rfl) (fun _ _ _ h => hp _ _ _ _ _ h) (Or.inl ⟨by rfl, ?_⟩) (by assumption) ?_
  · intro w hSw
    (try dsimp only at hSw)
    go_simp
  (try simp only [Act.put, List.getElem_toArray, List.getElem_cons_zero, List.getElem_cons_succ, List.setIfInBounds_toArray, List.set_cons_zero, List.set_cons_succ])
  refine wpAnyH_take (i := 2) (v := .pointer (some ⟨lb, 0, none⟩)) rfl (by kernel_rfl) (by kernel_rfl) (by kernel_rfl) (fun _ _ _ h => hp _ _ _ _ _ h) (Or.inl ⟨by rfl, ?_⟩) (by assumption) ?_
  · intro w hSw
    (try dsimp only at hSw)
    go_simp
  (try simp only [Act.put, List.getElem_toArray, List.getElem_cons_zero, List.getElem_cons_succ, List.setIfInBounds_toArray, List.set_cons_zero, List.set_cons_succ])
  refine wpAnyH_take (i := 3) (v := .pointer (some ⟨lb, 0, none⟩)) rfl (by kernel_rfl) (by kernel_rfl) (by kernel_rfl) (fun _ _ _ h => hp _ _ _ _ _ h) (Or.inl ⟨by rfl, ?_⟩) (by assumption) ?_
  · intro w hSw
    (try dsimp only at hSw)
    go_simp
  (try simp only [Act.put, List.getElem_toArray, List.getElem_cons_zero, List.getElem_cons_succ, List.setIfInBounds_toArray, List.set_cons_zero, List.set_cons_succ])
  refine wpAnyH_take (i := 5) (v := .int .i64 (k : Nat)) rfl (by kernel_rfl) (by kernel_rfl) (by kernel_rfl) (fun _ _ _ h => hp _ _ _ _ _ h) (Or.inl ⟨by rfl, ?_⟩) (by assumption) ?_
  · intro w hSw
    (try dsimp only at hSw)
    go_simp
  (try simp only [Act.put, List.getElem_toArray, List.getElem_cons_zero, List.getElem_cons_succ, List.setIfInBounds_toArray, List.set_cons_zero, List.set_cons_succ])
  refine wpAnyH_take (i := 6) (v := .string s) rfl (by kernel_rfl) (by kernel_rfl) (by kernel_rfl) (fun _ _ _ h => hp _ _ _ _ _ h) (Or.inl ⟨by rfl, ?_⟩) (by assumption) ?_
  · intro w hSw
    (try dsimp only at hSw)
    go_simp
  (try simp only [Act.put, List.getElem_toArray, List.getElem_cons_zero, List.getElem_cons_succ, List.setIfInBounds_toArray, List.set_cons_zero, List.set_cons_succ])
  clear hSw
  refine wpAnyH_ready (rs := [4, 7]) (by kernel_rfl) (by simp) ?_
  refine AllReadyH.cons rfl (fun K hK => ?_) (AllReadyH.cons rfl (fun K hK => ?_) AllReadyH.nil)
  · skip
    have hcl := ((HG.out _ hB0).2).cell (i := 0) (by omega)
    go_simp
    refine hK.out _ _ trivial (fun _ => ?_)
    clear hK K hcl
    (try simp only [Act.put, List.getElem_toArray, List.getElem_cons_zero, List.getElem_cons_succ, List.setIfInBounds_toArray, List.set_cons_zero, List.set_cons_succ])
    refine wpAnyH_ready (rs := [7]) (by kernel_rfl) (by simp) ?_
    refine AllReadyH.cons rfl (fun K hK => ?_) AllReadyH.nil
    go_simp
    refine (stringsClone_any s _ hs).mono ?_
    rintro r W1 ⟨rfl, hb⟩
    have hB1 := hB0.trans (hb.mono hB0.size)
    go_wp2_with fail
    refine hK.out _ _ trivial (fun _ => ?_)
    clear hK K hB0 hb
    have hB0 := hB1
    clear hB1
    (try simp only [Act.put, List.getElem_toArray, List.getElem_cons_zero, List.getElem_cons_succ, List.setIfInBounds_toArray, List.set_cons_zero, List.set_cons_succ])
    refine wpAnyH_ready (rs := [8]) (by kernel_rfl) (by simp) ?_
    refine AllReadyH.cons rfl (fun K hK => ?_) AllReadyH.nil
    go_simp
    have hv : (W1.alloc (.cells #[.string s] 9)).rowIs W1.heap.size 9 1 (fun _ => .string s) := row_one W1 s
    have hB1 := hB0.alloc hB0.size (.cells #[.string s] 9)
    have hvz : W.heap.size ≤ W1.heap.size := hB0.size
    refine hK.out _ _ trivial (fun _ => ?_)
    clear hK K hB0
    have hB0 := hB1
    clear hB1
    obtain ⟨vb, hvb⟩ : ∃ vb, W1.heap.size = vb := ⟨_, rfl⟩
    rw [hvb] at hv hvz ⊢
    generalize W1.alloc (.cells #[.string s] 9) = W2 at *
    clear hvb
    refine wpAnyH_ready (rs := [9]) (by kernel_rfl) (by simp) ?_
    refine AllReadyH.cons rfl (fun K hK => ?_) AllReadyH.nil
    obtain ⟨hO, hL⟩ := HG.out _ hB0
    have hWz : W.heap.size ≤ W2.heap.size := hB0.size
    have hva : a.map (·.block) ≠ some vb := fun e => by
      obtain ⟨g, hg⟩ := hO.block e
      have h1 := (HG.out W (Below.refl _ _)).1.lt hg
      have h2 : g = vb := by rw [hg] at e; exact Option.some.inj e
      omega
    obtain ⟨nl, hnl⟩ : ∃ nl, nl = ns.take k ++ s :: ns.drop k := ⟨_, rfl⟩
    have hI := insert_any hO (by omega) hk hv hva hn
    rw [← hnl] at hI
    have HNL : Hid (nl = ns.take k ++ s :: ns.drop k) := hnl
    clear hnl
    go_simp
    refine hI.mono ?_
    clear hI
    rintro r W3 ⟨a', c', rfl, hO', ⟨hBe, hfr⟩, hnb⟩
    have hlb : W3.heap[lb]? = W2.heap[lb]? := hfr lb (by omega) (fun e => HN.out e.symm)
    have hL' := hL.of_block hlb
    have hne' : a'.map (·.block) ≠ some lb := fun e => by
      rcases hnb with hnb | ⟨g, hg, hge⟩
      · exact HN.out (hnb.symm.trans e)
      · rw [hg] at e; cases e; omega
    have hF : Hid (NL B (W3.setCell ⟨lb, 0, none⟩ (.slice a' nl.length c')) lb nl ∧ Wr B lb W (W3.setCell ⟨lb, 0, none⟩ (.slice a' nl.length c'))) := by
      refine ⟨⟨a', c', hO'.of_block (fun g hg => heap_setCell_other _ _ _ _ (fun e => hne' (by rw [hg]; exact congrArg some e))), (hL'.set 0 _).congr (fun i hi => if_pos (by omega)), hne'⟩, ?_⟩
      have hb1 : Below B W W2 := hB0.mono hB
      refine ⟨(hb1.trans hBe).setCell (p := ⟨lb, 0, none⟩) hBl _, fun x hx hxl hxs => ?_⟩
      rw [heap_setCell_other _ _ _ _ (fun e => hxl e)]
      rw [hfr x (by omega) (fun e => ?_)]
      · exact hB0.block x hx
      · obtain ⟨g, hg⟩ := hO.block e.symm
        have h2 : g = x := by rw [hg] at e; exact (Option.some.inj e).symm
        subst h2
        have h3 := (HG.out W (Below.refl _ _)).1.lt hg
        rcases hxs with hxs | hxs
        · omega
        · obtain ⟨cs, hcs⟩ := (HG.out W (Below.refl _ _)).1.isText hg
          exact hxs _ _ hcs
    have hcl := hL'.cell (i := 0) (by omega)
    have hfz := hL'.frozen 0
    clear hO hL hv hva hO' hBe hfr hnb hlb hL' hne'
    go_wp2_with fail
    refine hK.out _ _ trivial (fun _ => ?_)
    clear hK K
    (try simp only [Act.put, List.getElem_toArray, List.getElem_cons_zero, List.getElem_cons_succ, List.setIfInBounds_toArray, List.set_cons_zero, List.set_cons_succ])
    have hSw : (fun _ : World => True) W3 := trivial
    refine wpAnyH_take (i := 10) (v := .pointer (some ⟨lb, 0, none⟩)) rfl (by kernel_rfl) (by kernel_rfl) (by kernel_rfl) (fun _ _ _ h => hp _ _ _ _ _ h) (Or.inl ⟨by rfl, ?_⟩) (by assumption) ?_
    · intro w hSw
      (try dsimp only at hSw)
      go_simp
    (try simp only [Act.put, List.getElem_toArray, List.getElem_cons_zero, List.getElem_cons_succ, List.setIfInBounds_toArray, List.set_cons_zero, List.set_cons_succ])
    refine wpAnyH_take (i := 11) (v := .pointer (some ⟨lb, 0, none⟩)) rfl (by kernel_rfl) (by kernel_rfl) (by kernel_rfl) (fun _ _ _ h => hp _ _ _ _ _ h) (Or.inl ⟨by rfl, ?_⟩) (by assumption) ?_
    · intro w hSw
      (try dsimp only at hSw)
      go_simp
    (try simp only [Act.put, List.getElem_toArray, List.getElem_cons_zero, List.getElem_cons_succ, List.setIfInBounds_toArray, List.set_cons_zero, List.set_cons_succ])
    clear hSw
    refine wpAnyH_ready (rs := [12]) (by kernel_rfl) (by simp) ?_
    refine AllReadyH.cons rfl (fun K hK => ?_) AllReadyH.nil
    go_simp
    refine hK.out _ _ trivial (fun _ => ?_)
    refine wpAnyH_done (by kernel_rfl) ?_ _
    exact h _ _ _ _ _ _ _ _ _ _ _ _ _ (HNL.out ▸ hF.out.1) hF.out.2
  · skip
    go_simp
    refine (stringsClone_any s _ hs).mono ?_
    rintro r W4 ⟨rfl, hb⟩
    have hB1 := hB0.trans (hb.mono hB0.size)
    go_wp2_with fail
    refine hK.out _ _ trivial (fun _ => ?_)
    clear hK K hB0 hb
    have hB0 := hB1
    clear hB1
    (try simp only [Act.put, List.getElem_toArray, List.getElem_cons_zero, List.getElem_cons_succ, List.setIfInBounds_toArray, List.set_cons_zero, List.set_cons_succ])
    refine wpAnyH_ready (rs := [4, 8]) (by kernel_rfl) (by simp) ?_
    refine AllReadyH.cons rfl (fun K hK => ?_) (AllReadyH.cons rfl (fun K hK => ?_) AllReadyH.nil)
    · skip
      have hcl := ((HG.out _ hB0).2).cell (i := 0) (by omega)
      go_simp
      refine hK.out _ _ trivial (fun _ => ?_)
      clear hK K hcl
      (try simp only [Act.put, List.getElem_toArray, List.getElem_cons_zero, List.getElem_cons_succ, List.setIfInBounds_toArray, List.set_cons_zero, List.set_cons_succ])
      refine wpAnyH_ready (rs := [8]) (by kernel_rfl) (by simp) ?_
      refine AllReadyH.cons rfl (fun K hK => ?_) AllReadyH.nil
      go_simp
      have hv : (W4.alloc (.cells #[.string s] 9)).rowIs W4.heap.size 9 1 (fun _ => .string s) := row_one W4 s
      have hB1 := hB0.alloc hB0.size (.cells #[.string s] 9)
      have hvz : W.heap.size ≤ W4.heap.size := hB0.size
      refine hK.out _ _ trivial (fun _ => ?_)
      clear hK K hB0
      have hB0 := hB1
      clear hB1
      obtain ⟨vb, hvb⟩ : ∃ vb, W4.heap.size = vb := ⟨_, rfl⟩
      rw [hvb] at hv hvz ⊢
      generalize W4.alloc (.cells #[.string s] 9) = W5 at *
      clear hvb
      refine wpAnyH_ready (rs := [9]) (by kernel_rfl) (by simp) ?_
      refine AllReadyH.cons rfl (fun K hK => ?_) AllReadyH.nil
      obtain ⟨hO, hL⟩ := HG.out _ hB0
      have hWz : W.heap.size ≤ W5.heap.size := hB0.size
      have hva : a.map (·.block) ≠ some vb := fun e => by
        obtain ⟨g, hg⟩ := hO.block e
        have h1 := (HG.out W (Below.refl _ _)).1.lt hg
        have h2 : g = vb := by rw [hg] at e; exact Option.some.inj e
        omega
      obtain ⟨nl, hnl⟩ : ∃ nl, nl = ns.take k ++ s :: ns.drop k := ⟨_, rfl⟩
      have hI := insert_any hO (by omega) hk hv hva hn
      rw [← hnl] at hI
      have HNL : Hid (nl = ns.take k ++ s :: ns.drop k) := hnl
      clear hnl
      go_simp
      refine hI.mono ?_
      clear hI
      rintro r W6 ⟨a', c', rfl, hO', ⟨hBe, hfr⟩, hnb⟩
      have hlb : W6.heap[lb]? = W5.heap[lb]? := hfr lb (by omega) (fun e => HN.out e.symm)
      have hL' := hL.of_block hlb
      have hne' : a'.map (·.block) ≠ some lb := fun e => by
        rcases hnb with hnb | ⟨g, hg, hge⟩
        · exact HN.out (hnb.symm.trans e)
        · rw [hg] at e; cases e; omega
      have hF : Hid (NL B (W6.setCell ⟨lb, 0, none⟩ (.slice a' nl.length c')) lb nl ∧ Wr B lb W (W6.setCell ⟨lb, 0, none⟩ (.slice a' nl.length c'))) := by
        refine ⟨⟨a', c', hO'.of_block (fun g hg => heap_setCell_other _ _ _ _ (fun e => hne' (by rw [hg]; exact congrArg some e))), (hL'.set 0 _).congr (fun i hi => if_pos (by omega)), hne'⟩, ?_⟩
        have hb1 : Below B W W5 := hB0.mono hB
        refine ⟨(hb1.trans hBe).setCell (p := ⟨lb, 0, none⟩) hBl _, fun x hx hxl hxs => ?_⟩
        rw [heap_setCell_other _ _ _ _ (fun e => hxl e)]
        rw [hfr x (by omega) (fun e => ?_)]
        · exact hB0.block x hx
        · obtain ⟨g, hg⟩ := hO.block e.symm
          have h2 : g = x := by rw [hg] at e; exact (Option.some.inj e).symm
          subst h2
          have h3 := (HG.out W (Below.refl _ _)).1.lt hg
          rcases hxs with hxs | hxs
          · omega
          · obtain ⟨cs, hcs⟩ := (HG.out W (Below.refl _ _)).1.isText hg
            exact hxs _ _ hcs
      have hcl := hL'.cell (i := 0) (by omega)
      have hfz := hL'.frozen 0
      clear hO hL hv hva hO' hBe hfr hnb hlb hL' hne'
      go_wp2_with fail
      refine hK.out _ _ trivial (fun _ => ?_)
      clear hK K
      (try simp only [Act.put, List.getElem_toArray, List.getElem_cons_zero, List.getElem_cons_succ, List.setIfInBounds_toArray, List.set_cons_zero, List.set_cons_succ])
      have hSw : (fun _ : World => True) W6 := trivial
      refine wpAnyH_take (i := 10) (v := .pointer (some ⟨lb, 0, none⟩)) rfl (by kernel_rfl) (by kernel_rfl) (by kernel_rfl) (fun _ _ _ h => hp _ _ _ _ _ h) (Or.inl ⟨by rfl, ?_⟩) (by assumption) ?_
      · intro w hSw
        (try dsimp only at hSw)
        go_simp
      (try simp only [Act.put, List.getElem_toArray, List.getElem_cons_zero, List.getElem_cons_succ, List.setIfInBounds_toArray, List.set_cons_zero, List.set_cons_succ])
      refine wpAnyH_take (i := 11) (v := .pointer (some ⟨lb, 0, none⟩)) rfl (by kernel_rfl) (by kernel_rfl) (by kernel_rfl) (fun _ _ _ h => hp _ _ _ _ _ h) (Or.inl ⟨by rfl, ?_⟩) (by assumption) ?_
      · intro w hSw
        (try dsimp only at hSw)
        go_simp
      (try simp only [Act.put, List.getElem_toArray, List.getElem_cons_zero, List.getElem_cons_succ, List.setIfInBounds_toArray, List.set_cons_zero, List.set_cons_succ])
      clear hSw
      refine wpAnyH_ready (rs := [12]) (by kernel_rfl) (by simp) ?_
      refine AllReadyH.cons rfl (fun K hK => ?_) AllReadyH.nil
      go_simp
      refine hK.out _ _ trivial (fun _ => ?_)
      refine wpAnyH_done (by kernel_rfl) ?_ _
      exact h _ _ _ _ _ _ _ _ _ _ _ _ _ (HNL.out ▸ hF.out.1) hF.out.2
    · skip
      go_simp
      have hv : (W4.alloc (.cells #[.string s] 9)).rowIs W4.heap.size 9 1 (fun _ => .string s) := row_one W4 s
      have hB1 := hB0.alloc hB0.size (.cells #[.string s] 9)
      have hvz : W.heap.size ≤ W4.heap.size := hB0.size
      refine hK.out _ _ trivial (fun _ => ?_)
      clear hK K hB0
      have hB0 := hB1
      clear hB1
      obtain ⟨vb, hvb⟩ : ∃ vb, W4.heap.size = vb := ⟨_, rfl⟩
      rw [hvb] at hv hvz ⊢
      generalize W4.alloc (.cells #[.string s] 9) = W7 at *
      clear hvb
      refine wpAnyH_ready (rs := [4]) (by kernel_rfl) (by simp) ?_
      refine AllReadyH.cons rfl (fun K hK => ?_) AllReadyH.nil
      have hcl := ((HG.out _ hB0).2).cell (i := 0) (by omega)
      go_simp
      refine hK.out _ _ trivial (fun _ => ?_)
      clear hK K hcl
      (try simp only [Act.put, List.getElem_toArray, List.getElem_cons_zero, List.getElem_cons_succ, List.setIfInBounds_toArray, List.set_cons_zero, List.set_cons_succ])
      refine wpAnyH_ready (rs := [9]) (by kernel_rfl) (by simp) ?_
      refine AllReadyH.cons rfl (fun K hK => ?_) AllReadyH.nil
      obtain ⟨hO, hL⟩ := HG.out _ hB0
      have hWz : W.heap.size ≤ W7.heap.size := hB0.size
      have hva : a.map (·.block) ≠ some vb := fun e => by
        obtain ⟨g, hg⟩ := hO.block e
        have h1 := (HG.out W (Below.refl _ _)).1.lt hg
        have h2 : g = vb := by rw [hg] at e; exact Option.some.inj e
        omega
      obtain ⟨nl, hnl⟩ : ∃ nl, nl = ns.take k ++ s :: ns.drop k := ⟨_, rfl⟩
      have hI := insert_any hO (by omega) hk hv hva hn
      rw [← hnl] at hI
      have HNL : Hid (nl = ns.take k ++ s :: ns.drop k) := hnl
      clear hnl
      go_simp
      refine hI.mono ?_
      clear hI
      rintro r W8 ⟨a', c', rfl, hO', ⟨hBe, hfr⟩, hnb⟩
      have hlb : W8.heap[lb]? = W7.heap[lb]? := hfr lb (by omega) (fun e => HN.out e.symm)
      have hL' := hL.of_block hlb
      have hne' : a'.map (·.block) ≠ some lb := fun e => by
        rcases hnb with hnb | ⟨g, hg, hge⟩
        · exact HN.out (hnb.symm.trans e)
        · rw [hg] at e; cases e; omega
      have hF : Hid (NL B (W8.setCell ⟨lb, 0, none⟩ (.slice a' nl.length c')) lb nl ∧ Wr B lb W (W8.setCell ⟨lb, 0, none⟩ (.slice a' nl.length c'))) := by
        refine ⟨⟨a', c', hO'.of_block (fun g hg => heap_setCell_other _ _ _ _ (fun e => hne' (by rw [hg]; exact congrArg some e))), (hL'.set 0 _).congr (fun i hi => if_pos (by omega)), hne'⟩, ?_⟩
        have hb1 : Below B W W7 := hB0.mono hB
        refine ⟨(hb1.trans hBe).setCell (p := ⟨lb, 0, none⟩) hBl _, fun x hx hxl hxs => ?_⟩
        rw [heap_setCell_other _ _ _ _ (fun e => hxl e)]
        rw [hfr x (by omega) (fun e => ?_)]
        · exact hB0.block x hx
        · obtain ⟨g, hg⟩ := hO.block e.symm
          have h2 : g = x := by rw [hg] at e; exact (Option.some.inj e).symm
          subst h2
          have h3 := (HG.out W (Below.refl _ _)).1.lt hg
          rcases hxs with hxs | hxs
          · omega
          · obtain ⟨cs, hcs⟩ := (HG.out W (Below.refl _ _)).1.isText hg
            exact hxs _ _ hcs
      have hcl := hL'.cell (i := 0) (by omega)
      have hfz := hL'.frozen 0
      clear hO hL hv hva hO' hBe hfr hnb hlb hL' hne'
      go_wp2_with fail
      refine hK.out _ _ trivial (fun _ => ?_)
      clear hK K
      (try simp only [Act.put, List.getElem_toArray, List.getElem_cons_zero, List.getElem_cons_succ, List.setIfInBounds_toArray, List.set_cons_zero, List.set_cons_succ])
      have hSw : (fun _ : World => True) W8 := trivial
      refine wpAnyH_take (i := 10) (v := .pointer (some ⟨lb, 0, none⟩)) rfl (by kernel_rfl) (by kernel_rfl) (by kernel_rfl) (fun _ _ _ h => hp _ _ _ _ _ h) (Or.inl ⟨by rfl, ?_⟩) (by assumption) ?_
      · intro w hSw
        (try dsimp only at hSw)
        go_simp
      (try simp only [Act.put, List.getElem_toArray, List.getElem_cons_zero, List.getElem_cons_succ, List.setIfInBounds_toArray, List.set_cons_zero, List.set_cons_succ])
      refine wpAnyH_take (i := 11) (v := .pointer (some ⟨lb, 0, none⟩)) rfl (by kernel_rfl) (by kernel_rfl) (by kernel_rfl) (fun _ _ _ h => hp _ _ _ _ _ h) (Or.inl ⟨by rfl, ?_⟩) (by assumption) ?_
      · intro w hSw
        (try dsimp only at hSw)
        go_simp
      (try simp only [Act.put, List.getElem_toArray, List.getElem_cons_zero, List.getElem_cons_succ, List.setIfInBounds_toArray, List.set_cons_zero, List.set_cons_succ])
      clear hSw
      refine wpAnyH_ready (rs := [12]) (by kernel_rfl) (by simp) ?_
      refine AllReadyH.cons rfl (fun K hK => ?_) AllReadyH.nil
      go_simp
      refine hK.out _ _ trivial (fun _ => ?_)
      refine wpAnyH_done (by kernel_rfl) ?_ _
      exact h _ _ _ _ _ _ _ _ _ _ _ _ _ (HNL.out ▸ hF.out.1) hF.out.2
end Go.Proofs.Ytbbbmmemfndnlaa
/- Names, each once, ascending: nameList's add. -/
namespace Go.Proofs.Ytbbbmmemfndnlaa
open Go.RowKit
attribute [local go_sem] cell_alloc_is frozen_alloc_is
theorem Wr.trans {B lb : Nat} {A C D : World} (h : Wr B lb A C) (k : Wr B lb C D) : Wr B lb A D := by
  refine ⟨h.1.trans k.1, fun x hx hl ht => ?_⟩
  have e := h.2 x hx hl ht
  refine (k.2 x (Nat.lt_of_lt_of_le hx h.1.size) hl ?_).trans e
  rcases ht with ht | ht
  · exact .inl ht
  · exact .inr fun cs z => by rw [e]; exact ht cs z
theorem Wr.of_below {B lb : Nat} {A C : World} (h : Below A.heap.size A C) (hB : B ≤ A.heap.size) : Wr B lb A C := ⟨h.mono hB, fun x hx _ _ => h.block x hx⟩
set_option maxHeartbeats 1000000 in
theorem add_any {B lb : Nat} {w : World} {ns : List ByteArray} {s : ByteArray} (h : NL B w lb ns) (hasc : ascT ns) (hB : B ≤ w.heap.size) (hBl : B ≤ lb) (hn : ns.length ≤ 1100000) (hs : s.size ≤ 281474976710656) :
    Calls Try.prog 47 #[.pointer (some ⟨lb, 0, none⟩), .string s] w fun e w' => e = .returned (.tuple #[]) ∧ NL B w' lb (put1 s ns) ∧ Wr B lb w w' := by
  obtain ⟨a, c, hO, hL, hne⟩ := h
  have hcl := hL.cell (i := 0) (by omega)
  have hple := plc_le s ns
  have hbs := asc_bs (s := s) hasc
  have hfind : Calls Try.prog 69 #[.slice a ns.length c, .string s] w fun e w' => e = .returned (.tuple #[.int .i64 (plc s ns : Nat), .bool (hasAt s ns)]) ∧ ∃ q, w' = w.drewN q := by
    rcases hO with ⟨rfl, rfl, rfl⟩ | ⟨g, f, rfl, hg, ⟨hc1, hc2⟩, hrow, hf⟩
    · refine (Any2.slices_BinarySearch_string_empty laysS26 none 0 s w).mono ?_
      rintro e w' ⟨rfl, rfl⟩
      exact ⟨rfl, 0, rfl⟩
    · refine (Any2.slices_BinarySearch_string laysS26 g 0 ns.length c (fun t => ns.getD t s) s w (by omega) (fun j hj => ?_)).mono ?_
      · have e := List.getElem?_eq_getElem hj
        rw [Nat.zero_add, hrow.cell (by omega), hf j _ e, List.getD_eq_getElem?_getD, e]; rfl
      · rintro e w' ⟨rfl, hq⟩
        rw [hbs]
        refine ⟨?_, hq⟩
        have e2 : decide (plc s ns < ns.length ∧ ns.getD (plc s ns) s = s) = hasAt s ns := by
          rw [Bool.eq_iff_iff, decide_eq_true_iff]
          constructor
          · rintro ⟨h1, h2⟩
            have e := List.getElem?_eq_getElem h1
            rw [List.getD_eq_getElem?_getD, e] at h2
            rw [hasAt_some e]
            have h3 : ns[plc s ns] = s := h2
            rw [h3]; simp
          · intro h1
            cases e : ns[plc s ns]? with
            | none => unfold hasAt at h1; rw [e] at h1; cases h1
            | some x =>
              rw [hasAt_some e] at h1
              exact ⟨(List.getElem?_eq_some_iff.1 e).1, by rw [List.getD_eq_getElem?_getD, e]; exact texts_ext h1⟩
        rw [e2]
  cases hh : hasAt s ns
  · have HP : Hid (put1 s ns = ns.take (plc s ns) ++ s :: ns.drop (plc s ns)) := by unfold Hid put1; rw [hh]; rfl
    rw [hh] at hfind
    clear hbs hasc
    go_enter Try.func47, Try.ntmps47
    go_wp2_with fail
    refine hfind.mono ?_
    rintro r w1 ⟨rfl, q, rfl⟩
    have hO1 : OwnT B (w.drewN q) a c ns := hO
    have hL1 : (w.drewN q).rowIs lb 49 1 (fun _ => .slice a ns.length c) := hL
    have hW1 : Wr B lb w (w.drewN q) := ⟨below_drewN (Below.refl B w) q, fun _ _ _ _ => rfl⟩
    clear hfind hO hL hcl hh
    go_wp2_with fail
    refine na2 hO1 hL1 hne (by exact hB) hBl hple hn hs (fun _ d _ _ _ h => by cases d <;> exact h) ?_
    intro ws v17 v18 v19 v20 v21 v22 v23 v24 v25 v26 v27 v28 hN hW
    have HF : Hid (NL B ws lb (put1 s ns) ∧ Wr B lb w ws) := ⟨by rw [HP.out]; exact hN, hW1.trans hW⟩
    clear hN hW hW1 hO1 hL1 hne
    go_wp2_with fail
    go_end0
    exact ⟨rfl, HF.out⟩
  · have HP : Hid (put1 s ns = ns) := by unfold Hid put1; rw [hh]; rfl
    rw [hh] at hfind
    clear hbs hasc
    go_enter Try.func47, Try.ntmps47
    go_wp2_with fail
    refine hfind.mono ?_
    rintro r w1 ⟨rfl, q, rfl⟩
    have HF : Hid (NL B (w.drewN q) lb (put1 s ns) ∧ Wr B lb w (w.drewN q)) := ⟨by rw [HP.out]; exact ⟨a, c, hO, hL, hne⟩, below_drewN (Below.refl B w) q, fun _ _ _ _ => rfl⟩
    clear hfind hO hL hcl hh hne
    go_wp2_with fail
    go_end0
    exact ⟨rfl, HF.out⟩
end Go.Proofs.Ytbbbmmemfndnlaa
/- Names from outside: what the program goes through, and that it is what the specification goes through, of a tree that is ok. -/
namespace Go.Proofs.Ytbbbmmemfndnlaa
open Go.RowKit
theorem drop_zero (F : Fo) : F.drop 0 = F := by cases F <;> rfl
theorem drop_len (F : Fo) : ∀ {j : Nat}, j ≤ F.len → j + (F.drop j).len = F.len := by
  induction F with
  | nil => intro j hj; have : j = 0 := Nat.le_zero.1 hj; subst this; rfl
  | cons k t m e a c kids next _ ih =>
    intro j hj
    cases j with
    | zero => rw [drop_zero, Nat.zero_add]
    | succ j => have := ih (Nat.le_of_succ_le_succ hj); show j + 1 + (next.drop j).len = next.len + 1; omega
theorem drop_size (F : Fo) : ∀ {j : Nat}, j ≤ F.len → j + (F.drop j).size ≤ F.size := by
  induction F with
  | nil => intro j hj; have : j = 0 := Nat.le_zero.1 hj; subst this; exact Nat.le_refl _
  | cons k t m e a c kids next _ ih =>
    intro j hj
    cases j with
    | zero => rw [drop_zero, Nat.zero_add]; exact Nat.le_refl _
    | succ j => have := ih (Nat.le_of_succ_le_succ hj); show j + 1 + (next.drop j).size ≤ kids.size + 1 + next.size; omega
theorem drop_from (F : Fo) : ∀ {w : World} {b o j : Nat}, F.From w b o → (F.drop j).From w b (o + j * 5) := by
  induction F with
  | nil => intro w b o j _; cases j <;> trivial
  | cons k t m e a c kids next _ ih =>
    intro w b o j h
    cases j with
    | zero => exact h
    | succ j =>
      have := ih (j := j) h.2.2.2.2.2
      rw [show o + 5 + j * 5 = o + (j + 1) * 5 by omega] at this
      exact this
theorem drop_lam (F : Fo) : ∀ {j : Nat}, F.Lam → (F.drop j).Lam := by
  induction F with
  | nil => intro j h; cases j <;> exact h
  | cons k t m e a c kids next _ ih =>
    intro j h
    cases j with
    | zero => exact h
    | succ j => exact ih h.2.2
theorem frs_drop (pk : Int) (pt : ByteArray) (pF : Fo) (bound ns : List ByteArray) (F : Fo) : ∀ (d i : Nat), i + d ≤ fromP pk pF → (F.drop d).frs pk pt pF bound (i + d) ns = F.frs pk pt pF bound i ns := by
  induction F with
  | nil => intro d i _; cases d <;> rfl
  | cons k t m e a c kids next _ ih =>
    intro d i h
    cases d with
    | zero => rfl
    | succ d =>
      have := ih d (i + 1) (by omega)
      rw [show i + 1 + d = i + (d + 1) by omega] at this
      show (next.drop d).frs pk pt pF bound (i + (d + 1)) ns = next.frs pk pt pF bound (i + 1) (if i < fromP pk pF then ns else _)
      rw [if_pos (by omega)]
      exact this
/-- the texts right below lie within -/
theorem txts_in {F : Fo} : ∀ {w : World} {b o : Nat}, F.From w b o → ∀ s ∈ F.txts, s.size ≤ maxLen := by
  induction F with
  | nil => intro w b o _ s hs; cases hs
  | cons k t m e a c kids next _ ih =>
    intro w b o h s hs
    rcases List.mem_cons.1 hs with rfl | hs
    · exact h.2.2.2.2.1
    · exact ih h.2.2.2.2.2 s hs
theorem In.txts {F : Fo} {w : World} {a : Option Addr} (h : F.In w a) : ∀ s ∈ F.txts, s.size ≤ maxLen := by
  rcases h with rfl | ⟨b, o, _, h⟩
  · intro s hs; cases hs
  · exact txts_in h
theorem bnd_len (k : Int) (t : ByteArray) (F : Fo) (i : Nat) (hi : i < F.len) : (bnd k t F i).length ≤ F.len := by
  unfold bnd
  split
  · show 1 ≤ F.len; omega
  · split
    · rw [List.length_take, Fo.txts_len]; omega
    · exact Nat.zero_le _
/-- the names from outside as the program goes: into names too, and into all that stands below a function -/
def Fo.fri : Fo → Int → ByteArray → Fo → List ByteArray → Nat → List ByteArray → List ByteArray
  | .nil, _, _, _, _, _, ns => ns
  | .cons k t _ _ _ _ kids next, pk, pt, pF, bound, i, ns =>
    next.fri pk pt pF bound (i + 1) (kids.fri k t kids (bound ++ bnd pk pt pF i) 0 (if k = 6 ∧ hasT t (bound ++ bnd pk pt pF i) = false then put1 t ns else ns))
def fri1 (k : Int) (t : ByteArray) (F : Fo) (bound ns : List ByteArray) : List ByteArray := F.fri k t F bound 0 (if k = 6 ∧ hasT t bound = false then put1 t ns else ns)
theorem fri_ok (F : Fo) : ∀ (pk : Int) (pt : ByteArray) (pF : Fo) (bound : List ByteArray) (i : Nat) (ns : List ByteArray), ascT ns → ascT (F.fri pk pt pF bound i ns) ∧ (F.fri pk pt pF bound i ns).length ≤ ns.length + F.size := by
  induction F with
  | nil => intro pk pt pF bound i ns h; exact ⟨h, Nat.le_refl _⟩
  | cons k t m e a c kids next ih1 ih2 =>
    intro pk pt pF bound i ns h
    have e2 : (Fo.cons k t m e a c kids next).size = kids.size + 1 + next.size := rfl
    obtain ⟨x, hx, hl, ha⟩ : ∃ x, (if k = 6 ∧ hasT t (bound ++ bnd pk pt pF i) = false then put1 t ns else ns) = x ∧ x.length ≤ ns.length + 1 ∧ ascT x := by
      refine ⟨_, rfl, ?_⟩
      split
      · exact ⟨put1_len t ns, asc_put1 h⟩
      · exact ⟨by omega, h⟩
    obtain ⟨a1, l1⟩ := ih1 k t kids (bound ++ bnd pk pt pF i) 0 x ha
    obtain ⟨a2, l2⟩ := ih2 pk pt pF bound (i + 1) _ a1
    show ascT (next.fri pk pt pF bound (i + 1) (kids.fri k t kids (bound ++ bnd pk pt pF i) 0 (if k = 6 ∧ hasT t (bound ++ bnd pk pt pF i) = false then put1 t ns else ns))) ∧ (next.fri pk pt pF bound (i + 1) (kids.fri k t kids (bound ++ bnd pk pt pF i) 0 (if k = 6 ∧ hasT t (bound ++ bnd pk pt pF i) = false then put1 t ns else ns))).length ≤ _
    rw [hx, e2]
    exact ⟨a2, by omega⟩
theorem fri1_ok (k : Int) (t : ByteArray) (F : Fo) (bound ns : List ByteArray) (h : ascT ns) : ascT (fri1 k t F bound ns) ∧ (fri1 k t F bound ns).length ≤ ns.length + F.size + 1 := by
  obtain ⟨x, hx, hl, ha⟩ : ∃ x, (if k = 6 ∧ hasT t bound = false then put1 t ns else ns) = x ∧ x.length ≤ ns.length + 1 ∧ ascT x := by
    refine ⟨_, rfl, ?_⟩
    split
    · exact ⟨put1_len t ns, asc_put1 h⟩
    · exact ⟨by omega, h⟩
  obtain ⟨a1, l1⟩ := fri_ok F k t F bound 0 x ha
  unfold fri1
  rw [hx]
  exact ⟨a1, by omega⟩
/-- a name has nothing below; what a function has ahead of its last are names -/
def namOk (k : Int) (F : Fo) : Prop := (k = 6 → F = .nil) ∧ (k = 16 → ∀ j, j + 1 < F.len → F.kindAt j = 6)
def Fo.Nam : Fo → Prop
  | .nil => True
  | .cons k _ _ _ _ _ kids next => namOk k kids ∧ kids.Nam ∧ next.Nam
theorem cnt_all {F : Fo} {q : Int} : ∀ {n : Nat}, F.cnt q n = n → ∀ j, j < n → F.kindAt j = q := by
  intro n
  induction n with
  | zero => intro _ j hj; omega
  | succ n ih =>
    intro h j hj
    have h1 : F.cnt q n + (if F.kindAt n = q then 1 else 0) = n + 1 := h
    have h2 := F.cnt_le q n
    by_cases hk : F.kindAt n = q
    · rw [if_pos hk] at h1
      rcases Nat.lt_succ_iff_lt_or_eq.1 hj with hj | rfl
      · exact ih (by omega) j hj
      · exact hk
    · rw [if_neg hk] at h1; omega
theorem nam_of_fit {k : Int} {t : ByteArray} {m e : Int} {F : Fo} (h : Om.fit k t m e F = true) : namOk k F := by
  unfold Om.fit at h
  simp only [Bool.and_eq_true, decide_eq_true_eq] at h
  obtain ⟨⟨-, ⟨h1, h2⟩, -⟩, -, hb⟩ := h
  refine ⟨fun hk => ?_, fun hk j hj => ?_⟩
  · subst hk
    have e6 : Om.high' 6 = 0 := by decide
    rw [e6] at h2
    cases F with
    | nil => rfl
    | cons k' t' m' e' a' c' kids next => exact absurd h2 (by show ¬ next.len + 1 ≤ 0; omega)
  · subst hk
    unfold Om.below at hb
    rw [if_neg (by decide), if_pos rfl] at hb
    simp only [Bool.and_eq_true, decide_eq_true_eq] at hb
    exact cnt_all hb.1 j (by omega)
theorem nam_flat : ∀ {F : Fo} {d : Nat}, (∀ x ∈ F.flat d, Om.fit x.2.1 x.2.2.1 x.2.2.2.1 x.2.2.2.2.1 x.2.2.2.2.2 = true) → F.Nam := by
  intro F
  induction F with
  | nil => intros; trivial
  | cons k t m e a c kids next ih1 ih2 =>
    intro d h
    exact ⟨nam_of_fit (h (d, k, t, m, e, kids) (by unfold Fo.flat; simp)), ih1 (d := d + 1) (fun x hx => h x (by unfold Fo.flat; simp [hx])), ih2 (d := d) (fun x hx => h x (by unfold Fo.flat; simp [hx]))⟩
theorem good_nam {k : Int} {t : ByteArray} {m e : Int} {F : Fo} (h : TreeGood k t m e F) : namOk k F ∧ F.Nam :=
  ⟨nam_of_fit (h.2 (1, k, t, m, e, F) (by simp)).2, nam_flat (d := 2) (fun x hx => (h.2 x (by simp [hx])).2)⟩
theorem kindAt_drop : ∀ {F : Fo} {j : Nat} {k : Int} {t : ByteArray} {m e : Int} {a : Option Addr} {c : Nat} {kids next : Fo}, F.drop j = .cons k t m e a c kids next → F.kindAt j = k := by
  intro F
  induction F with
  | nil => intro j k t m e a c kids next h; cases j <;> cases h
  | cons k0 t0 m0 e0 a0 c0 kids0 next0 _ ih =>
    intro j k t m e a c kids next h
    cases j with
    | zero => cases h; rfl
    | succ j => exact ih h
theorem fri_frs : ∀ (F : Fo) (pk : Int) (pt : ByteArray) (pF : Fo) (bound : List ByteArray) (i : Nat) (ns : List ByteArray), F.Nam → namOk pk pF → pF.drop i = F → F.fri pk pt pF bound i ns = F.frs pk pt pF bound i ns := by
  intro F
  induction F with
  | nil => intros; rfl
  | cons k t m e a c kids next ih1 ih2 =>
    intro pk pt pF bound i ns hN hp hd
    obtain ⟨hk, hK, hn⟩ := hN
    have hnx := Fo.drop_next hd
    show next.fri pk pt pF bound (i + 1) (kids.fri k t kids (bound ++ bnd pk pt pF i) 0 (if k = 6 ∧ hasT t (bound ++ bnd pk pt pF i) = false then put1 t ns else ns)) = next.frs pk pt pF bound (i + 1) (if i < fromP pk pF then ns else if k = 6 ∧ hasT t (bound ++ bnd pk pt pF i) = false then put1 t ns else kids.frs k t kids (bound ++ bnd pk pt pF i) 0 ns)
    rw [ih2 _ _ _ _ _ _ hn hp hnx, ih1 k t kids _ 0 _ hK hk (drop_zero kids)]
    congr 1
    by_cases hf : i < fromP pk pF
    · rw [if_pos hf]
      unfold fromP at hf
      by_cases h16 : pk = 16
      · subst h16
        rw [if_pos rfl] at hf
        have hk6 : k = 6 := by rw [← kindAt_drop hd]; exact hp.2 rfl i (by omega)
        have hb : hasT t (bound ++ bnd 16 pt pF i) = true := by
          rw [hasT_iff]
          refine List.mem_append.2 (.inr ?_)
          unfold bnd
          rw [if_neg (by rintro (h | ⟨h, _⟩) <;> exact absurd h (by decide)), if_pos rfl]
          have ht := txts_at hd
          obtain ⟨hl, he⟩ := List.getElem?_eq_some_iff.1 ht
          rw [← he]
          rw [List.mem_iff_getElem]
          exact ⟨i, by rw [List.length_take]; omega, by rw [List.getElem_take]⟩
        rw [if_neg (fun h => by rw [hb] at h; cases h.2)]
        rw [hk.1 hk6]; rfl
      · rw [if_neg h16] at hf; omega
    · rw [if_neg hf]
      by_cases hc : k = 6 ∧ hasT t (bound ++ bnd pk pt pF i) = false
      · rw [if_pos hc, if_pos hc, hk.1 hc.1]; rfl
      · rw [if_neg hc, if_neg hc]
theorem fri1_frs1 (k : Int) (t : ByteArray) (F : Fo) (bound ns : List ByteArray) (h : namOk k F ∧ F.Nam) : fri1 k t F bound ns = frs1 k t F bound ns := by
  unfold fri1 frs1
  rw [fri_frs F k t F bound 0 _ h.2 h.1 (drop_zero F)]
  by_cases hc : k = 6 ∧ hasT t bound = false
  · rw [if_pos hc, if_pos hc, h.1.1 hc.1]; rfl
  · rw [if_neg hc, if_neg hc]
end Go.Proofs.Ytbbbmmemfndnlaa
/- The names that a tree binds in what stands right below it, by the program: boundNames. -/
namespace Go.Proofs.Ytbbbmmemfndnlaa
open Go.RowKit
attribute [local go_sem] cell_alloc_is frozen_alloc_is
theorem drop_consL {F : Fo} {j : Nat} (hj : j < F.len) : ∃ k t m e a c kids next, F.drop j = .cons k t m e a c kids next := by
  induction F generalizing j with
  | nil => exact absurd hj (Nat.not_lt_zero _)
  | cons k t m e a c kids next _ ih =>
    cases j with
    | zero => exact ⟨k, t, m, e, a, c, kids, next, rfl⟩
    | succ j => exact ih (Nat.lt_of_succ_lt_succ hj)
def bndN (k : Int) (t : ByteArray) (F : Fo) : List ByteArray := if k = 15 ∨ k = 21 then [t] else if k = 16 then F.txts.take (F.len - 1) else []
theorem own_sin {B : Nat} {L : List ByteArray} {v : Value} {W : World} (hs : ∀ s ∈ L, s.size ≤ maxLen) (ho : W.ownsRow B 9 1 v L.length (texts L)) : ∃ a' c', v = .slice a' L.length c' ∧ SIn W L a' ∧ (L.length ≤ c' ∧ c' ≤ maxLen) := by
  obtain ⟨a', c', e1, e2, e3, -⟩ := own_lies ho
  exact ⟨a', c', e1, e2.sin hs, e3⟩
set_option maxRecDepth 100000 in
set_option maxHeartbeats 1000000 in
theorem boundNames_any (k : Int) (t : ByteArray) (m e : Int) (a : Option Addr) (c : Nat) (F : Fo) (w : World) (hin : F.In w a) (hl : F.len ≤ c) (hc : c ≤ maxLen) (ht : t.size ≤ maxLen) (hf : k = 16 → 0 < F.len) (hF : F.size ≤ 1060000) :
    Calls Try.prog 66 #[nodeV k t m e a F.len c] w fun r w' => (∃ a' c', r = .returned (.slice a' (bndN k t F).length c') ∧ SIn w' (bndN k t F) a' ∧ ((bndN k t F).length ≤ c' ∧ c' ≤ maxLen)) ∧ Below w.heap.size w w' := by
  obtain ⟨i0, hi, hz0, hz1, hz2⟩ := info_parts textInfo
  have hb0 : Below w.heap.size w (w.alloc (.cells #[.int .i64 k, .string t, .int .i64 m, .int .i64 e, .slice a F.len c] 33)) := (Below.refl _ _).alloc (Nat.le_refl _) _
  have f0 := Five.new w (.int .i64 k) (.string t) (.int .i64 m) (.int .i64 e) (.slice a F.len c) 33
  have hts := In.txts hin
  have hll := F.len_le
  unfold maxLen at hc
  have HI : Hid (F.In w a) := hin
  clear hin
  by_cases hA : k = 15 ∨ k = 21
  · have HE : Hid (bndN k t F = [t]) := if_pos hA
    have hcl := cell_one_new (w.alloc (.cells #[.int .i64 k, .string t, .int .i64 m, .int .i64 e, .slice a F.len c] 33)) (.string t) 9
    have HR : Hid (SIn ((w.alloc (.cells #[.int .i64 k, .string t, .int .i64 m, .int .i64 e, .slice a F.len c] 33)).alloc (.cells #[.string t] 9)) [t] (some ⟨(w.alloc (.cells #[.int .i64 k, .string t, .int .i64 m, .int .i64 e, .slice a F.len c] 33)).heap.size, 0, none⟩)) := .inr ⟨_, 0, rfl, hcl 0 _ rfl, ht, trivial⟩
    have hB := hb0.alloc hb0.size (.cells #[.string t] 9)
    rw [World.size_alloc] at HR
    clear hcl hf
    rcases hA with rfl | rfl
    all_goals
      go_enter Try.func66, Try.ntmps66
      go_wp2_with fail
      go_ret
      rw [HE.out]
      exact ⟨⟨_, 1, rfl, HR.out, Nat.le_refl _, by unfold maxLen; omega⟩, hB⟩
  · by_cases h16 : k = 16
    · subst h16
      have h0 := hf rfl
      have HE : Hid (bndN 16 t F = F.txts.take (F.len - 1)) := by unfold Hid bndN; rw [if_neg hA, if_pos rfl]
      have HT : Hid (∀ s ∈ F.txts, s.size ≤ maxLen) := hts
      clear hA hts hf
      have own0 := World.ownsRow_nil (w.alloc (.cells #[.int .i64 16, .string t, .int .i64 m, .int .i64 e, .slice a F.len c] 33)) (w.heap.size) 9 1
      obtain ⟨x0, x1, x2, x3, x4⟩ := f0.1
      obtain ⟨q, hq⟩ : ∃ q : Nat, q = F.len - 1 := ⟨_, rfl⟩
      have hq1 : (F.len : Int) - 1 = (q : Int) := by omega
      have hq2 : (q : Int) ≤ (c : Int) := by omega
      obtain ⟨b, o, rfl, hfr⟩ : ∃ b o, a = some ⟨b, o, none⟩ ∧ F.From w b o := by
        rcases HI.out with h | ⟨b, o, e1, e2⟩
        · rw [h] at h0; exact absurd h0 (Nat.lt_irrefl _)
        · exact ⟨b, o, e1, e2⟩
      go_enter Try.func66, Try.ntmps66
      go_wp2_with fail
      go_loopw [3, 24] (fun v i wr => ∃ (j : Nat), i = .int .i64 j ∧ j ≤ q ∧ wr.ownsRow w.heap.size 9 1 v j (texts (F.txts.take j)) ∧ Below w.heap.size w wr) (fun _ i _ => q - (intOf i).toNat)
      case atStart => exact ⟨0, rfl, Nat.zero_le _, own0, hb0⟩
      case round =>
        obtain ⟨j, rfl, hjq, hown, hb⟩ := hrel
        have hz := hb.size
        by_cases hlt : j < q
        · have hlt' : (j : Int) < (q : Int) := by omega
          have hjl : j < F.len := by omega
          have hfr2 := drop_from F (j := j) (Fo.from_grow hb F b o hfr)
          obtain ⟨k', t', m', e', a', c', kids, next, hd⟩ := drop_consL hjl
          rw [hd] at hfr2
          obtain ⟨⟨h1, h2, h3, h4, h5⟩, hk2, hc1, hc3, ht', hn⟩ := hfr2
          have HD : Hid (F.drop j = .cons k' t' m' e' a' c' kids next) := hd
          have hw1 := (Below.refl wr.heap.size wr).alloc (Nat.le_refl _) (.cells #[.int .i64 k', .string t', .int .i64 m', .int .i64 e', .slice a' kids.len c'] 33)
          have hone := cell_one_new (wr.alloc (.cells #[.int .i64 k', .string t', .int .i64 m', .int .i64 e', .slice a' kids.len c'] 33)) (.string t') 9
          have hbA := hb.alloc hz (.cells #[.int .i64 k', .string t', .int .i64 m', .int .i64 e', .slice a' kids.len c'] 33)
          simp only [World.size_alloc] at hone
          clear hd hn hk2
          go_wp2_with (at_builtin; refine wpList_append_own _ rfl _ _ 28 rfl w.heap.size 9 i0 (.string ⟨#[]⟩) 1 16 Try.underlying28 hi hz0 hz1 hz2 rfl (by decide) _ _ _ rfl ((hown.alloc _).alloc _) ⟨wr.heap.size + 1, 0, none⟩ 1 1 [.string t'] rfl rfl hone (fun x hx => by simp at hx; subst hx; rfl) (by unfold maxLen; omega) (by omega) (by simp <;> omega) ?_; intro v' w3 hown3 hgrow3 hnil3)
          have hB3 := below_grown (hbA.alloc hbA.size (.cells #[.string t'] 9)) ((hown.alloc _).alloc _) hgrow3 (by simp <;> omega)
          clear hgrow3 hnil3 hb hbA hone h1 h2 h3 h4 h5 hw1
          refine ⟨⟨j + 1, by go_num, by omega, ?_, hB3⟩, ?_⟩
          · have ha := txts_at HD.out
            rw [List.take_add_one, ha, Option.toList_some, texts_snoc]
            exact hown3
          · simp [intOf]; omega
        · have hlt' : ¬ (j : Int) < (q : Int) := by omega
          have hjj : j = q := by omega
          have hlen : (F.txts.take j).length = j := by rw [List.length_take, Fo.txts_len, Nat.min_eq_left (by omega)]
          obtain ⟨a', c', rfl, h2, h3⟩ := own_sin (fun s hs => HT.out s (List.mem_of_mem_take hs)) (by rw [hlen]; exact hown)
          have HZ : Hid (SIn wr (F.txts.take (F.len - 1)) a' ∧ ((F.txts.take (F.len - 1)).length ≤ c' ∧ c' ≤ maxLen)) := by rw [← hq, ← hjj]; exact ⟨h2, h3⟩
          rw [← hq, ← hjj] at HE
          clear h2 h3 hown
          go_wp2_with fail
          go_ret
          rw [HE.out]
          rw [← hq, ← hjj] at HZ
          exact ⟨⟨a', c', (by rw [List.length_take, hjj, hq]; rfl), HZ.out⟩, hb⟩
    · have HE : Hid (bndN k t F = []) := by unfold Hid bndN; rw [if_neg hA, if_neg h16]
      have h15 : ¬ k = 15 := fun h => hA (.inl h)
      have h21 : ¬ k = 21 := fun h => hA (.inr h)
      clear hA hf HI hts
      go_enter Try.func66, Try.ntmps66
      go_wp2_with fail
      go_ret
      rw [HE.out]
      exact ⟨⟨none, 0, rfl, .inl rfl, Nat.le_refl _, Nat.zero_le _⟩, hb0⟩
end Go.Proofs.Ytbbbmmemfndnlaa
