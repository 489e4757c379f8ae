/- TreeOk of the specification; the law FnExactTreeOk walked. -/
import Derived.Test.YtcnhlkkbfdchnaaOkR
import Derived.Test.YtcnhlkkbfdchnaaFoA
import Derived.Test.YtcnhlkkbfdchnaaFoB
import Derived.Test.YtcnhlkkbfdchnaaFoD
import Derived.Test.YtcnhlkkbfdchnaaFoE
import Derived.Test.YtcnhlkkbfdchnaaFoO
namespace Go.Proofs.Ytcnhlkkbfdchnaa
open Go.RowKit
set_option maxRecDepth 100000 in
set_option maxHeartbeats 2000000 in
theorem sTreeOk_any (k : Int) (t : ByteArray) (m e : Int) (a : Option Addr) (c : Nat) (F : Fo) (w : World) (hF : F.size ≤ 1900000) (hin : F.In w a) (hl : F.len ≤ c) (hc : c ≤ maxLen) (ht : t.size ≤ maxLen) :
    Calls Try.prog 9 #[nodeV k t m e a F.len c] w fun r w' => Says (¬ k = 23 ∧ TreeGood k t m e F) r ∧ Below w.heap.size w w' := by
  have HG : Hid (¬ k = 23 ∧ TreeGood k t m e F ↔ (F.size + 1 ≤ 200 ∧ F.deep + 1 ≤ 20) ∧ okOne k t m e F = true) := by
    unfold Hid
    rw [good_iff, ok_iff (F.size + 1) k t m e F (by omega)]
    exact ⟨fun h => ⟨h.2.1, h.1, h.2.2⟩, fun h => ⟨h.2.1, h.1, h.2.2⟩⟩
  have hdd := F.deep_le
  have HS := fun W hW => sTreeSize_any (F.size + 1) k t m e a c F W (by omega) (by omega) hW hl hc
  have HD := fun W hW => sTreeDeep_any (F.size + 1) k t m e a c F W (by omega) (by omega) hW hl hc
  have HO := fun W hW => l3Ok_all (F.size + 1) k t m e a c F W (by omega) hW hl hc ht
  have HI : Hid (∀ W, Below w.heap.size w W → F.In W a) := fun W h => hin.grow h
  clear hin
  generalize F.size = sz at *
  generalize F.deep = dp at *
  generalize okOne k t m e F = ok at *
  go_enter Try.func9, Try.ntmps9
  have hB0 := (Below.refl _ w).alloc (Nat.le_refl _) (.cells #[.int .i64 k, .string t, .int .i64 m, .int .i64 e, .slice a F.len c] 32)
  have hf0 := Five.new w (.int .i64 k) (.string t) (.int .i64 m) (.int .i64 e) (.slice a F.len c) 32
  have hlt0 := hf0.lt
  go_wp2_with fail
  refine (HS _ (HI.out _ hB0)).mono ?_
  rintro r w1 ⟨rfl, hb1⟩
  have hB1 := hB0.trans (hb1.mono hB0.size)
  have hf1 := hf0.below hb1 hlt0
  have hlt1 := hf1.lt
  obtain ⟨⟨x0, x1, x2, x3, x4⟩, _⟩ := hf1
  clear hf0 hb1 hB0 HS
  by_cases h1 : sz + 1 ≤ 200
  · have h1' : ((sz + 1 : Nat) : Int) ≤ 200 := by omega
    go_wp2_with fail
    refine (HD _ (HI.out _ hB1)).mono ?_
    rintro r w2 ⟨rfl, hb2⟩
    have hB2 := hB1.trans (hb2.mono hB1.size)
    have y0 := (hb2.cell (p := ⟨w.heap.size, 0, none⟩) hlt1).trans x0
    have y1 := (hb2.cell (p := ⟨w.heap.size, 1, none⟩) hlt1).trans x1
    have y2 := (hb2.cell (p := ⟨w.heap.size, 2, none⟩) hlt1).trans x2
    have y3 := (hb2.cell (p := ⟨w.heap.size, 3, none⟩) hlt1).trans x3
    have y4 := (hb2.cell (p := ⟨w.heap.size, 4, none⟩) hlt1).trans x4
    clear x0 x1 x2 x3 x4 hb2 hB1 HD
    by_cases h2 : dp + 1 ≤ 20
    · have h2' : ((dp + 1 : Nat) : Int) ≤ 20 := by omega
      go_wp2_with fail
      refine (HO _ (HI.out _ hB2)).mono ?_
      rintro r w3 ⟨rfl, hb3⟩
      have hB3 := hB2.trans (hb3.mono hB2.size)
      go_wp2_with fail
      go_ret
      exact ⟨⟨ok, rfl, by rw [HG.out]; exact ⟨fun h => ⟨⟨h1, h2⟩, h⟩, fun h => h.2⟩⟩, hB3⟩
    · have h2' : ¬ ((dp + 1 : Nat) : Int) ≤ 20 := by omega
      go_wp2_with fail
      go_ret
      exact ⟨⟨false, rfl, by rw [HG.out]; exact ⟨fun h => (by cases h), fun h => absurd h.1.2 h2⟩⟩, hB2⟩
  · have h1' : ¬ ((sz + 1 : Nat) : Int) ≤ 200 := by omega
    go_wp2_with fail
    go_ret
    exact ⟨⟨false, rfl, by rw [HG.out]; exact ⟨fun h => (by cases h), fun h => absurd h.1.1 h1⟩⟩, hB1⟩
theorem Fo.alike_at : ∀ {G F : Fo}, F.alike G → ∀ i, F.kindAt i = G.kindAt i ∧ F.textAt i = G.textAt i := by
  intro G
  induction G with
  | nil => intro F h i; rw [Fo.alike_nil h]; exact ⟨rfl, rfl⟩
  | cons k t m e a c kids next _ ih =>
    intro F h i
    obtain ⟨a', c', kids', next', rfl, h1, h2⟩ := Fo.alike_cons h
    cases i with
    | zero => exact ⟨rfl, rfl⟩
    | succ i => exact ih h2 i
theorem Fo.alike_cnt {G F : Fo} (h : F.alike G) (q : Int) (n : Nat) : F.cnt q n = G.cnt q n := by
  induction n with
  | zero => rfl
  | succ n ih => show F.cnt q n + _ = G.cnt q n + _; rw [ih, (Fo.alike_at h n).1]
theorem Fo.alike_new {G F : Fo} (h : F.alike G) (i n : Nat) : F.newAt i n = G.newAt i n := by
  induction n with
  | zero => rfl
  | succ n ih => show (F.newAt i n && !((F.textAt i).toList == (F.textAt n).toList)) = (G.newAt i n && !((G.textAt i).toList == (G.textAt n).toList)); rw [ih, (Fo.alike_at h n).2, (Fo.alike_at h i).2]
theorem Fo.alike_dist {G F : Fo} (h : F.alike G) (n : Nat) : F.dist n = G.dist n := by
  induction n with
  | zero => rfl
  | succ n ih => show (F.dist n && F.newAt n n) = (G.dist n && G.newAt n n); rw [ih, Fo.alike_new h]
theorem Fo.alike_fit {G F : Fo} (h : F.alike G) (k : Int) (t : ByteArray) (m e : Int) : Om.fit k t m e F = Om.fit k t m e G := by
  unfold Om.fit Om.below
  rw [Fo.alike_len h, Fo.alike_cnt h, Fo.alike_cnt h, Fo.alike_dist h, Fo.alike_dist h]
theorem Fo.alike_allFit : ∀ {G F : Fo}, F.alike G → F.allFit = G.allFit := by
  intro G
  induction G with
  | nil => intro F h; rw [Fo.alike_nil h]
  | cons k t m e a c kids next ih1 ih2 =>
    intro F h
    obtain ⟨a', c', kids', next', rfl, h1, h2⟩ := Fo.alike_cons h
    show (Om.fit k t m e kids' && (kids'.allFit && next'.allFit)) = (Om.fit k t m e kids && (kids.allFit && next.allFit))
    rw [Fo.alike_fit h1, ih1 h1, ih2 h2]
theorem alike_good {G F : Fo} (h : F.alike G) (k : Int) (t : ByteArray) (m e : Int) : (¬ k = 23 ∧ TreeGood k t m e F) ↔ (¬ k = 23 ∧ TreeGood k t m e G) := by
  rw [good_iff, good_iff, Fo.alike_fit h, Fo.alike_allFit h, Fo.alike_size h, Fo.alike_deep h]
end Go.Proofs.Ytcnhlkkbfdchnaa
