/- Contracts: QuotePut of both sides. -/
import Derived.Test.YtdmlgmebgajchaaQuoA
import Derived.Test.YtdmlgmebgajchaaBld
import Derived.Shelf.Strings.BuilderK
namespace Go.Proofs.Ytdmlgmebgajchaa
open Go.RowKit

theorem arr_size (l : List UInt8) : (⟨l.toArray⟩ : ByteArray).size = l.length := by show l.toArray.size = _; simp
theorem arr_append (a b : List UInt8) : (⟨a.toArray⟩ : ByteArray) ++ ⟨b.toArray⟩ = ⟨(a ++ b).toArray⟩ := by
  have : ∀ x y : ByteArray, x.data.toList = y.data.toList → x = y := by intro x y h; cases x; cases y; simpa using h
  apply this; simp [ByteArray.data_append]
theorem arr_back (s : ByteArray) : (⟨s.data.toList.toArray⟩ : ByteArray) = s := by cases s; simp
/-- the builder in block k holds these bytes -/
abbrev Holds (B k : Nat) (acc : List UInt8) (w : World) : Prop := Lib.IsBuilderF 41 5 B k (Lib.byteCells acc) w
theorem Holds.byte {B k : Nat} {acc : List UInt8} {c : UInt8} {n : Int} {w : World} (h : Lib.IsBuilderF 41 5 B k (Lib.byteCells acc ++ [.int .u8 n]) w) (hn : n = c.toNat) : Holds B k (acc ++ [c]) w := by
  subst hn
  unfold Holds
  rw [Lib.byteCells_append]; exact h
theorem Holds.text {B k : Nat} {acc l : List UInt8} {s : ByteArray} {w : World} (h : Lib.IsBuilderF 41 5 B k (Lib.byteCells acc ++ Lib.strCells s) w) (hs : s.data.toList = l) : Holds B k (acc ++ l) w := by
  subst hs
  unfold Holds
  rw [Lib.byteCells_append]; exact h
theorem kept_trans {e : TypeId} {b : Option Nat} {w1 w2 w3 : World} (h : Lib.OthersKept e b w1 w2) (h' : Lib.OthersKept e b w2 w3) : Lib.OthersKept e b w1 w3 := h.trans h'

theorem wByte (B k : Nat) (acc : List UInt8) (c : UInt8) (n : Int) (hn : n = c.toNat) (w : World) (h : Holds B k acc w) (hlen : acc.length ≤ 100000000) (hBw : B ≤ w.heap.size) :
    Calls Try.prog 27 #[.pointer (some ⟨k, 0, none⟩), .int .u8 n] w fun e w' => e = .returned .nilIface ∧ Holds B k (acc ++ [c]) w' ∧ Below B w w' ∧ Lib.OthersKept 5 (some k) w w' :=
  (bWriteByte B k _ n w h (by rw [Lib.byteCells_length]; omega) hBw).mono fun _ _ ⟨e, h1, h2, h3⟩ => ⟨e, Holds.byte h1 hn, h2, h3⟩
theorem wText (B k : Nat) (acc l : List UInt8) (s : ByteArray) (hs : s.data.toList = l) (w : World) (h : Holds B k acc w) (hlen : acc.length + s.size ≤ 100000000) (hBw : B ≤ w.heap.size) :
    Calls Try.prog 41 #[.pointer (some ⟨k, 0, none⟩), .string s] w fun e w' => e = .returned (.tuple #[.int .i64 s.size, .nilIface]) ∧ Holds B k (acc ++ l) w' ∧ Below B w w' ∧ Lib.OthersKept 5 (some k) w w' :=
  (bWriteString B k _ s w h (by rw [Lib.byteCells_length]; omega) hBw).mono fun _ _ ⟨e, h1, h2, h3⟩ => ⟨e, Holds.text h1 hs, h2, h3⟩

set_option maxHeartbeats 1000000 in
theorem putQuoted_any (b : UInt8) (acc : List UInt8) (B k : Nat) (w : World) (h : Holds B k acc w) (hlen : acc.length ≤ 90000000) (hBw : B ≤ w.heap.size) :
    Calls Try.prog 28 #[.pointer (some ⟨k, 0, none⟩), .int .u8 b.toNat] w fun e w' => e = .returned (.tuple #[]) ∧ Holds B k (acc ++ Qm.esc b) w' ∧ Below B w w' ∧ Lib.OthersKept 5 (some k) w w' := by
  have hb := b.toNat_lt
  by_cases hp : Qm.plain b.toNat = true
  · have he : Qm.esc b = [b] := by rw [Qm.esc, if_pos hp]
    rw [he]
    go_enter Try.func28, Try.ntmps28
    go_wp2_with (go_at_call 40; refine (standsForItself_any _ _).mono ?_; rintro e w' ⟨rfl, hw⟩; subst w')
    refine (wByte B k acc b _ rfl _ h (by omega) hBw).mono ?_
    rintro e w1 ⟨rfl, h1, b1, k1⟩
    go_wp2_with fail
    exact bodyPost_end (v := .tuple #[]) (by simp [results, Try.results28]) rfl ⟨rfl, h1, b1, k1⟩
  · have hp' : Qm.plain b.toNat = false := by simpa using hp
    by_cases h10 : b = 10
    · have he : Qm.esc b = [92, 110] := by rw [Qm.esc, if_neg hp, if_pos h10]
      rw [he]
      subst h10
      go_enter Try.func28, Try.ntmps28
      go_wp2_with (go_at_call 40; refine (standsForItself_any _ _).mono ?_; rintro e w' ⟨rfl, hw⟩; subst w')
      refine (wText B k acc [92, 110] _ rfl _ h (by show acc.length + 2 ≤ _; omega) hBw).mono ?_
      rintro e w1 ⟨rfl, h1, b1, k1⟩
      go_wp2_with fail
      exact bodyPost_end (v := .tuple #[]) (by simp [results, Try.results28]) rfl ⟨rfl, h1, b1, k1⟩
    · by_cases h2 : b = 34 ∨ b = 92
      · have he : Qm.esc b = [92, b] := by rw [Qm.esc, if_neg hp, if_neg h10, if_pos h2]
        rw [he]
        obtain ⟨n, hn⟩ : ∃ n : Int, n = b.toNat := ⟨_, rfl⟩
        rw [← hn]
        have hn2 : n = 34 ∨ n = 92 := by rcases h2 with rfl | rfl <;> simp [hn]
        clear h2
        have HN : Hid (n = b.toNat) := hn
        clear hn
        rw [show Qm.plain (b.toNat : Int) = Qm.plain n by rw [HN.out]] at hp'
        rcases hn2 with rfl | rfl
        all_goals
          go_enter Try.func28, Try.ntmps28
          go_wp2_with (go_at_call 40; refine (standsForItself_any _ _).mono ?_; rintro e w' ⟨rfl, hw⟩; subst w')
          refine (wByte B k acc 92 92 rfl _ h (by omega) hBw).mono ?_
          rintro e w1 ⟨rfl, h1, b1, k1⟩
          go_wp2_with fail
          refine (wByte B k _ b _ HN.out _ h1 (by simp; omega) (by have := b1.size; omega)).mono ?_
          rintro e w2 ⟨rfl, h2, b2, k2⟩
          go_wp2_with fail
          exact bodyPost_end (v := .tuple #[]) (by simp [results, Try.results28]) rfl ⟨rfl, by simpa using h2, b1.trans b2, kept_trans k1 k2⟩
      · have t10 : ¬ (b.toNat = 10) := fun h => h10 (UInt8.toNat_inj.1 h)
        have t34 : ¬ (b.toNat = 34) := fun h => h2 (.inl (UInt8.toNat_inj.1 h))
        have t92 : ¬ (b.toNat = 92) := fun h => h2 (.inr (UInt8.toNat_inj.1 h))
        have e10 : ((b.toNat : Int) == 10) = false := by simp; omega
        have e34 : ((b.toNat : Int) == 34) = false := by simp; omega
        have e92 : ((b.toNat : Int) == 92) = false := by simp; omega
        have he : Qm.esc b = [92, 120, Qm.hexd (b.toNat / 16), Qm.hexd (b.toNat % 16)] := by rw [Qm.esc, if_neg hp, if_neg h10, if_neg h2]
        rw [he]
        have q1 : (0 : Int) ≤ (b.toNat : Int) / 16 := by omega
        have q2 : (b.toNat : Int) / 16 < 16 := by omega
        have q3 : (0 : Int) ≤ (b.toNat : Int) % 16 := by omega
        have q4 : (b.toNat : Int) % 16 < 16 := by omega
        go_enter Try.func28, Try.ntmps28
        go_wp2_with (go_at_call 40; refine (standsForItself_any _ _).mono ?_; rintro e w' ⟨rfl, hw⟩; subst w')
        refine (wText B k acc [92, 120] _ rfl _ h (by show acc.length + 2 ≤ _; omega) hBw).mono ?_
        rintro e w1 ⟨rfl, h1, b1, k1⟩
        go_wp2_with fail
        rw [hex_at]
        refine (wByte B k _ (Qm.hexd (b.toNat / 16)) _ rfl _ h1 (by simp; omega) (by have := b1.size; omega)).mono ?_
        rintro e w2 ⟨rfl, h2, b2, k2⟩
        go_wp2_with fail
        rw [hex_at]
        refine (wByte B k _ (Qm.hexd (b.toNat % 16)) _ rfl _ h2 (by simp; omega) (by have := b1.size; have := b2.size; omega)).mono ?_
        rintro e w3 ⟨rfl, h3, b3, k3⟩
        go_wp2_with fail
        exact bodyPost_end (v := .tuple #[]) (by simp [results, Try.results28]) rfl ⟨rfl, by simpa using h3, (b1.trans b2).trans b3, kept_trans (kept_trans k1 k2) k3⟩

set_option maxHeartbeats 1000000 in
theorem sQuotePut_any (s : ByteArray) (w : World) (hs : s.size ≤ 20000000) :
    Calls Try.prog 11 #[.string s] w fun e w' => e = .returned (.string ⟨(Qm.quote s.data.toList).toArray⟩) ∧ Below w.heap.size w w' := by
  go_enter Try.func11, Try.ntmps11
  go_wp2_with fail
  go_loopw [3, 4] (fun o i wr => ∃ k : Nat, k ≤ s.size ∧ i = .int .i64 k ∧ o = .string ⟨(34 :: (s.data.toList.take k).flatMap Qm.esc).toArray⟩ ∧ Below w.heap.size w wr) (fun _ i _ => s.size - (intOf i).toNat)
  case atStart => exact ⟨0, Nat.zero_le _, rfl, rfl, Below.refl _ _⟩
  case round =>
    obtain ⟨k, hk, rfl, rfl, hB⟩ := hrel
    have hfl := Qm.flat_length (s.data.toList.take k)
    have htl : (s.data.toList.take k).length ≤ k := List.length_take_le _ _
    by_cases hlt : k < s.size
    · have HS : Hid ((s.data.toList.take (k + 1)).flatMap Qm.esc = (s.data.toList.take k).flatMap Qm.esc ++ Qm.esc s[k]) := Qm.flat_take s k hlt
      have hel := Qm.esc_length s[k]
      have hsz1 := arr_size (34 :: (s.data.toList.take k).flatMap Qm.esc)
      have hsz2 := arr_size (Qm.esc s[k])
      rw [List.length_cons] at hsz1
      go_wp2_with (go_at_call 26; refine (l2Escape_any _ _).mono ?_; rintro e w1 ⟨rfl, hb1⟩)
      go_roundw
      case rel => exact ⟨k + 1, by omega, by go_num, by rw [arr_append, HS.out, List.cons_append], hB.trans (hb1.mono hB.size)⟩
      case measure => simp [intOf]; omega
    · have ht : s.data.toList.take k = s.data.toList := List.take_of_length_le (by rw [Qm.len_eq]; omega)
      have HT : Hid (Qm.quote s.data.toList = 34 :: ((s.data.toList.take k).flatMap Qm.esc ++ [34])) := by unfold Hid; rw [ht]; rfl
      clear ht
      generalize (s.data.toList.take k).flatMap Qm.esc = F at *
      have hsz1 := arr_size (34 :: F)
      rw [List.length_cons] at hsz1
      go_wp2_with fail
      go_ret
      exact ⟨ret_str (by rw [HT.out, show (⟨#[34]⟩ : ByteArray) = ⟨[34].toArray⟩ from rfl, arr_append]; rfl), hB⟩

set_option maxHeartbeats 1000000 in
theorem iQuotePut_any (s : ByteArray) (w : World) (hs : s.size ≤ 20000000) :
    Calls Try.prog 12 #[.string s] w fun e w' => e = .returned (.string ⟨(Qm.quote s.data.toList).toArray⟩) ∧ Below w.heap.size w w' := by
  go_enter Try.func12, Try.ntmps12
  go_wp2_with fail
  have h0 : Holds w.heap.size w.heap.size [] (w.alloc (.cells #[.pointer none, .slice none 0 0] 41)) := Lib.IsBuilderF.of (Lib.fresh_isBuilder 41 5 w)
  have b0 : Below w.heap.size w (w.alloc (.cells #[.pointer none, .slice none 0 0] 41)) := (Below.refl _ _).alloc (Nat.le_refl _) _
  refine (wByte w.heap.size w.heap.size [] 34 34 rfl _ h0 (by simp) (by simp)).mono ?_
  rintro e w1 ⟨rfl, h1, b1, k1⟩
  have hB1 := b0.trans b1
  clear h0 b0 b1 k1
  go_wp2_with fail
  go_loopw [8] (fun i wr => ∃ k : Nat, k ≤ s.size ∧ i = .int .i64 k ∧ Holds w.heap.size w.heap.size (34 :: (s.data.toList.take k).flatMap Qm.esc) wr ∧ Below w.heap.size w wr) (fun i _ => s.size - (intOf i).toNat)
  case atStart => exact ⟨0, Nat.zero_le _, rfl, h1, hB1⟩
  case round =>
    obtain ⟨k, hk, rfl, hH, hB⟩ := hrel
    have hfl := Qm.flat_length (s.data.toList.take k)
    have htl : (s.data.toList.take k).length ≤ k := List.length_take_le _ _
    have hz := hB.size
    by_cases hlt : k < s.size
    · have HS : Hid ((s.data.toList.take (k + 1)).flatMap Qm.esc = (s.data.toList.take k).flatMap Qm.esc ++ Qm.esc s[k]) := Qm.flat_take s k hlt
      go_wp2_with (go_at_call 28; refine (putQuoted_any s[k] _ w.heap.size w.heap.size _ hH (by rw [List.length_cons]; omega) hz).mono ?_; rintro e w1 ⟨rfl, h1, b1, k1⟩)
      go_roundw
      case rel => exact ⟨k + 1, by omega, by go_num, by rw [HS.out]; exact h1, hB.trans b1⟩
      case measure => simp [intOf]; omega
    · have ht : s.data.toList.take k = s.data.toList := List.take_of_length_le (by rw [Qm.len_eq]; omega)
      rw [ht] at hH hfl htl
      clear ht
      go_wp2_with fail
      refine (wByte w.heap.size w.heap.size _ 34 34 rfl _ hH (by rw [List.length_cons]; omega) hz).mono ?_
      rintro e w2 ⟨rfl, h2, b2, k2⟩
      go_wp2_with fail
      have b2' := hB.trans b2
      refine (bString w.heap.size w.heap.size _ _ h2 b2'.size).mono ?_
      rintro e w3 ⟨rfl, h3, b3, k3⟩
      go_wp2_with fail
      go_ret
      exact ⟨rfl, b2'.trans b3⟩
end Go.Proofs.Ytdmlgmebgajchaa
