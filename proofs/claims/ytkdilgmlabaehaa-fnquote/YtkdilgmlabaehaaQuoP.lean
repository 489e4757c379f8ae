/- Contracts: how texts are put between quotes, of the program (quoting as papers have it). -/
import Derived.Test.YtkdilgmlabaehaaQuoA
import Derived.Test.YtkdilgmlabaehaaIdx
import Derived.Test.YtkdilgmlabaehaaBld
import Derived.Shelf.Strings.BuilderK
namespace Go.Proofs.Ytkdilgmlabaehaa
open Go.RowKit
/-- how texts stand in papers -/
abbrev pq : Value := .agg #[.string ⟨#[92, 120]⟩, .string ⟨#[34, 92, 110]⟩, .string ⟨#[34, 92, 10]⟩, .int .i64 3]
set_option maxHeartbeats 400000 in
theorem paperQuoting_any (w : World) :
    Calls Try.prog 19 #[] w fun e w' => e = .returned pq ∧ Below w.heap.size w w' := by
  go_enter Try.func19, Try.ntmps19
  go_wp2_with fail
  exact bodyPost_ret (v := pq) (by simp [results, Try.results19, go_sem]) rfl ⟨rfl, (by (repeat' (first | assumption | exact Below.refl _ _ | refine Below.alloc ?_ ?_ _ | refine Below.setCell ?_ ?_ _ | refine Below.drew ?_ | refine below_drewN ?_ _)) <;> (first | omega | (simp <;> omega)))⟩
theorem arr_size (l : List UInt8) : (⟨l.toArray⟩ : ByteArray).size = l.length := by show l.toArray.size = _; simp
theorem arr_append (a b : List UInt8) : (⟨a.toArray⟩ : ByteArray) ++ ⟨b.toArray⟩ = ⟨(a ++ b).toArray⟩ := by
  have : ∀ x y : ByteArray, x.data.toList = y.data.toList → x = y := by intro x y h; cases x; cases y; simpa using h
  apply this; simp [ByteArray.data_append]
theorem arr_back (s : ByteArray) : (⟨s.data.toList.toArray⟩ : ByteArray) = s := by cases s; simp
/-- the builder in block k holds these bytes -/
abbrev Holds (B k : Nat) (acc : List UInt8) (w : World) : Prop := Lib.IsBuilderF 59 5 B k (Lib.byteCells acc) w
theorem Holds.byte {B k : Nat} {acc : List UInt8} {c : UInt8} {n : Int} {w : World} (h : Lib.IsBuilderF 59 5 B k (Lib.byteCells acc ++ [.int .u8 n]) w) (hn : n = c.toNat) : Holds B k (acc ++ [c]) w := by
  subst hn
  unfold Holds
  rw [Lib.byteCells_append]; exact h
theorem Holds.text {B k : Nat} {acc l : List UInt8} {s : ByteArray} {w : World} (h : Lib.IsBuilderF 59 5 B k (Lib.byteCells acc ++ Lib.strCells s) w) (hs : s.data.toList = l) : Holds B k (acc ++ l) w := by
  subst hs
  unfold Holds
  rw [Lib.byteCells_append]; exact h
theorem kept_trans {e : TypeId} {b : Option Nat} {w1 w2 w3 : World} (h : Lib.OthersKept e b w1 w2) (h' : Lib.OthersKept e b w2 w3) : Lib.OthersKept e b w1 w3 := h.trans h'
theorem wByte (B k : Nat) (acc : List UInt8) (c : UInt8) (n : Int) (hn : n = c.toNat) (w : World) (h : Holds B k acc w) (hlen : acc.length ≤ 100000000) (hBw : B ≤ w.heap.size) :
    Calls Try.prog 34 #[.pointer (some ⟨k, 0, none⟩), .int .u8 n] w fun e w' => e = .returned .nilIface ∧ Holds B k (acc ++ [c]) w' ∧ Below B w w' ∧ Lib.OthersKept 5 (some k) w w' :=
  (bWriteByte B k _ n w h (by rw [Lib.byteCells_length]; omega) hBw).mono fun _ _ ⟨e, h1, h2, h3⟩ => ⟨e, Holds.byte h1 hn, h2, h3⟩
theorem wText (B k : Nat) (acc l : List UInt8) (s : ByteArray) (hs : s.data.toList = l) (w : World) (h : Holds B k acc w) (hlen : acc.length + s.size ≤ 100000000) (hBw : B ≤ w.heap.size) :
    Calls Try.prog 51 #[.pointer (some ⟨k, 0, none⟩), .string s] w fun e w' => e = .returned (.tuple #[.int .i64 s.size, .nilIface]) ∧ Holds B k (acc ++ l) w' ∧ Below B w w' ∧ Lib.OthersKept 5 (some k) w w' :=
  (bWriteString B k _ s w h (by rw [Lib.byteCells_length]; omega) hBw).mono fun _ _ ⟨e, h1, h2, h3⟩ => ⟨e, Holds.text h1 hs, h2, h3⟩
/-- the quoting lies in a box -/
def Qbox (q : Nat) (W : World) : Prop := W.heap[q]? = some (.cells #[.string ⟨#[92, 120]⟩, .string ⟨#[34, 92, 110]⟩, .string ⟨#[34, 92, 10]⟩, .int .i64 3] 38)
theorem qbox_new (W : World) : Qbox W.heap.size (W.alloc (.cells #[.string ⟨#[92, 120]⟩, .string ⟨#[34, 92, 110]⟩, .string ⟨#[34, 92, 10]⟩, .int .i64 3] 38)) := by
  show (W.heap.push _)[W.heap.size]? = _
  rw [Array.getElem?_push, if_pos rfl]
theorem qbox_stays {k q : Nat} {W W' : World} (h : Qbox q W) (hne : q ≠ k) (hk : Lib.OthersKept 5 (some k) W W') : Qbox q W' :=
  hk q _ h (fun e => hne (Option.some.inj e)) (fun c fz e => by cases e)
theorem qbox_cells {q : Nat} {W : World} (h : Qbox q W) : W.cell? ⟨q, 0, none⟩ = some (.string ⟨#[92, 120]⟩) ∧ W.cell? ⟨q, 1, none⟩ = some (.string ⟨#[34, 92, 110]⟩) ∧ W.cell? ⟨q, 2, none⟩ = some (.string ⟨#[34, 92, 10]⟩) ∧ W.cell? ⟨q, 3, none⟩ = some (.int .i64 3) := by
  unfold Qbox at h
  refine ⟨?_, ?_, ?_, ?_⟩ <;> simp [World.cell?, h]
theorem mk_at {i : Nat} {x : UInt8} (hx : (⟨#[34, 92, 110]⟩ : ByteArray).data[i]? = some x) (h : i < (⟨#[34, 92, 110]⟩ : ByteArray).size) : (⟨#[34, 92, 110]⟩ : ByteArray)[i]'h = x := by
  obtain ⟨h2, e⟩ := Array.getElem?_eq_some_iff.1 hx
  exact e
theorem mark_none : ∀ n : Fin 256, n.val ≠ 34 → n.val ≠ 92 → n.val ≠ 10 → Lib.indexByte ((⟨#[34, 92, 10]⟩ : ByteArray).extract 0 3).data.toList (UInt8.ofNat n.val) = -1 := by decide +kernel
set_option maxHeartbeats 1000000 in
theorem putByte_any (b : UInt8) (acc : List UInt8) (B k : Nat) (w : World) (h : Holds B k acc w) (hk : k < w.heap.size) (hlen : acc.length ≤ 90000000) (hBw : B ≤ w.heap.size) :
    Calls Try.prog 35 #[pq, .pointer (some ⟨k, 0, none⟩), .int .u8 b.toNat] w fun e w' => e = .returned (.tuple #[]) ∧ Holds B k (acc ++ Qm.esc b) w' ∧ Below B w w' := by
  have hb := b.toNat_lt
  have hH0 : Holds B k acc (w.alloc (.cells #[.string ⟨#[92, 120]⟩, .string ⟨#[34, 92, 110]⟩, .string ⟨#[34, 92, 10]⟩, .int .i64 3] 38)) := h.alloc _
  have hq0 := qbox_new w
  have hB0 := (Below.refl B w).alloc hBw (.cells #[.string ⟨#[92, 120]⟩, .string ⟨#[34, 92, 110]⟩, .string ⟨#[34, 92, 10]⟩, .int .i64 3] 38)
  have hz0 := hB0.size
  have hne : w.heap.size ≠ k := by omega
  by_cases hp : Qm.plain b.toNat = true
  · have he : Qm.esc b = [b] := by rw [Qm.esc, if_pos hp]
    rw [he]
    go_enter Try.func35, Try.ntmps35
    go_wp2_with (go_at_call 49; refine (standsForItself_any _ _).mono ?_; rintro e w' ⟨rfl, hw⟩; subst w')
    refine (wByte B k acc b _ rfl _ hH0 (by omega) (by omega)).mono ?_
    rintro e w1 ⟨rfl, h1, b1, k1⟩
    go_wp2_with fail
    exact bodyPost_ret (v := .tuple #[]) (by simp [results, Try.results35]) rfl ⟨rfl, h1, hB0.trans b1⟩
  · have hp' : Qm.plain b.toNat = false := by simpa using hp
    by_cases hm : b = 34 ∨ b = 92 ∨ b = 10
    · obtain ⟨x, i, hx, hix, he, hmk⟩ : ∃ (x : UInt8) (i : Nat), i < 3 ∧ Lib.indexByte ((⟨#[34, 92, 10]⟩ : ByteArray).extract 0 3).data.toList ((b.toNat : Int).toNat.toUInt8) = (i : Int) ∧ Qm.esc b = [92, x] ∧ (⟨#[34, 92, 110]⟩ : ByteArray).data[i]? = some x := by
        rcases hm with rfl | rfl | rfl
        · exact ⟨34, 0, by omega, by decide +kernel, by decide +kernel, by decide +kernel⟩
        · exact ⟨92, 1, by omega, by decide +kernel, by decide +kernel, by decide +kernel⟩
        · exact ⟨110, 2, by omega, by decide +kernel, by decide +kernel, by decide +kernel⟩
      rw [he]
      clear he hm
      go_enter Try.func35, Try.ntmps35
      go_wp2_with (go_at_call 49; refine (standsForItself_any _ _).mono ?_; rintro e w' ⟨rfl, hw⟩; subst w')
      refine (indexByte_lib _ _ _).mono ?_
      rintro e w' ⟨rfl, hw⟩
      subst w'
      rw [hix]
      have hi0 : (0 : Int) ≤ (i : Int) := by omega
      have hi3 : (i : Int) < 3 := by omega
      generalize w.alloc (.cells #[.string ⟨#[92, 120]⟩, .string ⟨#[34, 92, 110]⟩, .string ⟨#[34, 92, 10]⟩, .int .i64 3] 38) = W0 at *
      go_wp2_with fail
      refine (wByte B k acc 92 92 rfl _ hH0 (by omega) (by omega)).mono ?_
      rintro e w1 ⟨rfl, h1, b1, k1⟩
      obtain ⟨_, c1, _, _⟩ := qbox_cells (qbox_stays hq0 hne k1)
      have hz1 := b1.size
      go_wp2_with fail
      rw [mk_at hmk]
      refine (wByte B k _ x _ rfl _ h1 (by simp; omega) (by omega)).mono ?_
      rintro e w2 ⟨rfl, h2, b2, k2⟩
      go_wp2_with fail
      exact bodyPost_ret (v := .tuple #[]) (by simp [results, Try.results35]) rfl ⟨rfl, by simpa using h2, (hB0.trans b1).trans b2⟩
    · have t10 : ¬ (b.toNat = 10) := fun h => hm (.inr (.inr (UInt8.toNat_inj.1 h)))
      have t34 : ¬ (b.toNat = 34) := fun h => hm (.inl (UInt8.toNat_inj.1 h))
      have t92 : ¬ (b.toNat = 92) := fun h => hm (.inr (.inl (UInt8.toNat_inj.1 h)))
      have hix : Lib.indexByte ((⟨#[34, 92, 10]⟩ : ByteArray).extract 0 3).data.toList ((b.toNat : Int).toNat.toUInt8) = -1 := by
        rw [Int.toNat_natCast]
        exact mark_none ⟨b.toNat, hb⟩ t34 t92 t10
      have he : Qm.esc b = [92, 120, Qm.hexd (b.toNat / 16), Qm.hexd (b.toNat % 16)] := by rw [Qm.esc, if_neg hp, if_neg (fun h => hm (.inr (.inr h))), if_neg (fun h => hm (h.elim .inl (fun h => .inr (.inl h))))]
      rw [he]
      clear he hm
      have q1 : (0 : Int) ≤ (b.toNat : Int) / 16 := by omega
      have q2 : (b.toNat : Int) / 16 < 16 := by omega
      have q3 : (0 : Int) ≤ (b.toNat : Int) % 16 := by omega
      have q4 : (b.toNat : Int) % 16 < 16 := by omega
      go_enter Try.func35, Try.ntmps35
      go_wp2_with (go_at_call 49; refine (standsForItself_any _ _).mono ?_; rintro e w' ⟨rfl, hw⟩; subst w')
      refine (indexByte_lib _ _ _).mono ?_
      rintro e w' ⟨rfl, hw⟩
      subst w'
      rw [hix]
      generalize w.alloc (.cells #[.string ⟨#[92, 120]⟩, .string ⟨#[34, 92, 110]⟩, .string ⟨#[34, 92, 10]⟩, .int .i64 3] 38) = W0 at *
      obtain ⟨c0, _, _, _⟩ := qbox_cells hq0
      go_wp2_with fail
      refine (wText B k acc [92, 120] _ rfl _ hH0 (by show acc.length + 2 ≤ _; omega) (by omega)).mono ?_
      rintro e w1 ⟨rfl, h1, b1, k1⟩
      have hz1 := b1.size
      go_wp2_with fail
      rw [hex_at]
      refine (wByte B k _ (Qm.hexd (b.toNat / 16)) _ rfl _ h1 (by simp; omega) (by omega)).mono ?_
      rintro e w2 ⟨rfl, h2, b2, k2⟩
      have hz2 := b2.size
      go_wp2_with fail
      rw [hex_at]
      refine (wByte B k _ (Qm.hexd (b.toNat % 16)) _ rfl _ h2 (by simp; omega) (by omega)).mono ?_
      rintro e w3 ⟨rfl, h3, b3, k3⟩
      go_wp2_with fail
      exact bodyPost_end (v := .tuple #[]) (by simp [results, Try.results35]) rfl ⟨rfl, by simpa using h3, ((hB0.trans b1).trans b2).trans b3⟩
end Go.Proofs.Ytkdilgmlabaehaa
