/- My own texts, joined: Ua Uc Ud. -/
import Derived.Test.YtalncebnahlmdaaJFnValueSame4
import Derived.Deep.AppendLies
import Derived.Laws.OwnMore
import Derived.Maps.AppendAt
import Derived.Laws.Slices
import Derived.Test.YtalncebnahlmdaaJFnValueSame5
import Derived.Deep.RegionHeld3
import Derived.Carry
/- Values: a list of values as cells one behind the other, and what lies below them. -/
namespace Go.Proofs.Ytalncebnahlmdaa
open Go.RowKit
/-- the six cells of a value -/
def six (h : Hd) (a : Option Addr) (n c : Nat) : List Value := [.int .i64 h.k, .int .i64 h.m, .int .i64 h.e, .string h.t, .slice a n c, .slice h.na h.ns.length h.nc]
theorem six_length (h : Hd) (a : Option Addr) (n c : Nat) : (six h a n c).length = 6 := rfl
def Vo.cells : Vo → List Value
  | .nil => []
  | .cons h a c kids next => six h a kids.len c ++ next.cells
theorem Vo.cells_length : ∀ F : Vo, F.cells.length = F.len * 6 := by
  intro F
  induction F with
  | nil => rfl
  | cons h a c kids next _ ih => show (six h a kids.len c ++ next.cells).length = (next.len + 1) * 6; rw [List.length_append, ih, six_length]; omega
theorem six_one {h : Hd} {a : Option Addr} {n c : Nat} : ∀ u ∈ six h a n c, u.oneCell' = true := by
  intro u hu
  simp [six] at hu
  rcases hu with hu | hu | hu | hu | hu | hu <;> subst hu <;> rfl
theorem Vo.cells_one : ∀ (F : Vo), ∀ u ∈ F.cells, u.oneCell' = true := by
  intro F
  induction F with
  | nil => intro u hu; cases hu
  | cons h a c kids next _ ih =>
    intro u hu
    rcases List.mem_append.1 (show u ∈ six h a kids.len c ++ next.cells from hu) with hu | hu
    · exact six_one u hu
    · exact ih u hu
/-- one list behind another -/
def Vo.app : Vo → Vo → Vo
  | .nil, G => G
  | .cons h a c kids next, G => .cons h a c kids (next.app G)
theorem Vo.app_cells (F G : Vo) : (F.app G).cells = F.cells ++ G.cells := by
  induction F with
  | nil => rfl
  | cons h a c kids next _ ih => show six h a kids.len c ++ (next.app G).cells = (six h a kids.len c ++ next.cells) ++ G.cells; rw [ih, List.append_assoc]
theorem Vo.app_len (F G : Vo) : (F.app G).len = F.len + G.len := by
  induction F with
  | nil => show G.len = 0 + G.len; omega
  | cons h a c kids next _ ih => show (next.app G).len + 1 = next.len + 1 + G.len; omega
theorem Vo.app_size (F G : Vo) : (F.app G).size = F.size + G.size := by
  induction F with
  | nil => show G.size = 0 + G.size; omega
  | cons h a c kids next _ ih => show kids.size + 1 + (next.app G).size = kids.size + 1 + next.size + G.size; omega
theorem Vo.app_wt (F G : Vo) : (F.app G).wt = F.wt + G.wt := by
  induction F with
  | nil => show G.wt = 0 + G.wt; omega
  | cons h a c kids next _ ih => show h.t.size + kids.wt + sWt h.ns + 1 + (next.app G).wt = h.t.size + kids.wt + sWt h.ns + 1 + next.wt + G.wt; omega
theorem Vo.app_blk {P : Nat → Prop} {F G : Vo} (hF : F.Blk P) (hG : G.Blk P) : (F.app G).Blk P := by
  induction F with
  | nil => exact hG
  | cons h a c kids next _ ih => exact ⟨hF.1, hF.2.1, hF.2.2.1, ih hF.2.2.2⟩
theorem Vo.app_few {N : Nat} {F G : Vo} (hF : F.few N) (hG : G.few N) : (F.app G).few N := by
  induction F with
  | nil => exact hG
  | cons h a c kids next _ ih => exact ⟨hF.1, hF.2.1, ih hF.2.2⟩
theorem Vo.few_mono : ∀ {F : Vo} {N M : Nat}, F.few N → N ≤ M → F.few M := by
  intro F
  induction F with
  | nil => intro N M _ _; trivial
  | cons h a c kids next ih1 ih2 => rintro N M ⟨h1, h2, h3⟩ hM; exact ⟨Nat.le_trans h1 hM, ih1 h2 hM, ih2 h3 hM⟩
theorem Vo.app_alike {F F' G G' : Vo} (x : F.alike F') (y : G.alike G') : (F.app G).alike (F'.app G') := by
  induction F' generalizing F with
  | nil => rw [Vo.alike_nil x]; exact y
  | cons h a c kids next _ ih =>
    obtain ⟨h', a', c', kids', next', rfl, h0, h3, h4⟩ := Vo.alike_cons x
    exact ⟨h0, h3, ih h4⟩
/-- what is in the values of a list lies there -/
def Vo.Kin (w : World) : Vo → Prop
  | .nil => True
  | .cons h a c kids next => (kids = .nil ∨ ∃ b' o', a = some ⟨b', o', none⟩ ∧ kids.From w b' o') ∧ (kids.len ≤ c ∧ c ≤ maxLen) ∧ h.In w ∧ next.Kin w
theorem Vo.app_kin {w : World} {F G : Vo} (hF : F.Kin w) (hG : G.Kin w) : (F.app G).Kin w := by
  induction F with
  | nil => exact hG
  | cons h a c kids next _ ih => exact ⟨hF.1, hF.2.1, hF.2.2.1, ih hF.2.2.2⟩
theorem Vo.from_iff : ∀ {F : Vo} {w : World} {b o : Nat}, F.From w b o ↔ ((∀ i v, F.cells[i]? = some v → w.cell? ⟨b, o + i, none⟩ = some v) ∧ F.Kin w) := by
  intro F
  induction F with
  | nil => intro w b o; exact ⟨fun _ => ⟨fun i v h => (by simp [Vo.cells] at h), trivial⟩, fun _ => trivial⟩
  | cons h a c kids next _ ih =>
    intro w b o
    have hc : ∀ i, (Vo.cons h a c kids next).cells[i + 6]? = next.cells[i]? := fun i => by
      show (six h a kids.len c ++ next.cells)[i + 6]? = _
      rw [List.getElem?_append_right (by rw [six_length]; omega)]; simp [six_length]
    have hl : ∀ i, i < 6 → (Vo.cons h a c kids next).cells[i]? = (six h a kids.len c)[i]? := fun i hi => by
      show (six h a kids.len c ++ next.cells)[i]? = _
      rw [List.getElem?_append_left (by rw [six_length]; omega)]
    constructor
    · rintro ⟨⟨h0, h1, h2, h3, h4, h5⟩, hk, hcc, hh, hn⟩
      obtain ⟨n1, n2⟩ := ih.1 hn
      refine ⟨fun i v hv => ?_, hk, hcc, hh, n2⟩
      by_cases hi : i < 6
      · rw [hl i hi] at hv
        have : i = 0 ∨ i = 1 ∨ i = 2 ∨ i = 3 ∨ i = 4 ∨ i = 5 := by omega
        rcases this with rfl | rfl | rfl | rfl | rfl | rfl
        all_goals (simp [six] at hv; subst hv; assumption)
      · obtain ⟨i, rfl⟩ : ∃ j, i = j + 6 := ⟨i - 6, by omega⟩
        rw [hc] at hv
        have := n1 i v hv
        rw [show o + (i + 6) = o + 6 + i by omega]; exact this
    · rintro ⟨h1, hk, hcc, hh, hn⟩
      refine ⟨⟨h1 0 _ (hl 0 (by omega)), h1 1 _ (hl 1 (by omega)), h1 2 _ (hl 2 (by omega)), h1 3 _ (hl 3 (by omega)), h1 4 _ (hl 4 (by omega)), h1 5 _ (hl 5 (by omega))⟩, hk, hcc, hh, ih.2 ⟨fun i v hv => ?_, hn⟩⟩
      rw [← hc] at hv
      have := h1 _ v hv
      rw [show o + 6 + i = o + (i + 6) by omega]; exact this
theorem Vo.In.kin {F : Vo} {w : World} {a : Option Addr} (h : F.In w a) : F.Kin w := by
  rcases h with rfl | ⟨b, o, _, h⟩
  · trivial
  · exact (Vo.from_iff.1 h).2
theorem Vo.kin_grow {w w' : World} (hb : Below w.heap.size w w') : ∀ {F : Vo}, F.Kin w → F.Kin w' := by
  intro F
  induction F with
  | nil => exact fun _ => trivial
  | cons h a c kids next _ ih =>
    rintro ⟨hk, hc, hh, hn⟩
    refine ⟨?_, hc, hh.grow hb, ih hn⟩
    rcases hk with hk | ⟨b', o', e1, e2⟩
    · exact .inl hk
    · exact .inr ⟨b', o', e1, Vo.from_grow hb _ _ _ e2⟩
theorem Vo.kin_agree {P : Nat → Prop} {w w' : World} (h : ∀ b o v, P b → w.cell? ⟨b, o, none⟩ = some v → w'.cell? ⟨b, o, none⟩ = some v) : ∀ {F : Vo}, F.Blk P → F.Kin w → F.Kin w' := by
  intro F
  induction F with
  | nil => exact fun _ _ => trivial
  | cons hd a c kids next _ ih =>
    rintro ⟨hh, h0, hb1, hb2⟩ ⟨hk, hc, hi, hn⟩
    refine ⟨?_, hc, hi.agree h hh, ih hb2 hn⟩
    rcases hk with hk | ⟨b', o', e1, e2⟩
    · exact .inl hk
    · rcases h0 with h0 | ⟨b'', o'', e3, e4⟩
      · exact .inl h0
      · rw [e1] at e3
        cases e3
        exact .inr ⟨b', o', e1, Vo.from_agree h kids _ _ e4 hb1 e2⟩
/-- a value alone -/
abbrev oneV (h : Hd) (a : Option Addr) (c : Nat) (F : Vo) : Vo := .cons h a c F .nil
theorem Vo.kin_one {w : World} {h : Hd} {a : Option Addr} {c : Nat} {F : Vo} : (oneV h a c F).Kin w ↔ (F.In w a ∧ (F.len ≤ c ∧ c ≤ maxLen) ∧ h.In w) := ⟨fun x => ⟨x.1, x.2.1, x.2.2.1⟩, fun x => ⟨x.1, x.2.1, x.2.2, trivial⟩⟩
theorem Vo.cells_oneV (h : Hd) (a : Option Addr) (c : Nat) (F : Vo) : (oneV h a c F).cells = six h a F.len c := List.append_nil _
end Go.Proofs.Ytalncebnahlmdaa
/- Values: cells that lie somewhere, put behind a slice that is owned; a value put into an object: mathematics. -/
namespace Go.Proofs.Ytalncebnahlmdaa
open Go.RowKit
/-- these cells lie where a slice begins -/
def Lies (w : World) (a : Option Addr) (L : List Value) : Prop := L = [] ∨ ∃ b o, a = some ⟨b, o, none⟩ ∧ ∀ i v, L[i]? = some v → w.cell? ⟨b, o + i, none⟩ = some v
theorem Lies.grow {w w' : World} {a : Option Addr} {L : List Value} (h : Lies w a L) (hb : Below w.heap.size w w') : Lies w' a L := by
  rcases h with h | ⟨b, o, e1, e2⟩
  · exact .inl h
  · exact .inr ⟨b, o, e1, fun i v hv => (hb.cell (p := ⟨b, o + i, none⟩) (World.block_lt_of_cell? w _ (e2 i v hv))).trans (e2 i v hv)⟩
theorem Vo.In.lies {F : Vo} {w : World} {a : Option Addr} (h : F.In w a) : Lies w a F.cells := by
  rcases h with rfl | ⟨b, o, e, h⟩
  · exact .inl rfl
  · exact .inr ⟨b, o, e, (Vo.from_iff.1 h).1⟩
theorem Lies.in {F : Vo} {w : World} {a : Option Addr} (h : Lies w a F.cells) (hk : F.Kin w) : F.In w a := by
  rcases h with h | ⟨b, o, e, h⟩
  · left
    cases F with
    | nil => rfl
    | cons h0 a0 c0 kids next => exact absurd h (by simp [Vo.cells, six])
  · exact .inr ⟨b, o, e, Vo.from_iff.2 ⟨h, hk⟩⟩
/-- texts as cells -/
def texts (ss : List ByteArray) : List Value := ss.map Value.string
theorem texts_length (ss : List ByteArray) : (texts ss).length = ss.length := List.length_map _
theorem texts_one {ss : List ByteArray} : ∀ u ∈ texts ss, u.oneCell' = true := by
  intro u hu
  obtain ⟨s, _, rfl⟩ := List.mem_map.1 hu
  rfl
theorem sfrom_iff : ∀ {ss : List ByteArray} {w : World} {b o : Nat}, SFrom w ss b o ↔ ((∀ i v, (texts ss)[i]? = some v → w.cell? ⟨b, o + i, none⟩ = some v) ∧ ∀ s ∈ ss, s.size ≤ maxLen) := by
  intro ss w b o
  constructor
  · intro h
    constructor
    · intro i v hv
      rw [texts, List.getElem?_map] at hv
      obtain ⟨s, hs, rfl⟩ := Option.map_eq_some_iff.1 hv
      exact (h.at hs).1
    · intro s hs
      obtain ⟨i, hi⟩ := List.getElem?_of_mem hs
      exact (h.at hi).2
  · rintro ⟨h1, h2⟩
    exact SFrom.of fun i s hi => ⟨h1 i _ (by rw [texts, List.getElem?_map, hi]; rfl), h2 s (List.mem_of_getElem? hi)⟩
theorem SIn.lies {ss : List ByteArray} {w : World} {a : Option Addr} (h : SIn w ss a) : Lies w a (texts ss) ∧ ∀ s ∈ ss, s.size ≤ maxLen := by
  rcases h with rfl | ⟨b, o, e, h⟩
  · exact ⟨.inl rfl, fun s hs => by cases hs⟩
  · exact ⟨.inr ⟨b, o, e, (sfrom_iff.1 h).1⟩, (sfrom_iff.1 h).2⟩
theorem Lies.sin {ss : List ByteArray} {w : World} {a : Option Addr} (h : Lies w a (texts ss)) (hs : ∀ s ∈ ss, s.size ≤ maxLen) : SIn w ss a := by
  rcases h with h | ⟨b, o, e, h⟩
  · left
    cases ss with
    | nil => rfl
    | cons s t => exact absurd h (by simp [texts])
  · exact .inr ⟨b, o, e, sfrom_iff.2 ⟨h, hs⟩⟩
theorem own_lies {W : World} {base size : Nat} {e : TypeId} {v : Value} {n : Nat} {xs : List Value} (hown : W.ownsRow base e size v n xs) :
    ∃ a c, v = .slice a n c ∧ Lies W a xs ∧ (n ≤ c ∧ c ≤ maxLen) ∧ (n = 0 ∨ ∃ b, a = some ⟨b, 0, none⟩ ∧ v.ownBlock = some b ∧ base ≤ b) := by
  have hl := hown.1
  rcases hown.2 with ⟨rfl, h0⟩ | ⟨g, cap, cur, rfl, h1, h2, h3, h4, _⟩
  · subst h0
    exact ⟨none, 0, rfl, .inl (List.eq_nil_of_length_eq_zero (by rw [hl]; omega)), ⟨Nat.le_refl _, by unfold maxLen; omega⟩, .inl rfl⟩
  · refine ⟨some ⟨g, 0, none⟩, cap, rfl, .inr ⟨g, 0, rfl, fun i u hi => ?_⟩, ⟨h3, h4⟩, .inr ⟨g, rfl, rfl, h1⟩⟩
    have hl2 : i < n * size := by rw [← hl]; exact (List.getElem?_eq_some_iff.1 hi).1
    rw [Nat.zero_add, hown.cellAt i hl2]; exact hi
/-- what is appended lies where a slice begins -/
def Src (w : World) (a : Option Addr) (m : Nat) (ys : List Value) : Prop := m = 0 ∨ ∃ ad, a = some ad ∧ ∀ j u, ys[j]? = some u → w.cell? (ad.add j) = some u
theorem addr_add (b o n : Nat) : (⟨b, o, none⟩ : Addr).add n = ⟨b, o + n, none⟩ := by
  unfold Addr.add
  split
  · next h => subst h; rfl
  · rfl
theorem Lies.nil_of {w : World} {a : Option Addr} {L : List Value} (h : Lies w a L) {sz n : Nat} (hl : L.length = n * sz) (hz : 0 < sz) : n = 0 ∨ ∃ b o, a = some ⟨b, o, none⟩ ∧ ∀ i v, L[i]? = some v → w.cell? ⟨b, o + i, none⟩ = some v := by
  rcases h with h | h
  · left
    subst h
    have hz2 : n * sz = 0 := by simpa using hl.symm
    rcases Nat.mul_eq_zero.1 hz2 with h1 | h1 <;> omega
  · exact .inr h
theorem Lies.src {w : World} {a : Option Addr} {L : List Value} (h : Lies w a L) {sz n : Nat} (hl : L.length = n * sz) (hz : 0 < sz) : Src w a n L := by
  rcases h.nil_of hl hz with h0 | ⟨b, o, rfl, h2⟩
  · exact .inl h0
  · exact .inr ⟨_, rfl, fun j u hj => by rw [addr_add]; exact h2 j u hj⟩
theorem Lies.take0 {w : World} {a : Option Addr} {L : List Value} (h : Lies w a L) {sz n : Nat} (hl : L.length = n * sz) (hz : 0 < sz) (k : Nat) (hk : k ≤ n) : Src w a k (L.take (k * sz)) := by
  rcases h.nil_of hl hz with h0 | ⟨b, o, rfl, h2⟩
  · exact .inl (by omega)
  · refine .inr ⟨⟨b, o, none⟩, rfl, fun j u hj => ?_⟩
    rw [addr_add]
    refine h2 j u ?_
    rw [List.getElem?_take] at hj
    split at hj
    · exact hj
    · cases hj
theorem Lies.drop {w : World} {a : Option Addr} {L : List Value} (h : Lies w a L) {sz n : Nat} (hl : L.length = n * sz) (hz : 0 < sz) (k c : Nat) (hn : n ≤ c) : Src w (if c = k then a else a.map (·.add (k * sz))) (n - k) (L.drop (k * sz)) := by
  rcases h.nil_of hl hz with h0 | ⟨b, o, rfl, h2⟩
  · exact .inl (by omega)
  · by_cases hc : c = k
    · exact .inl (by omega)
    · refine .inr ⟨⟨b, o + k * sz, none⟩, ?_, fun j u hj => ?_⟩
      · rw [if_neg hc, Option.map_some, addr_add]
      · rw [addr_add, Nat.add_assoc]
        exact h2 _ u (by rw [List.getElem?_drop] at hj; exact hj)
section
variable {P : Program}
theorem run_append_lie (w : World) (base : Nat) (t ty e : TypeId) (i : TypeInfo) (z : Value) (size bytes : Nat) (ht : P.underlying t = some (.slice e)) (hi : P.info? e = some i) (hz : i.zero = some z)
    (hsize : i.size = size) (hby : i.bytes = bytes) (hzs : z.cells.size = size) (hsz : 0 < size)
    (v : Value) (n : Nat) (xs : List Value) (hown : w.ownsRow base e size v n xs)
    (a : Option Addr) (m c : Nat) (news : List Value) (hl : news.length = m * size) (hnews : Src w a m news) (h1 : ∀ u ∈ news, u.oneCell' = true)
    (h63 : n + m ≤ maxLen) (hbytes : (n + m) * bytes ≤ 140737488355328) (hbase : base ≤ w.heap.size) :
    ∃ v' w', (Builtin.append_ #[t, t] ty #[v, .slice a m c]).run P w = .ok v' w' ∧ w'.ownsRow base e size v' (n + m) (xs ++ news) ∧ w.grownBy w' v.ownBlock ∧ (v'.ownBlock = v.ownBlock ∨ v'.ownBlock = some w.heap.size) := by
  cases a with
  | none =>
    have hm : m = 0 := by
      rcases hnews with h | ⟨ad, h, _⟩
      · exact h
      · cases h
    subst hm
    have hy : news = [] := List.eq_nil_of_length_eq_zero (by rw [hl, Nat.zero_mul])
    subst hy
    refine ⟨v, w, ?_, by simpa using hown, ⟨rfl, rfl, rfl, Nat.le_refl _, fun _ _ _ => rfl⟩, .inl rfl⟩
    rcases hown.2 with ⟨rfl, rfl⟩ | ⟨g, cap, cur, rfl, _, _, hnc, _⟩
    · simp [Builtin.append_, run_underlying ht, sizeOf, typeInfo, hi, Builtin.lenOf, Builtin.firstCells]
    · simp [Builtin.append_, run_underlying ht, sizeOf, typeInfo, hi, Builtin.lenOf, Builtin.firstCells, hnc, storeCells]
  | some ad =>
    obtain ⟨v', w', hr, h2, h3, _, h5⟩ := run_append_own_at (P := P) w base t ty e i z size bytes ht hi hz hsize hby hzs hsz v n xs hown ad m c news hl (fun j u hj => by
      rcases hnews with h | ⟨ad', h, h2⟩
      · subst h
        have : news = [] := List.eq_nil_of_length_eq_zero (by rw [hl, Nat.zero_mul])
        subst this
        cases hj
      · cases h
        exact h2 j u hj) h1 h63 hbytes hbase
    exact ⟨v', w', hr, h2, h3, h5⟩
theorem wp_append_lie {o : Oper} {a : Act} {K : Act → World → Prop} {Q : Exit → Act → World → Prop} (w : World) (s x : Operand) (t : TypeId)
    (ho : o.op = .call { callee := .builtin .append, args := #[s, x], argTypes := #[t, t] })
    (base : Nat) (e : TypeId) (i : TypeInfo) (z : Value) (size bytes : Nat) (ht : P.underlying t = some (.slice e)) (hi : P.info? e = some i) (hz : i.zero = some z)
    (hsize : i.size = size) (hby : i.bytes = bytes) (hzs : z.cells.size = size) (hsz : 0 < size)
    (v : Value) (n : Nat) (xs : List Value) (hs : a.eval s = v) (hown : w.ownsRow base e size v n xs) (ad : Option Addr) (m c : Nat) (news : List Value) (hx : a.eval x = .slice ad m c)
    (hl : news.length = m * size) (hnews : Src w ad m news) (h1 : ∀ u ∈ news, u.oneCell' = true) (h63 : n + m ≤ maxLen) (hbytes : (n + m) * bytes ≤ 140737488355328) (hbase : base ≤ w.heap.size)
    (h : ∀ v' w', w'.ownsRow base e size v' (n + m) (xs ++ news) → w.grownBy w' v.ownBlock → (v'.ownBlock = v.ownBlock ∨ v'.ownBlock = some w.heap.size) → K (a.put o.dst v') w') : o.wp P a w K Q := by
  obtain ⟨v', w', hr, h2, h3, h4⟩ := run_append_lie (P := P) w base t o.type e i z size bytes ht hi hz hsize hby hzs hsz v n xs hown ad m c news hl hnews h1 h63 hbytes hbase
  unfold Oper.wp execOp
  simp only [ho, resolve, invoke, builtin, Sem.run_bind, Sem.run_pure, Result.andThen_ok, List.map_toArray, List.map_cons, List.map_nil, hs, hx, hr]
  exact h v' w' h2 h3 h4
end
theorem below_grown {B : Nat} {w W1 W2 : World} {e : TypeId} {size : Nat} {v : Value} {n : Nat} {xs : List Value} (hB : Below B w W1) (hown : W1.ownsRow B e size v n xs) (hg : W1.grownBy W2 v.ownBlock) (hz : B ≤ W1.heap.size) : Below B w W2 :=
  hB.grown hg hz (fun k hk => (hown.lt k hk).1)
/-- where a name goes -/
def plc (s : ByteArray) : List ByteArray → Nat
  | [] => 0
  | x :: t => if Op.bytesLess x.toList s.toList then plc s t + 1 else 0
theorem plc_le (s : ByteArray) (ss : List ByteArray) : plc s ss ≤ ss.length := by
  induction ss with
  | nil => exact Nat.le_refl _
  | cons x t ih => unfold plc; split <;> simp <;> omega
/-- a name put among others -/
def insN (s : ByteArray) (ss : List ByteArray) : List ByteArray := ss.take (plc s ss) ++ s :: ss.drop (plc s ss)
def Vo.take : Vo → Nat → Vo
  | _, 0 => .nil
  | .nil, _ + 1 => .nil
  | .cons h a c kids next, k + 1 => .cons h a c kids (next.take k)
theorem Vo.take_cells : ∀ (F : Vo) (k : Nat), (F.take k).cells = F.cells.take (k * 6) := by
  intro F
  induction F with
  | nil => intro k; cases k <;> simp [Vo.take, Vo.cells]
  | cons h a c kids next _ ih =>
    intro k
    cases k with
    | zero => simp [Vo.take, Vo.cells]
    | succ k =>
      show six h a kids.len c ++ (next.take k).cells = (six h a kids.len c ++ next.cells).take ((k + 1) * 6)
      rw [ih, List.take_append, six_length, List.take_of_length_le (l := six h a kids.len c) (by rw [six_length]; omega), show (k + 1) * 6 - 6 = k * 6 by omega]
theorem Vo.drop_cells : ∀ (F : Vo) (k : Nat), (F.drop k).cells = F.cells.drop (k * 6) := by
  intro F
  induction F with
  | nil => intro k; cases k <;> simp [Vo.drop, Vo.cells]
  | cons h a c kids next _ ih =>
    intro k
    cases k with
    | zero => simp [Vo.drop]
    | succ k =>
      show (next.drop k).cells = (six h a kids.len c ++ next.cells).drop ((k + 1) * 6)
      have hd : (six h a kids.len c).drop ((k + 1) * 6) = [] := List.drop_eq_nil_of_le (by rw [six_length]; omega)
      rw [ih, List.drop_append, six_length, hd, show (k + 1) * 6 - 6 = k * 6 by omega, List.nil_append]
theorem Vo.take_drop : ∀ (F : Vo) (k : Nat), (F.take k).app (F.drop k) = F := by
  intro F
  induction F with
  | nil => intro k; cases k <;> rfl
  | cons h a c kids next _ ih =>
    intro k
    cases k with
    | zero => rfl
    | succ k => show Vo.cons h a c kids ((next.take k).app (next.drop k)) = _; rw [ih]
theorem Vo.app_kin_iff {w : World} {F G : Vo} : (F.app G).Kin w ↔ F.Kin w ∧ G.Kin w := by
  induction F with
  | nil => exact ⟨fun h => ⟨trivial, h⟩, fun h => h.2⟩
  | cons h a c kids next _ ih => exact ⟨fun x => ⟨⟨x.1, x.2.1, x.2.2.1, (ih.1 x.2.2.2).1⟩, (ih.1 x.2.2.2).2⟩, fun x => ⟨x.1.1, x.1.2.1, x.1.2.2.1, ih.2 ⟨x.1.2.2.2, x.2⟩⟩⟩
theorem Vo.app_blk_iff {P : Nat → Prop} {F G : Vo} : (F.app G).Blk P ↔ F.Blk P ∧ G.Blk P := by
  induction F with
  | nil => exact ⟨fun h => ⟨trivial, h⟩, fun h => h.2⟩
  | cons h a c kids next _ ih => exact ⟨fun x => ⟨⟨x.1, x.2.1, x.2.2.1, (ih.1 x.2.2.2).1⟩, (ih.1 x.2.2.2).2⟩, fun x => ⟨x.1.1, x.1.2.1, x.1.2.2.1, ih.2 ⟨x.1.2.2.2, x.2⟩⟩⟩
theorem Vo.app_few_iff {N : Nat} {F G : Vo} : (F.app G).few N ↔ F.few N ∧ G.few N := by
  induction F with
  | nil => exact ⟨fun h => ⟨trivial, h⟩, fun h => h.2⟩
  | cons h a c kids next _ ih => exact ⟨fun x => ⟨⟨x.1, x.2.1, (ih.1 x.2.2).1⟩, (ih.1 x.2.2).2⟩, fun x => ⟨x.1.1, x.1.2.1, ih.2 ⟨x.1.2.2, x.2⟩⟩⟩
/-- a value put among others at a place -/
def insV (X : Vo) (F : Vo) (k : Nat) : Vo := (F.take k).app (X.app (F.drop k))
theorem insV_cells (X F : Vo) (k : Nat) : (insV X F k).cells = F.cells.take (k * 6) ++ (X.cells ++ F.cells.drop (k * 6)) := by
  unfold insV; rw [Vo.app_cells, Vo.app_cells, Vo.take_cells, Vo.drop_cells]
theorem insV_len (X F : Vo) (k : Nat) : (insV X F k).len = F.len + X.len := by
  have := congrArg Vo.len (Vo.take_drop F k)
  rw [Vo.app_len] at this
  unfold insV; rw [Vo.app_len, Vo.app_len]; omega
theorem insV_size (X F : Vo) (k : Nat) : (insV X F k).size = F.size + X.size := by
  have := congrArg Vo.size (Vo.take_drop F k)
  rw [Vo.app_size] at this
  unfold insV; rw [Vo.app_size, Vo.app_size]; omega
theorem insV_kin {w : World} {X F : Vo} {k : Nat} (hX : X.Kin w) (hF : F.Kin w) : (insV X F k).Kin w := by
  rw [← Vo.take_drop F k, Vo.app_kin_iff] at hF
  exact Vo.app_kin hF.1 (Vo.app_kin hX hF.2)
theorem insV_blk {P : Nat → Prop} {X F : Vo} {k : Nat} (hX : X.Blk P) (hF : F.Blk P) : (insV X F k).Blk P := by
  rw [← Vo.take_drop F k, Vo.app_blk_iff] at hF
  exact Vo.app_blk hF.1 (Vo.app_blk hX hF.2)
theorem insV_few {N : Nat} {X F : Vo} {k : Nat} (hX : X.few N) (hF : F.few N) : (insV X F k).few N := by
  rw [← Vo.take_drop F k, Vo.app_few_iff] at hF
  exact Vo.app_few hF.1 (Vo.app_few hX hF.2)
/-- an object in it has a name for each of its values; texts and names are short -/
def Vo.nob : Vo → Prop
  | .nil => True
  | .cons h _ _ kids next => ((h.k = 6 → kids.len ≤ h.ns.length) ∧ h.t.size ≤ 7 ∧ ∀ s ∈ h.ns, s.size ≤ 10) ∧ kids.nob ∧ next.nob
theorem Vo.app_nob {F G : Vo} (hF : F.nob) (hG : G.nob) : (F.app G).nob := by
  induction F with
  | nil => exact hG
  | cons h a c kids next _ ih => exact ⟨hF.1, hF.2.1, ih hF.2.2⟩
theorem Vo.app_nob_iff {F G : Vo} : (F.app G).nob ↔ F.nob ∧ G.nob := by
  induction F with
  | nil => exact ⟨fun h => ⟨trivial, h⟩, fun h => h.2⟩
  | cons h a c kids next _ ih => exact ⟨fun x => ⟨⟨x.1, x.2.1, (ih.1 x.2.2).1⟩, (ih.1 x.2.2).2⟩, fun x => ⟨x.1.1, x.1.2.1, ih.2 ⟨x.1.2.2, x.2⟩⟩⟩
theorem insV_nob {X F : Vo} {k : Nat} (hX : X.nob) (hF : F.nob) : (insV X F k).nob := by
  rw [← Vo.take_drop F k, Vo.app_nob_iff] at hF
  exact Vo.app_nob hF.1 (Vo.app_nob hX hF.2)
theorem Vo.nob_alike : ∀ {F G : Vo}, F.alike G → G.nob → F.nob := by
  intro F G
  induction G generalizing F with
  | nil => intro x _; rw [Vo.alike_nil x]; trivial
  | cons h a c kids next ih1 ih2 =>
    rintro x ⟨h1, h2, h3⟩
    obtain ⟨h', a', c', kids', next', rfl, h0, h4, h5⟩ := Vo.alike_cons x
    refine ⟨⟨fun e => ?_, by rw [h0.1.2.2.2]; exact h1.2.1, by rw [h0.2]; exact h1.2.2⟩, ih1 h4 h2, ih2 h5 h3⟩
    rw [Vo.alike_len h4, h0.2]
    exact h1.1 (h0.1.1.symm.trans e)
/-- few names, and enough for an object -/
def fw (h : Hd) (F : Vo) : Prop := F.few 4 ∧ (h.k = 6 → F.len ≤ h.ns.length) ∧ F.nob
end Go.Proofs.Ytalncebnahlmdaa
/- Values: a value put into an object, by the specification: the two regions with three appends each. -/
namespace Go.Proofs.Ytalncebnahlmdaa
open Go.RowKit
theorem textInfo : (Try.prog.info? 9).map (fun i => (i.zero, i.size, i.bytes)) = some (some (.string ⟨#[]⟩), 1, 16) := by kernel_rfl
theorem own_nothing (W : World) (B size : Nat) (e : TypeId) (hB : B ≤ W.heap.size) : (W.alloc (.cells #[] e)).ownsRow B e size (.slice (some ⟨W.heap.size, 0, none⟩) 0 0) 0 [] := World.ownsRow_lit W #[] 0 hB (by unfold maxLen; omega) (by simp)
/-- cells in a block of their own -/
def Own0 (w : World) (B g : Nat) (L : List Value) : Prop := B ≤ g ∧ g < w.heap.size ∧ ∀ i v, L[i]? = some v → w.cell? ⟨g, i, none⟩ = some v
theorem Own0.new (w : World) (B : Nat) (L : List Value) (T : TypeId) (h : B ≤ w.heap.size) : Own0 (w.alloc (.cells L.toArray T)) B w.heap.size L := ⟨h, by simp, fun i v hi => by rw [World.cell?_alloc_new]; simpa using hi⟩
theorem Own0.below {w w' : World} {B g : Nat} {L : List Value} (h : Own0 w B g L) (hb : Below w.heap.size w w') : Own0 w' B g L := ⟨h.1, Nat.lt_of_lt_of_le h.2.1 hb.size, fun i v hi => (hb.cell (p := ⟨g, i, none⟩) h.2.1).trans (h.2.2 i v hi)⟩
theorem Own0.grown {w w' : World} {B g : Nat} {L : List Value} {r : Option Nat} (h : Own0 w B g L) (hg : w.grownBy w' r) (hr : r ≠ some g) : Own0 w' B g L := ⟨h.1, Nat.lt_of_lt_of_le h.2.1 hg.size, fun i v hi => hg.cell (h.2.2 i v hi) (fun e => hr e.symm)⟩
theorem Own0.src {w : World} {B g : Nat} {L : List Value} (h : Own0 w B g L) (m : Nat) : Src w (some ⟨g, 0, none⟩) m L := .inr ⟨_, rfl, fun j u hj => by rw [addr_add, Nat.zero_add]; exact h.2.2 j u hj⟩
theorem own_keep {w w' : World} {base : Nat} {e : TypeId} {size : Nat} {v : Value} {n : Nat} {xs : List Value} (h : w.ownsRow base e size v n xs) (hb : Below w.heap.size w w') : w'.ownsRow base e size v n xs := by
  obtain ⟨h1, h2⟩ := h
  refine ⟨h1, ?_⟩
  rcases h2 with h2 | ⟨g, cap, cur, e1, e2, e3, e4, e5, e6, e7⟩
  · exact .inl h2
  · exact .inr ⟨g, cap, cur, e1, e2, by rw [hb.block g (Array.getElem?_eq_some_iff.1 e3).1]; exact e3, e4, e5, e6, e7⟩
set_option maxRecDepth 100000 in
set_option maxHeartbeats 2000000 in
theorem u7 {Q : Exit → Act → World → Prop} {t0 t2 t3 t5 t6 t7 t8 t9 t12 t13 t14 t15 t16 t17 t18 t19 t20 t21 t22 t23 t24 t25 t26 t27 t28 t29 t30 t31 t32 t33 t34 t35 t36 t37 t38 t39 t40 t41 t42 t43 t44 t45 t46 t47 t48 t49 t50 t51 t52 t53 t54 t55 t56 t57 t58 t59 t60 t61 t62 t63 t64 t65 : Value} {W : World} {vb ob k n : Nat} {na : Option Addr} {nc : Nat} {L : List Value} {s : ByteArray}
    (hnv : ¬ vb = ob) (hv : W.cell? ⟨vb, 5, none⟩ = some (.slice na n nc)) (hL : Lies W na L) (hl : L.length = n * 1) (h1 : ∀ u ∈ L, u.oneCell' = true) (hn : n ≤ nc ∧ nc ≤ maxLen) (hk : k ≤ n) (hN : n ≤ 1100000) (hob : ∃ u, W.cell? ⟨ob, 5, none⟩ = some u) (hof : W.frozen? ⟨ob, 5, none⟩ = false)
    (hp : ∀ p d v a w, Q (.panic p) (Act.put a d v) w → Q (.panic p) a w) (h : ∀ W1 v' v34 v35 v36 v37 v38 v39 v40 v41 v42 v43 v44 v45 v46 v48, Below W.heap.size W W1 → W1.ownsRow W.heap.size 9 1 v' (n + 1) (L.take (k * 1) ++ ([Value.string s] ++ L.drop (k * 1))) → Q .normal { tmps := (t0 :: .string s :: t2 :: t3 :: .pointer (some ⟨vb, 0, none⟩) :: t5 :: t6 :: t7 :: t8 :: t9 :: .int .i64 (k : Nat) :: .pointer (some ⟨ob, 0, none⟩) :: t12 :: t13 :: t14 :: t15 :: t16 :: t17 :: t18 :: t19 :: t20 :: t21 :: t22 :: t23 :: t24 :: t25 :: t26 :: t27 :: t28 :: t29 :: t30 :: t31 :: t32 :: t33 :: v34 :: v35 :: v36 :: v37 :: v38 :: v39 :: v40 :: v41 :: v42 :: v43 :: v44 :: v45 :: v46 :: v' :: v48 :: t49 :: t50 :: t51 :: t52 :: t53 :: t54 :: t55 :: t56 :: t57 :: t58 :: t59 :: t60 :: t61 :: t62 :: t63 :: t64 :: t65 :: []).toArray, defers := [] } (W1.setCell ⟨ob, 5, none⟩ v')) :
    Code.wp Try.prog (Code.region 7 #[{ dst := some 34, op := Op.buildSlice 26 0 #[], type := 26, pos := "l7_value.go:308", after := #[], guard := none }, { dst := some 35, op := Op.fieldAddr 28 (Operand.tmp 4) 4, type := 0, pos := "l7_value.go:308", after := #[], guard := none }, { dst := some 36, op := Op.load 26 (Operand.tmp 35), type := 26, pos := "l7_value.go:308", after := #[{ on := 1, ground := Ground.data }], guard := none }, { dst := some 37, op := Op.move (Operand.tmp 10), type := 3, pos := "l7_value.go:308", after := #[], guard := none }, { dst := some 38, op := Op.slice 26 (Operand.tmp 36) none (some (Operand.tmp 37)) none, type := 26, pos := "l7_value.go:308", after := #[{ on := 2, ground := Ground.data }, { on := 3, ground := Ground.data }], guard := none }, { dst := some 39, op := Op.call { callee := Callee.builtin Builtin.append, args := #[Operand.tmp 34, Operand.tmp 38], argTypes := #[26, 26] }, type := 26, pos := "l7_value.go:308", after := #[{ on := 0, ground := Ground.data }, { on := 4, ground := Ground.data }], guard := none }, { dst := some 40, op := Op.move (Operand.tmp 1), type := 9, pos := "l7_value.go:308", after := #[], guard := none }, { dst := some 41, op := Op.buildSlice 26 1 #[(0, Operand.tmp 40)], type := 26, pos := "l7_value.go:308", after := #[{ on := 6, ground := Ground.data }], guard := none }, { dst := some 42, op := Op.call { callee := Callee.builtin Builtin.append, args := #[Operand.tmp 39, Operand.tmp 41], argTypes := #[26, 26] }, type := 26, pos := "l7_value.go:308", after := #[{ on := 5, ground := Ground.data }, { on := 7, ground := Ground.data }, { on := 5, ground := Ground.chain }], guard := none }, { dst := some 43, op := Op.fieldAddr 28 (Operand.tmp 4) 4, type := 0, pos := "l7_value.go:308", after := #[], guard := none }, { dst := some 44, op := Op.load 26 (Operand.tmp 43), type := 26, pos := "l7_value.go:308", after := #[{ on := 9, ground := Ground.data }], guard := none }, { dst := some 45, op := Op.move (Operand.tmp 10), type := 3, pos := "l7_value.go:308", after := #[], guard := none }, { dst := some 46, op := Op.slice 26 (Operand.tmp 44) (some (Operand.tmp 45)) none none, type := 26, pos := "l7_value.go:308", after := #[{ on := 10, ground := Ground.data }, { on := 11, ground := Ground.data }], guard := none }, { dst := some 47, op := Op.call { callee := Callee.builtin Builtin.append, args := #[Operand.tmp 42, Operand.tmp 46], argTypes := #[26, 26] }, type := 26, pos := "l7_value.go:308", after := #[{ on := 8, ground := Ground.data }, { on := 12, ground := Ground.data }, { on := 8, ground := Ground.chain }], guard := none }, { dst := some 48, op := Op.fieldAddr 28 (Operand.tmp 11) 4, type := 0, pos := "l7_value.go:308", after := #[{ on := 0, ground := Ground.phase }, { on := 1, ground := Ground.phase }, { on := 2, ground := Ground.phase }, { on := 3, ground := Ground.phase }, { on := 4, ground := Ground.phase }, { on := 5, ground := Ground.phase }, { on := 6, ground := Ground.phase }, { on := 7, ground := Ground.phase }, { on := 8, ground := Ground.phase }, { on := 9, ground := Ground.phase }, { on := 10, ground := Ground.phase }, { on := 11, ground := Ground.phase }, { on := 12, ground := Ground.phase }, { on := 13, ground := Ground.phase }], guard := none }, { dst := none, op := Op.store 26 (Operand.tmp 48) (Operand.tmp 47), type := 0, pos := "l7_value.go:308", after := #[{ on := 14, ground := Ground.data }, { on := 13, ground := Ground.data }, { on := 13, ground := Ground.chain }, { on := 0, ground := Ground.phase }, { on := 1, ground := Ground.phase }, { on := 2, ground := Ground.phase }, { on := 3, ground := Ground.phase }, { on := 4, ground := Ground.phase }, { on := 5, ground := Ground.phase }, { on := 6, ground := Ground.phase }, { on := 7, ground := Ground.phase }, { on := 8, ground := Ground.phase }, { on := 9, ground := Ground.phase }, { on := 10, ground := Ground.phase }, { on := 11, ground := Ground.phase }, { on := 12, ground := Ground.phase }, { on := 13, ground := Ground.phase }], guard := none }] true) Q { tmps := (t0 :: .string s :: t2 :: t3 :: .pointer (some ⟨vb, 0, none⟩) :: t5 :: t6 :: t7 :: t8 :: t9 :: .int .i64 (k : Nat) :: .pointer (some ⟨ob, 0, none⟩) :: t12 :: t13 :: t14 :: t15 :: t16 :: t17 :: t18 :: t19 :: t20 :: t21 :: t22 :: t23 :: t24 :: t25 :: t26 :: t27 :: t28 :: t29 :: t30 :: t31 :: t32 :: t33 :: t34 :: t35 :: t36 :: t37 :: t38 :: t39 :: t40 :: t41 :: t42 :: t43 :: t44 :: t45 :: t46 :: t47 :: t48 :: t49 :: t50 :: t51 :: t52 :: t53 :: t54 :: t55 :: t56 :: t57 :: t58 :: t59 :: t60 :: t61 :: t62 :: t63 :: t64 :: t65 :: []).toArray, defers := [] } W := by
  obtain ⟨i0, hi, hz0, hz1, hz2⟩ := info_parts textInfo
  obtain ⟨hn1, hn2⟩ := hn
  unfold maxLen at hn2
  have hvl := World.block_lt_of_cell? W _ hv
  obtain ⟨ou, hou⟩ := hob
  have hol := World.block_lt_of_cell? W _ hou
  have HV : Hid (∀ w', Below W.heap.size W w' → w'.cell? ⟨vb, 5, none⟩ = some (.slice na n nc)) := fun w' h => (h.cell (p := ⟨vb, 5, none⟩) hvl).trans hv
  have HO : Hid (∀ w', Below W.heap.size W w' → w'.cell? ⟨ob, 5, none⟩ = some ou ∧ w'.frozen? ⟨ob, 5, none⟩ = false) := fun w' h => ⟨(h.cell (p := ⟨ob, 5, none⟩) hol).trans hou, (h.frozen (p := ⟨ob, 5, none⟩) hol).trans hof⟩
  have HT : Hid (∀ w', Below W.heap.size W w' → Src w' na k (L.take (k * 1))) := fun w' h => Lies.take0 (hL.grow h) hl (by omega) k hk
  have HD : Hid (∀ w', Below W.heap.size W w' → Src w' (if nc = k then na else na.map (fun x => x.add (k))) (n - k) (L.drop (k * 1))) := fun w' h => by have := Lies.drop (hL.grow h) hl (by omega) k nc hn1; simpa using this
  have HL : Hid ((L.take (k * 1)).length = k * 1 ∧ (L.drop (k * 1)).length = (n - k) * 1) := ⟨by rw [List.length_take, hl]; exact Nat.min_eq_left (Nat.mul_le_mul_right _ hk), by rw [List.length_drop, hl, Nat.sub_mul]⟩
  have H1 : Hid ((∀ u ∈ L.take (k * 1), u.oneCell' = true) ∧ (∀ u ∈ L.drop (k * 1), u.oneCell' = true)) := ⟨fun u hu => h1 u (List.mem_of_mem_take hu), fun u hu => h1 u (List.mem_of_mem_drop hu)⟩
  clear hv hL hl h1 hou hof
  have HS : Hid (∀ w', Below W.heap.size W w' → (w'.cell? ⟨vb, 5, none⟩ = some (.slice na n nc))) := fun w' h => HV.out w' h
  have hB0 : Below W.heap.size W W.drew := (Below.refl _ W).drew
  have hS0 := HS.out _ hB0
  refine wp_region_held_drew (S := fun w' => w'.cell? ⟨vb, 5, none⟩ = some (.slice na n nc)) (by kernel_rfl) hS0 (fun hHeld => ?_)
  generalize W.drew = Wd at *
  refine wpAnyH_take (i := 1) (v := .pointer (some ⟨vb, 5, none⟩)) rfl (by kernel_rfl) (by kernel_rfl) (by kernel_rfl) (fun _ _ _ h => hp _ _ _ _ _ h) (Or.inl ⟨by rfl, ?_⟩) (by assumption) ?_
  · intro w hSw
    (try dsimp only at hSw)
    go_simp
  (try simp only [Act.put, List.getElem_toArray, List.getElem_cons_zero, List.getElem_cons_succ, List.setIfInBounds_toArray, List.set_cons_zero, List.set_cons_succ])
  refine wpAnyH_take (i := 2) (v := .slice na n nc) rfl (by kernel_rfl) (by kernel_rfl) (by kernel_rfl) (fun _ _ _ h => hp _ _ _ _ _ h) (Or.inl ⟨by rfl, ?_⟩) (by assumption) ?_
  · intro w hSw
    (try dsimp only at hSw)
    (go_simp)
  (try simp only [Act.put, List.getElem_toArray, List.getElem_cons_zero, List.getElem_cons_succ, List.setIfInBounds_toArray, List.set_cons_zero, List.set_cons_succ])
  refine wpAnyH_take (i := 3) (v := .int .i64 (k : Nat)) rfl (by kernel_rfl) (by kernel_rfl) (by kernel_rfl) (fun _ _ _ h => hp _ _ _ _ _ h) (Or.inl ⟨by rfl, ?_⟩) (by assumption) ?_
  · intro w hSw
    (try dsimp only at hSw)
    go_simp
  (try simp only [Act.put, List.getElem_toArray, List.getElem_cons_zero, List.getElem_cons_succ, List.setIfInBounds_toArray, List.set_cons_zero, List.set_cons_succ])
  refine wpAnyH_take (i := 4) (v := .slice na k nc) rfl (by kernel_rfl) (by kernel_rfl) (by kernel_rfl) (fun _ _ _ h => hp _ _ _ _ _ h) (Or.inl ⟨by rfl, ?_⟩) (by assumption) ?_
  · intro w hSw
    (try dsimp only at hSw)
    (go_simp <;> first | done | omega | (simp [sliced]; omega) | simp [sliced])
  (try simp only [Act.put, List.getElem_toArray, List.getElem_cons_zero, List.getElem_cons_succ, List.setIfInBounds_toArray, List.set_cons_zero, List.set_cons_succ])
  refine wpAnyH_take (i := 6) (v := .string s) rfl (by kernel_rfl) (by kernel_rfl) (by kernel_rfl) (fun _ _ _ h => hp _ _ _ _ _ h) (Or.inl ⟨by rfl, ?_⟩) (by assumption) ?_
  · intro w hSw
    (try dsimp only at hSw)
    go_simp
  (try simp only [Act.put, List.getElem_toArray, List.getElem_cons_zero, List.getElem_cons_succ, List.setIfInBounds_toArray, List.set_cons_zero, List.set_cons_succ])
  refine wpAnyH_take (i := 9) (v := .pointer (some ⟨vb, 5, none⟩)) rfl (by kernel_rfl) (by kernel_rfl) (by kernel_rfl) (fun _ _ _ h => hp _ _ _ _ _ h) (Or.inl ⟨by rfl, ?_⟩) (by assumption) ?_
  · intro w hSw
    (try dsimp only at hSw)
    go_simp
  (try simp only [Act.put, List.getElem_toArray, List.getElem_cons_zero, List.getElem_cons_succ, List.setIfInBounds_toArray, List.set_cons_zero, List.set_cons_succ])
  refine wpAnyH_take (i := 10) (v := .slice na n nc) rfl (by kernel_rfl) (by kernel_rfl) (by kernel_rfl) (fun _ _ _ h => hp _ _ _ _ _ h) (Or.inl ⟨by rfl, ?_⟩) (by assumption) ?_
  · intro w hSw
    (try dsimp only at hSw)
    (go_simp)
  (try simp only [Act.put, List.getElem_toArray, List.getElem_cons_zero, List.getElem_cons_succ, List.setIfInBounds_toArray, List.set_cons_zero, List.set_cons_succ])
  refine wpAnyH_take (i := 11) (v := .int .i64 (k : Nat)) rfl (by kernel_rfl) (by kernel_rfl) (by kernel_rfl) (fun _ _ _ h => hp _ _ _ _ _ h) (Or.inl ⟨by rfl, ?_⟩) (by assumption) ?_
  · intro w hSw
    (try dsimp only at hSw)
    go_simp
  (try simp only [Act.put, List.getElem_toArray, List.getElem_cons_zero, List.getElem_cons_succ, List.setIfInBounds_toArray, List.set_cons_zero, List.set_cons_succ])
  refine wpAnyH_take (i := 12) (v := .slice (if nc = k then na else na.map (fun x => x.add (k))) (n - k) (nc - k)) rfl (by kernel_rfl) (by kernel_rfl) (by kernel_rfl) (fun _ _ _ h => hp _ _ _ _ _ h) (Or.inl ⟨by rfl, ?_⟩) (by assumption) ?_
  · intro w hSw
    (try dsimp only at hSw)
    (go_simp <;> first | done | omega | (simp [sliced]; omega) | simp [sliced])
  (try simp only [Act.put, List.getElem_toArray, List.getElem_cons_zero, List.getElem_cons_succ, List.setIfInBounds_toArray, List.set_cons_zero, List.set_cons_succ])
  clear hS0 hHeld
  refine wpAnyH_ready (rs := [0, 7]) (by kernel_rfl) (by simp) ?_
  refine AllReadyH.cons rfl (fun K hK => ?_) (AllReadyH.cons rfl (fun K hK => ?_) AllReadyH.nil)
  · skip
    go_simp
    obtain ⟨g0, hg0⟩ : ∃ g, Wd.heap.size = g := ⟨_, rfl⟩
    have hz0 := hB0.size
    have hown := own_nothing Wd W.heap.size 1 9 hB0.size
    have hB1 := hB0.alloc hB0.size (.cells #[] 9)
    refine hK.out _ _ (HS.out _ hB1) (fun hHeld => ?_)
    clear hK K hHeld hB0
    have hB0 := hB1
    clear hB1
    rw [hg0] at hown ⊢
    obtain ⟨vo, hvo⟩ : ∃ vo, vo = Value.slice (some ⟨g0, 0, none⟩) 0 0 := ⟨_, rfl⟩
    rw [← hvo] at hown ⊢
    clear hvo
    generalize Wd.alloc (.cells #[] 9) = W83 at *
    clear hg0 hz0
    refine wpAnyH_ready (rs := [5, 7]) (by kernel_rfl) (by simp) ?_
    refine AllReadyH.cons rfl (fun K hK => ?_) (AllReadyH.cons rfl (fun K hK => ?_) AllReadyH.nil)
    · skip
      refine wp_append_lie W83 _ _ 26 rfl W.heap.size 9 i0 _ 1 16 Try.underlying26 hi hz0 hz1 hz2 rfl (by decide) vo 0 [] rfl hown na k nc (L.take (k * 1)) rfl HL.out.1 (HT.out _ hB0) H1.out.1 (by unfold maxLen; omega) (by omega) hB0.size ?_
      intro vo2 W88 hown2 hgr hbl
      have hB1 := below_grown hB0 hown hgr hB0.size
      refine hK.out _ _ (HS.out _ hB1) (fun hHeld => ?_)
      clear hK K hHeld hB0 hown hgr hbl
      have hB0 := hB1
      clear hB1
      have hown := hown2
      clear hown2
      (try simp only [Act.put, List.getElem_toArray, List.getElem_cons_zero, List.getElem_cons_succ, List.setIfInBounds_toArray, List.set_cons_zero, List.set_cons_succ])
      rw [List.nil_append, Nat.zero_add] at hown
      skip
      refine wpAnyH_ready (rs := [7]) (by kernel_rfl) (by simp) ?_
      refine AllReadyH.cons rfl (fun K hK => ?_) AllReadyH.nil
      go_simp
      obtain ⟨g7, hg7⟩ : ∃ g, W88.heap.size = g := ⟨_, rfl⟩
      have hel : Own0 (W88.alloc (.cells #[.string s] 9)) W.heap.size W88.heap.size ([Value.string s]) := Own0.new W88 W.heap.size [.string s] 9 hB0.size
      have hown2 := own_keep hown ((Below.refl _ W88).alloc (Nat.le_refl _) (.cells #[.string s] 9))
      have hne : ∀ r, Value.ownBlock vo2 = some r → r ≠ g7 := fun r hr => by have := (hown.lt r hr).2; omega
      clear hown
      have hown := hown2
      clear hown2
      have hB1 := hB0.alloc hB0.size (.cells #[.string s] 9)
      refine hK.out _ _ (HS.out _ hB1) (fun hHeld => ?_)
      clear hK K hHeld hB0
      have hB0 := hB1
      clear hB1
      rw [hg7] at hel ⊢
      generalize W88.alloc (.cells #[.string s] 9) = W104 at *
      clear hg7
      refine wpAnyH_ready (rs := [8]) (by kernel_rfl) (by simp) ?_
      refine AllReadyH.cons rfl (fun K hK => ?_) AllReadyH.nil
      refine wp_append_lie W104 _ _ 26 rfl W.heap.size 9 i0 _ 1 16 Try.underlying26 hi hz0 hz1 hz2 rfl (by decide) vo2 k _ rfl hown (some ⟨g7, 0, none⟩) 1 1 ([Value.string s]) rfl rfl (hel.src 1) (fun u hu => by simp at hu; subst hu; rfl) (by unfold maxLen; omega) (by omega) hB0.size ?_
      intro vo3 W118 hown2 hgr _
      have hB1 := below_grown hB0 hown hgr hB0.size
      refine hK.out _ _ (HS.out _ hB1) (fun hHeld => ?_)
      clear hK K hHeld hB0 hown hgr hel hne
      have hB0 := hB1
      clear hB1
      have hown := hown2
      clear hown2
      (try simp only [Act.put, List.getElem_toArray, List.getElem_cons_zero, List.getElem_cons_succ, List.setIfInBounds_toArray, List.set_cons_zero, List.set_cons_succ])
      refine wpAnyH_ready (rs := [13]) (by kernel_rfl) (by simp) ?_
      refine AllReadyH.cons rfl (fun K hK => ?_) AllReadyH.nil
      refine wp_append_lie W118 _ _ 26 rfl W.heap.size 9 i0 _ 1 16 Try.underlying26 hi hz0 hz1 hz2 rfl (by decide) vo3 (k + 1) _ rfl hown (if nc = k then na else na.map (fun x => x.add (k))) (n - k) (nc - k) (L.drop (k * 1)) rfl HL.out.2 (HD.out _ hB0) H1.out.2 (by unfold maxLen; omega) (by omega) hB0.size ?_
      intro v' W118b hown2 hgr _
      have hB1 := below_grown hB0 hown hgr hB0.size
      refine hK.out _ _ (HS.out _ hB1) (fun hHeld => ?_)
      clear hK K hB0 hown hgr
      (try simp only [Act.put, List.getElem_toArray, List.getElem_cons_zero, List.getElem_cons_succ, List.setIfInBounds_toArray, List.set_cons_zero, List.set_cons_succ])
      refine wpAnyH_take (i := 14) (v := .pointer (some ⟨ob, 5, none⟩)) rfl (by kernel_rfl) (by kernel_rfl) (by kernel_rfl) (fun _ _ _ h => hp _ _ _ _ _ h) (Or.inl ⟨by rfl, ?_⟩) (by assumption) ?_
      · intro w hSw
        (try dsimp only at hSw)
        go_simp
      (try simp only [Act.put, List.getElem_toArray, List.getElem_cons_zero, List.getElem_cons_succ, List.setIfInBounds_toArray, List.set_cons_zero, List.set_cons_succ])
      obtain ⟨hoc, hofz⟩ := HO.out _ hB1
      rw [show k + 1 + (n - k) = n + 1 by omega, List.append_assoc] at hown2
      obtain ⟨g9, c9, rfl, _, _⟩ := hown2.form (by omega)
      refine wpAnyH_ready (rs := [15]) (by kernel_rfl) (by simp) ?_
      refine AllReadyH.cons rfl (fun K hK => ?_) AllReadyH.nil
      go_simp
      refine hK.out _ _ ?_ (fun hHeld => ?_)
      · exact (World.cell?_setCell_other _ _ _ _ (fun e => hnv (by simpa using congrArg Addr.block e.symm))).trans (HV.out _ hB1)
      refine wpAnyH_done (by kernel_rfl) ?_ _
      exact h _ _ _ _ _ _ _ _ _ _ _ _ _ _ _ _ hB1 hown2
    · skip
      go_simp
      obtain ⟨g7, hg7⟩ : ∃ g, W83.heap.size = g := ⟨_, rfl⟩
      have hz7 := hB0.size
      have hel : Own0 (W83.alloc (.cells #[.string s] 9)) W.heap.size W83.heap.size ([Value.string s]) := Own0.new W83 W.heap.size [.string s] 9 hB0.size
      have hown2 := own_keep hown ((Below.refl _ W83).alloc (Nat.le_refl _) (.cells #[.string s] 9))
      have hne : ∀ r, Value.ownBlock vo = some r → r ≠ g7 := fun r hr => by have := (hown.lt r hr).2; omega
      clear hown
      have hown := hown2
      clear hown2
      have hB1 := hB0.alloc hB0.size (.cells #[.string s] 9)
      refine hK.out _ _ (HS.out _ hB1) (fun hHeld => ?_)
      clear hK K hHeld hB0
      have hB0 := hB1
      clear hB1
      rw [hg7] at hel ⊢
      generalize W83.alloc (.cells #[.string s] 9) = W169 at *
      clear hg7 hz7
      refine wpAnyH_ready (rs := [5]) (by kernel_rfl) (by simp) ?_
      refine AllReadyH.cons rfl (fun K hK => ?_) AllReadyH.nil
      refine wp_append_lie W169 _ _ 26 rfl W.heap.size 9 i0 _ 1 16 Try.underlying26 hi hz0 hz1 hz2 rfl (by decide) vo 0 [] rfl hown na k nc (L.take (k * 1)) rfl HL.out.1 (HT.out _ hB0) H1.out.1 (by unfold maxLen; omega) (by omega) hB0.size ?_
      intro vo2 W173 hown2 hgr hbl
      have hB1 := below_grown hB0 hown hgr hB0.size
      have hel2 := hel.grown hgr (fun e => hne _ e rfl)
      have hne2 : ∀ r, Value.ownBlock vo2 = some r → r ≠ g7 := fun r hr => by
        rcases hbl with hbl | hbl
        · exact hne r (hbl ▸ hr)
        · rw [hbl] at hr; cases hr; have := hel.2.1; omega
      refine hK.out _ _ (HS.out _ hB1) (fun hHeld => ?_)
      clear hK K hHeld hB0 hown hgr hbl hne hel
      have hB0 := hB1
      clear hB1
      have hown := hown2
      clear hown2
      (try simp only [Act.put, List.getElem_toArray, List.getElem_cons_zero, List.getElem_cons_succ, List.setIfInBounds_toArray, List.set_cons_zero, List.set_cons_succ])
      have hel := hel2
      have hne := hne2
      clear hel2 hne2
      rw [List.nil_append, Nat.zero_add] at hown
      skip
      refine wpAnyH_ready (rs := [8]) (by kernel_rfl) (by simp) ?_
      refine AllReadyH.cons rfl (fun K hK => ?_) AllReadyH.nil
      refine wp_append_lie W173 _ _ 26 rfl W.heap.size 9 i0 _ 1 16 Try.underlying26 hi hz0 hz1 hz2 rfl (by decide) vo2 k _ rfl hown (some ⟨g7, 0, none⟩) 1 1 ([Value.string s]) rfl rfl (hel.src 1) (fun u hu => by simp at hu; subst hu; rfl) (by unfold maxLen; omega) (by omega) hB0.size ?_
      intro vo3 W193 hown2 hgr _
      have hB1 := below_grown hB0 hown hgr hB0.size
      refine hK.out _ _ (HS.out _ hB1) (fun hHeld => ?_)
      clear hK K hHeld hB0 hown hgr hel hne
      have hB0 := hB1
      clear hB1
      have hown := hown2
      clear hown2
      (try simp only [Act.put, List.getElem_toArray, List.getElem_cons_zero, List.getElem_cons_succ, List.setIfInBounds_toArray, List.set_cons_zero, List.set_cons_succ])
      refine wpAnyH_ready (rs := [13]) (by kernel_rfl) (by simp) ?_
      refine AllReadyH.cons rfl (fun K hK => ?_) AllReadyH.nil
      refine wp_append_lie W193 _ _ 26 rfl W.heap.size 9 i0 _ 1 16 Try.underlying26 hi hz0 hz1 hz2 rfl (by decide) vo3 (k + 1) _ rfl hown (if nc = k then na else na.map (fun x => x.add (k))) (n - k) (nc - k) (L.drop (k * 1)) rfl HL.out.2 (HD.out _ hB0) H1.out.2 (by unfold maxLen; omega) (by omega) hB0.size ?_
      intro v' W193b hown2 hgr _
      have hB1 := below_grown hB0 hown hgr hB0.size
      refine hK.out _ _ (HS.out _ hB1) (fun hHeld => ?_)
      clear hK K hB0 hown hgr
      (try simp only [Act.put, List.getElem_toArray, List.getElem_cons_zero, List.getElem_cons_succ, List.setIfInBounds_toArray, List.set_cons_zero, List.set_cons_succ])
      refine wpAnyH_take (i := 14) (v := .pointer (some ⟨ob, 5, none⟩)) rfl (by kernel_rfl) (by kernel_rfl) (by kernel_rfl) (fun _ _ _ h => hp _ _ _ _ _ h) (Or.inl ⟨by rfl, ?_⟩) (by assumption) ?_
      · intro w hSw
        (try dsimp only at hSw)
        go_simp
      (try simp only [Act.put, List.getElem_toArray, List.getElem_cons_zero, List.getElem_cons_succ, List.setIfInBounds_toArray, List.set_cons_zero, List.set_cons_succ])
      obtain ⟨hoc, hofz⟩ := HO.out _ hB1
      rw [show k + 1 + (n - k) = n + 1 by omega, List.append_assoc] at hown2
      obtain ⟨g9, c9, rfl, _, _⟩ := hown2.form (by omega)
      refine wpAnyH_ready (rs := [15]) (by kernel_rfl) (by simp) ?_
      refine AllReadyH.cons rfl (fun K hK => ?_) AllReadyH.nil
      go_simp
      refine hK.out _ _ ?_ (fun hHeld => ?_)
      · exact (World.cell?_setCell_other _ _ _ _ (fun e => hnv (by simpa using congrArg Addr.block e.symm))).trans (HV.out _ hB1)
      refine wpAnyH_done (by kernel_rfl) ?_ _
      exact h _ _ _ _ _ _ _ _ _ _ _ _ _ _ _ _ hB1 hown2
  · skip
    go_simp
    obtain ⟨g7, hg7⟩ : ∃ g, Wd.heap.size = g := ⟨_, rfl⟩
    have hz7 := hB0.size
    have hel : Own0 (Wd.alloc (.cells #[.string s] 9)) W.heap.size Wd.heap.size ([Value.string s]) := Own0.new Wd W.heap.size [.string s] 9 hB0.size
    have hB1 := hB0.alloc hB0.size (.cells #[.string s] 9)
    refine hK.out _ _ (HS.out _ hB1) (fun hHeld => ?_)
    clear hK K hHeld hB0
    have hB0 := hB1
    clear hB1
    rw [hg7] at hel ⊢
    generalize Wd.alloc (.cells #[.string s] 9) = W239 at *
    clear hg7 hz7
    refine wpAnyH_ready (rs := [0]) (by kernel_rfl) (by simp) ?_
    refine AllReadyH.cons rfl (fun K hK => ?_) AllReadyH.nil
    go_simp
    obtain ⟨g0, hg0⟩ : ∃ g, W239.heap.size = g := ⟨_, rfl⟩
    have hz0 := hB0.size
    have hown := own_nothing W239 W.heap.size 1 9 hB0.size
    have hel2 := hel.below ((Below.refl _ W239).alloc (Nat.le_refl _) (.cells #[] 9))
    have hne : ∀ r, Value.ownBlock (.slice (some ⟨W239.heap.size, 0, none⟩) 0 0) = some r → r ≠ g7 := fun r hr => by simp [Value.ownBlock] at hr; have := hel.2.1; omega
    clear hel
    have hel := hel2
    clear hel2
    have hB1 := hB0.alloc hB0.size (.cells #[] 9)
    refine hK.out _ _ (HS.out _ hB1) (fun hHeld => ?_)
    clear hK K hHeld hB0
    have hB0 := hB1
    clear hB1
    rw [hg0] at hown hne ⊢
    obtain ⟨vo, hvo⟩ : ∃ vo, vo = Value.slice (some ⟨g0, 0, none⟩) 0 0 := ⟨_, rfl⟩
    rw [← hvo] at hown hne ⊢
    clear hvo
    generalize W239.alloc (.cells #[] 9) = W261 at *
    clear hg0 hz0
    refine wpAnyH_ready (rs := [5]) (by kernel_rfl) (by simp) ?_
    refine AllReadyH.cons rfl (fun K hK => ?_) AllReadyH.nil
    refine wp_append_lie W261 _ _ 26 rfl W.heap.size 9 i0 _ 1 16 Try.underlying26 hi hz0 hz1 hz2 rfl (by decide) vo 0 [] rfl hown na k nc (L.take (k * 1)) rfl HL.out.1 (HT.out _ hB0) H1.out.1 (by unfold maxLen; omega) (by omega) hB0.size ?_
    intro vo2 W265 hown2 hgr hbl
    have hB1 := below_grown hB0 hown hgr hB0.size
    have hel2 := hel.grown hgr (fun e => hne _ e rfl)
    have hne2 : ∀ r, Value.ownBlock vo2 = some r → r ≠ g7 := fun r hr => by
      rcases hbl with hbl | hbl
      · exact hne r (hbl ▸ hr)
      · rw [hbl] at hr; cases hr; have := hel.2.1; omega
    refine hK.out _ _ (HS.out _ hB1) (fun hHeld => ?_)
    clear hK K hHeld hB0 hown hgr hbl hne hel
    have hB0 := hB1
    clear hB1
    have hown := hown2
    clear hown2
    (try simp only [Act.put, List.getElem_toArray, List.getElem_cons_zero, List.getElem_cons_succ, List.setIfInBounds_toArray, List.set_cons_zero, List.set_cons_succ])
    have hel := hel2
    have hne := hne2
    clear hel2 hne2
    rw [List.nil_append, Nat.zero_add] at hown
    skip
    refine wpAnyH_ready (rs := [8]) (by kernel_rfl) (by simp) ?_
    refine AllReadyH.cons rfl (fun K hK => ?_) AllReadyH.nil
    refine wp_append_lie W265 _ _ 26 rfl W.heap.size 9 i0 _ 1 16 Try.underlying26 hi hz0 hz1 hz2 rfl (by decide) vo2 k _ rfl hown (some ⟨g7, 0, none⟩) 1 1 ([Value.string s]) rfl rfl (hel.src 1) (fun u hu => by simp at hu; subst hu; rfl) (by unfold maxLen; omega) (by omega) hB0.size ?_
    intro vo3 W285 hown2 hgr _
    have hB1 := below_grown hB0 hown hgr hB0.size
    refine hK.out _ _ (HS.out _ hB1) (fun hHeld => ?_)
    clear hK K hHeld hB0 hown hgr hel hne
    have hB0 := hB1
    clear hB1
    have hown := hown2
    clear hown2
    (try simp only [Act.put, List.getElem_toArray, List.getElem_cons_zero, List.getElem_cons_succ, List.setIfInBounds_toArray, List.set_cons_zero, List.set_cons_succ])
    refine wpAnyH_ready (rs := [13]) (by kernel_rfl) (by simp) ?_
    refine AllReadyH.cons rfl (fun K hK => ?_) AllReadyH.nil
    refine wp_append_lie W285 _ _ 26 rfl W.heap.size 9 i0 _ 1 16 Try.underlying26 hi hz0 hz1 hz2 rfl (by decide) vo3 (k + 1) _ rfl hown (if nc = k then na else na.map (fun x => x.add (k))) (n - k) (nc - k) (L.drop (k * 1)) rfl HL.out.2 (HD.out _ hB0) H1.out.2 (by unfold maxLen; omega) (by omega) hB0.size ?_
    intro v' W285b hown2 hgr _
    have hB1 := below_grown hB0 hown hgr hB0.size
    refine hK.out _ _ (HS.out _ hB1) (fun hHeld => ?_)
    clear hK K hB0 hown hgr
    (try simp only [Act.put, List.getElem_toArray, List.getElem_cons_zero, List.getElem_cons_succ, List.setIfInBounds_toArray, List.set_cons_zero, List.set_cons_succ])
    refine wpAnyH_take (i := 14) (v := .pointer (some ⟨ob, 5, none⟩)) rfl (by kernel_rfl) (by kernel_rfl) (by kernel_rfl) (fun _ _ _ h => hp _ _ _ _ _ h) (Or.inl ⟨by rfl, ?_⟩) (by assumption) ?_
    · intro w hSw
      (try dsimp only at hSw)
      go_simp
    (try simp only [Act.put, List.getElem_toArray, List.getElem_cons_zero, List.getElem_cons_succ, List.setIfInBounds_toArray, List.set_cons_zero, List.set_cons_succ])
    obtain ⟨hoc, hofz⟩ := HO.out _ hB1
    rw [show k + 1 + (n - k) = n + 1 by omega, List.append_assoc] at hown2
    obtain ⟨g9, c9, rfl, _, _⟩ := hown2.form (by omega)
    refine wpAnyH_ready (rs := [15]) (by kernel_rfl) (by simp) ?_
    refine AllReadyH.cons rfl (fun K hK => ?_) AllReadyH.nil
    go_simp
    refine hK.out _ _ ?_ (fun hHeld => ?_)
    · exact (World.cell?_setCell_other _ _ _ _ (fun e => hnv (by simpa using congrArg Addr.block e.symm))).trans (HV.out _ hB1)
    refine wpAnyH_done (by kernel_rfl) ?_ _
    exact h _ _ _ _ _ _ _ _ _ _ _ _ _ _ _ _ hB1 hown2
set_option maxRecDepth 100000 in
set_option maxHeartbeats 2000000 in
theorem u8 {Q : Exit → Act → World → Prop} {t0 t1 t2 t3 t5 t7 t8 t9 t12 t13 t14 t15 t16 t17 t18 t19 t20 t21 t22 t23 t24 t25 t26 t27 t28 t29 t30 t31 t32 t33 t34 t35 t36 t37 t38 t39 t40 t41 t42 t43 t44 t45 t46 t47 t48 t49 t50 t51 t52 t53 t54 t55 t56 t57 t58 t59 t60 t61 t62 t63 t64 t65 : Value} {W : World} {vb ob k n : Nat} {na : Option Addr} {nc : Nat} {L : List Value} {xb : Nat} {xh : Hd} {xa : Option Addr} {xn xc : Nat}
    (hnv : ¬ vb = ob) (hv : W.cell? ⟨vb, 4, none⟩ = some (.slice na n nc)) (hL : Lies W na L) (hl : L.length = n * 6) (h1 : ∀ u ∈ L, u.oneCell' = true) (hn : n ≤ nc ∧ nc ≤ maxLen) (hk : k ≤ n) (hN : n ≤ 1100000) (hob : ∃ u, W.cell? ⟨ob, 4, none⟩ = some u) (hof : W.frozen? ⟨ob, 4, none⟩ = false) (hnx : ¬ xb = ob) (hX : Cells6 W xb 0 xh (.slice xa xn xc))
    (hp : ∀ p d v a w, Q (.panic p) (Act.put a d v) w → Q (.panic p) a w) (h : ∀ W1 v' v49 v50 v51 v52 v53 v54 v55 v56 v57 v58 v59 v60 v61 v63, Below W.heap.size W W1 → W1.ownsRow W.heap.size 28 6 v' (n + 1) (L.take (k * 6) ++ (six xh xa xn xc ++ L.drop (k * 6))) → Q .normal { tmps := (t0 :: t1 :: t2 :: t3 :: .pointer (some ⟨vb, 0, none⟩) :: t5 :: .pointer (some ⟨xb, 0, none⟩) :: t7 :: t8 :: t9 :: .int .i64 (k : Nat) :: .pointer (some ⟨ob, 0, none⟩) :: t12 :: t13 :: t14 :: t15 :: t16 :: t17 :: t18 :: t19 :: t20 :: t21 :: t22 :: t23 :: t24 :: t25 :: t26 :: t27 :: t28 :: t29 :: t30 :: t31 :: t32 :: t33 :: t34 :: t35 :: t36 :: t37 :: t38 :: t39 :: t40 :: t41 :: t42 :: t43 :: t44 :: t45 :: t46 :: t47 :: t48 :: v49 :: v50 :: v51 :: v52 :: v53 :: v54 :: v55 :: v56 :: v57 :: v58 :: v59 :: v60 :: v61 :: v' :: v63 :: t64 :: t65 :: []).toArray, defers := [] } (W1.setCell ⟨ob, 4, none⟩ v')) :
    Code.wp Try.prog (Code.region 8 #[{ dst := some 49, op := Op.buildSlice 25 0 #[], type := 25, pos := "l7_value.go:309", after := #[], guard := none }, { dst := some 50, op := Op.fieldAddr 28 (Operand.tmp 4) 3, type := 0, pos := "l7_value.go:309", after := #[], guard := none }, { dst := some 51, op := Op.load 25 (Operand.tmp 50), type := 25, pos := "l7_value.go:309", after := #[{ on := 1, ground := Ground.data }], guard := none }, { dst := some 52, op := Op.move (Operand.tmp 10), type := 3, pos := "l7_value.go:309", after := #[], guard := none }, { dst := some 53, op := Op.slice 25 (Operand.tmp 51) none (some (Operand.tmp 52)) none, type := 25, pos := "l7_value.go:309", after := #[{ on := 2, ground := Ground.data }, { on := 3, ground := Ground.data }], guard := none }, { dst := some 54, op := Op.call { callee := Callee.builtin Builtin.append, args := #[Operand.tmp 49, Operand.tmp 53], argTypes := #[25, 25] }, type := 25, pos := "l7_value.go:309", after := #[{ on := 0, ground := Ground.data }, { on := 4, ground := Ground.data }], guard := none }, { dst := some 55, op := Op.load 28 (Operand.tmp 6), type := 28, pos := "l7_value.go:309", after := #[], guard := none }, { dst := some 56, op := Op.buildSlice 25 1 #[(0, Operand.tmp 55)], type := 25, pos := "l7_value.go:309", after := #[{ on := 6, ground := Ground.data }], guard := none }, { dst := some 57, op := Op.call { callee := Callee.builtin Builtin.append, args := #[Operand.tmp 54, Operand.tmp 56], argTypes := #[25, 25] }, type := 25, pos := "l7_value.go:309", after := #[{ on := 5, ground := Ground.data }, { on := 7, ground := Ground.data }, { on := 5, ground := Ground.chain }], guard := none }, { dst := some 58, op := Op.fieldAddr 28 (Operand.tmp 4) 3, type := 0, pos := "l7_value.go:309", after := #[], guard := none }, { dst := some 59, op := Op.load 25 (Operand.tmp 58), type := 25, pos := "l7_value.go:309", after := #[{ on := 9, ground := Ground.data }], guard := none }, { dst := some 60, op := Op.move (Operand.tmp 10), type := 3, pos := "l7_value.go:309", after := #[], guard := none }, { dst := some 61, op := Op.slice 25 (Operand.tmp 59) (some (Operand.tmp 60)) none none, type := 25, pos := "l7_value.go:309", after := #[{ on := 10, ground := Ground.data }, { on := 11, ground := Ground.data }], guard := none }, { dst := some 62, op := Op.call { callee := Callee.builtin Builtin.append, args := #[Operand.tmp 57, Operand.tmp 61], argTypes := #[25, 25] }, type := 25, pos := "l7_value.go:309", after := #[{ on := 8, ground := Ground.data }, { on := 12, ground := Ground.data }, { on := 8, ground := Ground.chain }], guard := none }, { dst := some 63, op := Op.fieldAddr 28 (Operand.tmp 11) 3, type := 0, pos := "l7_value.go:309", after := #[{ on := 0, ground := Ground.phase }, { on := 1, ground := Ground.phase }, { on := 2, ground := Ground.phase }, { on := 3, ground := Ground.phase }, { on := 4, ground := Ground.phase }, { on := 5, ground := Ground.phase }, { on := 6, ground := Ground.phase }, { on := 7, ground := Ground.phase }, { on := 8, ground := Ground.phase }, { on := 9, ground := Ground.phase }, { on := 10, ground := Ground.phase }, { on := 11, ground := Ground.phase }, { on := 12, ground := Ground.phase }, { on := 13, ground := Ground.phase }], guard := none }, { dst := none, op := Op.store 25 (Operand.tmp 63) (Operand.tmp 62), type := 0, pos := "l7_value.go:309", after := #[{ on := 14, ground := Ground.data }, { on := 13, ground := Ground.data }, { on := 13, ground := Ground.chain }, { on := 0, ground := Ground.phase }, { on := 1, ground := Ground.phase }, { on := 2, ground := Ground.phase }, { on := 3, ground := Ground.phase }, { on := 4, ground := Ground.phase }, { on := 5, ground := Ground.phase }, { on := 6, ground := Ground.phase }, { on := 7, ground := Ground.phase }, { on := 8, ground := Ground.phase }, { on := 9, ground := Ground.phase }, { on := 10, ground := Ground.phase }, { on := 11, ground := Ground.phase }, { on := 12, ground := Ground.phase }, { on := 13, ground := Ground.phase }], guard := none }] true) Q { tmps := (t0 :: t1 :: t2 :: t3 :: .pointer (some ⟨vb, 0, none⟩) :: t5 :: .pointer (some ⟨xb, 0, none⟩) :: t7 :: t8 :: t9 :: .int .i64 (k : Nat) :: .pointer (some ⟨ob, 0, none⟩) :: t12 :: t13 :: t14 :: t15 :: t16 :: t17 :: t18 :: t19 :: t20 :: t21 :: t22 :: t23 :: t24 :: t25 :: t26 :: t27 :: t28 :: t29 :: t30 :: t31 :: t32 :: t33 :: t34 :: t35 :: t36 :: t37 :: t38 :: t39 :: t40 :: t41 :: t42 :: t43 :: t44 :: t45 :: t46 :: t47 :: t48 :: t49 :: t50 :: t51 :: t52 :: t53 :: t54 :: t55 :: t56 :: t57 :: t58 :: t59 :: t60 :: t61 :: t62 :: t63 :: t64 :: t65 :: []).toArray, defers := [] } W := by
  obtain ⟨i0, hi, hz0, hz1, hz2⟩ := info_parts valInfo
  obtain ⟨hn1, hn2⟩ := hn
  unfold maxLen at hn2
  have hvl := World.block_lt_of_cell? W _ hv
  obtain ⟨ou, hou⟩ := hob
  have hol := World.block_lt_of_cell? W _ hou
  have hxl := hX.lt
  have HV : Hid (∀ w', Below W.heap.size W w' → w'.cell? ⟨vb, 4, none⟩ = some (.slice na n nc)) := fun w' h => (h.cell (p := ⟨vb, 4, none⟩) hvl).trans hv
  have HO : Hid (∀ w', Below W.heap.size W w' → w'.cell? ⟨ob, 4, none⟩ = some ou ∧ w'.frozen? ⟨ob, 4, none⟩ = false) := fun w' h => ⟨(h.cell (p := ⟨ob, 4, none⟩) hol).trans hou, (h.frozen (p := ⟨ob, 4, none⟩) hol).trans hof⟩
  have HX : Hid (∀ w', Below W.heap.size W w' → Cells6 w' xb 0 xh (.slice xa xn xc)) := fun w' h => hX.mono fun o u hu => (h.cell (p := ⟨xb, o, none⟩) hxl).trans hu
  have HT : Hid (∀ w', Below W.heap.size W w' → Src w' na k (L.take (k * 6))) := fun w' h => Lies.take0 (hL.grow h) hl (by omega) k hk
  have HD : Hid (∀ w', Below W.heap.size W w' → Src w' (if nc = k then na else na.map (fun x => x.add (k * 6))) (n - k) (L.drop (k * 6))) := fun w' h => by have := Lies.drop (hL.grow h) hl (by omega) k nc hn1; simpa using this
  have HL : Hid ((L.take (k * 6)).length = k * 6 ∧ (L.drop (k * 6)).length = (n - k) * 6) := ⟨by rw [List.length_take, hl]; exact Nat.min_eq_left (Nat.mul_le_mul_right _ hk), by rw [List.length_drop, hl, Nat.sub_mul]⟩
  have H1 : Hid ((∀ u ∈ L.take (k * 6), u.oneCell' = true) ∧ (∀ u ∈ L.drop (k * 6), u.oneCell' = true)) := ⟨fun u hu => h1 u (List.mem_of_mem_take hu), fun u hu => h1 u (List.mem_of_mem_drop hu)⟩
  clear hv hL hl h1 hou hof hX
  have HS : Hid (∀ w', Below W.heap.size W w' → (w'.cell? ⟨vb, 4, none⟩ = some (.slice na n nc) ∧ Cells6 w' xb 0 xh (.slice xa xn xc))) := fun w' h => ⟨HV.out w' h, HX.out w' h⟩
  have hB0 : Below W.heap.size W W.drew := (Below.refl _ W).drew
  have hS0 := HS.out _ hB0
  refine wp_region_held_drew (S := fun w' => w'.cell? ⟨vb, 4, none⟩ = some (.slice na n nc) ∧ Cells6 w' xb 0 xh (.slice xa xn xc)) (by kernel_rfl) hS0 (fun hHeld => ?_)
  generalize W.drew = Wd at *
  refine wpAnyH_take (i := 1) (v := .pointer (some ⟨vb, 4, none⟩)) rfl (by kernel_rfl) (by kernel_rfl) (by kernel_rfl) (fun _ _ _ h => hp _ _ _ _ _ h) (Or.inl ⟨by rfl, ?_⟩) (by assumption) ?_
  · intro w hSw
    (try dsimp only at hSw)
    go_simp
  (try simp only [Act.put, List.getElem_toArray, List.getElem_cons_zero, List.getElem_cons_succ, List.setIfInBounds_toArray, List.set_cons_zero, List.set_cons_succ])
  refine wpAnyH_take (i := 2) (v := .slice na n nc) rfl (by kernel_rfl) (by kernel_rfl) (by kernel_rfl) (fun _ _ _ h => hp _ _ _ _ _ h) (Or.inl ⟨by rfl, ?_⟩) (by assumption) ?_
  · intro w hSw
    (try dsimp only at hSw)
    (obtain ⟨hSv, hX0, hX1, hX2, hX3, hX4, hX5⟩ := hSw; go_simp)
  (try simp only [Act.put, List.getElem_toArray, List.getElem_cons_zero, List.getElem_cons_succ, List.setIfInBounds_toArray, List.set_cons_zero, List.set_cons_succ])
  refine wpAnyH_take (i := 3) (v := .int .i64 (k : Nat)) rfl (by kernel_rfl) (by kernel_rfl) (by kernel_rfl) (fun _ _ _ h => hp _ _ _ _ _ h) (Or.inl ⟨by rfl, ?_⟩) (by assumption) ?_
  · intro w hSw
    (try dsimp only at hSw)
    go_simp
  (try simp only [Act.put, List.getElem_toArray, List.getElem_cons_zero, List.getElem_cons_succ, List.setIfInBounds_toArray, List.set_cons_zero, List.set_cons_succ])
  refine wpAnyH_take (i := 4) (v := .slice na k nc) rfl (by kernel_rfl) (by kernel_rfl) (by kernel_rfl) (fun _ _ _ h => hp _ _ _ _ _ h) (Or.inl ⟨by rfl, ?_⟩) (by assumption) ?_
  · intro w hSw
    (try dsimp only at hSw)
    (go_simp <;> first | done | omega | (simp [sliced]; omega) | simp [sliced])
  (try simp only [Act.put, List.getElem_toArray, List.getElem_cons_zero, List.getElem_cons_succ, List.setIfInBounds_toArray, List.set_cons_zero, List.set_cons_succ])
  refine wpAnyH_take (i := 6) (v := valV xh xa xn xc) rfl (by kernel_rfl) (by kernel_rfl) (by kernel_rfl) (fun _ _ _ h => hp _ _ _ _ _ h) (Or.inl ⟨by rfl, ?_⟩) (by assumption) ?_
  · intro w hSw
    (try dsimp only at hSw)
    (obtain ⟨hSv, hX0, hX1, hX2, hX3, hX4, hX5⟩ := hSw; go_simp)
  (try simp only [Act.put, List.getElem_toArray, List.getElem_cons_zero, List.getElem_cons_succ, List.setIfInBounds_toArray, List.set_cons_zero, List.set_cons_succ])
  refine wpAnyH_take (i := 9) (v := .pointer (some ⟨vb, 4, none⟩)) rfl (by kernel_rfl) (by kernel_rfl) (by kernel_rfl) (fun _ _ _ h => hp _ _ _ _ _ h) (Or.inl ⟨by rfl, ?_⟩) (by assumption) ?_
  · intro w hSw
    (try dsimp only at hSw)
    go_simp
  (try simp only [Act.put, List.getElem_toArray, List.getElem_cons_zero, List.getElem_cons_succ, List.setIfInBounds_toArray, List.set_cons_zero, List.set_cons_succ])
  refine wpAnyH_take (i := 10) (v := .slice na n nc) rfl (by kernel_rfl) (by kernel_rfl) (by kernel_rfl) (fun _ _ _ h => hp _ _ _ _ _ h) (Or.inl ⟨by rfl, ?_⟩) (by assumption) ?_
  · intro w hSw
    (try dsimp only at hSw)
    (obtain ⟨hSv, hX0, hX1, hX2, hX3, hX4, hX5⟩ := hSw; go_simp)
  (try simp only [Act.put, List.getElem_toArray, List.getElem_cons_zero, List.getElem_cons_succ, List.setIfInBounds_toArray, List.set_cons_zero, List.set_cons_succ])
  refine wpAnyH_take (i := 11) (v := .int .i64 (k : Nat)) rfl (by kernel_rfl) (by kernel_rfl) (by kernel_rfl) (fun _ _ _ h => hp _ _ _ _ _ h) (Or.inl ⟨by rfl, ?_⟩) (by assumption) ?_
  · intro w hSw
    (try dsimp only at hSw)
    go_simp
  (try simp only [Act.put, List.getElem_toArray, List.getElem_cons_zero, List.getElem_cons_succ, List.setIfInBounds_toArray, List.set_cons_zero, List.set_cons_succ])
  refine wpAnyH_take (i := 12) (v := .slice (if nc = k then na else na.map (fun x => x.add (k * 6))) (n - k) (nc - k)) rfl (by kernel_rfl) (by kernel_rfl) (by kernel_rfl) (fun _ _ _ h => hp _ _ _ _ _ h) (Or.inl ⟨by rfl, ?_⟩) (by assumption) ?_
  · intro w hSw
    (try dsimp only at hSw)
    (go_simp <;> first | done | omega | (simp [sliced]; omega) | simp [sliced])
  (try simp only [Act.put, List.getElem_toArray, List.getElem_cons_zero, List.getElem_cons_succ, List.setIfInBounds_toArray, List.set_cons_zero, List.set_cons_succ])
  clear hS0 hHeld
  refine wpAnyH_ready (rs := [0, 7]) (by kernel_rfl) (by simp) ?_
  refine AllReadyH.cons rfl (fun K hK => ?_) (AllReadyH.cons rfl (fun K hK => ?_) AllReadyH.nil)
  · skip
    go_simp
    obtain ⟨g0, hg0⟩ : ∃ g, Wd.heap.size = g := ⟨_, rfl⟩
    have hz0 := hB0.size
    have hown := own_nothing Wd W.heap.size 6 28 hB0.size
    have hB1 := hB0.alloc hB0.size (.cells #[] 28)
    refine hK.out _ _ (HS.out _ hB1) (fun hHeld => ?_)
    clear hK K hHeld hB0
    have hB0 := hB1
    clear hB1
    rw [hg0] at hown ⊢
    obtain ⟨vo, hvo⟩ : ∃ vo, vo = Value.slice (some ⟨g0, 0, none⟩) 0 0 := ⟨_, rfl⟩
    rw [← hvo] at hown ⊢
    clear hvo
    generalize Wd.alloc (.cells #[] 28) = W85 at *
    clear hg0 hz0
    refine wpAnyH_ready (rs := [5, 7]) (by kernel_rfl) (by simp) ?_
    refine AllReadyH.cons rfl (fun K hK => ?_) (AllReadyH.cons rfl (fun K hK => ?_) AllReadyH.nil)
    · skip
      refine wp_append_lie W85 _ _ 25 rfl W.heap.size 28 i0 _ 6 88 Try.underlying25 hi hz0 hz1 hz2 rfl (by decide) vo 0 [] rfl hown na k nc (L.take (k * 6)) rfl HL.out.1 (HT.out _ hB0) H1.out.1 (by unfold maxLen; omega) (by omega) hB0.size ?_
      intro vo2 W90 hown2 hgr hbl
      have hB1 := below_grown hB0 hown hgr hB0.size
      refine hK.out _ _ (HS.out _ hB1) (fun hHeld => ?_)
      clear hK K hHeld hB0 hown hgr hbl
      have hB0 := hB1
      clear hB1
      have hown := hown2
      clear hown2
      (try simp only [Act.put, List.getElem_toArray, List.getElem_cons_zero, List.getElem_cons_succ, List.setIfInBounds_toArray, List.set_cons_zero, List.set_cons_succ])
      rw [List.nil_append, Nat.zero_add] at hown
      skip
      refine wpAnyH_ready (rs := [7]) (by kernel_rfl) (by simp) ?_
      refine AllReadyH.cons rfl (fun K hK => ?_) AllReadyH.nil
      go_simp
      obtain ⟨g7, hg7⟩ : ∃ g, W90.heap.size = g := ⟨_, rfl⟩
      have hel : Own0 (W90.alloc (.cells #[.int .i64 xh.k, .int .i64 xh.m, .int .i64 xh.e, .string xh.t, .slice xa xn xc, .slice xh.na xh.ns.length xh.nc] 28)) W.heap.size W90.heap.size (six xh xa xn xc) := Own0.new W90 W.heap.size [.int .i64 xh.k, .int .i64 xh.m, .int .i64 xh.e, .string xh.t, .slice xa xn xc, .slice xh.na xh.ns.length xh.nc] 28 hB0.size
      have hown2 := own_keep hown ((Below.refl _ W90).alloc (Nat.le_refl _) (.cells #[.int .i64 xh.k, .int .i64 xh.m, .int .i64 xh.e, .string xh.t, .slice xa xn xc, .slice xh.na xh.ns.length xh.nc] 28))
      have hne : ∀ r, Value.ownBlock vo2 = some r → r ≠ g7 := fun r hr => by have := (hown.lt r hr).2; omega
      clear hown
      have hown := hown2
      clear hown2
      have hB1 := hB0.alloc hB0.size (.cells #[.int .i64 xh.k, .int .i64 xh.m, .int .i64 xh.e, .string xh.t, .slice xa xn xc, .slice xh.na xh.ns.length xh.nc] 28)
      refine hK.out _ _ (HS.out _ hB1) (fun hHeld => ?_)
      clear hK K hHeld hB0
      have hB0 := hB1
      clear hB1
      rw [hg7] at hel ⊢
      generalize W90.alloc (.cells #[.int .i64 xh.k, .int .i64 xh.m, .int .i64 xh.e, .string xh.t, .slice xa xn xc, .slice xh.na xh.ns.length xh.nc] 28) = W106 at *
      clear hg7
      refine wpAnyH_ready (rs := [8]) (by kernel_rfl) (by simp) ?_
      refine AllReadyH.cons rfl (fun K hK => ?_) AllReadyH.nil
      refine wp_append_lie W106 _ _ 25 rfl W.heap.size 28 i0 _ 6 88 Try.underlying25 hi hz0 hz1 hz2 rfl (by decide) vo2 k _ rfl hown (some ⟨g7, 0, none⟩) 1 1 (six xh xa xn xc) rfl rfl (hel.src 1) (six_one) (by unfold maxLen; omega) (by omega) hB0.size ?_
      intro vo3 W120 hown2 hgr _
      have hB1 := below_grown hB0 hown hgr hB0.size
      refine hK.out _ _ (HS.out _ hB1) (fun hHeld => ?_)
      clear hK K hHeld hB0 hown hgr hel hne
      have hB0 := hB1
      clear hB1
      have hown := hown2
      clear hown2
      (try simp only [Act.put, List.getElem_toArray, List.getElem_cons_zero, List.getElem_cons_succ, List.setIfInBounds_toArray, List.set_cons_zero, List.set_cons_succ])
      refine wpAnyH_ready (rs := [13]) (by kernel_rfl) (by simp) ?_
      refine AllReadyH.cons rfl (fun K hK => ?_) AllReadyH.nil
      refine wp_append_lie W120 _ _ 25 rfl W.heap.size 28 i0 _ 6 88 Try.underlying25 hi hz0 hz1 hz2 rfl (by decide) vo3 (k + 1) _ rfl hown (if nc = k then na else na.map (fun x => x.add (k * 6))) (n - k) (nc - k) (L.drop (k * 6)) rfl HL.out.2 (HD.out _ hB0) H1.out.2 (by unfold maxLen; omega) (by omega) hB0.size ?_
      intro v' W120b hown2 hgr _
      have hB1 := below_grown hB0 hown hgr hB0.size
      refine hK.out _ _ (HS.out _ hB1) (fun hHeld => ?_)
      clear hK K hB0 hown hgr
      (try simp only [Act.put, List.getElem_toArray, List.getElem_cons_zero, List.getElem_cons_succ, List.setIfInBounds_toArray, List.set_cons_zero, List.set_cons_succ])
      refine wpAnyH_take (i := 14) (v := .pointer (some ⟨ob, 4, none⟩)) rfl (by kernel_rfl) (by kernel_rfl) (by kernel_rfl) (fun _ _ _ h => hp _ _ _ _ _ h) (Or.inl ⟨by rfl, ?_⟩) (by assumption) ?_
      · intro w hSw
        (try dsimp only at hSw)
        go_simp
      (try simp only [Act.put, List.getElem_toArray, List.getElem_cons_zero, List.getElem_cons_succ, List.setIfInBounds_toArray, List.set_cons_zero, List.set_cons_succ])
      obtain ⟨hoc, hofz⟩ := HO.out _ hB1
      rw [show k + 1 + (n - k) = n + 1 by omega, List.append_assoc] at hown2
      obtain ⟨g9, c9, rfl, _, _⟩ := hown2.form (by omega)
      refine wpAnyH_ready (rs := [15]) (by kernel_rfl) (by simp) ?_
      refine AllReadyH.cons rfl (fun K hK => ?_) AllReadyH.nil
      go_simp
      refine hK.out _ _ ?_ (fun hHeld => ?_)
      · exact ⟨(World.cell?_setCell_other _ _ _ _ (fun e => hnv (by simpa using congrArg Addr.block e.symm))).trans (HV.out _ hB1), (HX.out _ hB1).mono fun o u hu => (World.cell?_setCell_other _ _ _ _ (fun e => hnx (by simpa using congrArg Addr.block e.symm))).trans (hu)⟩
      refine wpAnyH_done (by kernel_rfl) ?_ _
      exact h _ _ _ _ _ _ _ _ _ _ _ _ _ _ _ _ hB1 hown2
    · skip
      go_simp
      obtain ⟨g7, hg7⟩ : ∃ g, W85.heap.size = g := ⟨_, rfl⟩
      have hz7 := hB0.size
      have hel : Own0 (W85.alloc (.cells #[.int .i64 xh.k, .int .i64 xh.m, .int .i64 xh.e, .string xh.t, .slice xa xn xc, .slice xh.na xh.ns.length xh.nc] 28)) W.heap.size W85.heap.size (six xh xa xn xc) := Own0.new W85 W.heap.size [.int .i64 xh.k, .int .i64 xh.m, .int .i64 xh.e, .string xh.t, .slice xa xn xc, .slice xh.na xh.ns.length xh.nc] 28 hB0.size
      have hown2 := own_keep hown ((Below.refl _ W85).alloc (Nat.le_refl _) (.cells #[.int .i64 xh.k, .int .i64 xh.m, .int .i64 xh.e, .string xh.t, .slice xa xn xc, .slice xh.na xh.ns.length xh.nc] 28))
      have hne : ∀ r, Value.ownBlock vo = some r → r ≠ g7 := fun r hr => by have := (hown.lt r hr).2; omega
      clear hown
      have hown := hown2
      clear hown2
      have hB1 := hB0.alloc hB0.size (.cells #[.int .i64 xh.k, .int .i64 xh.m, .int .i64 xh.e, .string xh.t, .slice xa xn xc, .slice xh.na xh.ns.length xh.nc] 28)
      refine hK.out _ _ (HS.out _ hB1) (fun hHeld => ?_)
      clear hK K hHeld hB0
      have hB0 := hB1
      clear hB1
      rw [hg7] at hel ⊢
      generalize W85.alloc (.cells #[.int .i64 xh.k, .int .i64 xh.m, .int .i64 xh.e, .string xh.t, .slice xa xn xc, .slice xh.na xh.ns.length xh.nc] 28) = W171 at *
      clear hg7 hz7
      refine wpAnyH_ready (rs := [5]) (by kernel_rfl) (by simp) ?_
      refine AllReadyH.cons rfl (fun K hK => ?_) AllReadyH.nil
      refine wp_append_lie W171 _ _ 25 rfl W.heap.size 28 i0 _ 6 88 Try.underlying25 hi hz0 hz1 hz2 rfl (by decide) vo 0 [] rfl hown na k nc (L.take (k * 6)) rfl HL.out.1 (HT.out _ hB0) H1.out.1 (by unfold maxLen; omega) (by omega) hB0.size ?_
      intro vo2 W175 hown2 hgr hbl
      have hB1 := below_grown hB0 hown hgr hB0.size
      have hel2 := hel.grown hgr (fun e => hne _ e rfl)
      have hne2 : ∀ r, Value.ownBlock vo2 = some r → r ≠ g7 := fun r hr => by
        rcases hbl with hbl | hbl
        · exact hne r (hbl ▸ hr)
        · rw [hbl] at hr; cases hr; have := hel.2.1; omega
      refine hK.out _ _ (HS.out _ hB1) (fun hHeld => ?_)
      clear hK K hHeld hB0 hown hgr hbl hne hel
      have hB0 := hB1
      clear hB1
      have hown := hown2
      clear hown2
      (try simp only [Act.put, List.getElem_toArray, List.getElem_cons_zero, List.getElem_cons_succ, List.setIfInBounds_toArray, List.set_cons_zero, List.set_cons_succ])
      have hel := hel2
      have hne := hne2
      clear hel2 hne2
      rw [List.nil_append, Nat.zero_add] at hown
      skip
      refine wpAnyH_ready (rs := [8]) (by kernel_rfl) (by simp) ?_
      refine AllReadyH.cons rfl (fun K hK => ?_) AllReadyH.nil
      refine wp_append_lie W175 _ _ 25 rfl W.heap.size 28 i0 _ 6 88 Try.underlying25 hi hz0 hz1 hz2 rfl (by decide) vo2 k _ rfl hown (some ⟨g7, 0, none⟩) 1 1 (six xh xa xn xc) rfl rfl (hel.src 1) (six_one) (by unfold maxLen; omega) (by omega) hB0.size ?_
      intro vo3 W195 hown2 hgr _
      have hB1 := below_grown hB0 hown hgr hB0.size
      refine hK.out _ _ (HS.out _ hB1) (fun hHeld => ?_)
      clear hK K hHeld hB0 hown hgr hel hne
      have hB0 := hB1
      clear hB1
      have hown := hown2
      clear hown2
      (try simp only [Act.put, List.getElem_toArray, List.getElem_cons_zero, List.getElem_cons_succ, List.setIfInBounds_toArray, List.set_cons_zero, List.set_cons_succ])
      refine wpAnyH_ready (rs := [13]) (by kernel_rfl) (by simp) ?_
      refine AllReadyH.cons rfl (fun K hK => ?_) AllReadyH.nil
      refine wp_append_lie W195 _ _ 25 rfl W.heap.size 28 i0 _ 6 88 Try.underlying25 hi hz0 hz1 hz2 rfl (by decide) vo3 (k + 1) _ rfl hown (if nc = k then na else na.map (fun x => x.add (k * 6))) (n - k) (nc - k) (L.drop (k * 6)) rfl HL.out.2 (HD.out _ hB0) H1.out.2 (by unfold maxLen; omega) (by omega) hB0.size ?_
      intro v' W195b hown2 hgr _
      have hB1 := below_grown hB0 hown hgr hB0.size
      refine hK.out _ _ (HS.out _ hB1) (fun hHeld => ?_)
      clear hK K hB0 hown hgr
      (try simp only [Act.put, List.getElem_toArray, List.getElem_cons_zero, List.getElem_cons_succ, List.setIfInBounds_toArray, List.set_cons_zero, List.set_cons_succ])
      refine wpAnyH_take (i := 14) (v := .pointer (some ⟨ob, 4, none⟩)) rfl (by kernel_rfl) (by kernel_rfl) (by kernel_rfl) (fun _ _ _ h => hp _ _ _ _ _ h) (Or.inl ⟨by rfl, ?_⟩) (by assumption) ?_
      · intro w hSw
        (try dsimp only at hSw)
        go_simp
      (try simp only [Act.put, List.getElem_toArray, List.getElem_cons_zero, List.getElem_cons_succ, List.setIfInBounds_toArray, List.set_cons_zero, List.set_cons_succ])
      obtain ⟨hoc, hofz⟩ := HO.out _ hB1
      rw [show k + 1 + (n - k) = n + 1 by omega, List.append_assoc] at hown2
      obtain ⟨g9, c9, rfl, _, _⟩ := hown2.form (by omega)
      refine wpAnyH_ready (rs := [15]) (by kernel_rfl) (by simp) ?_
      refine AllReadyH.cons rfl (fun K hK => ?_) AllReadyH.nil
      go_simp
      refine hK.out _ _ ?_ (fun hHeld => ?_)
      · exact ⟨(World.cell?_setCell_other _ _ _ _ (fun e => hnv (by simpa using congrArg Addr.block e.symm))).trans (HV.out _ hB1), (HX.out _ hB1).mono fun o u hu => (World.cell?_setCell_other _ _ _ _ (fun e => hnx (by simpa using congrArg Addr.block e.symm))).trans (hu)⟩
      refine wpAnyH_done (by kernel_rfl) ?_ _
      exact h _ _ _ _ _ _ _ _ _ _ _ _ _ _ _ _ hB1 hown2
  · skip
    go_simp
    obtain ⟨g7, hg7⟩ : ∃ g, Wd.heap.size = g := ⟨_, rfl⟩
    have hz7 := hB0.size
    have hel : Own0 (Wd.alloc (.cells #[.int .i64 xh.k, .int .i64 xh.m, .int .i64 xh.e, .string xh.t, .slice xa xn xc, .slice xh.na xh.ns.length xh.nc] 28)) W.heap.size Wd.heap.size (six xh xa xn xc) := Own0.new Wd W.heap.size [.int .i64 xh.k, .int .i64 xh.m, .int .i64 xh.e, .string xh.t, .slice xa xn xc, .slice xh.na xh.ns.length xh.nc] 28 hB0.size
    have hB1 := hB0.alloc hB0.size (.cells #[.int .i64 xh.k, .int .i64 xh.m, .int .i64 xh.e, .string xh.t, .slice xa xn xc, .slice xh.na xh.ns.length xh.nc] 28)
    refine hK.out _ _ (HS.out _ hB1) (fun hHeld => ?_)
    clear hK K hHeld hB0
    have hB0 := hB1
    clear hB1
    rw [hg7] at hel ⊢
    generalize Wd.alloc (.cells #[.int .i64 xh.k, .int .i64 xh.m, .int .i64 xh.e, .string xh.t, .slice xa xn xc, .slice xh.na xh.ns.length xh.nc] 28) = W241 at *
    clear hg7 hz7
    refine wpAnyH_ready (rs := [0]) (by kernel_rfl) (by simp) ?_
    refine AllReadyH.cons rfl (fun K hK => ?_) AllReadyH.nil
    go_simp
    obtain ⟨g0, hg0⟩ : ∃ g, W241.heap.size = g := ⟨_, rfl⟩
    have hz0 := hB0.size
    have hown := own_nothing W241 W.heap.size 6 28 hB0.size
    have hel2 := hel.below ((Below.refl _ W241).alloc (Nat.le_refl _) (.cells #[] 28))
    have hne : ∀ r, Value.ownBlock (.slice (some ⟨W241.heap.size, 0, none⟩) 0 0) = some r → r ≠ g7 := fun r hr => by simp [Value.ownBlock] at hr; have := hel.2.1; omega
    clear hel
    have hel := hel2
    clear hel2
    have hB1 := hB0.alloc hB0.size (.cells #[] 28)
    refine hK.out _ _ (HS.out _ hB1) (fun hHeld => ?_)
    clear hK K hHeld hB0
    have hB0 := hB1
    clear hB1
    rw [hg0] at hown hne ⊢
    obtain ⟨vo, hvo⟩ : ∃ vo, vo = Value.slice (some ⟨g0, 0, none⟩) 0 0 := ⟨_, rfl⟩
    rw [← hvo] at hown hne ⊢
    clear hvo
    generalize W241.alloc (.cells #[] 28) = W263 at *
    clear hg0 hz0
    refine wpAnyH_ready (rs := [5]) (by kernel_rfl) (by simp) ?_
    refine AllReadyH.cons rfl (fun K hK => ?_) AllReadyH.nil
    refine wp_append_lie W263 _ _ 25 rfl W.heap.size 28 i0 _ 6 88 Try.underlying25 hi hz0 hz1 hz2 rfl (by decide) vo 0 [] rfl hown na k nc (L.take (k * 6)) rfl HL.out.1 (HT.out _ hB0) H1.out.1 (by unfold maxLen; omega) (by omega) hB0.size ?_
    intro vo2 W267 hown2 hgr hbl
    have hB1 := below_grown hB0 hown hgr hB0.size
    have hel2 := hel.grown hgr (fun e => hne _ e rfl)
    have hne2 : ∀ r, Value.ownBlock vo2 = some r → r ≠ g7 := fun r hr => by
      rcases hbl with hbl | hbl
      · exact hne r (hbl ▸ hr)
      · rw [hbl] at hr; cases hr; have := hel.2.1; omega
    refine hK.out _ _ (HS.out _ hB1) (fun hHeld => ?_)
    clear hK K hHeld hB0 hown hgr hbl hne hel
    have hB0 := hB1
    clear hB1
    have hown := hown2
    clear hown2
    (try simp only [Act.put, List.getElem_toArray, List.getElem_cons_zero, List.getElem_cons_succ, List.setIfInBounds_toArray, List.set_cons_zero, List.set_cons_succ])
    have hel := hel2
    have hne := hne2
    clear hel2 hne2
    rw [List.nil_append, Nat.zero_add] at hown
    skip
    refine wpAnyH_ready (rs := [8]) (by kernel_rfl) (by simp) ?_
    refine AllReadyH.cons rfl (fun K hK => ?_) AllReadyH.nil
    refine wp_append_lie W267 _ _ 25 rfl W.heap.size 28 i0 _ 6 88 Try.underlying25 hi hz0 hz1 hz2 rfl (by decide) vo2 k _ rfl hown (some ⟨g7, 0, none⟩) 1 1 (six xh xa xn xc) rfl rfl (hel.src 1) (six_one) (by unfold maxLen; omega) (by omega) hB0.size ?_
    intro vo3 W287 hown2 hgr _
    have hB1 := below_grown hB0 hown hgr hB0.size
    refine hK.out _ _ (HS.out _ hB1) (fun hHeld => ?_)
    clear hK K hHeld hB0 hown hgr hel hne
    have hB0 := hB1
    clear hB1
    have hown := hown2
    clear hown2
    (try simp only [Act.put, List.getElem_toArray, List.getElem_cons_zero, List.getElem_cons_succ, List.setIfInBounds_toArray, List.set_cons_zero, List.set_cons_succ])
    refine wpAnyH_ready (rs := [13]) (by kernel_rfl) (by simp) ?_
    refine AllReadyH.cons rfl (fun K hK => ?_) AllReadyH.nil
    refine wp_append_lie W287 _ _ 25 rfl W.heap.size 28 i0 _ 6 88 Try.underlying25 hi hz0 hz1 hz2 rfl (by decide) vo3 (k + 1) _ rfl hown (if nc = k then na else na.map (fun x => x.add (k * 6))) (n - k) (nc - k) (L.drop (k * 6)) rfl HL.out.2 (HD.out _ hB0) H1.out.2 (by unfold maxLen; omega) (by omega) hB0.size ?_
    intro v' W287b hown2 hgr _
    have hB1 := below_grown hB0 hown hgr hB0.size
    refine hK.out _ _ (HS.out _ hB1) (fun hHeld => ?_)
    clear hK K hB0 hown hgr
    (try simp only [Act.put, List.getElem_toArray, List.getElem_cons_zero, List.getElem_cons_succ, List.setIfInBounds_toArray, List.set_cons_zero, List.set_cons_succ])
    refine wpAnyH_take (i := 14) (v := .pointer (some ⟨ob, 4, none⟩)) rfl (by kernel_rfl) (by kernel_rfl) (by kernel_rfl) (fun _ _ _ h => hp _ _ _ _ _ h) (Or.inl ⟨by rfl, ?_⟩) (by assumption) ?_
    · intro w hSw
      (try dsimp only at hSw)
      go_simp
    (try simp only [Act.put, List.getElem_toArray, List.getElem_cons_zero, List.getElem_cons_succ, List.setIfInBounds_toArray, List.set_cons_zero, List.set_cons_succ])
    obtain ⟨hoc, hofz⟩ := HO.out _ hB1
    rw [show k + 1 + (n - k) = n + 1 by omega, List.append_assoc] at hown2
    obtain ⟨g9, c9, rfl, _, _⟩ := hown2.form (by omega)
    refine wpAnyH_ready (rs := [15]) (by kernel_rfl) (by simp) ?_
    refine AllReadyH.cons rfl (fun K hK => ?_) AllReadyH.nil
    go_simp
    refine hK.out _ _ ?_ (fun hHeld => ?_)
    · exact ⟨(World.cell?_setCell_other _ _ _ _ (fun e => hnv (by simpa using congrArg Addr.block e.symm))).trans (HV.out _ hB1), (HX.out _ hB1).mono fun o u hu => (World.cell?_setCell_other _ _ _ _ (fun e => hnx (by simpa using congrArg Addr.block e.symm))).trans (hu)⟩
    refine wpAnyH_done (by kernel_rfl) ?_ _
    exact h _ _ _ _ _ _ _ _ _ _ _ _ _ _ _ _ hB1 hown2
end Go.Proofs.Ytalncebnahlmdaa
