/- My own texts, joined: Wg Wh Si Wi Sj Wj Wf Vc Wk Xc OkA Xd Xe. -/
import Derived.Test.YtpgpkdeiapeoiaaJJsonPut3
import Derived.Deep.RegionHeld3
import Derived.Test.YtpgpkdeiapeoiaaJJsonPut2
import Derived.Carry
import Derived.Laws.OwnMore
import Derived.Test.YtpgpkdeiapeoiaaJJsonPut1
import Derived.Test.YtpgpkdeiapeoiaaJJsonPut0
/- Two values that are the same, by the program: keys that can be held against each other. -/
namespace Go.Proofs.Ytpgpkdeiapeoiaa
open Go.RowKit
/-- all lists below lie in cells that are not frozen -/
def Vo.Cl (w : World) : Vo → Prop
  | .nil => True
  | .cons _ a _ kids next => PlOk w (plOf a kids.len) ∧ kids.Cl w ∧ next.Cl w
def ItV.Good (w : World) (x : ItV) : Prop := PlOk w x.pl ∧ x.F.Cl w
theorem Vo.Cl.at {w : World} : ∀ {F : Vo}, F.Cl w → ∀ {i : Nat}, i < F.len → (F.itAt i).Good w := by
  intro F
  induction F with
  | nil => intro _ i hi; exact absurd hi (Nat.not_lt_zero _)
  | cons hd a c kids next _ ih =>
    rintro ⟨h1, h2, h3⟩ i hi
    cases i with
    | zero => exact ⟨h1, h2⟩
    | succ i => exact ih h3 (Nat.lt_of_succ_lt_succ hi)
theorem plOk_ofV {w : World} {n : Nat} (hc : Clean n w) {b o : Nat} {F : Vo} (hn : n ≤ b) (hF : F.From w b o) : PlOk w (plOf (some ⟨b, o, none⟩) F.len) := by
  cases F with
  | nil => exact .inl rfl
  | cons hd a c kids next =>
    have hlt : b < w.heap.size := hF.1.lt
    obtain ⟨cs, t', h⟩ := hc b _ hn (Array.getElem?_eq_getElem hlt)
    exact .inr ⟨⟨b, o, none⟩, cs, t', by unfold plOf; rw [if_neg (show ¬ (Vo.cons hd a c kids next).len = 0 from Nat.succ_ne_zero _)], by rw [Array.getElem?_eq_getElem hlt, h]⟩
theorem Vo.cl_of {w : World} {n : Nat} (hc : Clean n w) : ∀ (F : Vo) (b o : Nat), F.From w b o → F.Blk (fun b => n ≤ b) → F.Cl w := by
  intro F
  induction F with
  | nil => intro b o _ _; trivial
  | cons hd a c kids next ih1 ih2 =>
    rintro b o ⟨_, hk, _, _, hn⟩ ⟨_, h1, h2, h3⟩
    rcases hk with rfl | ⟨b', o', rfl, e2⟩
    · exact ⟨.inl rfl, trivial, ih2 _ _ hn h3⟩
    · rcases h1 with rfl | ⟨b2, o2, e, hP⟩
      · exact ⟨.inl rfl, trivial, ih2 _ _ hn h3⟩
      · cases e
        exact ⟨plOk_ofV hc hP e2, ih1 _ _ e2 h2, ih2 _ _ hn h3⟩
theorem good_oldV {w : World} {S D : List It2V} {p : It2V} (hg : ∀ q, q ∈ D ∨ q ∈ S ++ [p] → q.1.Good w ∧ q.2.Good w) : ∀ q, q ∈ p :: D ∨ q ∈ S → q.1.Good w ∧ q.2.Good w := by
  intro q hq
  rcases hq with hq | hq
  · rcases List.mem_cons.1 hq with rfl | hq
    · exact hg q (.inr (by simp))
    · exact hg q (.inl hq)
  · exact hg q (.inr (List.mem_append_left _ hq))
theorem good_newV {w : World} {S D : List It2V} {p : It2V} (hp : hsameV p = true) (hg : ∀ q, q ∈ D ∨ q ∈ S ++ [p] → q.1.Good w ∧ q.2.Good w) : ∀ q, q ∈ p :: D ∨ q ∈ S ++ kidPairsV p.1.F p.2.F p.1.F.len → q.1.Good w ∧ q.2.Good w := by
  intro q hq
  rcases hq with hq | hq
  · exact good_oldV hg q (.inl hq)
  · rcases List.mem_append.1 hq with hq | hq
    · exact good_oldV hg q (.inr hq)
    · obtain ⟨i, hi, rfl⟩ := kidPairs_memV.1 hq
      obtain ⟨g1, g2⟩ := hg p (.inr (by simp))
      have hl := ((hsame_iffV p).1 hp).2
      exact ⟨g1.2.at hi, g2.2.at (by omega)⟩
theorem LoopV.count {w : World} {top : It2V} {T : Nat} {S D : List It2V} {L : List (Pl2 × Value)} (h : LoopV w top T S L D) (x : Pl2) : ∃ n0 : Nat, (getL x L).getD (.int .i64 0) = .int .i64 n0 ∧ n0 ≤ T ∧ (n0 = 0 ∨ (1 ≤ n0 ∧ getL x L = some (.int .i64 n0))) := by
  cases hx : getL x L with
  | none => exact ⟨0, rfl, Nat.zero_le _, .inl rfl⟩
  | some v =>
    obtain ⟨n, rfl, h1, h2⟩ := h.vals x v hx
    have := h.room
    exact ⟨n, rfl, by omega, .inr ⟨h1, rfl⟩⟩
end Go.Proofs.Ytpgpkdeiapeoiaa
/- Two values that are the same, by the program: the region that counts a pair of lists. -/
namespace Go.Proofs.Ytpgpkdeiapeoiaa
open Go.RowKit
end Go.Proofs.Ytpgpkdeiapeoiaa
/- Two trees that are the same, by the program: the region that makes the pair of places of two lists. -/
namespace Go.Proofs.Ytpgpkdeiapeoiaa
open Go.RowKit
/-- four cells of a block, that may be written -/
def Four (w : World) (b : Nat) (v0 v1 v2 v3 : Value) : Prop := (w.cell? ⟨b, 0, none⟩ = some v0 ∧ w.cell? ⟨b, 1, none⟩ = some v1 ∧ w.cell? ⟨b, 2, none⟩ = some v2 ∧ w.cell? ⟨b, 3, none⟩ = some v3) ∧ (w.frozen? ⟨b, 0, none⟩ = false ∧ w.frozen? ⟨b, 1, none⟩ = false ∧ w.frozen? ⟨b, 2, none⟩ = false ∧ w.frozen? ⟨b, 3, none⟩ = false)
theorem Four.new (w : World) (v0 v1 v2 v3 : Value) (T : TypeId) : Four (w.alloc (.cells #[v0, v1, v2, v3] T)) w.heap.size v0 v1 v2 v3 := by
  refine ⟨⟨?_, ?_, ?_, ?_⟩, ?_, ?_, ?_, ?_⟩ <;> simp
theorem Four.lt {w : World} {b : Nat} {v0 v1 v2 v3 : Value} (h : Four w b v0 v1 v2 v3) : b < w.heap.size := World.block_lt_of_cell? w _ h.1.1
theorem Four.below {B : Nat} {w w' : World} {b : Nat} {v0 v1 v2 v3 : Value} (h : Four w b v0 v1 v2 v3) (hb : Below B w w') (hB : b < B) : Four w' b v0 v1 v2 v3 := by
  obtain ⟨⟨a0, a1, a2, a3⟩, f0, f1, f2, f3⟩ := h
  exact ⟨⟨(hb.cell (p := ⟨b, 0, none⟩) hB).trans a0, (hb.cell (p := ⟨b, 1, none⟩) hB).trans a1, (hb.cell (p := ⟨b, 2, none⟩) hB).trans a2, (hb.cell (p := ⟨b, 3, none⟩) hB).trans a3⟩, (hb.frozen (p := ⟨b, 0, none⟩) hB).trans f0, (hb.frozen (p := ⟨b, 1, none⟩) hB).trans f1, (hb.frozen (p := ⟨b, 2, none⟩) hB).trans f2, (hb.frozen (p := ⟨b, 3, none⟩) hB).trans f3⟩
theorem Four.drew {w : World} {b : Nat} {v0 v1 v2 v3 : Value} (h : Four w b v0 v1 v2 v3) : Four w.drew b v0 v1 v2 v3 := h.below ((Below.refl _ _).drew) h.lt
theorem len_or {w : World} {F : Fo} {a : Option Addr} (h : F.In w a) : F.len = 0 ∨ ∃ b o, a = some ⟨b, o, none⟩ := by
  rcases h with rfl | ⟨b, o, e, _⟩
  · exact .inl rfl
  · exact .inr ⟨b, o, e⟩
/-- a pair in its box -/
abbrev Ten (pb : Nat) (xk : Int) (xt : ByteArray) (xm xe : Int) (sx : Value) (yk : Int) (yt : ByteArray) (ym ye : Int) (sy : Value) (w : World) : Prop :=
  (w.cell? ⟨pb, 0, none⟩ = some (.int .i64 xk) ∧ w.cell? ⟨pb, 1, none⟩ = some (.string xt) ∧ w.cell? ⟨pb, 2, none⟩ = some (.int .i64 xm) ∧ w.cell? ⟨pb, 3, none⟩ = some (.int .i64 xe) ∧ w.cell? ⟨pb, 4, none⟩ = some sx) ∧
  (w.cell? ⟨pb, 5, none⟩ = some (.int .i64 yk) ∧ w.cell? ⟨pb, 6, none⟩ = some (.string yt) ∧ w.cell? ⟨pb, 7, none⟩ = some (.int .i64 ym) ∧ w.cell? ⟨pb, 8, none⟩ = some (.int .i64 ye) ∧ w.cell? ⟨pb, 9, none⟩ = some sy)
theorem Ten.same {w w' : World} {pb : Nat} {xk : Int} {xt : ByteArray} {xm xe : Int} {sx : Value} {yk : Int} {yt : ByteArray} {ym ye : Int} {sy : Value} (h : Ten pb xk xt xm xe sx yk yt ym ye sy w) (hb : w'.heap[pb]? = w.heap[pb]?) : Ten pb xk xt xm xe sx yk yt ym ye sy w' := by
  have c : ∀ o, w'.cell? ⟨pb, o, none⟩ = w.cell? ⟨pb, o, none⟩ := fun o => World.cell?_of_block (a := ⟨pb, o, none⟩) hb
  obtain ⟨⟨a0, a1, a2, a3, a4⟩, a5, a6, a7, a8, a9⟩ := h
  exact ⟨⟨(c 0).trans a0, (c 1).trans a1, (c 2).trans a2, (c 3).trans a3, (c 4).trans a4⟩, (c 5).trans a5, (c 6).trans a6, (c 7).trans a7, (c 8).trans a8, (c 9).trans a9⟩
theorem Ten.lt {w : World} {pb : Nat} {xk : Int} {xt : ByteArray} {xm xe : Int} {sx : Value} {yk : Int} {yt : ByteArray} {ym ye : Int} {sy : Value} (h : Ten pb xk xt xm xe sx yk yt ym ye sy w) : pb < w.heap.size := World.block_lt_of_cell? _ _ h.1.1
/-- a pair in its box, and nothing old changed -/
abbrev HeldA (W : World) (pb : Nat) (xk : Int) (xt : ByteArray) (xm xe : Int) (sx : Value) (yk : Int) (yt : ByteArray) (ym ye : Int) (sy : Value) (w : World) : Prop :=
  Ten pb xk xt xm xe sx yk yt ym ye sy w ∧ Below W.heap.size W w
end Go.Proofs.Ytpgpkdeiapeoiaa
/- Two values that are the same, by the program: the region that makes the pair of places of two lists. -/
namespace Go.Proofs.Ytpgpkdeiapeoiaa
open Go.RowKit
theorem len_orV {w : World} {F : Vo} {a : Option Addr} (h : F.In w a) : F.len = 0 ∨ ∃ b o, a = some ⟨b, o, none⟩ := by
  rcases h with rfl | ⟨b, o, e, _⟩
  · exact .inl rfl
  · exact .inr ⟨b, o, e⟩
/-- a pair in its box -/
abbrev TwoV (pb : Nat) (x : Hd) (sx : Value) (y : Hd) (sy : Value) (w : World) : Prop :=
  (w.cell? ⟨pb, 0, none⟩ = some (.int .i64 x.k) ∧ w.cell? ⟨pb, 1, none⟩ = some (.int .i64 x.m) ∧ w.cell? ⟨pb, 2, none⟩ = some (.int .i64 x.e) ∧ w.cell? ⟨pb, 3, none⟩ = some (.string x.t) ∧ w.cell? ⟨pb, 4, none⟩ = some sx ∧ w.cell? ⟨pb, 5, none⟩ = some (.slice x.na x.ns.length x.nc)) ∧
  (w.cell? ⟨pb, 6, none⟩ = some (.int .i64 y.k) ∧ w.cell? ⟨pb, 7, none⟩ = some (.int .i64 y.m) ∧ w.cell? ⟨pb, 8, none⟩ = some (.int .i64 y.e) ∧ w.cell? ⟨pb, 9, none⟩ = some (.string y.t) ∧ w.cell? ⟨pb, 10, none⟩ = some sy ∧ w.cell? ⟨pb, 11, none⟩ = some (.slice y.na y.ns.length y.nc))
theorem TwoV.same {w w' : World} {pb : Nat} {x y : Hd} {sx sy : Value} (h : TwoV pb x sx y sy w) (hb : w'.heap[pb]? = w.heap[pb]?) : TwoV pb x sx y sy w' := by
  have c : ∀ o, w'.cell? ⟨pb, o, none⟩ = w.cell? ⟨pb, o, none⟩ := fun o => World.cell?_of_block (a := ⟨pb, o, none⟩) hb
  obtain ⟨⟨a0, a1, a2, a3, a4, a5⟩, a6, a7, a8, a9, a10, a11⟩ := h
  exact ⟨⟨(c 0).trans a0, (c 1).trans a1, (c 2).trans a2, (c 3).trans a3, (c 4).trans a4, (c 5).trans a5⟩, (c 6).trans a6, (c 7).trans a7, (c 8).trans a8, (c 9).trans a9, (c 10).trans a10, (c 11).trans a11⟩
theorem TwoV.lt {w : World} {pb : Nat} {x y : Hd} {sx sy : Value} (h : TwoV pb x sx y sy w) : pb < w.heap.size := World.block_lt_of_cell? _ _ h.1.1
/-- a pair in its box, and nothing old changed -/
abbrev HeldB (W : World) (pb : Nat) (x : Hd) (sx : Value) (y : Hd) (sy : Value) (w : World) : Prop :=
  TwoV pb x sx y sy w ∧ Below W.heap.size W w
end Go.Proofs.Ytpgpkdeiapeoiaa
/- Two trees that are the same, by the program: the region that puts the pairs of two lists behind what is to be done. -/
namespace Go.Proofs.Ytpgpkdeiapeoiaa
open Go.RowKit
section
variable {P : Program}
theorem append_none_own (w : World) (base base2 : Nat) (t ty e : TypeId) (i : TypeInfo) (size : Nat) (ht : P.underlying t = some (.slice e)) (hi : P.info? e = some i)
    (v : Value) (n : Nat) (xs : List Value) (hown : w.ownsRow base e size v n xs) (v2 : Value) (ys : List Value) (hown2 : w.ownsRow base2 e size v2 0 ys) :
    (Builtin.append_ #[t, t] ty #[v, v2]).run P w = .ok v w := by
  rcases hown2.2 with ⟨rfl, _⟩ | ⟨g2, cap2, cur2, rfl, _⟩
  · exact run_append_owned_none w base t ty e i size ht hi v n xs hown
  · rcases hown.2 with ⟨rfl, rfl⟩ | ⟨g, cap, cur, rfl, _, _, hnc, _⟩
    · simp [Builtin.append_, run_underlying ht, sizeOf, typeInfo, hi, Builtin.lenOf, Builtin.firstCells, loadCells, loadCellsFrom]
    · simp [Builtin.append_, run_underlying ht, sizeOf, typeInfo, hi, Builtin.lenOf, Builtin.firstCells, loadCells, loadCellsFrom, hnc, storeCells]
/-- a slice that is owned behind another one -/
theorem append_two (w : World) (base base2 : Nat) (t ty e : TypeId) (i : TypeInfo) (z : Value) (size bytes : Nat) (ht : P.underlying t = some (.slice e)) (hi : P.info? e = some i) (hz : i.zero = some z)
    (hsize : i.size = size) (hby : i.bytes = bytes) (hzs : z.cells.size = size) (hsz : 0 < size)
    (v : Value) (n : Nat) (xs : List Value) (hown : w.ownsRow base e size v n xs) (v2 : Value) (m : Nat) (ys : List Value) (hown2 : w.ownsRow base2 e size v2 m ys)
    (h1 : ∀ u ∈ ys, u.oneCell' = true) (h63 : n + m ≤ maxLen) (hbytes : (n + m) * bytes ≤ 140737488355328) (hbase : base ≤ w.heap.size) :
    ∃ v' w', (Builtin.append_ #[t, t] ty #[v, v2]).run P w = .ok v' w' ∧ w'.ownsRow base e size v' (n + m) (xs ++ ys) ∧ w.grownBy w' v.ownBlock := by
  rcases Nat.eq_zero_or_pos m with rfl | hm
  · have hy : ys = [] := List.eq_nil_of_length_eq_zero (by rw [hown2.1, Nat.zero_mul])
    subst hy
    exact ⟨v, w, append_none_own w base base2 t ty e i size ht hi v n xs hown v2 [] hown2, by simpa using hown, ⟨rfl, rfl, rfl, Nat.le_refl _, fun _ _ _ => rfl⟩⟩
  · obtain ⟨g, cap, rfl, _, _⟩ := hown2.form hm
    obtain ⟨g', cap', w', hr, ho, hg, _⟩ := run_append_lies (P := P) w t ty base e i z size bytes ht hi hz hsize hby hzs hsz v n xs hown ⟨g, 0, none⟩ m cap ys hown2.1 (fun j u hj => by
      have hjl : j < m * size := by rw [← hown2.1]; exact (List.getElem?_eq_some_iff.1 hj).1
      have := hown2.cellAt j hjl
      rw [hj] at this
      simp [Addr.add]
      by_cases h0 : j = 0
      · subst h0; simpa using this
      · simpa [h0] using this) h1 hm h63 hbytes hbase _ rfl
    exact ⟨_, w', hr, ho, hg⟩
theorem wp_append_two {o : Oper} {a : Act} {K : Act → World → Prop} {Q : Exit → Act → World → Prop} (w : World) (s x : Operand) (t : TypeId)
    (ho : o.op = .call { callee := .builtin .append, args := #[s, x], argTypes := #[t, t] })
    (base base2 : Nat) (e : TypeId) (i : TypeInfo) (z : Value) (size bytes : Nat) (ht : P.underlying t = some (.slice e)) (hi : P.info? e = some i) (hz : i.zero = some z)
    (hsize : i.size = size) (hby : i.bytes = bytes) (hzs : z.cells.size = size) (hsz : 0 < size)
    (v : Value) (n : Nat) (xs : List Value) (hs : a.eval s = v) (hown : w.ownsRow base e size v n xs) (v2 : Value) (m : Nat) (ys : List Value) (hx : a.eval x = v2) (hown2 : w.ownsRow base2 e size v2 m ys)
    (h1 : ∀ u ∈ ys, u.oneCell' = true) (h63 : n + m ≤ maxLen) (hbytes : (n + m) * bytes ≤ 140737488355328) (hbase : base ≤ w.heap.size)
    (h : ∀ v' w', w'.ownsRow base e size v' (n + m) (xs ++ ys) → w.grownBy w' v.ownBlock → K (a.put o.dst v') w') : o.wp P a w K Q := by
  obtain ⟨v', w', hr, h2, h3⟩ := append_two (P := P) w base base2 t o.type e i z size bytes ht hi hz hsize hby hzs hsz v n xs hown v2 m ys hown2 h1 h63 hbytes hbase
  unfold Oper.wp execOp
  simp only [ho, resolve, invoke, builtin, Sem.run_bind, Sem.run_pure, Result.andThen_ok, List.map_toArray, List.map_cons, List.map_nil, hs, hx, hr]
  exact h v' w' h2 h3
end
theorem ob_or (v : Value) : v.ownBlock = none ∨ v.ownBlock ≠ none := by
  cases h : v.ownBlock with
  | none => exact .inl rfl
  | some b => exact .inr (fun e => by cases e)
theorem pairCells_one (F G : Fo) (n : Nat) : ∀ u ∈ pairCells F G n, u.oneCell' = true := by
  induction n with
  | zero => intro u hu; cases hu
  | succ n ih =>
    intro u hu
    rcases List.mem_append.1 (show u ∈ pairCells F G n ++ (F.cellsAt n ++ G.cellsAt n) from hu) with h | h
    · exact ih u h
    · simp [Fo.cellsAt] at h
      rcases h with h | h | h | h | h | h | h | h | h | h <;> subst h <;> rfl
end Go.Proofs.Ytpgpkdeiapeoiaa
/- Two values that are the same, by the program: the region that puts the pairs of two lists behind what is to be done. -/
namespace Go.Proofs.Ytpgpkdeiapeoiaa
open Go.RowKit
end Go.Proofs.Ytpgpkdeiapeoiaa
/- Two values that are the same, by the program: the loop walked. -/
namespace Go.Proofs.Ytpgpkdeiapeoiaa
open Go.RowKit
end Go.Proofs.Ytpgpkdeiapeoiaa
/- Contracts over values: the laws' own measure. -/
namespace Go.Proofs.Ytpgpkdeiapeoiaa
open Go.RowKit
set_option maxHeartbeats 1000000 in
theorem szValueS_step (N : Nat) (H : ∀ (h : Hd) (a : Option Addr) (c : Nat) (F : Vo) (w : World) (l : Nat), F.size < N → F.In w a → F.len ≤ c → c ≤ maxLen → h.In w → l ≤ 1048576 →
      Calls Try.prog 7 #[valV h a F.len c, .int .i64 l] w fun e w' => e = .returned (.int .i64 (leftOf (h.t.size + F.wt + sWt h.ns) l)) ∧ Below w.heap.size w w') :
    ∀ (a : Option Addr) (c : Nat) (F : Vo) (w : World) (l : Nat), F.size ≤ N → F.In w a → F.len ≤ c → c ≤ maxLen → l ≤ 1048576 →
      Calls Try.prog 18 #[.slice a F.len c, .int .i64 l] w fun e w' => e = .returned (.int .i64 (leftOf F.wt l)) ∧ Below w.heap.size w w' := by
  intro a c F w l hF hin hl hc hl2
  unfold maxLen at hc
  have hlw := F.len_wt
  by_cases h0 : F.len ≤ l
  · have h0' : ¬ (l : Int) - (F.len : Int) < 0 := by omega
    go_enter Try.func18, Try.ntmps18
    go_wp2_with fail
    go_loopw [1, 5] (fun o i wr => ∃ (j d : Nat) (G : Vo), i = .int .i64 j ∧ o = .int .i64 d ∧ j + G.len = F.len ∧ d + F.wt + G.len = l + G.wt ∧ d ≤ l ∧ G.size ≤ F.size ∧ (G = .nil ∨ ∃ b o', a = some ⟨b, o', none⟩ ∧ G.From wr b (o' + j * 6)) ∧ Below w.heap.size w wr) (fun _ i _ => F.len - (intOf i).toNat)
    case atStart =>
      refine ⟨0, l - F.len, F, rfl, by congr 1; omega, by omega, by omega, by omega, Nat.le_refl _, ?_, Below.refl _ _⟩
      rcases hin with h | ⟨b, o', e1, e2⟩
      · exact .inl h
      · exact .inr ⟨b, o', e1, by simpa using e2⟩
    case round =>
      obtain ⟨j, d, G, rfl, rfl, hj, hs, hs1, hs2, hG, hb⟩ := hrel
      cases G with
      | nil =>
        have hj' : j = F.len := by simpa [Vo.len] using hj
        have hs' : d + F.wt = l := by simpa [Vo.len, Vo.wt] using hs
        have HL : Hid (leftOf F.wt l = (d : Int)) := by unfold Hid leftOf; rw [if_pos (by omega)]; congr 1; omega
        subst hj'
        clear hG hj hs hs' H
        go_wp2_with fail
        go_ret
        exact ⟨by rw [HL.out]; rfl, hb⟩
      | cons h a' c' kids next =>
        rcases hG with hG | ⟨b, o', rfl, ⟨h1, h2, h3, h4, h5, h6⟩, hk, ⟨hc1, hc2⟩, hh, hn⟩
        · cases hG
        · have hln : j + (next.len + 1) = F.len := hj
          have hlt : (j : Int) < (F.len : Int) := by omega
          have hjl : j < F.len := by omega
          have hsz : kids.size + 1 + next.size ≤ F.size := hs2
          have hwt : d + F.wt + (next.len + 1) = l + (h.t.size + kids.wt + sWt h.ns + 1 + next.wt) := hs
          have hnw := next.len_wt
          clear hj hs hin hs2
          go_wp2_with fail
          refine (H h a' c' kids wr d (by omega) hk hc1 hc2 hh (by omega)).mono ?_
          rintro e w1 ⟨rfl, hb1⟩
          have hn1 := Vo.from_grow hb1 next b _ hn
          have hb2 := hb.trans (hb1.mono hb.size)
          clear h1 h2 h3 h4 h5 h6 hk hn hb1 hb H hh
          by_cases hd : h.t.size + kids.wt + sWt h.ns ≤ d
          · have HL : Hid (leftOf (h.t.size + kids.wt + sWt h.ns) d = ((d - (h.t.size + kids.wt + sWt h.ns) : Nat) : Int)) := by unfold Hid leftOf; rw [if_pos hd]
            rw [HL.out]
            obtain ⟨d', hd'⟩ : ∃ d', d' = d - (h.t.size + kids.wt + sWt h.ns) := ⟨_, rfl⟩
            rw [← hd']
            have hd2 : d' + (h.t.size + kids.wt + sWt h.ns) = d := by omega
            clear hd' HL hd
            have hd0 : ¬ (d' : Int) < 0 := by omega
            go_wp2_with fail
            go_round
            case rel =>
              refine ⟨j + 1, d', next, by go_num, rfl, by omega, by omega, by omega, by omega, .inr ⟨b, o', rfl, ?_⟩, hb2⟩
              rw [show o' + (j + 1) * 6 = o' + j * 6 + 6 by omega]; exact hn1
            case measure => simp [intOf]; omega
          · have HL : Hid (leftOf (h.t.size + kids.wt + sWt h.ns) d = -1) := by unfold Hid leftOf; rw [if_neg hd]
            have HR : Hid (leftOf F.wt l = -1) := by unfold Hid leftOf; rw [if_neg (by omega)]
            rw [HL.out]
            clear HL hd
            go_wp2_with fail
            go_ret
            exact ⟨by rw [HR.out]; rfl, hb2⟩
  · have h0' : (l : Int) - (F.len : Int) < 0 := by omega
    have HL : Hid (leftOf F.wt l = -1) := by unfold Hid leftOf; rw [if_neg (by omega)]
    rw [HL.out]
    clear H
    go_enter Try.func18, Try.ntmps18
    go_wp2_with fail
    go_ret
    exact ⟨rfl, Below.refl _ _⟩
theorem left_neg {n l : Nat} (h : ¬ n ≤ l) : leftOf n l = -1 := by unfold leftOf; rw [if_neg h]
theorem left_pos {n l : Nat} (h : n ≤ l) : leftOf n l = ((l - n : Nat) : Int) := by unfold leftOf; rw [if_pos h]
set_option maxHeartbeats 1000000 in
theorem szValue_step (N : Nat) (H : ∀ (a : Option Addr) (c : Nat) (F : Vo) (w : World) (l : Nat), F.size ≤ N → F.In w a → F.len ≤ c → c ≤ maxLen → l ≤ 1048576 →
      Calls Try.prog 18 #[.slice a F.len c, .int .i64 l] w fun e w' => e = .returned (.int .i64 (leftOf F.wt l)) ∧ Below w.heap.size w w') :
    ∀ (h : Hd) (a : Option Addr) (c : Nat) (F : Vo) (w : World) (l : Nat), F.size ≤ N → F.In w a → F.len ≤ c → c ≤ maxLen → h.In w → l ≤ 1048576 →
      Calls Try.prog 7 #[valV h a F.len c, .int .i64 l] w fun e w' => e = .returned (.int .i64 (leftOf (h.t.size + F.wt + sWt h.ns) l)) ∧ Below w.heap.size w w' := by
  intro h a c F w l hF hin hl hc hh hl2
  have hcc := hc
  have ht := hh.2.2
  unfold maxLen at hc ht
  by_cases h0 : h.t.size ≤ l
  · have h0' : ¬ (l : Int) - (h.t.size : Int) < 0 := by omega
    go_enter Try.func7, Try.ntmps7
    go_wp2_with fail
    rw [show (l : Int) - (h.t.size : Int) = ((l - h.t.size : Nat) : Int) by omega]
    have hb0 : Below w.heap.size w (w.alloc (.cells #[.int .i64 h.k, .int .i64 h.m, .int .i64 h.e, .string h.t, .slice a F.len c, .slice h.na h.ns.length h.nc] 27)) := (Below.refl _ w).alloc (Nat.le_refl _) _
    have hr0 := Row.new w [.int .i64 h.k, .int .i64 h.m, .int .i64 h.e, .string h.t, .slice a F.len c, .slice h.na h.ns.length h.nc] 27
    refine (H a c F _ (l - h.t.size) hF (hin.grow hb0) hl hcc (by omega)).mono ?_
    rintro e w1 ⟨rfl, hb1⟩
    have hb2 : Below w.heap.size w w1 := hb0.trans (hb1.mono (by simp))
    have x5 := (hr0.below hb1 (by simp) 5 _ rfl).1
    have hh1 := hh.grow hb2
    clear hb0 hb1 H hin hr0 hh
    by_cases hd : h.t.size + F.wt ≤ l
    · have HL : Hid (leftOf F.wt (l - h.t.size) = ((l - (h.t.size + F.wt) : Nat) : Int)) := by unfold Hid; rw [left_pos (by omega)]; congr 1; omega
      rw [HL.out]
      obtain ⟨d', hd'⟩ : ∃ d', d' = l - (h.t.size + F.wt) := ⟨_, rfl⟩
      rw [← hd']
      have hd0 : ¬ (d' : Int) < 0 := by omega
      have hd1 : d' ≤ 1048576 := by omega
      have HD : Hid (d' + (h.t.size + F.wt) = l) := by unfold Hid; omega
      clear HL hd' hd
      go_wp2_with fail
      refine (szStringS_any h.ns h.na h.nc w1 d' hh1.1 hh1.2.1.1 hh1.2.1.2 hd1).mono ?_
      rintro e w2 ⟨rfl, hb3⟩
      have hb4 := hb2.trans (hb3.mono hb2.size)
      clear hb3 hb2 x5 hh1
      by_cases hd3 : sWt h.ns ≤ d'
      · have HL : Hid (leftOf (sWt h.ns) d' = ((d' - sWt h.ns : Nat) : Int)) := left_pos hd3
        have HR : Hid (leftOf (h.t.size + F.wt + sWt h.ns) l = ((d' - sWt h.ns : Nat) : Int)) := by unfold Hid; have := HD.out; rw [left_pos (by omega)]; congr 1; omega
        rw [HL.out]
        obtain ⟨d2, hd2⟩ : ∃ d2, d2 = d' - sWt h.ns := ⟨_, rfl⟩
        rw [← hd2] at HR ⊢
        have hd20 : ¬ (d2 : Int) < 0 := by omega
        clear HL hd3 hd2
        go_wp2_with fail
        go_ret
        exact ⟨by rw [HR.out]; rfl, hb4⟩
      · have HL : Hid (leftOf (sWt h.ns) d' = -1) := left_neg hd3
        have HR : Hid (leftOf (h.t.size + F.wt + sWt h.ns) l = -1) := left_neg (by have := HD.out; omega)
        rw [HL.out]
        clear HL hd3
        go_wp2_with fail
        go_ret
        exact ⟨by rw [HR.out]; rfl, hb4⟩
    · have HL : Hid (leftOf F.wt (l - h.t.size) = -1) := left_neg (by omega)
      have HR : Hid (leftOf (h.t.size + F.wt + sWt h.ns) l = -1) := left_neg (by omega)
      rw [HL.out]
      clear HL hd
      go_wp2_with fail
      go_ret
      exact ⟨by rw [HR.out]; rfl, hb2⟩
  · have h0' : (l : Int) - (h.t.size : Int) < 0 := by omega
    have HL : Hid (leftOf (h.t.size + F.wt + sWt h.ns) l = -1) := left_neg (by omega)
    rw [HL.out]
    clear H
    go_enter Try.func7, Try.ntmps7
    go_wp2_with fail
    go_ret
    exact ⟨rfl, (Below.refl _ _).alloc (Nat.le_refl _) _⟩
theorem szValue_all (N : Nat) : ∀ (h : Hd) (a : Option Addr) (c : Nat) (F : Vo) (w : World) (l : Nat), F.size < N → F.In w a → F.len ≤ c → c ≤ maxLen → h.In w → l ≤ 1048576 →
      Calls Try.prog 7 #[valV h a F.len c, .int .i64 l] w fun e w' => e = .returned (.int .i64 (leftOf (h.t.size + F.wt + sWt h.ns) l)) ∧ Below w.heap.size w w' := by
  induction N with
  | zero => intro h a c F w l hF; omega
  | succ N ih => exact fun h a c F w l hF => szValue_step N (szValueS_step N ih) h a c F w l (by omega)
/-- the laws' measure of a value -/
theorem szValue_any (h : Hd) (a : Option Addr) (c : Nat) (F : Vo) (w : World) (l : Nat) (h1 : F.In w a) (h2 : F.len ≤ c) (h3 : c ≤ maxLen) (h4 : h.In w) (h5 : l ≤ 1048576) :
      Calls Try.prog 7 #[valV h a F.len c, .int .i64 l] w fun e w' => e = .returned (.int .i64 (leftOf (h.t.size + F.wt + sWt h.ns) l)) ∧ Below w.heap.size w w' :=
  szValue_all (F.size + 1) h a c F w l (by omega) h1 h2 h3 h4 h5
end Go.Proofs.Ytpgpkdeiapeoiaa
/- Two values that are the same: ValueSame of the program, and copies that can be held against each other. -/
namespace Go.Proofs.Ytpgpkdeiapeoiaa
open Go.RowKit
theorem Vo.Cl.below {w w' : World} (hb : Below w.heap.size w w') : ∀ {F : Vo}, F.Cl w → F.Cl w' := by
  intro F
  induction F with
  | nil => intro _; trivial
  | cons h a c kids next ih1 ih2 => rintro ⟨h1, h2, h3⟩; exact ⟨h1.below hb, ih1 h2, ih2 h3⟩
theorem ItV.Good.below {w w' : World} {x : ItV} (h : x.Good w) (hb : Below w.heap.size w w') : x.Good w' := ⟨h.1.below hb, h.2.below hb⟩
/-- a copy of a value, in new memory that is not frozen -/
def CopiedV (w' : World) (h : Hd) (F : Vo) (r : Ending) : Prop :=
  ∃ (nb n2 : Nat) (F' : Vo), r = .returned (valV (h.to n2) (some ⟨nb, 0, none⟩) F'.len F'.len) ∧ F'.alike F ∧ F'.From w' nb 0 ∧ (h.to n2).In w' ∧ ItV.Good w' ⟨h.to n2, some ⟨nb, 0, none⟩, F', F'.len⟩
theorem toValue_any (h : Hd) (a : Option Addr) (c : Nat) (F : Vo) (w : World) (h0 : F.wt ≤ 1048576) (h0n : h.ns.length ≤ 1048576) (h1 : F.In w a) (h2 : F.len ≤ c) (h3 : c ≤ maxLen) (h4 : h.In w) :
      Calls Try.prog 9 #[valV h a F.len c] w fun r w' => CopiedV w' h F r ∧ Below w.heap.size w w' := by
  have hsw := F.size_wt
  refine (toValue_all (F.size + 1) h a c F w (by omega) (by omega) (F.few_wt 1100000 (by omega)) (by omega) h1 h2 h3 h4).mono ?_
  rintro r w' ⟨⟨nb, n2, F', hr, ⟨hn, hn2⟩, ha, hk, hF, hS, hc⟩, hb⟩
  exact ⟨⟨nb, n2, F', hr, ha, hF, ⟨.inr ⟨n2, 0, rfl, hS⟩, ⟨Nat.le_refl _, Nat.le_trans h4.2.1.1 h4.2.1.2⟩, h4.2.2⟩, plOk_ofV hc hn hF, Vo.cl_of hc F' _ _ hF hk⟩, hb⟩
/-- copies are the same just if what they were made of is -/
theorem same2_copyV {h g : Hd} {m n : Nat} {a a2 b b2 : Option Addr} {F G F1 G1 : Vo} {c c2 d d2 : Nat} (h1 : F1.alike F) (h2 : G1.alike G) :
    same2V (⟨h.to m, a, F1, c⟩, ⟨g.to n, a2, G1, c2⟩) ↔ same2V (⟨h, b, F, d⟩, ⟨g, b2, G, d2⟩) := by
  constructor
  · rintro ⟨hh, h3⟩; exact ⟨hh, Vo.alike_trans (Vo.alike_sym h1) (Vo.alike_trans h3 h2)⟩
  · rintro ⟨hh, h3⟩; exact ⟨hh, Vo.alike_trans h1 (Vo.alike_trans h3 (Vo.alike_sym h2))⟩
/-- a value in its box -/
abbrev BxV (b : Nat) (h : Hd) (s : Value) (w : World) : Prop := w.cell? ⟨b, 0, none⟩ = some (.int .i64 h.k) ∧ w.cell? ⟨b, 1, none⟩ = some (.int .i64 h.m) ∧ w.cell? ⟨b, 2, none⟩ = some (.int .i64 h.e) ∧ w.cell? ⟨b, 3, none⟩ = some (.string h.t) ∧ w.cell? ⟨b, 4, none⟩ = some s ∧ w.cell? ⟨b, 5, none⟩ = some (.slice h.na h.ns.length h.nc)
theorem BxV.below {b : Nat} {h : Hd} {s : Value} {w w' : World} (x : BxV b h s w) (hb : Below w.heap.size w w') : BxV b h s w' := by
  have hl : b < w.heap.size := World.block_lt_of_cell? _ _ x.1
  obtain ⟨h0, h1, h2, h3, h4, h5⟩ := x
  exact ⟨(hb.cell (p := ⟨b, 0, none⟩) hl).trans h0, (hb.cell (p := ⟨b, 1, none⟩) hl).trans h1, (hb.cell (p := ⟨b, 2, none⟩) hl).trans h2, (hb.cell (p := ⟨b, 3, none⟩) hl).trans h3, (hb.cell (p := ⟨b, 4, none⟩) hl).trans h4, (hb.cell (p := ⟨b, 5, none⟩) hl).trans h5⟩
theorem BxV.new (w : World) (h : Hd) (s : Value) (T : TypeId) : BxV w.heap.size h s (w.alloc (.cells #[.int .i64 h.k, .int .i64 h.m, .int .i64 h.e, .string h.t, s, .slice h.na h.ns.length h.nc] T)) := by
  refine ⟨?_, ?_, ?_, ?_, ?_, ?_⟩ <;> simp
end Go.Proofs.Ytpgpkdeiapeoiaa
/- Values that are ok: the region that asks whether a value fits. -/
namespace Go.Proofs.Ytpgpkdeiapeoiaa
open Go.RowKit
set_option maxRecDepth 100000 in
set_option maxHeartbeats 1000000 in
theorem ft2n {Q : Exit → Act → World → Prop} {t0 t1 t2 t4 t5 t6 t7 t8 t9 t10 t11 t12 t13 t14 t15 t16 t17 : Value} {W : World}
    
    (hp : ∀ p d v a w, Q (.panic p) (Act.put a d v) w → Q (.panic p) a w) (h : ∀ ws v6 v7 v8 v9 v10 v11 v12 v13 v14 v15 v16 v17, Below W.heap.size W ws → Q .normal { tmps := (t0 :: t1 :: .bool false :: .nilIface :: t4 :: t5 :: v6 :: v7 :: v8 :: v9 :: v10 :: v11 :: v12 :: v13 :: v14 :: v15 :: v16 :: v17 :: []).toArray, defers := [] } ws) :
    Code.wp Try.prog (Code.region 2 #[{ dst := some 6, op := Op.move (Operand.tmp 3), type := 70, pos := "l7_value.go:102", after := #[], guard := none }, { dst := some 7, op := Op.binOp BinOp.neq 70 (Operand.tmp 6) (Operand.const Value.nilIface) 70, type := 4, pos := "l7_value.go:102", after := #[{ on := 0, ground := Ground.data }], guard := none }, { dst := some 8, op := Op.move (Operand.tmp 7), type := 4, pos := "l7_value.go:102", after := #[{ on := 1, ground := Ground.data }], guard := none }, { dst := some 9, op := Op.move (Operand.tmp 3), type := 70, pos := "l7_value.go:102", after := #[{ on := 2, ground := Ground.guard }], guard := some (2, true) }, { dst := some 10, op := Op.call { callee := Callee.invoke (Operand.tmp 9) "loop.example/chancery/impl.fits", args := #[], argTypes := #[] }, type := 4, pos := "l7_value.go:102", after := #[{ on := 3, ground := Ground.data }, { on := 2, ground := Ground.chain }, { on := 2, ground := Ground.guard }], guard := some (2, true) }, { dst := some 11, op := Op.pick (Operand.tmp 8) (Operand.tmp 10) (Operand.const (Value.bool false)), type := 4, pos := "l7_value.go:102", after := #[{ on := 2, ground := Ground.data }, { on := 4, ground := Ground.data }], guard := none }, { dst := some 12, op := Op.move (Operand.tmp 11), type := 4, pos := "l7_value.go:102", after := #[{ on := 5, ground := Ground.data }, { on := 4, ground := Ground.chain }], guard := none }, { dst := some 13, op := Op.load 33 (Operand.tmp 1), type := 33, pos := "l7_value.go:102", after := #[{ on := 6, ground := Ground.guard }], guard := some (6, true) }, { dst := some 14, op := Op.move (Operand.tmp 3), type := 70, pos := "l7_value.go:102", after := #[{ on := 6, ground := Ground.guard }], guard := some (6, true) }, { dst := some 15, op := Op.call { callee := Callee.invoke (Operand.tmp 14) "loop.example/chancery/impl.value", args := #[], argTypes := #[] }, type := 33, pos := "l7_value.go:102", after := #[{ on := 8, ground := Ground.data }, { on := 6, ground := Ground.chain }, { on := 6, ground := Ground.guard }], guard := some (6, true) }, { dst := some 16, op := Op.call { callee := Callee.value (Operand.func 66), args := #[Operand.tmp 13, Operand.tmp 15], argTypes := #[33, 33] }, type := 4, pos := "l7_value.go:102", after := #[{ on := 7, ground := Ground.data }, { on := 9, ground := Ground.data }, { on := 9, ground := Ground.chain }, { on := 6, ground := Ground.guard }], guard := some (6, true) }, { dst := some 17, op := Op.pick (Operand.tmp 12) (Operand.tmp 16) (Operand.const (Value.bool false)), type := 4, pos := "l7_value.go:102", after := #[{ on := 6, ground := Ground.data }, { on := 10, ground := Ground.data }], guard := none }, { dst := some 2, op := Op.assign (Operand.tmp 17), type := 4, pos := "l7_value.go:102", after := #[{ on := 11, ground := Ground.data }, { on := 10, ground := Ground.chain }, { on := 0, ground := Ground.phase }, { on := 1, ground := Ground.phase }, { on := 2, ground := Ground.phase }, { on := 3, ground := Ground.phase }, { on := 4, ground := Ground.phase }, { on := 5, ground := Ground.phase }, { on := 6, ground := Ground.phase }, { on := 7, ground := Ground.phase }, { on := 8, ground := Ground.phase }, { on := 9, ground := Ground.phase }, { on := 10, ground := Ground.phase }, { on := 11, ground := Ground.phase }], guard := none }] true) Q { tmps := (t0 :: t1 :: t2 :: .nilIface :: t4 :: t5 :: t6 :: t7 :: t8 :: t9 :: t10 :: t11 :: t12 :: t13 :: t14 :: t15 :: t16 :: t17 :: []).toArray, defers := [] } W := by
  refine wp_region_held_drew (S := fun _ => True) (by kernel_rfl) trivial (fun hHeld => ?_)
  refine wpAnyH_take (i := 0) (v := .nilIface) rfl (by kernel_rfl) (by kernel_rfl) (by kernel_rfl) (fun _ _ _ h => hp _ _ _ _ _ h) (Or.inl ⟨by rfl, ?_⟩) (by assumption) ?_
  · intro w hSw
    (try dsimp only at hSw)
    go_simp
  (try simp only [Act.put, List.getElem_toArray, List.getElem_cons_zero, List.setIfInBounds_toArray, List.set_cons_zero, List.set_cons_succ])
  refine wpAnyH_take (i := 1) (v := .bool false) rfl (by kernel_rfl) (by kernel_rfl) (by kernel_rfl) (fun _ _ _ h => hp _ _ _ _ _ h) (Or.inl ⟨by rfl, ?_⟩) (by assumption) ?_
  · intro w hSw
    (try dsimp only at hSw)
    go_simp
  (try simp only [Act.put, List.getElem_toArray, List.getElem_cons_zero, List.getElem_cons_succ, List.setIfInBounds_toArray, List.set_cons_zero, List.set_cons_succ])
  refine wpAnyH_take (i := 2) (v := .bool false) rfl (by kernel_rfl) (by kernel_rfl) (by kernel_rfl) (fun _ _ _ h => hp _ _ _ _ _ h) (Or.inl ⟨by rfl, ?_⟩) (by assumption) ?_
  · intro w hSw
    (try dsimp only at hSw)
    go_simp
  (try simp only [Act.put, List.getElem_toArray, List.getElem_cons_zero, List.getElem_cons_succ, List.setIfInBounds_toArray, List.set_cons_zero, List.set_cons_succ])
  refine wpAnyH_take (i := 3) (v := undef) rfl (by kernel_rfl) (by kernel_rfl) (by kernel_rfl) (fun _ _ _ h => hp _ _ _ _ _ h) (Or.inr ⟨by rfl, rfl⟩) (by assumption) ?_
  (try simp only [Act.put, List.getElem_toArray, List.getElem_cons_zero, List.getElem_cons_succ, List.setIfInBounds_toArray, List.set_cons_zero, List.set_cons_succ])
  refine wpAnyH_take (i := 4) (v := undef) rfl (by kernel_rfl) (by kernel_rfl) (by kernel_rfl) (fun _ _ _ h => hp _ _ _ _ _ h) (Or.inr ⟨by rfl, rfl⟩) (by assumption) ?_
  (try simp only [Act.put, List.getElem_toArray, List.getElem_cons_zero, List.getElem_cons_succ, List.setIfInBounds_toArray, List.set_cons_zero, List.set_cons_succ])
  refine wpAnyH_take (i := 5) (v := .bool false) rfl (by kernel_rfl) (by kernel_rfl) (by kernel_rfl) (fun _ _ _ h => hp _ _ _ _ _ h) (Or.inl ⟨by rfl, ?_⟩) (by assumption) ?_
  · intro w hSw
    (try dsimp only at hSw)
    go_simp
  (try simp only [Act.put, List.getElem_toArray, List.getElem_cons_zero, List.getElem_cons_succ, List.setIfInBounds_toArray, List.set_cons_zero, List.set_cons_succ])
  refine wpAnyH_take (i := 6) (v := .bool false) rfl (by kernel_rfl) (by kernel_rfl) (by kernel_rfl) (fun _ _ _ h => hp _ _ _ _ _ h) (Or.inl ⟨by rfl, ?_⟩) (by assumption) ?_
  · intro w hSw
    (try dsimp only at hSw)
    go_simp
  (try simp only [Act.put, List.getElem_toArray, List.getElem_cons_zero, List.getElem_cons_succ, List.setIfInBounds_toArray, List.set_cons_zero, List.set_cons_succ])
  refine wpAnyH_take (i := 7) (v := undef) rfl (by kernel_rfl) (by kernel_rfl) (by kernel_rfl) (fun _ _ _ h => hp _ _ _ _ _ h) (Or.inr ⟨by rfl, rfl⟩) (by assumption) ?_
  (try simp only [Act.put, List.getElem_toArray, List.getElem_cons_zero, List.getElem_cons_succ, List.setIfInBounds_toArray, List.set_cons_zero, List.set_cons_succ])
  refine wpAnyH_take (i := 8) (v := undef) rfl (by kernel_rfl) (by kernel_rfl) (by kernel_rfl) (fun _ _ _ h => hp _ _ _ _ _ h) (Or.inr ⟨by rfl, rfl⟩) (by assumption) ?_
  (try simp only [Act.put, List.getElem_toArray, List.getElem_cons_zero, List.getElem_cons_succ, List.setIfInBounds_toArray, List.set_cons_zero, List.set_cons_succ])
  refine wpAnyH_take (i := 9) (v := undef) rfl (by kernel_rfl) (by kernel_rfl) (by kernel_rfl) (fun _ _ _ h => hp _ _ _ _ _ h) (Or.inr ⟨by rfl, rfl⟩) (by assumption) ?_
  (try simp only [Act.put, List.getElem_toArray, List.getElem_cons_zero, List.getElem_cons_succ, List.setIfInBounds_toArray, List.set_cons_zero, List.set_cons_succ])
  refine wpAnyH_take (i := 10) (v := undef) rfl (by kernel_rfl) (by kernel_rfl) (by kernel_rfl) (fun _ _ _ h => hp _ _ _ _ _ h) (Or.inr ⟨by rfl, rfl⟩) (by assumption) ?_
  (try simp only [Act.put, List.getElem_toArray, List.getElem_cons_zero, List.getElem_cons_succ, List.setIfInBounds_toArray, List.set_cons_zero, List.set_cons_succ])
  refine wpAnyH_take (i := 11) (v := .bool false) rfl (by kernel_rfl) (by kernel_rfl) (by kernel_rfl) (fun _ _ _ h => hp _ _ _ _ _ h) (Or.inl ⟨by rfl, ?_⟩) (by assumption) ?_
  · intro w hSw
    (try dsimp only at hSw)
    go_simp
  (try simp only [Act.put, List.getElem_toArray, List.getElem_cons_zero, List.getElem_cons_succ, List.setIfInBounds_toArray, List.set_cons_zero, List.set_cons_succ])
  refine wpAnyH_take (i := 12) (v := .bool false) rfl (by kernel_rfl) (by kernel_rfl) (by kernel_rfl) (fun _ _ _ h => hp _ _ _ _ _ h) (Or.inl ⟨by rfl, ?_⟩) (by assumption) ?_
  · intro w hSw
    (try dsimp only at hSw)
    go_simp
  (try simp only [Act.put, List.getElem_toArray, List.getElem_cons_zero, List.getElem_cons_succ, List.setIfInBounds_toArray, List.set_cons_zero, List.set_cons_succ])
  refine wpAnyH_done (by kernel_rfl) ?_ _
  exact h _ _ _ _ _ _ _ _ _ _ _ _ _ ((Below.refl W.heap.size W).drew)
set_option maxRecDepth 100000 in
set_option maxHeartbeats 1000000 in
theorem ft2 {Q : Exit → Act → World → Prop} {t0 t2 t4 t5 t6 t7 t8 t9 t10 t11 t12 t13 t14 t15 t16 t17 : Value} {W : World} {b n c gn gc : Nat} {hd g : Hd} {a ga : Option Addr} {T fid vid : Nat} {sv : Value} {P P2 : Bool → Prop}
    (hX : BxV b hd (.slice a n c) W) (he1 : ∀ args w, (callFunc fid args).run Try.prog w = .ok (.enter fid args) w) (he2 : ∀ args w, (callFunc vid args).run Try.prog w = .ok (.enter vid args) w) (hm1 : ∀ W', (method 233 T sv "loop.example/chancery/impl.fits").run Try.prog W' = .ok (fid, sv) W') (hm2 : ∀ W', (method 233 T sv "loop.example/chancery/impl.value").run Try.prog W' = .ok (vid, sv) W') (hfits : ∀ W', Below W.heap.size W W' → Calls Try.prog fid #[sv] W' fun r w' => (∃ q : Bool, r = .returned (.bool q) ∧ P q) ∧ Below W'.heap.size W' w') (hval : ∀ W', Below W.heap.size W W' → Calls Try.prog vid #[sv] W' fun r w' => r = .returned (valV g ga gn gc) ∧ Below W'.heap.size W' w') (hsame : ∀ W', Below W.heap.size W W' → Calls Try.prog 66 #[valV hd a n c, valV g ga gn gc] W' fun r w' => (∃ q : Bool, r = .returned (.bool q) ∧ P2 q) ∧ Below W'.heap.size W' w')
    (hp : ∀ p d v a w, Q (.panic p) (Act.put a d v) w → Q (.panic p) a w) (h : ∀ ws q v6 v7 v8 v9 v10 v11 v12 v13 v14 v15 v16 v17, ((P false ∧ q = false) ∨ (P true ∧ P2 q)) → Below W.heap.size W ws → Q .normal { tmps := (t0 :: .pointer (some ⟨b, 0, none⟩) :: .bool q :: (.iface T sv) :: t4 :: t5 :: v6 :: v7 :: v8 :: v9 :: v10 :: v11 :: v12 :: v13 :: v14 :: v15 :: v16 :: v17 :: []).toArray, defers := [] } ws) :
    Code.wp Try.prog (Code.region 2 #[{ dst := some 6, op := Op.move (Operand.tmp 3), type := 70, pos := "l7_value.go:102", after := #[], guard := none }, { dst := some 7, op := Op.binOp BinOp.neq 70 (Operand.tmp 6) (Operand.const Value.nilIface) 70, type := 4, pos := "l7_value.go:102", after := #[{ on := 0, ground := Ground.data }], guard := none }, { dst := some 8, op := Op.move (Operand.tmp 7), type := 4, pos := "l7_value.go:102", after := #[{ on := 1, ground := Ground.data }], guard := none }, { dst := some 9, op := Op.move (Operand.tmp 3), type := 70, pos := "l7_value.go:102", after := #[{ on := 2, ground := Ground.guard }], guard := some (2, true) }, { dst := some 10, op := Op.call { callee := Callee.invoke (Operand.tmp 9) "loop.example/chancery/impl.fits", args := #[], argTypes := #[] }, type := 4, pos := "l7_value.go:102", after := #[{ on := 3, ground := Ground.data }, { on := 2, ground := Ground.chain }, { on := 2, ground := Ground.guard }], guard := some (2, true) }, { dst := some 11, op := Op.pick (Operand.tmp 8) (Operand.tmp 10) (Operand.const (Value.bool false)), type := 4, pos := "l7_value.go:102", after := #[{ on := 2, ground := Ground.data }, { on := 4, ground := Ground.data }], guard := none }, { dst := some 12, op := Op.move (Operand.tmp 11), type := 4, pos := "l7_value.go:102", after := #[{ on := 5, ground := Ground.data }, { on := 4, ground := Ground.chain }], guard := none }, { dst := some 13, op := Op.load 33 (Operand.tmp 1), type := 33, pos := "l7_value.go:102", after := #[{ on := 6, ground := Ground.guard }], guard := some (6, true) }, { dst := some 14, op := Op.move (Operand.tmp 3), type := 70, pos := "l7_value.go:102", after := #[{ on := 6, ground := Ground.guard }], guard := some (6, true) }, { dst := some 15, op := Op.call { callee := Callee.invoke (Operand.tmp 14) "loop.example/chancery/impl.value", args := #[], argTypes := #[] }, type := 33, pos := "l7_value.go:102", after := #[{ on := 8, ground := Ground.data }, { on := 6, ground := Ground.chain }, { on := 6, ground := Ground.guard }], guard := some (6, true) }, { dst := some 16, op := Op.call { callee := Callee.value (Operand.func 66), args := #[Operand.tmp 13, Operand.tmp 15], argTypes := #[33, 33] }, type := 4, pos := "l7_value.go:102", after := #[{ on := 7, ground := Ground.data }, { on := 9, ground := Ground.data }, { on := 9, ground := Ground.chain }, { on := 6, ground := Ground.guard }], guard := some (6, true) }, { dst := some 17, op := Op.pick (Operand.tmp 12) (Operand.tmp 16) (Operand.const (Value.bool false)), type := 4, pos := "l7_value.go:102", after := #[{ on := 6, ground := Ground.data }, { on := 10, ground := Ground.data }], guard := none }, { dst := some 2, op := Op.assign (Operand.tmp 17), type := 4, pos := "l7_value.go:102", after := #[{ on := 11, ground := Ground.data }, { on := 10, ground := Ground.chain }, { on := 0, ground := Ground.phase }, { on := 1, ground := Ground.phase }, { on := 2, ground := Ground.phase }, { on := 3, ground := Ground.phase }, { on := 4, ground := Ground.phase }, { on := 5, ground := Ground.phase }, { on := 6, ground := Ground.phase }, { on := 7, ground := Ground.phase }, { on := 8, ground := Ground.phase }, { on := 9, ground := Ground.phase }, { on := 10, ground := Ground.phase }, { on := 11, ground := Ground.phase }], guard := none }] true) Q { tmps := (t0 :: .pointer (some ⟨b, 0, none⟩) :: t2 :: (.iface T sv) :: t4 :: t5 :: t6 :: t7 :: t8 :: t9 :: t10 :: t11 :: t12 :: t13 :: t14 :: t15 :: t16 :: t17 :: []).toArray, defers := [] } W := by
  have HSof : Hid (∀ w', Below W.heap.size W w' → BxV b hd (.slice a n c) w') := fun w' h => hX.below h
  have hS0 := HSof.out _ ((Below.refl _ W).drew)
  have hB0 := (Below.refl W.heap.size W).drew
  clear hX
  refine wp_region_held_drew (S := fun w' => BxV b hd (.slice a n c) w') (by kernel_rfl) hS0 (fun hHeld => ?_)
  refine wpAnyH_take (i := 0) (v := .iface T sv) rfl (by kernel_rfl) (by kernel_rfl) (by kernel_rfl) (fun _ _ _ h => hp _ _ _ _ _ h) (Or.inl ⟨by rfl, ?_⟩) (by assumption) ?_
  · intro w hSw
    (try dsimp only at hSw)
    go_simp
  (try simp only [Act.put, List.getElem_toArray, List.getElem_cons_zero, List.setIfInBounds_toArray, List.set_cons_zero, List.set_cons_succ])
  refine wpAnyH_take (i := 1) (v := .bool true) rfl (by kernel_rfl) (by kernel_rfl) (by kernel_rfl) (fun _ _ _ h => hp _ _ _ _ _ h) (Or.inl ⟨by rfl, ?_⟩) (by assumption) ?_
  · intro w hSw
    (try dsimp only at hSw)
    go_simp
  (try simp only [Act.put, List.getElem_toArray, List.getElem_cons_zero, List.getElem_cons_succ, List.setIfInBounds_toArray, List.set_cons_zero, List.set_cons_succ])
  refine wpAnyH_take (i := 2) (v := .bool true) rfl (by kernel_rfl) (by kernel_rfl) (by kernel_rfl) (fun _ _ _ h => hp _ _ _ _ _ h) (Or.inl ⟨by rfl, ?_⟩) (by assumption) ?_
  · intro w hSw
    (try dsimp only at hSw)
    go_simp
  (try simp only [Act.put, List.getElem_toArray, List.getElem_cons_zero, List.getElem_cons_succ, List.setIfInBounds_toArray, List.set_cons_zero, List.set_cons_succ])
  refine wpAnyH_take (i := 3) (v := .iface T sv) rfl (by kernel_rfl) (by kernel_rfl) (by kernel_rfl) (fun _ _ _ h => hp _ _ _ _ _ h) (Or.inl ⟨by rfl, ?_⟩) (by assumption) ?_
  · intro w hSw
    (try dsimp only at hSw)
    go_simp
  (try simp only [Act.put, List.getElem_toArray, List.getElem_cons_zero, List.getElem_cons_succ, List.setIfInBounds_toArray, List.set_cons_zero, List.set_cons_succ])
  refine wpAnyH_ready (rs := [4]) (by kernel_rfl) (by simp) ?_
  refine AllReadyH.cons rfl (fun K hK => ?_) AllReadyH.nil
  rw [if_pos (by rfl)]
  go_simp
  refine (hfits _ hB0).mono ?_
  rintro r w1 ⟨⟨q1, rfl, hq1⟩, hb1⟩
  have hB1 := hB0.trans (hb1.mono hB0.size)
  have HQ1 : Hid (P q1) := hq1
  clear hq1
  go_wp2_with fail
  refine hK.out _ _ (HSof.out _ hB1) (fun hHeld => ?_)
  clear hK K hb1 hB0 hfits
  cases q1
  · refine wpAnyH_take (i := 5) (v := .bool false) rfl (by kernel_rfl) (by kernel_rfl) (by kernel_rfl) (fun _ _ _ h => hp _ _ _ _ _ h) (Or.inl ⟨by rfl, ?_⟩) (by assumption) ?_
    · intro w hSw
      (try dsimp only at hSw)
      go_simp
    (try simp only [Act.put, List.getElem_toArray, List.getElem_cons_zero, List.getElem_cons_succ, List.setIfInBounds_toArray, List.set_cons_zero, List.set_cons_succ])
    refine wpAnyH_take (i := 6) (v := .bool false) rfl (by kernel_rfl) (by kernel_rfl) (by kernel_rfl) (fun _ _ _ h => hp _ _ _ _ _ h) (Or.inl ⟨by rfl, ?_⟩) (by assumption) ?_
    · intro w hSw
      (try dsimp only at hSw)
      go_simp
    (try simp only [Act.put, List.getElem_toArray, List.getElem_cons_zero, List.getElem_cons_succ, List.setIfInBounds_toArray, List.set_cons_zero, List.set_cons_succ])
    refine wpAnyH_take (i := 7) (v := undef) rfl (by kernel_rfl) (by kernel_rfl) (by kernel_rfl) (fun _ _ _ h => hp _ _ _ _ _ h) (Or.inr ⟨by rfl, rfl⟩) (by assumption) ?_
    (try simp only [Act.put, List.getElem_toArray, List.getElem_cons_zero, List.getElem_cons_succ, List.setIfInBounds_toArray, List.set_cons_zero, List.set_cons_succ])
    refine wpAnyH_take (i := 8) (v := undef) rfl (by kernel_rfl) (by kernel_rfl) (by kernel_rfl) (fun _ _ _ h => hp _ _ _ _ _ h) (Or.inr ⟨by rfl, rfl⟩) (by assumption) ?_
    (try simp only [Act.put, List.getElem_toArray, List.getElem_cons_zero, List.getElem_cons_succ, List.setIfInBounds_toArray, List.set_cons_zero, List.set_cons_succ])
    refine wpAnyH_take (i := 9) (v := undef) rfl (by kernel_rfl) (by kernel_rfl) (by kernel_rfl) (fun _ _ _ h => hp _ _ _ _ _ h) (Or.inr ⟨by rfl, rfl⟩) (by assumption) ?_
    (try simp only [Act.put, List.getElem_toArray, List.getElem_cons_zero, List.getElem_cons_succ, List.setIfInBounds_toArray, List.set_cons_zero, List.set_cons_succ])
    refine wpAnyH_take (i := 10) (v := undef) rfl (by kernel_rfl) (by kernel_rfl) (by kernel_rfl) (fun _ _ _ h => hp _ _ _ _ _ h) (Or.inr ⟨by rfl, rfl⟩) (by assumption) ?_
    (try simp only [Act.put, List.getElem_toArray, List.getElem_cons_zero, List.getElem_cons_succ, List.setIfInBounds_toArray, List.set_cons_zero, List.set_cons_succ])
    refine wpAnyH_take (i := 11) (v := .bool false) rfl (by kernel_rfl) (by kernel_rfl) (by kernel_rfl) (fun _ _ _ h => hp _ _ _ _ _ h) (Or.inl ⟨by rfl, ?_⟩) (by assumption) ?_
    · intro w hSw
      (try dsimp only at hSw)
      go_simp
    (try simp only [Act.put, List.getElem_toArray, List.getElem_cons_zero, List.getElem_cons_succ, List.setIfInBounds_toArray, List.set_cons_zero, List.set_cons_succ])
    refine wpAnyH_take (i := 12) (v := .bool false) rfl (by kernel_rfl) (by kernel_rfl) (by kernel_rfl) (fun _ _ _ h => hp _ _ _ _ _ h) (Or.inl ⟨by rfl, ?_⟩) (by assumption) ?_
    · intro w hSw
      (try dsimp only at hSw)
      go_simp
    (try simp only [Act.put, List.getElem_toArray, List.getElem_cons_zero, List.getElem_cons_succ, List.setIfInBounds_toArray, List.set_cons_zero, List.set_cons_succ])
    refine wpAnyH_done (by kernel_rfl) ?_ _
    exact h _ _ _ _ _ _ _ _ _ _ _ _ _ _ (.inl ⟨HQ1.out, rfl⟩) hB1
  · refine wpAnyH_take (i := 5) (v := .bool true) rfl (by kernel_rfl) (by kernel_rfl) (by kernel_rfl) (fun _ _ _ h => hp _ _ _ _ _ h) (Or.inl ⟨by rfl, ?_⟩) (by assumption) ?_
    · intro w hSw
      (try dsimp only at hSw)
      go_simp
    (try simp only [Act.put, List.getElem_toArray, List.getElem_cons_zero, List.getElem_cons_succ, List.setIfInBounds_toArray, List.set_cons_zero, List.set_cons_succ])
    refine wpAnyH_take (i := 6) (v := .bool true) rfl (by kernel_rfl) (by kernel_rfl) (by kernel_rfl) (fun _ _ _ h => hp _ _ _ _ _ h) (Or.inl ⟨by rfl, ?_⟩) (by assumption) ?_
    · intro w hSw
      (try dsimp only at hSw)
      go_simp
    (try simp only [Act.put, List.getElem_toArray, List.getElem_cons_zero, List.getElem_cons_succ, List.setIfInBounds_toArray, List.set_cons_zero, List.set_cons_succ])
    refine wpAnyH_take (i := 7) (v := valV hd a n c) rfl (by kernel_rfl) (by kernel_rfl) (by kernel_rfl) (fun _ _ _ h => hp _ _ _ _ _ h) (Or.inl ⟨by rfl, ?_⟩) (by assumption) ?_
    · intro w hSw
      (try dsimp only at hSw)
      go_simp
    (try simp only [Act.put, List.getElem_toArray, List.getElem_cons_zero, List.getElem_cons_succ, List.setIfInBounds_toArray, List.set_cons_zero, List.set_cons_succ])
    refine wpAnyH_take (i := 8) (v := .iface T sv) rfl (by kernel_rfl) (by kernel_rfl) (by kernel_rfl) (fun _ _ _ h => hp _ _ _ _ _ h) (Or.inl ⟨by rfl, ?_⟩) (by assumption) ?_
    · intro w hSw
      (try dsimp only at hSw)
      go_simp
    (try simp only [Act.put, List.getElem_toArray, List.getElem_cons_zero, List.getElem_cons_succ, List.setIfInBounds_toArray, List.set_cons_zero, List.set_cons_succ])
    refine wpAnyH_ready (rs := [9]) (by kernel_rfl) (by simp) ?_
    refine AllReadyH.cons rfl (fun K hK => ?_) AllReadyH.nil
    rw [if_pos (by rfl)]
    go_simp
    refine (hval _ hB1).mono ?_
    rintro r w2 ⟨rfl, hb2⟩
    have hB2 := hB1.trans (hb2.mono hB1.size)
    go_wp2_with fail
    refine hK.out _ _ (HSof.out _ hB2) (fun hHeld => ?_)
    clear hK K hb2 hB1 hval
    refine wpAnyH_ready (rs := [10]) (by kernel_rfl) (by simp) ?_
    refine AllReadyH.cons rfl (fun K hK => ?_) AllReadyH.nil
    rw [if_pos (by rfl)]
    go_simp
    refine (hsame _ hB2).mono ?_
    rintro r w3 ⟨⟨q2, rfl, hq2⟩, hb3⟩
    have hB3 := hB2.trans (hb3.mono hB2.size)
    have HQ2 : Hid (P2 q2) := hq2
    clear hq2
    go_wp2_with fail
    refine hK.out _ _ (HSof.out _ hB3) (fun hHeld => ?_)
    clear hK K hb3 hB2 hsame
    refine wpAnyH_take (i := 11) (v := .bool q2) rfl (by kernel_rfl) (by kernel_rfl) (by kernel_rfl) (fun _ _ _ h => hp _ _ _ _ _ h) (Or.inl ⟨by rfl, ?_⟩) (by assumption) ?_
    · intro w hSw
      (try dsimp only at hSw)
      go_simp
    (try simp only [Act.put, List.getElem_toArray, List.getElem_cons_zero, List.getElem_cons_succ, List.setIfInBounds_toArray, List.set_cons_zero, List.set_cons_succ])
    refine wpAnyH_take (i := 12) (v := .bool q2) rfl (by kernel_rfl) (by kernel_rfl) (by kernel_rfl) (fun _ _ _ h => hp _ _ _ _ _ h) (Or.inl ⟨by rfl, ?_⟩) (by assumption) ?_
    · intro w hSw
      (try dsimp only at hSw)
      go_simp
    (try simp only [Act.put, List.getElem_toArray, List.getElem_cons_zero, List.getElem_cons_succ, List.setIfInBounds_toArray, List.set_cons_zero, List.set_cons_succ])
    refine wpAnyH_done (by kernel_rfl) ?_ _
    exact h _ _ _ _ _ _ _ _ _ _ _ _ _ _ (.inr ⟨HQ1.out, HQ2.out⟩) hB3
end Go.Proofs.Ytpgpkdeiapeoiaa
/- Contracts for trees that are ok: the texts, the counts. -/
namespace Go.Proofs.Ytpgpkdeiapeoiaa
open Go.RowKit

theorem has_mem {L : List (List UInt8)} {l : List UInt8} (h : Qm.has L l = true) : l ∈ L := by
  induction L with
  | nil => cases h
  | cons x t ih =>
    simp only [Qm.has, Bool.or_eq_true, beq_iff_eq] at h
    rcases h with h | h
    · subst h; simp
    · exact List.mem_cons_of_mem _ (ih h)

/-- how many a function is given, or -1 -/
def stdOr (l : List UInt8) : Int := if Om.std l = 0 then -1 else (Om.std l : Int)
set_option maxHeartbeats 400000 in
theorem shortText_any (s : ByteArray) (w : World) (hs : s.size ≤ maxLen) :
    Calls Try.prog 119 #[.string s] w fun e w' => e = .returned (.bool (decide (s.size ≤ 1500))) ∧ w' = w := by
  unfold maxLen at hs
  go_enter Try.func119, Try.ntmps119
  go_wp2_with fail
  go_ret
  exact ⟨lret_bool (by rw [Bool.eq_iff_iff]; first | (simp; done) | (simp; omega)), rfl⟩

end Go.Proofs.Ytpgpkdeiapeoiaa
/- Values that are ok: whether a value fits, by the program. -/
namespace Go.Proofs.Ytpgpkdeiapeoiaa
open Go.RowKit
/-- a value has just what its kind has; so many values are right in it -/
def one (h : Hd) (n : Nat) : Prop :=
  ((h.k = 0 ∨ h.k = 1 ∨ h.k = 2) ∧ ((h.m = 0 ∧ h.e = 0 ∧ h.t = ⟨#[]⟩) ∧ h.ns = []) ∧ n = 0) ∨
  (h.k = 3 ∧ Dm.ok h.m h.e = true ∧ (h.t = ⟨#[]⟩ ∧ h.ns = []) ∧ n = 0) ∨
  (h.k = 4 ∧ h.t.size ≤ 1500 ∧ (h.m = 0 ∧ h.e = 0 ∧ h.ns = []) ∧ n = 0) ∨
  (h.k = 5 ∧ (h.m = 0 ∧ h.e = 0 ∧ h.t = ⟨#[]⟩) ∧ h.ns = []) ∨
  (h.k = 6 ∧ (h.ns.length = n ∧ nmAsc h.ns h.ns.length) ∧ h.m = 0 ∧ h.e = 0 ∧ h.t = ⟨#[]⟩)
set_option maxHeartbeats 1000000 in
theorem sort_0 (h : Hd) (a : Option Addr) (n c : Nat) (w : World) (hk : h.k = 0) :
    Calls Try.prog 47 #[valV h a n c] w fun r w' => r = .returned (.iface 73 (.agg #[])) ∧ Below w.heap.size w w' := by
  obtain ⟨k, m, e, t, na, nc, ns⟩ := h
  dsimp only at hk
  subst hk
  go_enter Try.func47, Try.ntmps47
  go_wp2_with fail
  go_ret
  exact ⟨rfl, (Below.refl _ w).alloc (Nat.le_refl _) _⟩
set_option maxHeartbeats 1000000 in
theorem sort_1 (h : Hd) (a : Option Addr) (n c : Nat) (w : World) (hk : h.k = 1) :
    Calls Try.prog 47 #[valV h a n c] w fun r w' => r = .returned (.iface 78 (.bool true)) ∧ Below w.heap.size w w' := by
  obtain ⟨k, m, e, t, na, nc, ns⟩ := h
  dsimp only at hk
  subst hk
  go_enter Try.func47, Try.ntmps47
  go_wp2_with fail
  go_ret
  exact ⟨rfl, (Below.refl _ w).alloc (Nat.le_refl _) _⟩
set_option maxHeartbeats 1000000 in
theorem sort_2 (h : Hd) (a : Option Addr) (n c : Nat) (w : World) (hk : h.k = 2) :
    Calls Try.prog 47 #[valV h a n c] w fun r w' => r = .returned (.iface 78 (.bool false)) ∧ Below w.heap.size w w' := by
  obtain ⟨k, m, e, t, na, nc, ns⟩ := h
  dsimp only at hk
  subst hk
  go_enter Try.func47, Try.ntmps47
  go_wp2_with fail
  go_ret
  exact ⟨rfl, (Below.refl _ w).alloc (Nat.le_refl _) _⟩
set_option maxHeartbeats 1000000 in
theorem sort_3 (h : Hd) (a : Option Addr) (n c : Nat) (w : World) (hk : h.k = 3) :
    Calls Try.prog 47 #[valV h a n c] w fun r w' => r = .returned (.iface 79 (.agg #[.int .i64 h.m, .int .i64 h.e])) ∧ Below w.heap.size w w' := by
  obtain ⟨k, m, e, t, na, nc, ns⟩ := h
  dsimp only at hk
  subst hk
  go_enter Try.func47, Try.ntmps47
  go_wp2_with fail
  go_ret
  exact ⟨rfl, (Below.refl _ w).alloc (Nat.le_refl _) _⟩
set_option maxHeartbeats 1000000 in
theorem sort_4 (h : Hd) (a : Option Addr) (n c : Nat) (w : World) (hk : h.k = 4) :
    Calls Try.prog 47 #[valV h a n c] w fun r w' => r = .returned (.iface 80 (.string h.t)) ∧ Below w.heap.size w w' := by
  obtain ⟨k, m, e, t, na, nc, ns⟩ := h
  dsimp only at hk
  subst hk
  go_enter Try.func47, Try.ntmps47
  go_wp2_with fail
  go_ret
  exact ⟨rfl, (Below.refl _ w).alloc (Nat.le_refl _) _⟩
set_option maxHeartbeats 1000000 in
theorem sort_5 (h : Hd) (a : Option Addr) (n c : Nat) (w : World) (hk : h.k = 5) :
    Calls Try.prog 47 #[valV h a n c] w fun r w' => r = .returned (.iface 81 (.slice a n c)) ∧ Below w.heap.size w w' := by
  obtain ⟨k, m, e, t, na, nc, ns⟩ := h
  dsimp only at hk
  subst hk
  go_enter Try.func47, Try.ntmps47
  go_wp2_with fail
  go_ret
  exact ⟨rfl, (Below.refl _ w).alloc (Nat.le_refl _) _⟩
set_option maxHeartbeats 1000000 in
theorem sort_6 (h : Hd) (a : Option Addr) (n c : Nat) (w : World) (hk : h.k = 6) :
    Calls Try.prog 47 #[valV h a n c] w fun r w' => r = .returned (.iface 84 (.agg #[.slice h.na h.ns.length h.nc, .slice a n c])) ∧ Below w.heap.size w w' := by
  obtain ⟨k, m, e, t, na, nc, ns⟩ := h
  dsimp only at hk
  subst hk
  go_enter Try.func47, Try.ntmps47
  go_wp2_with fail
  go_ret
  exact ⟨rfl, (Below.refl _ w).alloc (Nat.le_refl _) _⟩
set_option maxHeartbeats 1000000 in
theorem sort_no (h : Hd) (a : Option Addr) (n c : Nat) (w : World) (hk : ¬ (0 ≤ h.k ∧ h.k ≤ 6)) :
    Calls Try.prog 47 #[valV h a n c] w fun r w' => r = .returned .nilIface ∧ Below w.heap.size w w' := by
  obtain ⟨k, m, e, t, na, nc, ns⟩ := h
  dsimp only at hk
  have h0 : (k == 0) = false := by simp; omega
  have h1 : (k == 1) = false := by simp; omega
  have h2 : (k == 2) = false := by simp; omega
  have h3 : (k == 3) = false := by simp; omega
  have h4 : (k == 4) = false := by simp; omega
  have h5 : (k == 5) = false := by simp; omega
  have h6 : (k == 6) = false := by simp; omega
  go_enter Try.func47, Try.ntmps47
  go_wp2_with fail
  go_ret
  exact ⟨rfl, (Below.refl _ w).alloc (Nat.le_refl _) _⟩
set_option maxHeartbeats 1000000 in
theorem nullSortValue_any (w : World) :
    Calls Try.prog 112 #[.agg #[]] w fun r w' => r = .returned (valV ⟨0, 0, 0, ⟨#[]⟩, none, 0, []⟩ none 0 0) ∧ Below w.heap.size w w' := by
  go_enter Try.func112, Try.ntmps112
  go_wp2_with fail
  exact bodyPost_ret (v := valV ⟨0, 0, 0, ⟨#[]⟩, none, 0, []⟩ none 0 0) (by simp [results, Try.results112, go_sem]) rfl ⟨rfl, (by (repeat' (first | assumption | exact Below.refl _ _ | refine Below.alloc ?_ ?_ _ | refine Below.setCell ?_ ?_ _ | refine Below.drew ?_ | refine below_drewN ?_ _)) <;> (first | omega | (simp <;> omega)))⟩
set_option maxHeartbeats 1000000 in
theorem truthSortValue_any (q : Bool) (w : World) :
    Calls Try.prog 114 #[.bool q] w fun r w' => r = .returned (valV ⟨if q then 1 else 2, 0, 0, ⟨#[]⟩, none, 0, []⟩ none 0 0) ∧ Below w.heap.size w w' := by
  cases q
  all_goals
    go_enter Try.func114, Try.ntmps114
    go_wp2_with fail
    refine bodyPost_ret (by simp [results, Try.results114, go_sem]) rfl ⟨rfl, (by (repeat' (first | assumption | exact Below.refl _ _ | refine Below.alloc ?_ ?_ _ | refine Below.setCell ?_ ?_ _ | refine Below.drew ?_ | refine below_drewN ?_ _)) <;> (first | omega | (simp <;> omega)))⟩
set_option maxHeartbeats 1000000 in
theorem numSortValue_any (m e : Int) (w : World) :
    Calls Try.prog 116 #[.agg #[.int .i64 m, .int .i64 e]] w fun r w' => r = .returned (valV ⟨3, m, e, ⟨#[]⟩, none, 0, []⟩ none 0 0) ∧ Below w.heap.size w w' := by
  go_enter Try.func116, Try.ntmps116
  go_wp2_with fail
  exact bodyPost_ret (v := valV ⟨3, m, e, ⟨#[]⟩, none, 0, []⟩ none 0 0) (by simp [results, Try.results116, go_sem]) rfl ⟨rfl, (by (repeat' (first | assumption | exact Below.refl _ _ | refine Below.alloc ?_ ?_ _ | refine Below.setCell ?_ ?_ _ | refine Below.drew ?_ | refine below_drewN ?_ _)) <;> (first | omega | (simp <;> omega)))⟩
set_option maxHeartbeats 1000000 in
theorem textSortValue_any (t : ByteArray) (w : World) :
    Calls Try.prog 118 #[.string t] w fun r w' => r = .returned (valV ⟨4, 0, 0, t, none, 0, []⟩ none 0 0) ∧ Below w.heap.size w w' := by
  go_enter Try.func118, Try.ntmps118
  go_wp2_with fail
  exact bodyPost_ret (v := valV ⟨4, 0, 0, t, none, 0, []⟩ none 0 0) (by simp [results, Try.results118, go_sem]) rfl ⟨rfl, (by (repeat' (first | assumption | exact Below.refl _ _ | refine Below.alloc ?_ ?_ _ | refine Below.setCell ?_ ?_ _ | refine Below.drew ?_ | refine below_drewN ?_ _)) <;> (first | omega | (simp <;> omega)))⟩
set_option maxHeartbeats 1000000 in
theorem arraySortValue_any (a : Option Addr) (n c : Nat) (w : World) :
    Calls Try.prog 121 #[.slice a n c] w fun r w' => r = .returned (valV ⟨5, 0, 0, ⟨#[]⟩, none, 0, []⟩ a n c) ∧ Below w.heap.size w w' := by
  go_enter Try.func121, Try.ntmps121
  go_wp2_with fail
  exact bodyPost_ret (v := valV ⟨5, 0, 0, ⟨#[]⟩, none, 0, []⟩ a n c) (by simp [results, Try.results121, go_sem]) rfl ⟨rfl, (by (repeat' (first | assumption | exact Below.refl _ _ | refine Below.alloc ?_ ?_ _ | refine Below.setCell ?_ ?_ _ | refine Below.drew ?_ | refine below_drewN ?_ _)) <;> (first | omega | (simp <;> omega)))⟩
set_option maxHeartbeats 1000000 in
theorem objectSortValue_any (na : Option Addr) (nc : Nat) (ns : List ByteArray) (a : Option Addr) (n c : Nat) (w : World) :
    Calls Try.prog 123 #[.agg #[.slice na ns.length nc, .slice a n c]] w fun r w' => r = .returned (valV ⟨6, 0, 0, ⟨#[]⟩, na, nc, ns⟩ a n c) ∧ Below w.heap.size w w' := by
  go_enter Try.func123, Try.ntmps123
  go_wp2_with fail
  exact bodyPost_ret (v := valV ⟨6, 0, 0, ⟨#[]⟩, na, nc, ns⟩ a n c) (by simp [results, Try.results123, go_sem]) rfl ⟨rfl, (by (repeat' (first | assumption | exact Below.refl _ _ | refine Below.alloc ?_ ?_ _ | refine Below.setCell ?_ ?_ _ | refine Below.drew ?_ | refine below_drewN ?_ _)) <;> (first | omega | (simp <;> omega)))⟩
set_option maxHeartbeats 1000000 in
theorem nullSortFits_any (w : World) :
    Calls Try.prog 111 #[.agg #[]] w fun r w' => (∃ q : Bool, r = .returned (.bool q) ∧ q = true) ∧ Below w.heap.size w w' := by
  go_enter Try.func111, Try.ntmps111
  go_wp2_with fail
  go_ret
  exact ⟨⟨true, rfl, rfl⟩, (by (repeat' (first | assumption | exact Below.refl _ _ | refine Below.alloc ?_ ?_ _ | refine Below.setCell ?_ ?_ _ | refine Below.drew ?_ | refine below_drewN ?_ _)) <;> (first | omega | (simp <;> omega)))⟩
set_option maxHeartbeats 1000000 in
theorem truthSortFits_any (q : Bool) (w : World) :
    Calls Try.prog 113 #[.bool q] w fun r w' => (∃ q : Bool, r = .returned (.bool q) ∧ q = true) ∧ Below w.heap.size w w' := by
  go_enter Try.func113, Try.ntmps113
  go_wp2_with fail
  go_ret
  exact ⟨⟨true, rfl, rfl⟩, (by (repeat' (first | assumption | exact Below.refl _ _ | refine Below.alloc ?_ ?_ _ | refine Below.setCell ?_ ?_ _ | refine Below.drew ?_ | refine below_drewN ?_ _)) <;> (first | omega | (simp <;> omega)))⟩
set_option maxHeartbeats 1000000 in
theorem arraySortFits_any (a : Option Addr) (n c : Nat) (w : World) :
    Calls Try.prog 120 #[.slice a n c] w fun r w' => (∃ q : Bool, r = .returned (.bool q) ∧ q = true) ∧ Below w.heap.size w w' := by
  go_enter Try.func120, Try.ntmps120
  go_wp2_with fail
  go_ret
  exact ⟨⟨true, rfl, rfl⟩, (by (repeat' (first | assumption | exact Below.refl _ _ | refine Below.alloc ?_ ?_ _ | refine Below.setCell ?_ ?_ _ | refine Below.drew ?_ | refine below_drewN ?_ _)) <;> (first | omega | (simp <;> omega)))⟩
set_option maxHeartbeats 1000000 in
theorem numSortFits_any (m e : Int) (w : World) :
    Calls Try.prog 115 #[.agg #[.int .i64 m, .int .i64 e]] w fun r w' => (∃ q : Bool, r = .returned (.bool q) ∧ q = Dm.ok m e) ∧ Below w.heap.size w w' := by
  have hB0 := (Below.refl _ w).alloc (Nat.le_refl _) (.cells #[.int .i64 m, .int .i64 e] 79)
  go_enter Try.func115, Try.ntmps115
  go_wp2_with fail
  refine (iDecOk_any m e _).mono ?_
  rintro r w1 ⟨rfl, hb1⟩
  have hB1 := hB0.trans (hb1.mono hB0.size)
  go_wp2_with fail
  go_ret
  exact ⟨⟨_, rfl, rfl⟩, hB1⟩
set_option maxHeartbeats 1000000 in
theorem textSortFits_any (t : ByteArray) (w : World) (ht : t.size ≤ maxLen) :
    Calls Try.prog 117 #[.string t] w fun r w' => (∃ q : Bool, r = .returned (.bool q) ∧ q = decide (t.size ≤ 1500)) ∧ Below w.heap.size w w' := by
  go_enter Try.func117, Try.ntmps117
  go_wp2_with fail
  refine (shortText_any t w ht).mono ?_
  rintro r w1 ⟨rfl, rfl⟩
  go_wp2_with fail
  go_ret
  exact ⟨⟨_, rfl, rfl⟩, Below.refl _ _⟩
/-- what fits says, of a value of a sort -/
def FitOf (P : Bool → Prop) (s : Bool) (r : Ending) : Prop := ∃ q : Bool, r = .returned (.bool q) ∧ ((P false ∧ q = false) ∨ (P true ∧ q = s))
set_option maxRecDepth 100000 in
set_option maxHeartbeats 1000000 in
theorem fits_of {h g : Hd} {a ga : Option Addr} {n c gn gc T fid vid : Nat} {sv : Value} {P : Bool → Prop} (w : World) (hh : h.In w)
    (hs : ∀ W, Calls Try.prog 47 #[valV h a n c] W fun r w' => r = .returned (.iface T sv) ∧ Below W.heap.size W w')
    (he1 : ∀ args w, (callFunc fid args).run Try.prog w = .ok (.enter fid args) w) (he2 : ∀ args w, (callFunc vid args).run Try.prog w = .ok (.enter vid args) w)
    (hm1 : ∀ W', (method 233 T sv "loop.example/chancery/impl.fits").run Try.prog W' = .ok (fid, sv) W') (hm2 : ∀ W', (method 233 T sv "loop.example/chancery/impl.value").run Try.prog W' = .ok (vid, sv) W')
    (hfits : ∀ W', Below w.heap.size w W' → Calls Try.prog fid #[sv] W' fun r w' => (∃ q : Bool, r = .returned (.bool q) ∧ P q) ∧ Below W'.heap.size W' w')
    (hval : ∀ W', Calls Try.prog vid #[sv] W' fun r w' => r = .returned (valV g ga gn gc) ∧ Below W'.heap.size W' w') (hg : ∀ W', Below w.heap.size w W' → g.In W') :
    Calls Try.prog 45 #[valV h a n c] w fun r w' => FitOf P (headSameV h n g gn) r ∧ Below w.heap.size w w' := by
  have hB0 := (Below.refl _ w).alloc (Nat.le_refl _) (.cells #[.int .i64 h.k, .int .i64 h.m, .int .i64 h.e, .string h.t, .slice a n c, .slice h.na h.ns.length h.nc] 33)
  have X0 := BxV.new w h (.slice a n c) 33
  go_enter Try.func45, Try.ntmps45
  go_wp2_with fail
  refine (hs _).mono ?_
  rintro r w1 ⟨rfl, hb1⟩
  have hB1 := hB0.trans (hb1.mono hB0.size)
  have X1 := X0.below hb1
  clear X0 hB0 hb1 hs
  go_wp2_with fail
  refine ft2 (P := P) (P2 := fun q => q = headSameV h n g gn) X1 he1 he2 hm1 hm2 (fun W' hW => hfits W' (hB1.trans (hW.mono hB1.size))) (fun W' _ => hval W') (fun W' hW => ?_) (fun _ d _ _ _ h => by cases d <;> exact h) ?_
  · have hq := hB1.trans (hW.mono hB1.size)
    refine (sameHeadV_any h g a ga n c gn gc W' (hh.grow hq) (hg W' hq)).mono ?_
    rintro r w' ⟨rfl, hb'⟩
    exact ⟨⟨_, rfl, rfl⟩, hb'⟩
  · intro ws q v6 v7 v8 v9 v10 v11 v12 v13 v14 v15 v16 v17 hq hb2
    have hB2 := hB1.trans (hb2.mono hB1.size)
    have HQ : Hid ((P false ∧ q = false) ∨ (P true ∧ q = headSameV h n g gn)) := hq
    clear hq X1 he1 he2 hm1 hm2 hfits hval hg
    go_wp2_with fail
    go_ret
    exact ⟨⟨q, rfl, HQ.out⟩, hB2⟩
theorem headSame_true {h g : Hd} {n m : Nat} : headSameV h n g m = true ↔ h.same g ∧ n = m := by unfold headSameV; exact decide_eq_true_iff
theorem fitOf_says {P : Bool → Prop} {s : Bool} {p : Prop} (h1 : P false → ¬ p) (h2 : P true → (s = true ↔ p)) {r : Ending} (h : FitOf P s r) : SaysT p r := by
  obtain ⟨q, rfl, h⟩ := h
  rcases h with ⟨a, e⟩ | ⟨a, e⟩
  · rw [e]; exact ⟨false, rfl, fun e => (by cases e), fun e => absurd e (h1 a)⟩
  · rw [e]; exact ⟨s, rfl, h2 a⟩
theorem empty_in (k m e : Int) (t : ByteArray) (ht : t.size ≤ maxLen) (W : World) : Hd.In W ⟨k, m, e, t, none, 0, []⟩ := ⟨.inl rfl, ⟨Nat.le_refl _, by show 0 ≤ maxLen; omega⟩, ht⟩
theorem empty_size : (⟨#[]⟩ : ByteArray).size ≤ maxLen := by show 0 ≤ maxLen; omega
set_option maxRecDepth 100000 in
set_option maxHeartbeats 1000000 in
theorem fits_any (h : Hd) (a : Option Addr) (n c : Nat) (w : World) (hh : h.In w) :
    Calls Try.prog 45 #[valV h a n c] w fun r w' => SaysT (one h n) r ∧ Below w.heap.size w w' := by
  obtain ⟨k, m, e, t, na, nc, ns⟩ := h
  have ht : t.size ≤ maxLen := hh.2.2
  by_cases hk : 0 ≤ k ∧ k ≤ 6
  · have hc : k = 0 ∨ k = 1 ∨ k = 2 ∨ k = 3 ∨ k = 4 ∨ k = 5 ∨ k = 6 := by omega
    clear hk
    rcases hc with rfl | rfl | rfl | rfl | rfl | rfl | rfl
    · refine (fits_of (T := 73) w hh (fun W => sort_0 ⟨0, m, e, t, na, nc, ns⟩ a n c W rfl) (enters_of Try.func111 (by kernel_rfl) rfl) (enters_of Try.func112 (by kernel_rfl) rfl) (fun W' => by kernel_rfl) (fun W' => by kernel_rfl) (fun W' hW => nullSortFits_any W') (fun W' => nullSortValue_any W') (fun W' hW => empty_in _ _ _ _ empty_size W')).mono ?_
      rintro r w' ⟨hr, hb⟩
      exact ⟨fitOf_says (fun q => (by cases q)) (fun _ => by rw [headSame_true]; simp [one, Hd.same, and_assoc]) hr, hb⟩
    · refine (fits_of (T := 78) w hh (fun W => sort_1 ⟨1, m, e, t, na, nc, ns⟩ a n c W rfl) (enters_of Try.func113 (by kernel_rfl) rfl) (enters_of Try.func114 (by kernel_rfl) rfl) (fun W' => by kernel_rfl) (fun W' => by kernel_rfl) (fun W' hW => truthSortFits_any true W') (fun W' => truthSortValue_any true W') (fun W' hW => empty_in _ _ _ _ empty_size W')).mono ?_
      rintro r w' ⟨hr, hb⟩
      exact ⟨fitOf_says (fun q => (by cases q)) (fun _ => by rw [headSame_true]; simp [one, Hd.same, and_assoc]) hr, hb⟩
    · refine (fits_of (T := 78) w hh (fun W => sort_2 ⟨2, m, e, t, na, nc, ns⟩ a n c W rfl) (enters_of Try.func113 (by kernel_rfl) rfl) (enters_of Try.func114 (by kernel_rfl) rfl) (fun W' => by kernel_rfl) (fun W' => by kernel_rfl) (fun W' hW => truthSortFits_any false W') (fun W' => truthSortValue_any false W') (fun W' hW => empty_in _ _ _ _ empty_size W')).mono ?_
      rintro r w' ⟨hr, hb⟩
      exact ⟨fitOf_says (fun q => (by cases q)) (fun _ => by rw [headSame_true]; simp [one, Hd.same, and_assoc]) hr, hb⟩
    · refine (fits_of (T := 79) w hh (fun W => sort_3 ⟨3, m, e, t, na, nc, ns⟩ a n c W rfl) (enters_of Try.func115 (by kernel_rfl) rfl) (enters_of Try.func116 (by kernel_rfl) rfl) (fun W' => by kernel_rfl) (fun W' => by kernel_rfl) (fun W' hW => numSortFits_any m e W') (fun W' => numSortValue_any m e W') (fun W' hW => empty_in _ _ _ _ empty_size W')).mono ?_
      rintro r w' ⟨hr, hb⟩
      exact ⟨fitOf_says (fun q => by simp [one, ← q]) (fun q => by rw [headSame_true]; simp [one, Hd.same, and_assoc, ← q]) hr, hb⟩
    · refine (fits_of (T := 80) w hh (fun W => sort_4 ⟨4, m, e, t, na, nc, ns⟩ a n c W rfl) (enters_of Try.func117 (by kernel_rfl) rfl) (enters_of Try.func118 (by kernel_rfl) rfl) (fun W' => by kernel_rfl) (fun W' => by kernel_rfl) (fun W' hW => textSortFits_any t W' ht) (fun W' => textSortValue_any t W') (fun W' hW => empty_in _ _ _ _ ht W')).mono ?_
      rintro r w' ⟨hr, hb⟩
      exact ⟨fitOf_says (fun q => by have := of_decide_eq_false q.symm; simp [one]; intro x; omega) (fun q => by have := of_decide_eq_true q.symm; rw [headSame_true]; simp [one, Hd.same, and_assoc, this]) hr, hb⟩
    · refine (fits_of (T := 81) w hh (fun W => sort_5 ⟨5, m, e, t, na, nc, ns⟩ a n c W rfl) (enters_of Try.func120 (by kernel_rfl) rfl) (enters_of Try.func121 (by kernel_rfl) rfl) (fun W' => by kernel_rfl) (fun W' => by kernel_rfl) (fun W' hW => arraySortFits_any a n c W') (fun W' => arraySortValue_any a n c W') (fun W' hW => empty_in _ _ _ _ empty_size W')).mono ?_
      rintro r w' ⟨hr, hb⟩
      exact ⟨fitOf_says (fun q => (by cases q)) (fun _ => by rw [headSame_true]; simp [one, Hd.same, and_assoc]) hr, hb⟩
    · refine (fits_of (T := 84) w hh (fun W => sort_6 ⟨6, m, e, t, na, nc, ns⟩ a n c W rfl) (enters_of Try.func122 (by kernel_rfl) rfl) (enters_of Try.func123 (by kernel_rfl) rfl) (fun W' => by kernel_rfl) (fun W' => by kernel_rfl) (fun W' hW => objFits_any ns na nc a n c W' (hh.1.grow hW) hh.2.1.1 hh.2.1.2) (fun W' => objectSortValue_any na nc ns a n c W') (fun W' hW => ⟨hh.1.grow hW, hh.2.1, empty_size⟩)).mono ?_
      rintro r w' ⟨hr, hb⟩
      exact ⟨fitOf_says (fun q => by simp only [Bool.false_eq_true, false_iff] at q; simp [one]; intro x y; exact absurd ⟨x, y⟩ q) (fun q => by have hq := q.1 rfl; rw [headSame_true]; simp [one, Hd.same, and_assoc, hq.1]; intro _ _ _; have h2 := hq.2; rwa [hq.1] at h2) hr, hb⟩
  · have hno : ¬ one ⟨k, m, e, t, na, nc, ns⟩ n := by
      unfold one
      dsimp only
      intro h
      rcases h with ⟨h, _⟩ | ⟨h, _⟩ | ⟨h, _⟩ | ⟨h, _⟩ | ⟨h, _⟩ <;> omega
    have hB0 := (Below.refl _ w).alloc (Nat.le_refl _) (.cells #[.int .i64 k, .int .i64 m, .int .i64 e, .string t, .slice a n c, .slice na ns.length nc] 33)
    have HNO : Hid (¬ one ⟨k, m, e, t, na, nc, ns⟩ n) := hno
    clear hno
    go_enter Try.func45, Try.ntmps45
    go_wp2_with fail
    refine (sort_no ⟨k, m, e, t, na, nc, ns⟩ a n c _ hk).mono ?_
    rintro r w1 ⟨rfl, hb1⟩
    have hB1 := hB0.trans (hb1.mono hB0.size)
    go_wp2_with fail
    refine ft2n (fun _ d _ _ _ h => by cases d <;> exact h) ?_
    intro ws v6 v7 v8 v9 v10 v11 v12 v13 v14 v15 v16 v17 hb2
    have hB2 := hB1.trans (hb2.mono hB1.size)
    go_wp2_with fail
    go_ret
    exact ⟨⟨false, rfl, fun h => (by cases h), fun h => absurd h HNO.out⟩, hB2⟩
end Go.Proofs.Ytpgpkdeiapeoiaa
/- The iterator over a value and all in it. -/
namespace Go.Proofs.Ytpgpkdeiapeoiaa
open Go.RowKit Go.Shelf
attribute [local go_sem] Oper.semAt_some
/-- the values of a list and all in them, each ahead of those in it, with how deep it stands -/
def Vo.flat : Vo → Nat → List (Nat × Hd × Vo)
  | .nil, _ => []
  | .cons h _ _ kids next, d => (d, h, kids) :: (kids.flat (d + 1) ++ next.flat d)
theorem Vo.flat_len : ∀ (F : Vo) (d : Nat), (F.flat d).length = F.size := by
  intro F
  induction F with
  | nil => intro d; rfl
  | cons h a c kids next ih1 ih2 => intro d; show ((d, h, kids) :: (kids.flat (d + 1) ++ next.flat d)).length = kids.size + 1 + next.size; simp [ih1, ih2]; omega
theorem SFrom.sub {w w' : World} (h : Sub w w') : ∀ {ss : List ByteArray} {b o : Nat}, SFrom w ss b o → SFrom w' ss b o := by
  intro ss
  induction ss with
  | nil => intro b o _; trivial
  | cons s t ih => rintro b o ⟨h1, h2, h3⟩; exact ⟨h _ _ _ h1, h2, ih h3⟩
theorem Hd.In.sub {w w' : World} {x : Hd} (y : x.In w) (h : Sub w w') : x.In w' := by
  refine ⟨?_, y.2⟩
  rcases y.1 with y | ⟨b, o, e, y⟩
  · exact .inl y
  · exact .inr ⟨b, o, e, y.sub h⟩
/-- a value that is told, with how deep it stands; what is in it lies in the world w -/
structure TV (w : World) where
  d : Nat
  h : Hd
  a : Option Addr
  kids : Vo
  c : Nat
  hin : kids.In w a
  hl : kids.len ≤ c
  hc : c ≤ maxLen
  hh : h.In w
def TV.raw {w : World} (x : TV w) : Nat × Hd × Vo := (x.d, x.h, x.kids)
def TV.enc {w : World} (x : TV w) : Array Value := #[.int .i64 x.d, .agg #[.int .i64 x.h.k, .int .i64 x.h.m, .int .i64 x.h.e, .string x.h.t, .slice x.a x.kids.len x.c, .slice x.h.na x.h.ns.length x.h.nc]]
set_option maxRecDepth 100000 in
set_option maxHeartbeats 2000000 in
theorem tellV_in (w0 : World) (l n0 n1 N B : Nat) (J Jx : List (TV w0) → World → Prop) (hJ : AbidesFrom B J) (hn0 : w0.heap.size ≤ n0)
    (hY : ∀ (q : Nat) (pre : List (TV w0)) (x : TV w0) (W : World), J pre W → pre.length < N → YieldAt Fence.wide q Try.prog l x.enc W fun e W' =>
      (e = .returned (.bool true) ∧ J (pre ++ [x]) W' ∧ Kept n0 n1 W W') ∨ (e = .returned (.bool false) ∧ Jx (pre ++ [x]) W')) (M : Nat) :
    ∀ (n : Nat) (x : TV w0) (pre : List (TV w0)) (W : World), x.kids.size < M → x.d + x.kids.size ≤ 1000000000 → n1 ≤ W.heap.size → Sub w0 W → J pre W → pre.length + (x.kids.size + 1) ≤ N →
      CallsIn Fence.wide n Try.prog 65 #[.agg #[.int .i64 x.h.k, .int .i64 x.h.m, .int .i64 x.h.e, .string x.h.t, .slice x.a x.kids.len x.c, .slice x.h.na x.h.ns.length x.h.nc], .int .i64 x.d, .func (.yield l) #[] #[]] W fun e W' =>
        (e = .returned (.bool true) ∧ (∃ ys : List (TV w0), ys.map TV.raw = x.raw :: x.kids.flat (x.d + 1) ∧ J (pre ++ ys) W') ∧ Kept n0 n1 W W') ∨
        (e = .returned (.bool false) ∧ ∃ ys : List (TV w0), ys.map TV.raw <+: (x.raw :: x.kids.flat (x.d + 1)) ∧ Jx (pre ++ ys) W') := by
  induction M with
  | zero => intro n x pre W h; omega
  | succ M ih =>
    intro n x pre W hM hd hn1 hsub hJ0 hN
    have hcc := x.hc
    unfold maxLen at hcc
    have hlc := x.hl
    have hll := x.kids.len_le
    have hin := x.hin
    have hsz1 : W.heap.size < (W.alloc (.cells #[.int .i64 x.h.k, .int .i64 x.h.m, .int .i64 x.h.e, .string x.h.t, .slice x.a x.kids.len x.c, .slice x.h.na x.h.ns.length x.h.nc] 33)).heap.size := by simp
    have hb0 : Below W.heap.size W (W.alloc (.cells #[.int .i64 x.h.k, .int .i64 x.h.m, .int .i64 x.h.e, .string x.h.t, .slice x.a x.kids.len x.c, .slice x.h.na x.h.ns.length x.h.nc] 33)) := (Below.refl _ W).alloc (Nat.le_refl _) _
    have hJ1 := hJ _ _ _ none hJ0 (grown_below hb0) (fun r e => by cases e)
    obtain ⟨fn, tmps, assign, body, hy, hR⟩ := hY (n - 1) pre x _ hJ1 (by omega)
    dsimp only [TV.enc] at hy
    refine callsIn_of_wp Try.func65 rfl trivial ?_ rfl
    simp only [Try.ntmps65, List.size_toArray, List.length_cons, List.length_nil, Nat.reduceAdd, Nat.reduceSub, Array.replicate_succ, Array.replicate_zero, List.push_toArray, List.append_toArray, List.nil_append, List.cons_append]
    gi_wp2
    refine ⟨fun h => (by cases h), hR.mono ?_⟩
    clear hR hy
    have c0 : (W.alloc (.cells #[.int .i64 x.h.k, .int .i64 x.h.m, .int .i64 x.h.e, .string x.h.t, .slice x.a x.kids.len x.c, .slice x.h.na x.h.ns.length x.h.nc] 33)).cell? ⟨W.heap.size, 0, none⟩ = some (.int .i64 x.h.k) := by simp
    have c1 : (W.alloc (.cells #[.int .i64 x.h.k, .int .i64 x.h.m, .int .i64 x.h.e, .string x.h.t, .slice x.a x.kids.len x.c, .slice x.h.na x.h.ns.length x.h.nc] 33)).cell? ⟨W.heap.size, 1, none⟩ = some (.int .i64 x.h.m) := by simp
    have c2 : (W.alloc (.cells #[.int .i64 x.h.k, .int .i64 x.h.m, .int .i64 x.h.e, .string x.h.t, .slice x.a x.kids.len x.c, .slice x.h.na x.h.ns.length x.h.nc] 33)).cell? ⟨W.heap.size, 2, none⟩ = some (.int .i64 x.h.e) := by simp
    have c3 : (W.alloc (.cells #[.int .i64 x.h.k, .int .i64 x.h.m, .int .i64 x.h.e, .string x.h.t, .slice x.a x.kids.len x.c, .slice x.h.na x.h.ns.length x.h.nc] 33)).cell? ⟨W.heap.size, 3, none⟩ = some (.string x.h.t) := by simp
    have c4 : (W.alloc (.cells #[.int .i64 x.h.k, .int .i64 x.h.m, .int .i64 x.h.e, .string x.h.t, .slice x.a x.kids.len x.c, .slice x.h.na x.h.ns.length x.h.nc] 33)).cell? ⟨W.heap.size, 4, none⟩ = some (.slice x.a x.kids.len x.c) := by simp
    have c5 : (W.alloc (.cells #[.int .i64 x.h.k, .int .i64 x.h.m, .int .i64 x.h.e, .string x.h.t, .slice x.a x.kids.len x.c, .slice x.h.na x.h.ns.length x.h.nc] 33)).cell? ⟨W.heap.size, 5, none⟩ = some (.slice x.h.na x.h.ns.length x.h.nc) := by simp
    generalize W.alloc (.cells #[.int .i64 x.h.k, .int .i64 x.h.m, .int .i64 x.h.e, .string x.h.t, .slice x.a x.kids.len x.c, .slice x.h.na x.h.ns.length x.h.nc] 33) = W1 at *
    rintro r W2 (⟨rfl, hJ2, hk2⟩ | ⟨rfl, hx2⟩)
    · have d0 := hk2.cell c0 (.inr hn1)
      have d1 := hk2.cell c1 (.inr hn1)
      have d2 := hk2.cell c2 (.inr hn1)
      have d3 := hk2.cell c3 (.inr hn1)
      have d4 := hk2.cell c4 (.inr hn1)
      have d5 := hk2.cell c5 (.inr hn1)
      have K2 : Kept n0 n1 W W2 := (Kept.of_below hb0).trans hk2
      clear c0 c1 c2 c3 c4 c5 hJ1 hk2 hb0 hsz1 hJ0
      have hmeth := belowV_method
      gi_wp2
      refine ⟨trivial, fun h => (by cases h), (callsIn_wide.2 (belowV_any _ _ _ _ _)).mono ?_⟩
      rintro r W3 ⟨rfl, hb3⟩
      have hJ3 := hJ _ _ _ none hJ2 (grown_below hb3) (fun r e => by cases e)
      have K3 : Kept n0 n1 W W3 := K2.trans (Kept.of_below hb3)
      clear d0 d1 d2 d3 d4 d5 hb3 hJ2 K2 hmeth
      gi_wp2
      gi_loopw [18] (fun i wr => ∃ (j : Nat) (ys : List (TV w0)) (G : Vo), i = .int .i64 j ∧ j + G.len = x.kids.len ∧ G.size ≤ x.kids.size ∧ ys.map TV.raw ++ G.flat (x.d + 1) = x.raw :: x.kids.flat (x.d + 1) ∧ (G = .nil ∨ ∃ b o, x.a = some ⟨b, o, none⟩ ∧ G.From w0 b (o + j * 6)) ∧ J (pre ++ ys) wr ∧ Kept n0 n1 W wr) (fun i _ => x.kids.len - (intOf i).toNat)
      case atStart =>
        refine ⟨0, [x], x.kids, rfl, by omega, Nat.le_refl _, rfl, ?_, hJ3, K3⟩
        rcases hin with h | ⟨b, o, e1, e2⟩
        · exact .inl h
        · exact .inr ⟨b, o, e1, by simpa using e2⟩
      case round =>
        obtain ⟨j, ys, G, rfl, hj, hs, hflat, hG, hJs, hK⟩ := hrel
        cases G with
        | nil =>
          have hj' : j = x.kids.len := by simpa [Vo.len] using hj
          have hf' : ys.map TV.raw = x.raw :: x.kids.flat (x.d + 1) := by simpa [Vo.flat] using hflat
          have hlt : ¬ (j : Int) < (x.kids.len : Int) := by omega
          clear hG hj hflat
          gi_wp2
          refine bodyPost_ret (results_tmp rfl _ _ _) rfl (.inl ⟨rfl, ⟨ys, hf', hJs⟩, hK⟩)
        | cons h' a' c' kids next =>
          rcases hG with hG | ⟨b, o, ha, hcells, hk, ⟨hc1, hc2⟩, hh', hn⟩
          · cases hG
          have hln : j + (next.len + 1) = x.kids.len := hj
          have hsz : kids.size + 1 + next.size ≤ x.kids.size := hs
          have hlt : (j : Int) < (x.kids.len : Int) := by omega
          have hjl : j < x.kids.len := by omega
          have hyl : ys.length + (kids.size + 1 + next.size) = 1 + x.kids.size := by
            have := congrArg List.length hflat
            simp [Vo.flat_len] at this
            have h2 : (Vo.cons h' a' c' kids next).size = kids.size + 1 + next.size := rfl
            omega
          have hsubw : Sub w0 wr := hK.sub hsub hn0
          obtain ⟨h1, h2, h3, h4, h5, h6⟩ := hcells
          have g1 := hsubw _ _ _ h1
          have g2 := hsubw _ _ _ h2
          have g3 := hsubw _ _ _ h3
          have g4 := hsubw _ _ _ h4
          have g5 := hsubw _ _ _ h5
          have g6 := hsubw _ _ _ h6
          rw [ha] at *
          clear h1 h2 h3 h4 h5 h6 hj hs
          have hbA : Below wr.heap.size wr (wr.alloc (.cells #[.int .i64 h'.k, .int .i64 h'.m, .int .i64 h'.e, .string h'.t, .slice a' kids.len c', .slice h'.na h'.ns.length h'.nc] 33)) := (Below.refl _ wr).alloc (Nat.le_refl _) _
          have KA : Kept n0 n1 wr _ := Kept.of_below hbA
          have HI := ih (n - 1) ⟨x.d + 1, h', a', kids, c', hk, hc1, hc2, hh'⟩ (pre ++ ys) (wr.alloc (.cells #[.int .i64 h'.k, .int .i64 h'.m, .int .i64 h'.e, .string h'.t, .slice a' kids.len c', .slice h'.na h'.ns.length h'.nc] 33))
            (by show kids.size < M; omega) (by show x.d + 1 + kids.size ≤ 1000000000; omega) (by have := hK.1; simp; omega) (KA.sub hsubw hn0) (hJ _ _ _ none hJs (grown_below hbA) (fun r e => by cases e)) (by show (pre ++ ys).length + (kids.size + 1) ≤ N; rw [List.length_append]; omega)
          have hfl : ys.map TV.raw ++ ((x.d + 1, h', kids) :: (kids.flat (x.d + 1 + 1) ++ next.flat (x.d + 1))) = x.raw :: x.kids.flat (x.d + 1) := hflat
          gi_wp2
          refine ⟨trivial, fun h => (by cases h), HI.mono ?_⟩
          clear HI ih hflat g1 g2 g3 g4 g5 g6
          rintro r W4 (⟨rfl, ⟨zs, hz, hJz⟩, hKz⟩ | ⟨rfl, zs, hz, hxz⟩)
          · have hK4 : Kept n0 n1 W W4 := (hK.trans KA).trans hKz
            have hJ4 : J (pre ++ (ys ++ zs)) W4 := by rw [← List.append_assoc]; exact hJz
            have hf4 : (ys ++ zs).map TV.raw ++ next.flat (x.d + 1) = x.raw :: x.kids.flat (x.d + 1) := by
              rw [← hfl, List.map_append, hz]; simp [TV.raw]
            clear hJs hK KA hKz hJz hfl hz hsubw hbA
            gi_wp2
            go_roundw
            case rel =>
              refine ⟨j + 1, ys ++ zs, next, by go_num, by omega, by omega, hf4, .inr ⟨b, o, rfl, ?_⟩, hJ4, hK4⟩
              rw [show o + (j + 1) * 6 = o + j * 6 + 6 by omega]; exact hn
            case measure => simp [intOf]; omega
          · have hx4 : Jx (pre ++ (ys ++ zs)) W4 := by rw [← List.append_assoc]; exact hxz
            have hf4 : (ys ++ zs).map TV.raw <+: (x.raw :: x.kids.flat (x.d + 1)) := by
              obtain ⟨tl, htl⟩ := hz
              refine ⟨tl ++ next.flat (x.d + 1), ?_⟩
              rw [← hfl, List.map_append, List.append_assoc, ← List.append_assoc (zs.map TV.raw), htl]; simp [TV.raw]
            clear hJs hK KA hxz hfl hz hsubw hbA
            gi_wp2
            refine bodyPost_ret (results_tmp rfl _ _ _) rfl (.inr ⟨rfl, ys ++ zs, hf4, hx4⟩)
    · gi_wp2
      refine bodyPost_ret (results_tmp rfl _ _ _) rfl (.inr ⟨rfl, [x], ?_, hx2⟩)
      exact ⟨x.kids.flat (x.d + 1), rfl⟩

set_option maxHeartbeats 1000000 in
/-- the function that allOf hands back tells the value and all in it -/
theorem allV_stops (w0 : World) (n n0 n1 Bt : Nat) (x : TV w0) (w : World) (hd : x.d = 1) (hx : x.kids.size ≤ 2000000) (hn0 : w0.heap.size ≤ n0) (hn1 : n1 ≤ w.heap.size) (hsub : Sub w0 w)
    (c0 : w.cell? ⟨Bt, 0, none⟩ = some (.int .i64 x.h.k)) (c1 : w.cell? ⟨Bt, 1, none⟩ = some (.int .i64 x.h.m)) (c2 : w.cell? ⟨Bt, 2, none⟩ = some (.int .i64 x.h.e)) (c3 : w.cell? ⟨Bt, 3, none⟩ = some (.string x.h.t)) (c4 : w.cell? ⟨Bt, 4, none⟩ = some (.slice x.a x.kids.len x.c)) (c5 : w.cell? ⟨Bt, 5, none⟩ = some (.slice x.h.na x.h.ns.length x.h.nc)) :
    SeqStopsK Fence.wide n Try.prog 64 #[.pointer (some ⟨Bt, 0, none⟩)] (fun y : TV w0 => y.enc) (Kept n0 n1) (fun ys => ys.map TV.raw = x.raw :: x.kids.flat 2) (fun ys => ys.map TV.raw <+: (x.raw :: x.kids.flat 2)) (x.kids.size + 1) w := fun l J Jx W hW hJ hJx hY h0 => by
  have hB := World.block_lt_of_cell? w _ c0
  have C0 := (hW.cell (p := ⟨Bt, 0, none⟩) hB).trans c0
  have C1 := (hW.cell (p := ⟨Bt, 1, none⟩) hB).trans c1
  have C2 := (hW.cell (p := ⟨Bt, 2, none⟩) hB).trans c2
  have C3 := (hW.cell (p := ⟨Bt, 3, none⟩) hB).trans c3
  have C4 := (hW.cell (p := ⟨Bt, 4, none⟩) hB).trans c4
  have C5 := (hW.cell (p := ⟨Bt, 5, none⟩) hB).trans c5
  have hs := hW.size
  have HT := tellV_in w0 l n0 n1 (x.kids.size + 1) _ J Jx hJ hn0 (fun q pre y W1 h1 h2 => yieldAt_any rfl q (hY pre y W1 h1 h2)) (x.kids.size + 1) (n - 1) x [] W (by omega) (by omega) (by omega) (fun b o v hv => (hW.cell (p := ⟨b, o, none⟩) (World.block_lt_of_cell? _ _ (hsub b o v hv))).trans (hsub b o v hv)) h0 (by simp)
  rw [hd] at HT
  clear c0 c1 c2 c3 c4 c5 hY
  refine callsIn_of_wp Try.func64 rfl trivial ?_ rfl
  simp only [Try.ntmps64, List.size_toArray, List.length_cons, List.length_nil, Nat.reduceAdd, Nat.reduceSub, Array.replicate_succ, Array.replicate_zero, List.push_toArray, List.append_toArray, List.nil_append, List.cons_append]
  gi_wp2
  refine ⟨trivial, fun h => (by cases h), HT.mono ?_⟩
  clear HT
  rintro r W1 (⟨rfl, ⟨ys, hz, hJz⟩, _⟩ | ⟨rfl, ys, hz, hxz⟩)
  · gi_wp2
    go_end0
    exact ⟨⟨_, rfl⟩, .inl ⟨ys, hz, by simpa using hJz⟩⟩
  · gi_wp2
    go_end0
    exact ⟨⟨_, rfl⟩, .inr ⟨ys, hz, by simpa using hxz⟩⟩

set_option maxHeartbeats 400000 in
theorem allOfV_any (h : Hd) (a : Option Addr) (n c : Nat) (w : World) :
    Calls Try.prog 44 #[valV h a n c] w fun r w' => r = .returned (.func (.func 64) #[] #[.pointer (some ⟨w.heap.size, 0, none⟩)]) ∧ w' = w.alloc (.cells #[.int .i64 h.k, .int .i64 h.m, .int .i64 h.e, .string h.t, .slice a n c, .slice h.na h.ns.length h.nc] 33) := by
  go_enter Try.func44, Try.ntmps44
  go_wp2_with fail
  go_ret
  exact ⟨rfl, rfl⟩
end Go.Proofs.Ytpgpkdeiapeoiaa
