/- Contracts for trees that are ok: the table of kinds. -/
import Derived.Test.YtcnhlkkbfdchnaaOkE
namespace Go.Proofs.Ytcnhlkkbfdchnaa
open Go.RowKit
/-- a function, as a value -/
abbrev fnV (n : Nat) : Value := .func (.func n) #[] #[]
/-- the rows of the table: a function on the text, at least and at most so many below -/
def tblV (b : Nat) : Array Value := #[.nilFunc, .int .i64 0, .int .i64 0,
  fnV 42, .int .i64 0, .int .i64 0, fnV 42, .int .i64 0, .int .i64 0, fnV 42, .int .i64 0, .int .i64 0, fnV 42, .int .i64 0, .int .i64 0,
  fnV 43, .int .i64 0, .int .i64 0, fnV 44, .int .i64 0, .int .i64 0, fnV 42, .int .i64 0, .int .i64 0, fnV 44, .int .i64 0, .int .i64 0, fnV 44, .int .i64 0, .int .i64 0,
  fnV 42, .int .i64 1, .int .i64 1, fnV 42, .int .i64 1, .int .i64 1, fnV 42, .int .i64 1, .int .i64 1,
  .func (.func 45) #[.map (some b)] #[], .int .i64 2, .int .i64 2, fnV 42, .int .i64 3, .int .i64 3, fnV 44, .int .i64 2, .int .i64 2,
  fnV 42, .int .i64 1, .int .i64 8, fnV 42, .int .i64 1, .int .i64 8, fnV 44, .int .i64 1, .int .i64 1, fnV 42, .int .i64 2, .int .i64 2,
  fnV 42, .int .i64 0, .int .i64 8, fnV 44, .int .i64 2, .int .i64 2, fnV 42, .int .i64 0, .int .i64 8, fnV 44, .int .i64 1, .int .i64 1, fnV 46, .int .i64 1, .int .i64 3]
theorem tbl_size (b : Nat) : (tblV b).size = 75 := rfl
theorem tblInfo : (Try.prog.info? 48).map (·.size) = some 75 := by kernel_rfl
/-- a whole array is stored into a variable of its own -/
theorem wpList_store_row {P : Program} {ops : Array Oper} {rest : List Oper} {op : Oper} {a : Act} {w : World} {Q : Exit → Act → World → Prop} (hgd : op.guard = none) (ty : TypeId) (x y : Operand) (ho : op.op = .store ty x y)
    (b : Nat) (c c' : Array Value) (hx : a.eval x = .pointer (some ⟨b, 0, none⟩)) (hy : a.eval y = .agg c') (hb : w.heap[b]? = some (.cells c ty (0, 0))) (hi : (P.info? ty).map (·.size) = some c'.size) (hs : c.size = c'.size) (h1 : c'.all (·.oneCell') = true)
    (h : wpList P ops Q rest (a.put op.dst undef) (w.setRow b c')) : wpList P ops Q (op :: rest) a w := by
  refine wpList_plain hgd fun K hK => ?_
  unfold Oper.wp execOp
  simp only [ho, hx, hy, Instr.storeAt, Instr.sureAddr, Sem.run_bind, Sem.run_pure, Result.andThen_ok, run_storeVar_row w b ty ty c c' hb hi hs h1]
  exact hK _ _ h
theorem zeroTbl_size : Try.zeroCells48.size = 75 := Try.zeroCells48_size
theorem tbl_one (b : Nat) : (tblV b).all (·.oneCell') = true := by unfold tblV; simp [Value.oneCell']
theorem setRow_same {w : World} {b : Nat} {c : Array Value} {t : TypeId} (h : w.heap[b]? = some (.cells c t (0, 0))) (c' : Array Value) : (w.setRow b c').heap[b]? = some (.cells c' t (0, 0)) := by
  unfold World.setRow
  simp [Array.getElem?_modify, h]
theorem setRow_grown {b : Nat} (w : World) (c : Array Value) : w.grownBy (w.setRow b c) (some b) :=
  ⟨rfl, rfl, rfl, by simp [World.setRow], fun i _ hi => by
    have hne : b ≠ i := fun e => hi (by rw [e])
    simp [World.setRow, Array.getElem?_modify, hne]⟩
theorem results_cell {P : Program} {fn : Func} {c : Tmp} {t : TypeId} (h : fn.results = #[.cell c t]) {tmps : Array Value} {a : Addr} {v : Value} {w : World} (ht : tmps.getD c undef = .pointer (some a)) (hl : (loadVar t a).run P w = .ok v w) :
    (results fn tmps).run P w = .ok v w := by
  have ht' : tmps[c]?.getD undef = .pointer (some a) := by simpa using ht
  simp [results, h, asAddr, ht', hl]
/-- an operation whose value is known -/
theorem wpList_run {P : Program} {ops : Array Oper} {rest : List Oper} {op : Oper} {a : Act} {w : World} {Q : Exit → Act → World → Prop} (hgd : op.guard = none) (k : Nat) (_hd : op.dst = some k) (v : Value)
    (hrun : (execOp a.eval op).run P w = .ok (.value v) w) (h : wpList P ops Q rest (a.put op.dst v) w) : wpList P ops Q (op :: rest) a w := by
  refine wpList_plain hgd fun K hK => ?_
  unfold Oper.wp
  rw [hrun]
  exact hK _ _ h
set_option maxRecDepth 100000 in
set_option maxHeartbeats 400000 in
theorem nodeKinds_any (w : World) :
    Calls Try.prog 24 #[] w fun e w' => ∃ b, e = .returned (.agg (tblV b)) ∧ w.heap.size ≤ b ∧ IsMap w' b bindsB ∧ Below w.heap.size w w' := by
  go_enter Try.func24, Try.ntmps24
  go_wp2_with fail
  refine (signBindings_any _).mono ?_
  rintro e w1 ⟨rfl, hm, hb⟩
  have hB1 : Below w.heap.size w w1 := ((Below.refl _ w).alloc (Nat.le_refl _) _).trans (hb.mono (by simp))
  have hblk : w1.heap[w.heap.size]? = some (.cells Try.zeroCells48 48 (0, 0)) := (hb.block _ (by simp)).trans (World.alloc_heap_new w _)
  rw [World.size_alloc] at *
  clear hb
  go_wp2_with (first | (refine wpList_run rfl 29 rfl (.agg (tblV (w.heap.size + 1))) (by kernel_rfl) ?_) | refine wpList_store_row rfl 48 (.tmp 0) (.tmp 29) rfl w.heap.size _ (tblV (w.heap.size + 1)) rfl rfl hblk tblInfo zeroTbl_size (tbl_one _) ?_)
  have hrow : (w1.setRow w.heap.size (tblV (w.heap.size + 1))).heap[w.heap.size]? = some (.cells (tblV (w.heap.size + 1)) 48 (0, 0)) := setRow_same hblk _
  have hload := run_loadVar_row (P := Try.prog) _ _ 48 48 _ (0, 0) _ hrow Try.underlying48 rfl tblInfo
  have hg := setRow_grown (b := w.heap.size) w1 (tblV (w.heap.size + 1))
  have hlt := (Array.getElem?_eq_some_iff.1 hm).1
  refine bodyPost_ret (v := .agg (tblV (w.heap.size + 1))) ?_ rfl ⟨_, rfl, by omega, (hg.block _ hlt (by simp)).trans hm, hB1.grown hg hB1.size (fun k e => by cases e; exact Nat.le_refl _)⟩
  exact results_cell (c := 0) Try.results24 rfl hload
end Go.Proofs.Ytcnhlkkbfdchnaa
