/- My own texts, joined: Nh Rm Tr Uq Vr Vs Nd We. -/
import Derived.Test.YtalncebnahlmdaaJFnValueSame16
import Derived.Test.YtalncebnahlmdaaJFnValueSame17
import Derived.Test.YtalncebnahlmdaaJFnValueSame19
import Derived.Test.YtalncebnahlmdaaJFnValueSame8
import Derived.Deep.RegionHeld3
import Derived.Test.YtalncebnahlmdaaJFnValueSame4
import Derived.Test.YtalncebnahlmdaaJFnValueSame0
import Derived.Test.YtalncebnahlmdaaJFnValueSame6
import Derived.Test.YtalncebnahlmdaaJFnValueSame5
/- Values are the same just if their texts are: the law's last region. -/
namespace Go.Proofs.Ytalncebnahlmdaa
open Go.RowKit
attribute [local go_sem] cell_alloc_is frozen_alloc_is
theorem iCmpS {B B' M M' : Nat} {W : World} {h g : Hd} {a a2 : Option Addr} {c c2 : Nat} {F G : Vo} (x : AnyS B M W h a c F) (y : AnyS B' M' W g a2 c2 G) (hM : M ≤ 1000) (hM' : M' ≤ 1000) :
    Calls Try.prog 16 #[valV h a F.len c, valV g a2 G.len c2] W fun r w' => r = .returned (.int .i64 (vcmp h F g G)) ∧ Below W.heap.size W w' := by
  obtain ⟨i1, i2, i3⟩ := Vo.kin_one.1 x.1.1
  obtain ⟨j1, j2, j3⟩ := Vo.kin_one.1 y.1.1
  have := x.2.2.1.1
  have := y.2.2.1.1
  exact iValueCmp_any h a c F g a2 c2 G W (by omega) (by omega) i1 i2.1 i2.2 i3 j1 j2.1 j2.2 j3
theorem iPutS {B M : Nat} {W : World} {h : Hd} {a : Option Addr} {c : Nat} {F : Vo} (x : AnyS B M W h a c F) (hM : M ≤ 1000) :
    Calls Try.prog 15 #[valV h a F.len c] W fun r w' => r = .returned (.string (jput h F)) ∧ Below W.heap.size W w' := by
  obtain ⟨i1, i2, i3⟩ := Vo.kin_one.1 x.1.1
  have := x.2.2.1.1
  exact iJsonPut_any h a c F W (by omega) i1 i2.1 i2.2 i3
set_option maxRecDepth 100000 in
set_option maxHeartbeats 2000000 in
theorem vs9 {Q : Exit → Act → World → Prop} {t0 t1 t2 t6 t7 t8 t9 t10 t11 t12 t13 t14 t15 t16 t17 t18 t19 t20 t21 t22 t23 t24 t25 t26 t27 t28 t29 t30 t31 t32 t33 t34 t35 t36 t37 t38 t39 t40 t41 t42 t43 t44 t45 t46 t47 t48 t49 t50 t51 t52 t53 t54 t55 t56 t57 : Value} {W : World} {va vb B0 ca cb : Nat} {sm : Bool} {hA hB : Hd} {aa ab : Option Addr} {FA FB : Vo}
    (hSA : AnyS B0 1000 W hA aa ca FA) (hSB : AnyS B0 1000 W hB ab cb FB) (hva : Row W va (six hA aa FA.len ca)) (hvb : Row W vb (six hB ab FB.len cb)) (hj : ((jput hA FA).toList == (jput hB FB).toList) = sm) (hn : (vcmp hA FA hB FB == 0) = sm)
    (hp : ∀ p d v a w, Q (.panic p) (Act.put a d v) w → Q (.panic p) a w) (h : ∀ ws v43 v44 v45 v46 v47 v48 v49 v50 v51 v52 v53 v54 v55 v56 v57, Below W.heap.size W ws → Q .normal { tmps := (t0 :: t1 :: .bool true :: .pointer (some ⟨va, 0, none⟩) :: .pointer (some ⟨vb, 0, none⟩) :: .bool sm :: t6 :: t7 :: t8 :: t9 :: t10 :: t11 :: t12 :: t13 :: t14 :: t15 :: t16 :: t17 :: t18 :: t19 :: t20 :: t21 :: t22 :: t23 :: t24 :: t25 :: t26 :: t27 :: t28 :: t29 :: t30 :: t31 :: t32 :: t33 :: t34 :: t35 :: t36 :: t37 :: t38 :: t39 :: t40 :: t41 :: t42 :: v43 :: v44 :: v45 :: v46 :: v47 :: v48 :: v49 :: v50 :: v51 :: v52 :: v53 :: v54 :: v55 :: v56 :: v57 :: []).toArray, defers := [] } ws) :
    Code.wp Try.prog (Code.region 9 #[{ dst := some 43, op := Op.move (Operand.tmp 5), type := 4, pos := "laws.go:583", after := #[], guard := none }, { dst := some 44, op := Op.load 28 (Operand.tmp 3), type := 28, pos := "laws.go:583", after := #[], guard := none }, { dst := some 45, op := Op.call { callee := Callee.value (Operand.func 15), args := #[Operand.tmp 44], argTypes := #[28] }, type := 9, pos := "laws.go:583", after := #[{ on := 1, ground := Ground.data }], guard := none }, { dst := some 46, op := Op.load 28 (Operand.tmp 4), type := 28, pos := "laws.go:583", after := #[], guard := none }, { dst := some 47, op := Op.call { callee := Callee.value (Operand.func 15), args := #[Operand.tmp 46], argTypes := #[28] }, type := 9, pos := "laws.go:583", after := #[{ on := 3, ground := Ground.data }, { on := 2, ground := Ground.chain }], guard := none }, { dst := some 48, op := Op.binOp BinOp.eql 9 (Operand.tmp 45) (Operand.tmp 47) 9, type := 4, pos := "laws.go:583", after := #[{ on := 2, ground := Ground.data }, { on := 4, ground := Ground.data }], guard := none }, { dst := some 49, op := Op.binOp BinOp.eql 4 (Operand.tmp 43) (Operand.tmp 48) 4, type := 4, pos := "laws.go:583", after := #[{ on := 0, ground := Ground.data }, { on := 5, ground := Ground.data }], guard := none }, { dst := some 50, op := Op.move (Operand.tmp 49), type := 4, pos := "laws.go:583", after := #[{ on := 6, ground := Ground.data }, { on := 4, ground := Ground.chain }], guard := none }, { dst := some 51, op := Op.move (Operand.tmp 5), type := 4, pos := "laws.go:583", after := #[{ on := 7, ground := Ground.guard }], guard := some (7, true) }, { dst := some 52, op := Op.load 28 (Operand.tmp 3), type := 28, pos := "laws.go:583", after := #[{ on := 7, ground := Ground.guard }], guard := some (7, true) }, { dst := some 53, op := Op.load 28 (Operand.tmp 4), type := 28, pos := "laws.go:583", after := #[{ on := 7, ground := Ground.guard }], guard := some (7, true) }, { dst := some 54, op := Op.call { callee := Callee.value (Operand.func 16), args := #[Operand.tmp 52, Operand.tmp 53], argTypes := #[28, 28] }, type := 3, pos := "laws.go:583", after := #[{ on := 9, ground := Ground.data }, { on := 10, ground := Ground.data }, { on := 7, ground := Ground.chain }, { on := 7, ground := Ground.guard }], guard := some (7, true) }, { dst := some 55, op := Op.binOp BinOp.eql 3 (Operand.tmp 54) (Operand.const (Value.int IntKind.i64 0)) 3, type := 4, pos := "laws.go:583", after := #[{ on := 11, ground := Ground.data }, { on := 7, ground := Ground.guard }], guard := some (7, true) }, { dst := some 56, op := Op.binOp BinOp.eql 4 (Operand.tmp 51) (Operand.tmp 55) 4, type := 4, pos := "laws.go:583", after := #[{ on := 8, ground := Ground.data }, { on := 12, ground := Ground.data }, { on := 7, ground := Ground.guard }], guard := some (7, true) }, { dst := some 57, op := Op.pick (Operand.tmp 50) (Operand.tmp 56) (Operand.const (Value.bool false)), type := 4, pos := "laws.go:583", after := #[{ on := 7, ground := Ground.data }, { on := 13, ground := Ground.data }], guard := none }, { dst := some 2, op := Op.assign (Operand.tmp 57), type := 4, pos := "laws.go:583", after := #[{ on := 14, ground := Ground.data }, { on := 11, ground := Ground.chain }, { on := 0, ground := Ground.phase }, { on := 1, ground := Ground.phase }, { on := 2, ground := Ground.phase }, { on := 3, ground := Ground.phase }, { on := 4, ground := Ground.phase }, { on := 5, ground := Ground.phase }, { on := 6, ground := Ground.phase }, { on := 7, ground := Ground.phase }, { on := 8, ground := Ground.phase }, { on := 9, ground := Ground.phase }, { on := 10, ground := Ground.phase }, { on := 11, ground := Ground.phase }, { on := 12, ground := Ground.phase }, { on := 13, ground := Ground.phase }, { on := 14, ground := Ground.phase }], guard := none }] true) Q { tmps := (t0 :: t1 :: t2 :: .pointer (some ⟨va, 0, none⟩) :: .pointer (some ⟨vb, 0, none⟩) :: .bool sm :: t6 :: t7 :: t8 :: t9 :: t10 :: t11 :: t12 :: t13 :: t14 :: t15 :: t16 :: t17 :: t18 :: t19 :: t20 :: t21 :: t22 :: t23 :: t24 :: t25 :: t26 :: t27 :: t28 :: t29 :: t30 :: t31 :: t32 :: t33 :: t34 :: t35 :: t36 :: t37 :: t38 :: t39 :: t40 :: t41 :: t42 :: t43 :: t44 :: t45 :: t46 :: t47 :: t48 :: t49 :: t50 :: t51 :: t52 :: t53 :: t54 :: t55 :: t56 :: t57 :: []).toArray, defers := [] } W := by
  have hla := hva.lt
  have hlb := hvb.lt
  have HSof : Hid (∀ w', Below W.heap.size W w' → (Cells6 w' va 0 hA (.slice aa FA.len ca) ∧ Cells6 w' vb 0 hB (.slice ab FB.len cb))) := fun w' h => by
    have hr := hva.below h hla
    have hs := hvb.below h hlb
    exact ⟨⟨(hr 0 _ rfl).1, (hr 1 _ rfl).1, (hr 2 _ rfl).1, (hr 3 _ rfl).1, (hr 4 _ rfl).1, (hr 5 _ rfl).1⟩, (hs 0 _ rfl).1, (hs 1 _ rfl).1, (hs 2 _ rfl).1, (hs 3 _ rfl).1, (hs 4 _ rfl).1, (hs 5 _ rfl).1⟩
  have HA : Hid (∀ w', Below W.heap.size W w' → AnyS B0 1000 w' hA aa ca FA ∧ AnyS B0 1000 w' hB ab cb FB) := fun w' h => ⟨hSA.below h, hSB.below h⟩
  have HJ : Hid (((jput hA FA).toList == (jput hB FB).toList) = sm) := hj
  have HN : Hid ((vcmp hA FA hB FB == 0) = sm) := hn
  have hss : (sm == sm) = true := by cases sm <;> rfl
  have hB0 := (Below.refl W.heap.size W).drew
  have hS0 := HSof.out _ hB0
  clear hSA hSB hva hvb hj hn hla hlb
  refine wp_region_held_drew (S := fun w' => Cells6 w' va 0 hA (.slice aa FA.len ca) ∧ Cells6 w' vb 0 hB (.slice ab FB.len cb)) (by kernel_rfl) hS0 (fun hHeld => ?_)
  generalize W.drew = Wd at *
  refine wpAnyH_take (i := 0) (v := .bool sm) rfl (by kernel_rfl) (by kernel_rfl) (by kernel_rfl) (fun _ _ _ h => hp _ _ _ _ _ h) (Or.inl ⟨by rfl, ?_⟩) (by assumption) ?_
  · intro w hSw
    (try dsimp only at hSw)
    go_simp
  (try simp only [Act.put, List.getElem_toArray, List.getElem_cons_zero, List.setIfInBounds_toArray, List.set_cons_zero, List.set_cons_succ])
  refine wpAnyH_take (i := 1) (v := valV hA aa FA.len ca) rfl (by kernel_rfl) (by kernel_rfl) (by kernel_rfl) (fun _ _ _ h => hp _ _ _ _ _ h) (Or.inl ⟨by rfl, ?_⟩) (by assumption) ?_
  · intro w hSw
    (try dsimp only at hSw)
    (obtain ⟨⟨l0, l1, l2, l3, l4, l5⟩, _⟩ := hSw; go_simp)
  (try simp only [Act.put, List.getElem_toArray, List.getElem_cons_zero, List.getElem_cons_succ, List.setIfInBounds_toArray, List.set_cons_zero, List.set_cons_succ])
  refine wpAnyH_take (i := 3) (v := valV hB ab FB.len cb) rfl (by kernel_rfl) (by kernel_rfl) (by kernel_rfl) (fun _ _ _ h => hp _ _ _ _ _ h) (Or.inl ⟨by rfl, ?_⟩) (by assumption) ?_
  · intro w hSw
    (try dsimp only at hSw)
    (obtain ⟨_, l0, l1, l2, l3, l4, l5⟩ := hSw; go_simp)
  (try simp only [Act.put, List.getElem_toArray, List.getElem_cons_zero, List.getElem_cons_succ, List.setIfInBounds_toArray, List.set_cons_zero, List.set_cons_succ])
  refine wpAnyH_ready (rs := [2]) (by kernel_rfl) (by simp) ?_
  refine AllReadyH.cons rfl (fun K hK => ?_) AllReadyH.nil
  go_simp
  refine (iPutS (HA.out _ hB0).1 (Nat.le_refl _)).mono ?_
  rintro r w1 ⟨rfl, hb1⟩
  have hB1 := hB0.trans (hb1.mono hB0.size)
  clear hS0
  go_wp2_with fail
  refine hK.out _ _ (HSof.out _ hB1) (fun hHeld => ?_)
  clear hK K hB0 hb1
  refine wpAnyH_ready (rs := [4]) (by kernel_rfl) (by simp) ?_
  refine AllReadyH.cons rfl (fun K hK => ?_) AllReadyH.nil
  go_simp
  refine (iPutS (HA.out _ hB1).2 (Nat.le_refl _)).mono ?_
  rintro r w2 ⟨rfl, hb2⟩
  have hB2 := hB1.trans (hb2.mono hB1.size)
  go_wp2_with fail
  refine hK.out _ _ (HSof.out _ hB2) (fun hHeld => ?_)
  clear hK K hB1 hb2
  refine wpAnyH_take (i := 5) (v := .bool sm) rfl (by kernel_rfl) (by kernel_rfl) (by kernel_rfl) (fun _ _ _ h => hp _ _ _ _ _ h) (Or.inl ⟨by rfl, ?_⟩) (by assumption) ?_
  · intro w hSw
    (try dsimp only at hSw)
    (have hj := HJ.out; go_simp)
  (try simp only [Act.put, List.getElem_toArray, List.getElem_cons_zero, List.getElem_cons_succ, List.setIfInBounds_toArray, List.set_cons_zero, List.set_cons_succ])
  refine wpAnyH_take (i := 6) (v := .bool true) rfl (by kernel_rfl) (by kernel_rfl) (by kernel_rfl) (fun _ _ _ h => hp _ _ _ _ _ h) (Or.inl ⟨by rfl, ?_⟩) (by assumption) ?_
  · intro w hSw
    (try dsimp only at hSw)
    go_simp
  (try simp only [Act.put, List.getElem_toArray, List.getElem_cons_zero, List.getElem_cons_succ, List.setIfInBounds_toArray, List.set_cons_zero, List.set_cons_succ])
  refine wpAnyH_take (i := 7) (v := .bool true) rfl (by kernel_rfl) (by kernel_rfl) (by kernel_rfl) (fun _ _ _ h => hp _ _ _ _ _ h) (Or.inl ⟨by rfl, ?_⟩) (by assumption) ?_
  · intro w hSw
    (try dsimp only at hSw)
    go_simp
  (try simp only [Act.put, List.getElem_toArray, List.getElem_cons_zero, List.getElem_cons_succ, List.setIfInBounds_toArray, List.set_cons_zero, List.set_cons_succ])
  refine wpAnyH_take (i := 8) (v := .bool sm) rfl (by kernel_rfl) (by kernel_rfl) (by kernel_rfl) (fun _ _ _ h => hp _ _ _ _ _ h) (Or.inl ⟨by rfl, ?_⟩) (by assumption) ?_
  · intro w hSw
    (try dsimp only at hSw)
    go_simp
  (try simp only [Act.put, List.getElem_toArray, List.getElem_cons_zero, List.getElem_cons_succ, List.setIfInBounds_toArray, List.set_cons_zero, List.set_cons_succ])
  refine wpAnyH_take (i := 9) (v := valV hA aa FA.len ca) rfl (by kernel_rfl) (by kernel_rfl) (by kernel_rfl) (fun _ _ _ h => hp _ _ _ _ _ h) (Or.inl ⟨by rfl, ?_⟩) (by assumption) ?_
  · intro w hSw
    (try dsimp only at hSw)
    (obtain ⟨⟨l0, l1, l2, l3, l4, l5⟩, _⟩ := hSw; go_simp)
  (try simp only [Act.put, List.getElem_toArray, List.getElem_cons_zero, List.getElem_cons_succ, List.setIfInBounds_toArray, List.set_cons_zero, List.set_cons_succ])
  refine wpAnyH_take (i := 10) (v := valV hB ab FB.len cb) rfl (by kernel_rfl) (by kernel_rfl) (by kernel_rfl) (fun _ _ _ h => hp _ _ _ _ _ h) (Or.inl ⟨by rfl, ?_⟩) (by assumption) ?_
  · intro w hSw
    (try dsimp only at hSw)
    (obtain ⟨_, l0, l1, l2, l3, l4, l5⟩ := hSw; go_simp)
  (try simp only [Act.put, List.getElem_toArray, List.getElem_cons_zero, List.getElem_cons_succ, List.setIfInBounds_toArray, List.set_cons_zero, List.set_cons_succ])
  refine wpAnyH_ready (rs := [11]) (by kernel_rfl) (by simp) ?_
  refine AllReadyH.cons rfl (fun K hK => ?_) AllReadyH.nil
  rw [if_pos (by rfl)]
  go_simp
  refine (iCmpS (HA.out _ hB2).1 (HA.out _ hB2).2 (Nat.le_refl _) (Nat.le_refl _)).mono ?_
  rintro r w3 ⟨rfl, hb3⟩
  have hB3 := hB2.trans (hb3.mono hB2.size)
  go_wp2_with fail
  refine hK.out _ _ (HSof.out _ hB3) (fun hHeld => ?_)
  clear hK K hB2 hb3
  refine wpAnyH_take (i := 12) (v := .bool sm) rfl (by kernel_rfl) (by kernel_rfl) (by kernel_rfl) (fun _ _ _ h => hp _ _ _ _ _ h) (Or.inl ⟨by rfl, ?_⟩) (by assumption) ?_
  · intro w hSw
    (try dsimp only at hSw)
    (have hn := HN.out; go_simp)
  (try simp only [Act.put, List.getElem_toArray, List.getElem_cons_zero, List.getElem_cons_succ, List.setIfInBounds_toArray, List.set_cons_zero, List.set_cons_succ])
  refine wpAnyH_take (i := 13) (v := .bool true) rfl (by kernel_rfl) (by kernel_rfl) (by kernel_rfl) (fun _ _ _ h => hp _ _ _ _ _ h) (Or.inl ⟨by rfl, ?_⟩) (by assumption) ?_
  · intro w hSw
    (try dsimp only at hSw)
    go_simp
  (try simp only [Act.put, List.getElem_toArray, List.getElem_cons_zero, List.getElem_cons_succ, List.setIfInBounds_toArray, List.set_cons_zero, List.set_cons_succ])
  refine wpAnyH_take (i := 14) (v := .bool true) rfl (by kernel_rfl) (by kernel_rfl) (by kernel_rfl) (fun _ _ _ h => hp _ _ _ _ _ h) (Or.inl ⟨by rfl, ?_⟩) (by assumption) ?_
  · intro w hSw
    (try dsimp only at hSw)
    go_simp
  (try simp only [Act.put, List.getElem_toArray, List.getElem_cons_zero, List.getElem_cons_succ, List.setIfInBounds_toArray, List.set_cons_zero, List.set_cons_succ])
  refine wpAnyH_take (i := 15) (v := .bool true) rfl (by kernel_rfl) (by kernel_rfl) (by kernel_rfl) (fun _ _ _ h => hp _ _ _ _ _ h) (Or.inl ⟨by rfl, ?_⟩) (by assumption) ?_
  · intro w hSw
    (try dsimp only at hSw)
    go_simp
  (try simp only [Act.put, List.getElem_toArray, List.getElem_cons_zero, List.getElem_cons_succ, List.setIfInBounds_toArray, List.set_cons_zero, List.set_cons_succ])
  refine wpAnyH_done (by kernel_rfl) ?_ _
  exact h _ _ _ _ _ _ _ _ _ _ _ _ _ _ _ _ hB3
end Go.Proofs.Ytalncebnahlmdaa
/- Plain mathematics: how a number is read from its text. -/
namespace Go.Proofs.Ytalncebnahlmdaa.Rm
/-- what stands ahead of the first point, and behind it -/
def sp : List UInt8 → List UInt8 × Option (List UInt8)
  | [] => ([], none)
  | c :: t => if c = 46 then ([], some t) else (c :: (sp t).1, (sp t).2)
def whole (l : List UInt8) : Int := l.foldl (fun n c => n * 10 + ((c.toNat : Int) - 48)) 0
def figs (l : List UInt8) : Bool := l.all (fun c => Qm.fig c.toNat) && decide (l ≠ [])
def lead (a : List UInt8) : Bool := decide (1 < a.length) && decide (a.getD 0 0 = 48)
def two (a b : List UInt8) : Int × Int × Bool :=
  if figs a && (!lead a && decide (a.length + b.length ≤ 17)) then Dm.norm (whole (a ++ b)) (-(b.length : Int)) else (0, 0, false)
def uread (u : List UInt8) : Int × Int × Bool :=
  match (sp u).2 with
  | none => two (sp u).1 []
  | some b => if figs b then two (sp u).1 b else (0, 0, false)
def read : List UInt8 → Int × Int × Bool
  | [] => uread []
  | c :: t => if c = 45 then Dm.neg3 (uread t) else uread (c :: t)

theorem sp_cons_ne {c : UInt8} (t : List UInt8) (h : c ≠ 46) : sp (c :: t) = (c :: (sp t).1, (sp t).2) := by simp [sp, h]
theorem sp_cons_eq (t : List UInt8) : sp (46 :: t) = ([], some t) := rfl
/-- no point among the first k -/
def Past (l : List UInt8) (k : Nat) : Prop := sp l = (l.take k ++ (sp (l.drop k)).1, (sp (l.drop k)).2)
theorem Past.zero (l : List UInt8) : Past l 0 := by simp [Past]
theorem Past.succ {l : List UInt8} {k : Nat} (h : Past l k) (hk : k < l.length) (hc : l[k] ≠ 46) : Past l (k + 1) := by
  unfold Past at h ⊢
  rw [h, List.drop_eq_getElem_cons hk, sp_cons_ne _ hc, List.take_succ_eq_append_getElem hk, List.append_assoc]; rfl
theorem Past.stop {l : List UInt8} {k : Nat} (h : Past l k) (hk : k < l.length) (hc : l[k] = 46) : sp l = (l.take k, some (l.drop (k + 1))) := by
  unfold Past at h
  rw [h, List.drop_eq_getElem_cons hk, hc, sp_cons_eq, List.append_nil]
theorem whole_snoc (l : List UInt8) (c : UInt8) : whole (l ++ [c]) = whole l * 10 + ((c.toNat : Int) - 48) := by simp [whole]
end Go.Proofs.Ytalncebnahlmdaa.Rm
/- Plain mathematics: a number's text is read back as that number. -/
namespace Go.Proofs.Ytalncebnahlmdaa.Tr
open Tm Rm
theorem dig_nat (n j : Nat) : (dig n j).toNat = 48 + n / 10 ^ j % 10 := by
  have : n / 10 ^ j % 10 < 10 := Nat.mod_lt _ (by omega)
  unfold dig; simp; omega
theorem fig_dig (n j : Nat) : Qm.fig (dig n j).toNat = true := by
  have : n / 10 ^ j % 10 < 10 := Nat.mod_lt _ (by omega)
  rw [dig_nat]; simp [Qm.fig]; omega
abbrev allf (l : List UInt8) : Prop := l.all (fun c => Qm.fig c.toNat) = true
theorem allf_dstr (n : Nat) (c : Nat) : allf (dstr n c) := by
  induction c with
  | zero => rfl
  | succ c ih => unfold allf at *; rw [dstr, List.all_cons, fig_dig, ih]; rfl
theorem allf_dsl (n b : Nat) (a : Nat) : allf (dsl n b a) := by
  induction a with
  | zero => rfl
  | succ a ih => unfold allf at *; rw [dsl, List.all_cons, fig_dig, ih]; rfl
theorem allf_rep (k : Nat) : allf (List.replicate k 48) := by
  unfold allf; rw [List.all_eq_true]; intro c hc; rw [List.eq_of_mem_replicate hc]; rfl
theorem allf_app {a b : List UInt8} (ha : allf a) (hb : allf b) : allf (a ++ b) := by
  unfold allf at *; rw [List.all_append, ha, hb]; rfl
theorem fig_ne {c : UInt8} (h : Qm.fig c.toNat = true) : c ≠ 46 ∧ c ≠ 45 := by
  constructor
  · rintro rfl; simp [Qm.fig] at h
  · rintro rfl; simp [Qm.fig] at h
theorem sp_all {a : List UInt8} (h : allf a) : sp a = (a, none) := by
  induction a with
  | nil => rfl
  | cons c t ih =>
    unfold allf at *
    rw [List.all_cons, Bool.and_eq_true] at h
    rw [sp_cons_ne t (fig_ne h.1).1, ih h.2]
theorem sp_point {a : List UInt8} (b : List UInt8) (h : allf a) : sp (a ++ 46 :: b) = (a, some b) := by
  induction a with
  | nil => exact sp_cons_eq b
  | cons c t ih =>
    unfold allf at *
    rw [List.all_cons, Bool.and_eq_true] at h
    show sp (c :: (t ++ 46 :: b)) = _
    rw [sp_cons_ne _ (fig_ne h.1).1, ih h.2]
theorem whole_dstr (c : Nat) : ∀ n : Nat, whole (dstr n c) = ((n % 10 ^ c : Nat) : Int) := by
  induction c with
  | zero => intro n; simp [dstr, whole, Nat.mod_one]
  | succ c ih =>
    intro n
    have e : n % 10 ^ (c + 1) = n / 10 % 10 ^ c * 10 + n % 10 := by rw [Nat.pow_succ, Nat.mul_comm, Nat.mod_mul]; omega
    rw [dstr_snoc, whole_snoc, ih, e, dig_nat]
    simp only [Nat.pow_zero, Nat.div_one]
    omega
theorem whole_rep (l : List UInt8) (k : Nat) : whole (l ++ List.replicate k 48) = whole l * 10 ^ k := by
  induction k with
  | zero => simp
  | succ k ih =>
    rw [List.replicate_succ', ← List.append_assoc, whole_snoc, ih, Int.pow_succ, Int.mul_assoc]
    have : ((48 : UInt8).toNat : Int) - 48 = 0 := rfl
    rw [this, Int.add_zero]
theorem top_dig {n : Nat} (h : n ≤ 99999999) (h2 : 2 ≤ cnt n) : dig n (cnt n - 1) ≠ 48 := by
  by_cases h0 : n = 0
  · subst h0; exact absurd h2 (by decide)
  · obtain ⟨g1, g2, g3⟩ := Dm.digs_log 9 n (by omega) (by omega)
    have hlo : 10 ^ (cnt n - 1) ≤ n := g2
    have hhi : n < 10 ^ cnt n := g3
    have hp : 0 < 10 ^ (cnt n - 1) := Nat.pow_pos (by omega)
    have e : cnt n = cnt n - 1 + 1 := by omega
    rw [e, Nat.pow_succ] at hhi
    have q1 : n / 10 ^ (cnt n - 1) < 10 := Nat.div_lt_of_lt_mul hhi
    have q2 : 1 ≤ n / 10 ^ (cnt n - 1) := (Nat.le_div_iff_mul_le hp).2 (by omega)
    intro hh
    have := dig_nat n (cnt n - 1)
    rw [hh, Nat.mod_eq_of_lt q1] at this
    have e2 : (48 : UInt8).toNat = 48 := rfl
    omega
theorem figs_of {l : List UInt8} (h : allf l) (hn : l ≠ []) : figs l = true := by
  unfold figs; rw [h]; simp [hn]
theorem two_is {a b : List UInt8} (ha : allf a) (hn : a ≠ []) (hl : lead a = false) (h : a.length + b.length ≤ 17) : two a b = Dm.norm (whole (a ++ b)) (-(b.length : Int)) := by
  unfold two; rw [figs_of ha hn, hl, if_pos (by simp [h])]
theorem lead_dstr {n : Nat} (r : List UInt8) (h : n ≤ 99999999) (hr : n = 0 → r = []) : lead (dstr n (cnt n) ++ r) = false := by
  have hc := cnt_pos n
  obtain ⟨c, e⟩ : ∃ c, cnt n = c + 1 := ⟨cnt n - 1, by omega⟩
  by_cases h0 : n = 0
  · rw [hr h0]; subst h0; decide
  · unfold lead
    have ht : dig n c ≠ 48 := by
      by_cases h2 : 2 ≤ cnt n
      · have := top_dig h h2; rw [e] at this; exact this
      · have e1 : cnt n = 1 := by omega
        have ec : c = 0 := by omega
        subst ec
        have hlt := lt_cnt n h
        rw [e1] at hlt
        intro hh
        have := dig_nat n 0
        rw [hh] at this
        have e2 : (48 : UInt8).toNat = 48 := rfl
        simp only [Nat.pow_zero, Nat.div_one, Nat.pow_one] at *
        omega
    rw [e]
    show (_ && decide (dig n c = 48)) = false
    simp [ht]
theorem lead_dsl {n k : Nat} (h : n ≤ 99999999) : lead (dsl n k (max (cnt n) (k + 1) - k)) = false := by
  by_cases h2 : k + 2 ≤ cnt n
  · obtain ⟨a, e⟩ : ∃ a, max (cnt n) (k + 1) - k = a + 1 := ⟨cnt n - k - 1, by omega⟩
    have ht := top_dig h (by omega)
    rw [show cnt n - 1 = a + k by omega] at ht
    rw [e]
    unfold lead
    show (_ && decide (dig n (a + k) = 48)) = false
    simp [ht]
  · unfold lead
    rw [dsl_len, show max (cnt n) (k + 1) - k = 1 by omega]; rfl
theorem uread_body {n : Nat} {x : Int} (h : Dm.ok n x = true) : uread (body n x) = ((n : Int), x, true) := by
  obtain ⟨m1, m2, x1, x2⟩ := Dm.ok_bd h
  have hn : n ≤ 99999999 := by omega
  have hc := cnt_pos n
  have hc9 := cnt_le n
  have hlt := lt_cnt n hn
  unfold body
  by_cases hx : 0 ≤ x
  · rw [if_pos hx]
    obtain ⟨k, rfl⟩ := Int.eq_ofNat_of_zero_le hx
    have ha : allf (dstr n (cnt n) ++ List.replicate k 48) := allf_app (allf_dstr _ _) (allf_rep _)
    have hr : n = 0 → List.replicate k (48 : UInt8) = [] := by
      rintro rfl
      rw [Dm.ok_iff] at h
      have : k = 0 := by omega
      rw [this]; rfl
    show uread (dstr n (cnt n) ++ List.replicate k 48) = _
    unfold uread
    rw [sp_all ha]
    show two _ [] = _
    have hlen : (dstr n (cnt n) ++ List.replicate k (48 : UInt8)).length = cnt n + k := by rw [List.length_append, dstr_len, List.length_replicate]
    rw [two_is ha (by intro e; rw [e] at hlen; simp at hlen; omega) (lead_dstr _ hn hr) (by rw [hlen]; simp; omega), List.append_nil, whole_rep, whole_dstr, Nat.mod_eq_of_lt hlt]
    by_cases h0 : n = 0
    · subst h0
      rw [Dm.ok_iff] at h
      have : k = 0 := by omega
      subst this; rfl
    · have := Dm.norm_pow (m := (n : Int)) (e := 0) k (by omega) (by omega) (by simpa using h)
      simpa using this
  · rw [if_neg hx]
    obtain ⟨k, hk⟩ : ∃ k : Nat, x = -((k : Int)) := ⟨(-x).toNat, by omega⟩
    have ek : (-x).toNat = k := by omega
    rw [ek]
    have ha := allf_dsl n k (max (cnt n) (k + 1) - k)
    have hb := allf_dstr n k
    unfold uread
    rw [sp_point _ ha]
    have hk1 : 1 ≤ k := by omega
    have hbn : dstr n k ≠ [] := by intro e; have := dstr_len n k; rw [e] at this; simp at this; omega
    show (if figs (dstr n k) then two _ (dstr n k) else (0, 0, false)) = _
    rw [figs_of hb hbn, if_pos rfl]
    rw [two_is ha (by intro e; have := dsl_len n k (max (cnt n) (k + 1) - k); rw [e] at this; simp at this; omega) (lead_dsl hn) (by rw [dsl_len, dstr_len]; omega), ← dstr_add, whole_dstr, dstr_len]
    have hbig : n < 10 ^ (max (cnt n) (k + 1) - k + k) := Nat.lt_of_lt_of_le hlt (Nat.pow_le_pow_right (by omega) (by omega))
    rw [Nat.mod_eq_of_lt hbig, ← hk, Dm.norm_self h]
theorem body_head (n : Nat) (x : Int) : ∃ c t, body n x = c :: t ∧ c ≠ 45 := by
  have hc := cnt_pos n
  unfold body
  by_cases hx : 0 ≤ x
  · rw [if_pos hx]
    obtain ⟨c, e⟩ : ∃ c, cnt n = c + 1 := ⟨cnt n - 1, by omega⟩
    rw [e]
    exact ⟨dig n c, _, rfl, (fig_ne (fig_dig n c)).2⟩
  · rw [if_neg hx]
    obtain ⟨a, e⟩ : ∃ a, max (cnt n) ((-x).toNat + 1) - (-x).toNat = a + 1 := ⟨max (cnt n) ((-x).toNat + 1) - (-x).toNat - 1, by omega⟩
    rw [e]
    exact ⟨dig n (a + (-x).toNat), _, rfl, (fig_ne (fig_dig _ _)).2⟩
theorem read_text {m x : Int} (h : Dm.ok m x = true) : read (text m x) = (m, x, true) := by
  unfold text
  by_cases h0 : m < 0
  · obtain ⟨n, rfl⟩ : ∃ n : Nat, m = -(n : Int) := ⟨m.natAbs, by omega⟩
    have hu := uread_body (n := n) (x := x) (by rw [← Dm.ok_neg]; exact h)
    rw [if_pos h0]
    show read (45 :: body (-(n : Int)).natAbs x) = _
    rw [show (-(n : Int)).natAbs = n by omega]
    show Dm.neg3 (uread (body n x)) = _
    rw [hu]; rfl
  · obtain ⟨n, rfl⟩ := Int.eq_ofNat_of_zero_le (show 0 ≤ m by omega)
    have hu := uread_body (n := n) (x := x) h
    obtain ⟨c, t, e, hc⟩ := body_head n x
    rw [if_neg h0]
    show read (body n x) = _
    rw [← hu, e]
    show (if c = 45 then Dm.neg3 (uread t) else uread (c :: t)) = _
    rw [if_neg hc]
theorem text_ne (m x : Int) : text m x ≠ [] := by
  obtain ⟨c, t, e, hc⟩ := body_head m.natAbs x
  unfold text; rw [e]; simp
end Go.Proofs.Ytalncebnahlmdaa.Tr
/- The order of values: turned round it is turned round, and it can be put together. -/
namespace Go.Proofs.Ytalncebnahlmdaa
open Go.RowKit
theorem tord_swap (a b : ByteArray) : tord b a = -tord a b := by
  rcases tord_cases a b with ⟨p1, p2, p3, p4⟩ | ⟨p1, p2, p3, p4⟩ | ⟨p1, p2, p3, p4⟩
  · rcases tord_cases b a with ⟨q1, q2, _, _⟩ | ⟨q1, _, _, _⟩ | ⟨q1, _, q3, q4⟩
    · rw [q2] at p3; cases p3
    · omega
    · exact absurd q4.symm p4
  · rcases tord_cases b a with ⟨q1, _, _, _⟩ | ⟨q1, q2, _, _⟩ | ⟨q1, _, q3, q4⟩
    · omega
    · rw [q2] at p3; cases p3
    · exact absurd q4.symm p4
  · subst p4; rw [p1]; rfl
theorem sgn_swap (v : Int) : Dm.sgn (-v) = -Dm.sgn v := by
  unfold Dm.sgn
  split <;> split <;> (try split) <;> (try split) <;> omega
theorem cmp_swap (m x n y : Int) : Dm.cmp n y m x = -Dm.cmp m x n y := by
  unfold Dm.cmp
  by_cases h : Dm.ok m x = true ∧ Dm.ok n y = true
  · rw [if_pos h, if_pos ⟨h.2, h.1⟩, ← sgn_swap]; congr 1; omega
  · rw [if_neg h, if_neg (fun k => h ⟨k.2, k.1⟩)]; rfl
theorem hord_swap (h g : Hd) : hord g h = -hord h g := by
  unfold hord
  by_cases hk : h.k = g.k
  · rw [if_pos hk, if_pos hk.symm]
    by_cases hm : h.m = g.m ∧ h.e = g.e
    · rw [if_pos hm, if_pos ⟨hm.1.symm, hm.2.symm⟩, tord_swap]
    · rw [if_neg hm, if_neg (fun k => hm ⟨k.1.symm, k.2.symm⟩), cmp_swap]
  · rw [if_neg hk, if_neg (fun k => hk k.symm), ← sgn_swap]; congr 1; omega
theorem pord_swap {f : Hd → Vo → Hd → Vo → Int} (hf : ∀ h F g G, f g G h F = -f h F g G) (ob : Bool) (ns ms : List ByteArray) (F G : Vo) (i : Nat) : pord f ob ms ns G F i = -pord f ob ns ms F G i := by
  unfold pord
  by_cases h : ob = true ∧ nmAt ns i ≠ nmAt ms i
  · rw [if_pos h, if_pos ⟨h.1, fun e => h.2 e.symm⟩, tord_swap]
  · rw [if_neg h, if_neg (fun k => h ⟨k.1, fun e => k.2 e.symm⟩), hf]
theorem ford_swap {f : Hd → Vo → Hd → Vo → Int} (hf : ∀ h F g G, f g G h F = -f h F g G) (ob : Bool) (ns ms : List ByteArray) (F G : Vo) : ∀ n i, ford f ob ms ns G F n i = -ford f ob ns ms F G n i := by
  intro n
  induction n with
  | zero => intro i; show Dm.sgn _ = -Dm.sgn _; rw [← sgn_swap]; congr 1; omega
  | succ n ih =>
    intro i
    show (if pord f ob ms ns G F i = 0 then ford f ob ms ns G F n (i + 1) else pord f ob ms ns G F i) = -(if pord f ob ns ms F G i = 0 then ford f ob ns ms F G n (i + 1) else pord f ob ns ms F G i)
    rw [pord_swap hf ob ns ms F G i]
    by_cases h : pord f ob ns ms F G i = 0
    · rw [if_pos h, if_pos (by omega), ih]
    · rw [if_neg h, if_neg (by omega)]
theorem vord_swap : ∀ (N : Nat) (h : Hd) (F : Vo) (g : Hd) (G : Vo), vord N g G h F = -vord N h F g G := by
  intro N
  induction N with
  | zero => intro h F g G; rfl
  | succ N ih =>
    intro h F g G
    show (if hord g h = 0 then ford (vord N) (g.k == 6) g.ns h.ns G F (min G.len F.len) 0 else hord g h) = -(if hord h g = 0 then ford (vord N) (h.k == 6) h.ns g.ns F G (min F.len G.len) 0 else hord h g)
    rw [hord_swap h g]
    by_cases e : hord h g = 0
    · rw [if_pos e, if_pos (by omega), hord_kind e, Nat.min_comm, ford_swap ih]
    · rw [if_neg e, if_neg (by omega)]
end Go.Proofs.Ytalncebnahlmdaa
/- The order of values as the law FnValueCmp asks for it. -/
namespace Go.Proofs.Ytalncebnahlmdaa
open Go.RowKit
theorem ok_fit {h : Hd} {F : Vo} (x : ValOk h F) : Fit h F := ⟨x.2.2.1, x.2.2.2⟩
end Go.Proofs.Ytalncebnahlmdaa
/- The order of values: only the same values are not apart. -/
namespace Go.Proofs.Ytalncebnahlmdaa
open Go.RowKit
theorem ford_zero {f : Hd → Vo → Hd → Vo → Int} (ob : Bool) (ns ms : List ByteArray) (F G : Vo) : ∀ n i, ford f ob ns ms F G n i = 0 → (∀ j, i ≤ j → j < i + n → pord f ob ns ms F G j = 0) ∧ F.len = G.len := by
  intro n
  induction n with
  | zero =>
    intro i h
    have h0 : Dm.sgn ((F.len : Int) - (G.len : Int)) = 0 := h
    have := (Dm.sgn_iff _).2.2.1 h0
    exact ⟨fun j h1 h2 => by omega, by omega⟩
  | succ n ih =>
    intro i h
    have e : (if pord f ob ns ms F G i = 0 then ford f ob ns ms F G n (i + 1) else pord f ob ns ms F G i) = 0 := h
    by_cases hp : pord f ob ns ms F G i = 0
    · rw [if_pos hp] at e
      obtain ⟨h1, h2⟩ := ih (i + 1) e
      refine ⟨fun j hj1 hj2 => ?_, h2⟩
      by_cases hj : j = i
      · rw [hj]; exact hp
      · exact h1 j (by omega) (by omega)
    · rw [if_neg hp] at e; exact absurd e hp
theorem one_none {h : Hd} {n : Nat} (x : one h n) (hk : ¬ h.k = 6) : h.ns = [] := by
  rcases x with ⟨_, ⟨_, h1⟩, _⟩ | ⟨_, _, ⟨_, h1⟩, _⟩ | ⟨_, _, ⟨_, _, h1⟩, _⟩ | ⟨_, _, h1⟩ | ⟨h1, _⟩
  · exact h1
  · exact h1
  · exact h1
  · exact h1
  · exact absurd h1 hk
theorem alike_of : ∀ {F G : Vo}, F.len = G.len → (∀ i, i < F.len → (F.hdAt i).same (G.hdAt i) ∧ (F.kidsAt i).alike (G.kidsAt i)) → F.alike G := by
  intro F
  induction F with
  | nil =>
    intro G h _
    cases G with
    | nil => trivial
    | cons h0 a0 c0 k0 n0 => exact absurd h.symm (Nat.succ_ne_zero _)
  | cons h a c kids next _ ih =>
    intro G hl hi
    cases G with
    | nil => exact absurd hl (Nat.succ_ne_zero _)
    | cons h0 a0 c0 k0 n0 =>
      obtain ⟨z1, z2⟩ := hi 0 (Nat.succ_pos _)
      exact ⟨z1, z2, ih (Nat.succ.inj hl) (fun i h => hi (i + 1) (Nat.succ_lt_succ h))⟩
theorem deep_at' : ∀ {F : Vo} {i : Nat}, i < F.len → (F.kidsAt i).deep + 1 ≤ F.deep := by
  intro F
  induction F with
  | nil => intro i h; exact absurd h (Nat.not_lt_zero _)
  | cons h a c kids next _ ih =>
    intro i hi
    cases i with
    | zero => show kids.deep + 1 ≤ max (kids.deep + 1) next.deep; omega
    | succ i => have := ih (show i < next.len from Nat.lt_of_succ_lt_succ hi); show (next.kidsAt i).deep + 1 ≤ max (kids.deep + 1) next.deep; omega
theorem vord_zero : ∀ (N : Nat) {h g : Hd} {F G : Vo}, F.deep < N → Fit h F → Fit g G → vord N h F g G = 0 → h.same g ∧ F.alike G := by
  intro N
  induction N with
  | zero => intro h g F G hd; omega
  | succ N ih =>
    intro h g F G hd hF hG hz
    have e : (if hord h g = 0 then ford (vord N) (h.k == 6) h.ns g.ns F G (min F.len G.len) 0 else hord h g) = 0 := hz
    by_cases hh : hord h g = 0
    · rw [if_pos hh] at e
      have hk := hord_kind hh
      rw [hord_dec hk (one_dec hF.1) (one_dec hG.1)] at hh
      have hm : Dm.cmp h.m h.e g.m g.e = 0 := by
        by_cases z : Dm.cmp h.m h.e g.m g.e = 0
        · exact z
        · rw [if_neg z] at hh; exact absurd hh z
      rw [if_pos hm] at hh
      obtain ⟨m1, m2⟩ := (Dm.cmp_zero (one_dec hF.1) (one_dec hG.1)).1 hm
      have ht := tord_zero.1 hh
      obtain ⟨hp, hl⟩ := ford_zero _ _ _ _ _ _ _ e
      have hkid : ∀ i, i < F.len → vord N (F.hdAt i) (F.kidsAt i) (G.hdAt i) (G.kidsAt i) = 0 ∧ ((h.k == 6) = true → nmAt h.ns i = nmAt g.ns i) := by
        intro i hi
        have := hp i (Nat.zero_le _) (by omega)
        unfold pord at this
        by_cases ho : (h.k == 6) = true ∧ nmAt h.ns i ≠ nmAt g.ns i
        · rw [if_pos ho] at this; exact absurd (tord_zero.1 this) ho.2
        · rw [if_neg ho] at this
          exact ⟨this, fun k => Classical.byContradiction fun z => ho ⟨k, z⟩⟩
      have hal : F.alike G := alike_of hl fun i hi => ih (by have h1 := deep_at' hi; omega) (fit_at hF hi) (fit_at hG (by omega)) (hkid i hi).1
      refine ⟨⟨⟨hk, m1, m2, ht⟩, ?_⟩, hal⟩
      by_cases h6 : h.k = 6
      · have l1 := one_names hF.1 h6
        have l2 := one_names hG.1 (by omega)
        refine List.ext_getElem? fun i => ?_
        by_cases hi : i < h.ns.length
        · rw [nmAt_some hi, nmAt_some (by omega), (hkid i (by omega)).2 (by simp [h6])]
        · rw [List.getElem?_eq_none (by omega), List.getElem?_eq_none (by omega)]
      · rw [one_none hF.1 h6, one_none hG.1 (by omega)]
    · rw [if_neg hh] at e; exact absurd e hh
end Go.Proofs.Ytalncebnahlmdaa
/- No two values that are ok have one text in JSON: the mathematics. -/
namespace Go.Proofs.Ytalncebnahlmdaa.Qm
theorem hexd_fin : ∀ i j : Fin 16, hexd i.1 = hexd j.1 → i = j := by decide +kernel
theorem hexd_inj {i j : Nat} (hi : i < 16) (hj : j < 16) (h : hexd i = hexd j) : i = j := congrArg Fin.val (hexd_fin ⟨i, hi⟩ ⟨j, hj⟩ h)
theorem jesc_head (c : UInt8) : ∃ e t, jesc c = e :: t ∧ e ≠ 34 := by
  unfold jesc
  split
  · exact ⟨92, _, rfl, by decide⟩
  · rename_i h
    split
    · exact ⟨c, _, rfl, fun e => h (.inl e)⟩
    · exact ⟨92, _, rfl, by decide⟩
theorem jesc_cut {c d : UInt8} {u v : List UInt8} (h : jesc c ++ u = jesc d ++ v) : c = d ∧ u = v := by
  unfold jesc at h
  split at h
  · rename_i hc
    split at h
    · simp at h; exact h
    · rename_i hd
      split at h
      · simp at h; exact absurd (.inr h.1.symm) hd
      · simp at h
        rcases hc with rfl | rfl
        · exact absurd h.1 (by decide)
        · exact absurd h.1 (by decide)
  · rename_i hc
    split at h
    · split at h
      · rename_i hd
        simp at h
        rcases hd with rfl | rfl
        · exact absurd (.inr h.1) hc
        · exact absurd (.inr h.1) hc
      · split at h
        · simp at h; exact h
        · simp at h; exact absurd (.inr h.1) hc
    · split at h
      · rename_i hd
        simp at h
        rcases hd with rfl | rfl
        · exact absurd h.1 (by decide)
        · exact absurd h.1 (by decide)
      · rename_i hd
        split at h
        · simp at h; exact absurd (.inr h.1.symm) hd
        · simp at h
          obtain ⟨h1, h2, h3⟩ := h
          have c1 := c.toNat_lt
          have d1 := d.toNat_lt
          have e1 := hexd_inj (by omega) (by omega) h1
          have e2 := hexd_inj (by omega) (by omega) h2
          exact ⟨UInt8.toNat_inj.1 (by omega), h3⟩
theorem jflat_cut : ∀ {a b x y : List UInt8}, a.flatMap jesc ++ 34 :: x = b.flatMap jesc ++ 34 :: y → a = b ∧ x = y := by
  intro a
  induction a with
  | nil =>
    intro b x y h
    cases b with
    | nil => simp at h; exact ⟨rfl, h⟩
    | cons d t =>
      obtain ⟨e, u, h1, h2⟩ := jesc_head d
      rw [List.flatMap_cons, h1] at h
      simp at h
      exact absurd h.1.symm h2
  | cons c s ih =>
    intro b x y h
    cases b with
    | nil =>
      obtain ⟨e, u, h1, h2⟩ := jesc_head c
      rw [List.flatMap_cons, h1] at h
      simp at h
      exact absurd h.1 h2
    | cons d t =>
      rw [List.flatMap_cons, List.flatMap_cons, List.append_assoc, List.append_assoc] at h
      obtain ⟨rfl, h1⟩ := jesc_cut h
      obtain ⟨rfl, h2⟩ := ih h1
      exact ⟨rfl, h2⟩
theorem jquote_cut {a b x y : List UInt8} (h : jquote a ++ x = jquote b ++ y) : a = b ∧ x = y := by
  unfold jquote at h
  simp only [List.cons_append, List.append_assoc, List.nil_append] at h
  exact jflat_cut (List.cons.inj h).2
end Go.Proofs.Ytalncebnahlmdaa.Qm
namespace Go.Proofs.Ytalncebnahlmdaa
open Go.RowKit
/-- what may stand behind a value -/
def isClo (c : UInt8) : Prop := c = 44 ∨ c = 93 ∨ c = 125
def clos (r : List UInt8) : Prop := ∀ c t, r = c :: t → isClo c
theorem cut_at : ∀ {A B r s : List UInt8}, (∀ c ∈ A, ¬ isClo c) → (∀ c ∈ B, ¬ isClo c) → clos r → clos s → A ++ r = B ++ s → A = B ∧ r = s := by
  intro A
  induction A with
  | nil =>
    intro B r s _ hB hr _ h
    cases B with
    | nil => exact ⟨rfl, h⟩
    | cons d t => exact absurd (hr d (t ++ s) h) (hB d (List.mem_cons_self ..))
  | cons c u ih =>
    intro B r s hA hB hr hs h
    cases B with
    | nil => exact absurd (hs c (u ++ r) h.symm) (hA c (List.mem_cons_self ..))
    | cons d t =>
      obtain ⟨rfl, h1⟩ := List.cons.inj h
      obtain ⟨rfl, h2⟩ := ih (fun x hx => hA x (List.mem_cons_of_mem _ hx)) (fun x hx => hB x (List.mem_cons_of_mem _ hx)) hr hs h1
      exact ⟨rfl, h2⟩
def numch (c : UInt8) : Prop := c.toNat = 45 ∨ c.toNat = 46 ∨ (48 ≤ c.toNat ∧ c.toNat ≤ 57)
theorem fig_numch {c : UInt8} (h : Qm.fig c.toNat = true) : numch c := by
  simp [Qm.fig] at h
  exact .inr (.inr (by omega))
theorem allf_numch {l : List UInt8} (h : Tr.allf l) : ∀ c ∈ l, numch c := fun c hc => fig_numch (List.all_eq_true.1 h c hc)
theorem text_numch (m x : Int) : ∀ c ∈ Tm.text m x, numch c := by
  intro c hc
  unfold Tm.text at hc
  rcases List.mem_append.1 hc with h | h
  · split at h
    · simp at h; subst h; exact .inl rfl
    · cases h
  · unfold Tm.body at h
    split at h
    · rcases List.mem_append.1 h with h | h
      · exact allf_numch (Tr.allf_dstr _ _) c h
      · exact allf_numch (Tr.allf_rep _) c h
    · rcases List.mem_append.1 h with h | h
      · exact allf_numch (Tr.allf_dsl _ _ _) c h
      · rcases List.mem_cons.1 h with h | h
        · subst h; exact .inr (.inl rfl)
        · exact allf_numch (Tr.allf_dstr _ _) c h
theorem numch_clo {c : UInt8} (h : numch c) : ¬ isClo c := by
  rintro (rfl | rfl | rfl) <;> revert h <;> unfold numch <;> decide
theorem text_cut {m x m' x' : Int} {r s : List UInt8} (h1 : Dm.ok m x = true) (h2 : Dm.ok m' x' = true) (hr : clos r) (hs : clos s) (h : Tm.text m x ++ r = Tm.text m' x' ++ s) : (m = m' ∧ x = x') ∧ r = s := by
  obtain ⟨e, e2⟩ := cut_at (fun c hc => numch_clo (text_numch m x c hc)) (fun c hc => numch_clo (text_numch m' x' c hc)) hr hs h
  have := (Tr.read_text h1).symm.trans (e ▸ Tr.read_text h2)
  have e3 := congrArg Prod.fst this
  have e4 := congrArg (fun q => q.2.1) this
  exact ⟨⟨e3, e4⟩, e2⟩
/-- the items from one on -/
def jfrom (f : Hd → Vo → List UInt8 → List UInt8) (ob : Bool) (ns : List ByteArray) (F : Vo) : Nat → Nat → List UInt8
  | _, 0 => []
  | i, m + 1 => jpiece [] [] f ob ns F [] i ++ jfrom f ob ns F (i + 1) m
theorem jitems_from (f : Hd → Vo → List UInt8 → List UInt8) (ob : Bool) (ns : List ByteArray) (F : Vo) : ∀ m n, jitems [] [] f ob ns F [] (n + m) = jitems [] [] f ob ns F [] n ++ jfrom f ob ns F n m := by
  intro m
  induction m with
  | zero => intro n; exact (List.append_nil _).symm
  | succ m ih =>
    intro n
    have := ih (n + 1)
    rw [show n + 1 + m = n + (m + 1) by omega] at this
    rw [this]
    show (jitems [] [] f ob ns F [] n ++ jpiece [] [] f ob ns F [] n) ++ jfrom f ob ns F (n + 1) m = jitems [] [] f ob ns F [] n ++ (jpiece [] [] f ob ns F [] n ++ jfrom f ob ns F (n + 1) m)
    rw [List.append_assoc]
theorem jinner_from (f : Hd → Vo → List UInt8 → List UInt8) (ob : Bool) (ns : List ByteArray) (F : Vo) : jinner [] [] f ob ns F [] = jfrom f ob ns F 0 F.len := by
  unfold jinner
  have := jitems_from f ob ns F F.len 0
  rw [Nat.zero_add] at this
  rw [this]
  show ([] ++ jfrom f ob ns F 0 F.len) ++ _ = _
  split <;> simp
theorem jpiece_eq (f : Hd → Vo → List UInt8 → List UInt8) (ob : Bool) (ns : List ByteArray) (F : Vo) (i : Nat) : jpiece [] [] f ob ns F [] i = (if i = 0 then [] else [44]) ++ ((if ob then Qm.jquote (nameAt ns i).data.toList ++ [58] else []) ++ f (F.hdAt i) (F.kidsAt i) []) := by
  unfold jpiece
  simp only [List.nil_append, List.append_nil]
theorem jfrom_clos (f : Hd → Vo → List UInt8 → List UInt8) (ob : Bool) (ns : List ByteArray) (F : Vo) {q : UInt8} (hq : isClo q) (i m : Nat) (r : List UInt8) : clos (jfrom f ob ns F (i + 1) m ++ q :: r) := by
  intro c t h
  cases m with
  | zero => obtain ⟨rfl, _⟩ := List.cons.inj h; exact hq
  | succ m =>
    have e : jfrom f ob ns F (i + 1) (m + 1) = jpiece [] [] f ob ns F [] (i + 1) ++ jfrom f ob ns F (i + 1 + 1) m := rfl
    rw [e, jpiece_eq, if_neg (by omega)] at h
    simp only [List.cons_append, List.nil_append] at h
    exact .inl (List.cons.inj h).1.symm
/-- a piece does not begin with a bracket that closes -/
theorem jpiece_head {f : Hd → Vo → List UInt8 → List UInt8} {ob : Bool} {ns : List ByteArray} {F : Vo} {i : Nat} (hd : ∃ c t, f (F.hdAt i) (F.kidsAt i) [] = c :: t ∧ ¬ isClo c) : ∃ c t, jpiece [] [] f ob ns F [] i = c :: t ∧ c ≠ 93 ∧ c ≠ 125 := by
  rw [jpiece_eq]
  split
  · cases ob
    · obtain ⟨c, t, h1, h2⟩ := hd
      exact ⟨c, t, by simp [h1], fun e => h2 (.inr (.inl e)), fun e => h2 (.inr (.inr e))⟩
    · exact ⟨34, _, rfl, by decide, by decide⟩
  · exact ⟨44, _, rfl, by decide, by decide⟩
theorem items_cut {f : Hd → Vo → List UInt8 → List UInt8} {F G : Vo} {ns ms : List ByteArray} {ob : Bool} {q : UInt8} (hq : q = 93 ∨ q = 125)
    (IH : ∀ i, i < F.len → i < G.len → ∀ r s, clos r → clos s → f (F.hdAt i) (F.kidsAt i) [] ++ r = f (G.hdAt i) (G.kidsAt i) [] ++ s → ((F.hdAt i).same (G.hdAt i) ∧ (F.kidsAt i).alike (G.kidsAt i)) ∧ r = s)
    (hF : ∀ i, i < F.len → ∃ c t, f (F.hdAt i) (F.kidsAt i) [] = c :: t ∧ ¬ isClo c) (hG : ∀ i, i < G.len → ∃ c t, f (G.hdAt i) (G.kidsAt i) [] = c :: t ∧ ¬ isClo c) :
    ∀ m m' i r s, i + m = F.len → i + m' = G.len → jfrom f ob ns F i m ++ q :: r = jfrom f ob ms G i m' ++ q :: s →
      m = m' ∧ r = s ∧ ∀ j, i ≤ j → j < i + m → ((F.hdAt j).same (G.hdAt j) ∧ (F.kidsAt j).alike (G.kidsAt j)) ∧ (ob = true → nameAt ns j = nameAt ms j) := by
  have hclo : isClo q := by rcases hq with h | h; exact .inr (.inl h); exact .inr (.inr h)
  intro m
  induction m with
  | zero =>
    intro m' i r s h1 h2 h
    cases m' with
    | zero => exact ⟨rfl, (List.cons.inj h).2, fun j a b => by omega⟩
    | succ m' =>
      obtain ⟨c, t, e, n1, n2⟩ := jpiece_head (ob := ob) (ns := ms) (hG i (by omega))
      have e2 : jfrom f ob ms G i (m' + 1) = jpiece [] [] f ob ms G [] i ++ jfrom f ob ms G (i + 1) m' := rfl
      rw [e2, e] at h
      have := (List.cons.inj h).1
      rcases hq with hq | hq
      · exact absurd (this.symm.trans hq) n1
      · exact absurd (this.symm.trans hq) n2
  | succ m ih =>
    intro m' i r s h1 h2 h
    have e1 : jfrom f ob ns F i (m + 1) = jpiece [] [] f ob ns F [] i ++ jfrom f ob ns F (i + 1) m := rfl
    cases m' with
    | zero =>
      obtain ⟨c, t, e, n1, n2⟩ := jpiece_head (ob := ob) (ns := ns) (hF i (by omega))
      rw [e1, e] at h
      have := (List.cons.inj h).1
      rcases hq with hq | hq
      · exact absurd (this.trans hq) n1
      · exact absurd (this.trans hq) n2
    | succ m' =>
      have e2 : jfrom f ob ms G i (m' + 1) = jpiece [] [] f ob ms G [] i ++ jfrom f ob ms G (i + 1) m' := rfl
      rw [e1, e2, jpiece_eq, jpiece_eq] at h
      simp only [List.append_assoc] at h
      have h3 := List.append_cancel_left h
      have key : (ob = true → nameAt ns i = nameAt ms i) ∧ f (F.hdAt i) (F.kidsAt i) [] ++ (jfrom f ob ns F (i + 1) m ++ q :: r) = f (G.hdAt i) (G.kidsAt i) [] ++ (jfrom f ob ms G (i + 1) m' ++ q :: s) := by
        cases ob
        · exact ⟨fun e => (by cases e), by simpa using h3⟩
        · simp only [if_true, List.append_assoc] at h3
          obtain ⟨a1, a2⟩ := Qm.jquote_cut h3
          refine ⟨fun _ => ByteArray.ext (Array.toList_inj.1 a1), ?_⟩
          simpa using a2
      obtain ⟨k1, k2⟩ := key
      obtain ⟨k3, k4⟩ := IH i (by omega) (by omega) _ _ (jfrom_clos f ob ns F hclo i m r) (jfrom_clos f ob ms G hclo i m' s) k2
      obtain ⟨k5, k6, k7⟩ := ih m' (i + 1) r s (by omega) (by omega) k4
      refine ⟨by omega, k6, fun j a b => ?_⟩
      by_cases hj : j = i
      · rw [hj]; exact ⟨k3, k1⟩
      · exact k7 j (by omega) (by omega)
/-- the first byte tells the kind -/
def firstOf (k : Int) (c : UInt8) : Prop := (k = 0 ∧ c.toNat = 110) ∨ (k = 1 ∧ c.toNat = 116) ∨ (k = 2 ∧ c.toNat = 102) ∨ (k = 3 ∧ numch c) ∨ (k = 4 ∧ c.toNat = 34) ∨ (k = 5 ∧ c.toNat = 91) ∨ (k = 6 ∧ c.toNat = 123)
theorem firstOf_clo {k : Int} {c : UInt8} (h : firstOf k c) : ¬ isClo c := by
  rintro (rfl | rfl | rfl) <;> revert h <;> unfold firstOf numch <;> simp
theorem firstOf_eq {k l : Int} {c : UInt8} (h : firstOf k c) (g : firstOf l c) : k = l := by
  unfold firstOf numch at h g
  omega
theorem jtext_first (N : Nat) {h : Hd} {F : Vo} (x : one h F.len) : ∃ c t, jtext [] [] (N + 1) h F [] = c :: t ∧ firstOf h.k c := by
  have hk := one_kind x
  unfold jtext firstOf
  have hc : h.k = 0 ∨ h.k = 1 ∨ h.k = 2 ∨ h.k = 3 ∨ h.k = 4 ∨ h.k = 5 ∨ h.k = 6 := by omega
  rcases hc with e | e | e | e | e | e | e <;> simp only [e]
  · exact ⟨110, _, rfl, .inl ⟨trivial, rfl⟩⟩
  · exact ⟨116, _, rfl, .inr (.inl ⟨trivial, rfl⟩)⟩
  · exact ⟨102, _, rfl, .inr (.inr (.inl ⟨trivial, rfl⟩))⟩
  · obtain ⟨c, t, ht⟩ : ∃ c t, Tm.text h.m h.e = c :: t := by
      cases hh : Tm.text h.m h.e with
      | nil => exact absurd hh (Tr.text_ne _ _)
      | cons c t => exact ⟨c, t, rfl⟩
    exact ⟨c, t, ht, .inr (.inr (.inr (.inl ⟨trivial, text_numch h.m h.e c (by rw [ht]; exact List.mem_cons_self ..)⟩)))⟩
  · exact ⟨34, _, rfl, .inr (.inr (.inr (.inr (.inl ⟨trivial, rfl⟩))))⟩
  · exact ⟨91, _, rfl, .inr (.inr (.inr (.inr (.inr (.inl ⟨trivial, rfl⟩)))))⟩
  · exact ⟨123, _, rfl, .inr (.inr (.inr (.inr (.inr (.inr ⟨trivial, rfl⟩)))))⟩
theorem one_plain {h : Hd} {n : Nat} (x : one h n) : (h.k ≠ 3 → h.m = 0 ∧ h.e = 0) ∧ (h.k ≠ 4 → h.t = ⟨#[]⟩) := by
  rcases x with ⟨h1, ⟨⟨a, b, c⟩, _⟩, _⟩ | ⟨h1, _, ⟨a, b⟩, _⟩ | ⟨h1, _, ⟨a, b, c⟩, _⟩ | ⟨h1, ⟨a, b, c⟩, _⟩ | ⟨h1, _, a, b, c⟩
  · exact ⟨fun _ => ⟨a, b⟩, fun _ => c⟩
  · exact ⟨fun e => absurd h1 e, fun _ => a⟩
  · exact ⟨fun _ => ⟨a, b⟩, fun e => absurd h1 e⟩
  · exact ⟨fun _ => ⟨a, b⟩, fun _ => c⟩
  · exact ⟨fun _ => ⟨a, b⟩, fun _ => c⟩
theorem nil_of_len {F : Vo} (h : F.len = 0) : F = .nil := by
  cases F with
  | nil => rfl
  | cons h0 a0 c0 k0 n0 => exact absurd h (Nat.succ_ne_zero _)
theorem jtext_cut : ∀ (N : Nat) {h g : Hd} {F G : Vo} {r s : List UInt8}, Fit h F → Fit g G → F.deep < N → G.deep < N → clos r → clos s → jtext [] [] N h F [] ++ r = jtext [] [] N g G [] ++ s → (h.same g ∧ F.alike G) ∧ r = s := by
  intro N
  induction N with
  | zero => intro h g F G r s _ _ hd; omega
  | succ N ih =>
    intro h g F G r s hF hG dF dG hr hs he
    obtain ⟨c1, t1, e1, f1⟩ := jtext_first N hF.1
    obtain ⟨c2, t2, e2, f2⟩ := jtext_first N hG.1
    have hk : h.k = g.k := by
      rw [e1, e2] at he
      have := (List.cons.inj he).1
      exact firstOf_eq f1 (this ▸ f2)
    obtain ⟨pF, qF⟩ := one_plain hF.1
    obtain ⟨pG, qG⟩ := one_plain hG.1
    have leaf : h.k ≤ 4 → (h.m = g.m ∧ h.e = g.e ∧ h.t = g.t) ∧ r = s → (h.same g ∧ F.alike G) ∧ r = s := by
      rintro hle ⟨⟨a, b, c⟩, d⟩
      have l1 := (oneJ hF.1).2.2.2.2 hle
      have l2 := (oneJ hG.1).2.2.2.2 (by omega)
      rw [nil_of_len l1, nil_of_len l2]
      exact ⟨⟨⟨⟨hk, a, b, c⟩, by rw [one_none hF.1 (by omega), one_none hG.1 (by omega)]⟩, trivial⟩, d⟩
    have kid : ∀ {K : Vo}, K.deep < N + 1 → K.allOne → ∀ i, i < K.len → Fit (K.hdAt i) (K.kidsAt i) ∧ (K.kidsAt i).deep < N := fun hd ha i hi => ⟨allOne_at hi ha, by have := deep_at' hi; omega⟩
    have item : ∀ {ob : Bool} {q : UInt8} {ns ms : List ByteArray}, q = 93 ∨ q = 125 → jfrom (jtext [] [] N) ob ns F 0 F.len ++ q :: r = jfrom (jtext [] [] N) ob ms G 0 G.len ++ q :: s →
        (F.len = G.len ∧ r = s ∧ F.alike G) ∧ (ob = true → ∀ j, j < F.len → nameAt ns j = nameAt ms j) := by
      intro ob q ns ms hq hx
      have hN : ∀ {K : Vo}, K.deep < N + 1 → ∀ i, i < K.len → ∃ M, N = M + 1 := fun hd i hi => ⟨N - 1, by have := deep_at' hi; omega⟩
      have hh : ∀ {K : Vo}, K.deep < N + 1 → K.allOne → ∀ i, i < K.len → ∃ c t, jtext [] [] N (K.hdAt i) (K.kidsAt i) [] = c :: t ∧ ¬ isClo c := fun hd ha i hi => by
        obtain ⟨M, hM⟩ := hN hd i hi
        obtain ⟨c, t, h1, h2⟩ := jtext_first M (allOne_at hi ha).1
        exact ⟨c, t, by rw [hM]; exact h1, firstOf_clo h2⟩
      obtain ⟨a, b, c⟩ := items_cut (f := jtext [] [] N) (F := F) (G := G) (ns := ns) (ms := ms) (ob := ob) hq
        (fun i h1 h2 r s hr hs hx => ih (kid dF hF.2 i h1).1 (kid dG hG.2 i h2).1 (kid dF hF.2 i h1).2 (kid dG hG.2 i h2).2 hr hs hx) (hh dF hF.2) (hh dG hG.2) F.len G.len 0 r s (by omega) (by omega) hx
      exact ⟨⟨a, b, alike_of a fun i hi => (c i (by omega) (by omega)).1⟩, fun ho j hj => (c j (by omega) (by omega)).2 ho⟩
    have hkk := one_kind hF.1
    have hc : h.k = 0 ∨ h.k = 1 ∨ h.k = 2 ∨ h.k = 3 ∨ h.k = 4 ∨ h.k = 5 ∨ h.k = 6 := by omega
    unfold jtext at he
    rcases hc with e | e | e | e | e | e | e
    · have e' : g.k = 0 := by omega
      simp [e, e'] at he
      exact leaf (by omega) ⟨⟨by rw [(pF (by omega)).1, (pG (by omega)).1], by rw [(pF (by omega)).2, (pG (by omega)).2], by rw [qF (by omega), qG (by omega)]⟩, he⟩
    · have e' : g.k = 1 := by omega
      simp [e, e'] at he
      exact leaf (by omega) ⟨⟨by rw [(pF (by omega)).1, (pG (by omega)).1], by rw [(pF (by omega)).2, (pG (by omega)).2], by rw [qF (by omega), qG (by omega)]⟩, he⟩
    · have e' : g.k = 2 := by omega
      simp [e, e'] at he
      exact leaf (by omega) ⟨⟨by rw [(pF (by omega)).1, (pG (by omega)).1], by rw [(pF (by omega)).2, (pG (by omega)).2], by rw [qF (by omega), qG (by omega)]⟩, he⟩
    · have e' : g.k = 3 := by omega
      rw [e, e'] at he
      have he2 : Tm.text h.m h.e ++ r = Tm.text g.m g.e ++ s := he
      obtain ⟨⟨a, b⟩, d⟩ := text_cut (one_dec hF.1) (one_dec hG.1) hr hs he2
      exact leaf (by omega) ⟨⟨a, b, by rw [qF (by omega), qG (by omega)]⟩, d⟩
    · have e' : g.k = 4 := by omega
      rw [e, e'] at he
      have he2 : Qm.jquote h.t.data.toList ++ r = Qm.jquote g.t.data.toList ++ s := he
      obtain ⟨a, d⟩ := Qm.jquote_cut he2
      exact leaf (by omega) ⟨⟨by rw [(pF (by omega)).1, (pG (by omega)).1], by rw [(pF (by omega)).2, (pG (by omega)).2], ByteArray.ext (Array.toList_inj.1 a)⟩, d⟩
    · have e' : g.k = 5 := by omega
      rw [e, e'] at he
      have he2 : ([91] ++ (jinner [] [] (jtext [] [] N) false [] F [] ++ [93])) ++ r = ([91] ++ (jinner [] [] (jtext [] [] N) false [] G [] ++ [93])) ++ s := he
      simp only [List.cons_append, List.nil_append, List.append_assoc] at he2
      have he3 := (List.cons.inj he2).2
      rw [jinner_from, jinner_from] at he3
      obtain ⟨⟨_, a, b⟩, _⟩ := item (.inl rfl) he3
      exact ⟨⟨⟨⟨hk, by rw [(pF (by omega)).1, (pG (by omega)).1], by rw [(pF (by omega)).2, (pG (by omega)).2], by rw [qF (by omega), qG (by omega)]⟩, by rw [one_none hF.1 (by omega), one_none hG.1 (by omega)]⟩, b⟩, a⟩
    · have e' : g.k = 6 := by omega
      rw [e, e'] at he
      have he2 : ([123] ++ (jinner [] [] (jtext [] [] N) true h.ns F [] ++ [125])) ++ r = ([123] ++ (jinner [] [] (jtext [] [] N) true g.ns G [] ++ [125])) ++ s := he
      simp only [List.cons_append, List.nil_append, List.append_assoc] at he2
      have he3 := (List.cons.inj he2).2
      rw [jinner_from, jinner_from] at he3
      obtain ⟨⟨l, a, b⟩, hn⟩ := item (.inr rfl) he3
      have n1 := one_names hF.1 e
      have n2 := one_names hG.1 e'
      refine ⟨⟨⟨⟨hk, by rw [(pF (by omega)).1, (pG (by omega)).1], by rw [(pF (by omega)).2, (pG (by omega)).2], by rw [qF (by omega), qG (by omega)]⟩, ?_⟩, b⟩, a⟩
      refine List.ext_getElem? fun j => ?_
      by_cases hj : j < h.ns.length
      · rw [nameAt_some hj, nameAt_some (by omega), hn rfl j (by omega)]
      · rw [List.getElem?_eq_none (by omega), List.getElem?_eq_none (by omega)]
end Go.Proofs.Ytalncebnahlmdaa
/- ValueSame of the specification. -/
namespace Go.Proofs.Ytalncebnahlmdaa
open Go.RowKit
set_option maxRecDepth 100000 in
set_option maxHeartbeats 1000000 in
theorem vs6 {Q : Exit → Act → World → Prop} {t0 t1 t4 t6 t7 t8 t9 t10 t11 t12 t13 t14 t15 t16 t17 t18 t19 t20 t21 t22 t23 t24 t25 t26 t27 t28 t29 t30 t31 t32 t33 t34 t35 t36 t37 t38 t39 t40 t41 t42 t43 t44 t45 t46 t47 t48 t49 t50 t51 t52 t53 t54 t55 t56 t57 t58 t59 t60 t61 t62 t63 t64 t65 t66 t67 t68 t69 t70 t71 t72 t73 t74 t75 t76 t77 t78 t79 t80 : Value} {W : World} {b o n c b2 o2 n2 c2 j x4 y4 : Nat} {s s2 : ByteArray} {q : Bool}
    (hj : (j : Int) < (n : Int)) (hj2 : (j : Int) < (n2 : Int)) (hbx : W.cell? ⟨x4, 5, none⟩ = some (.slice (some ⟨b, o, none⟩) n c)) (hby : W.cell? ⟨y4, 5, none⟩ = some (.slice (some ⟨b2, o2, none⟩) n2 c2)) (h1 : W.cell? ⟨b, o + j, none⟩ = some (.string s)) (h2 : W.cell? ⟨b2, o2 + j, none⟩ = some (.string s2)) (hq : (s.toList == s2.toList) = !q)
    (hp : ∀ p d v a w, Q (.panic p) (Act.put a d v) w → Q (.panic p) a w) (h : ∀ ws v51 v52 v53 v54 v55 v56 v57 v58 v59 v60, Below W.heap.size W ws → Q .normal { tmps := (t0 :: t1 :: (.pointer (some ⟨x4, 0, none⟩)) :: (.pointer (some ⟨y4, 0, none⟩)) :: t4 :: (.int .i64 (j : Nat)) :: t6 :: t7 :: t8 :: t9 :: t10 :: t11 :: t12 :: t13 :: t14 :: t15 :: t16 :: t17 :: t18 :: t19 :: t20 :: t21 :: t22 :: t23 :: t24 :: t25 :: t26 :: t27 :: t28 :: t29 :: t30 :: t31 :: t32 :: t33 :: t34 :: t35 :: t36 :: t37 :: t38 :: t39 :: t40 :: t41 :: t42 :: t43 :: t44 :: t45 :: t46 :: t47 :: t48 :: t49 :: t50 :: v51 :: v52 :: v53 :: v54 :: v55 :: v56 :: v57 :: v58 :: v59 :: v60 :: .bool q :: t62 :: t63 :: t64 :: t65 :: t66 :: t67 :: t68 :: t69 :: t70 :: t71 :: t72 :: t73 :: t74 :: t75 :: t76 :: t77 :: t78 :: t79 :: t80 :: []).toArray, defers := [] } ws) :
    Code.wp Try.prog (Code.region 6 #[{ dst := some 51, op := Op.fieldAddr 28 (Operand.tmp 2) 4, type := 0, pos := "l7_value.go:77", after := #[], guard := none }, { dst := some 52, op := Op.load 26 (Operand.tmp 51), type := 26, pos := "l7_value.go:77", after := #[{ on := 0, ground := Ground.data }], guard := none }, { dst := some 53, op := Op.move (Operand.tmp 5), type := 3, pos := "l7_value.go:77", after := #[], guard := none }, { dst := some 54, op := Op.indexAddr 26 (Operand.tmp 52) (Operand.tmp 53), type := 0, pos := "l7_value.go:77", after := #[{ on := 1, ground := Ground.data }, { on := 2, ground := Ground.data }], guard := none }, { dst := some 55, op := Op.load 9 (Operand.tmp 54), type := 9, pos := "l7_value.go:77", after := #[{ on := 3, ground := Ground.data }], guard := none }, { dst := some 56, op := Op.fieldAddr 28 (Operand.tmp 3) 4, type := 0, pos := "l7_value.go:77", after := #[], guard := none }, { dst := some 57, op := Op.load 26 (Operand.tmp 56), type := 26, pos := "l7_value.go:77", after := #[{ on := 5, ground := Ground.data }], guard := none }, { dst := some 58, op := Op.move (Operand.tmp 5), type := 3, pos := "l7_value.go:77", after := #[], guard := none }, { dst := some 59, op := Op.indexAddr 26 (Operand.tmp 57) (Operand.tmp 58), type := 0, pos := "l7_value.go:77", after := #[{ on := 6, ground := Ground.data }, { on := 7, ground := Ground.data }], guard := none }, { dst := some 60, op := Op.load 9 (Operand.tmp 59), type := 9, pos := "l7_value.go:77", after := #[{ on := 8, ground := Ground.data }], guard := none }, { dst := some 61, op := Op.binOp BinOp.neq 9 (Operand.tmp 55) (Operand.tmp 60) 9, type := 4, pos := "l7_value.go:77", after := #[{ on := 4, ground := Ground.data }, { on := 9, ground := Ground.data }], guard := none }] true) Q { tmps := (t0 :: t1 :: (.pointer (some ⟨x4, 0, none⟩)) :: (.pointer (some ⟨y4, 0, none⟩)) :: t4 :: (.int .i64 (j : Nat)) :: t6 :: t7 :: t8 :: t9 :: t10 :: t11 :: t12 :: t13 :: t14 :: t15 :: t16 :: t17 :: t18 :: t19 :: t20 :: t21 :: t22 :: t23 :: t24 :: t25 :: t26 :: t27 :: t28 :: t29 :: t30 :: t31 :: t32 :: t33 :: t34 :: t35 :: t36 :: t37 :: t38 :: t39 :: t40 :: t41 :: t42 :: t43 :: t44 :: t45 :: t46 :: t47 :: t48 :: t49 :: t50 :: t51 :: t52 :: t53 :: t54 :: t55 :: t56 :: t57 :: t58 :: t59 :: t60 :: t61 :: t62 :: t63 :: t64 :: t65 :: t66 :: t67 :: t68 :: t69 :: t70 :: t71 :: t72 :: t73 :: t74 :: t75 :: t76 :: t77 :: t78 :: t79 :: t80 :: []).toArray, defers := [] } W := by
  have hS0 : (W.drew.cell? ⟨x4, 5, none⟩ = some (.slice (some ⟨b, o, none⟩) n c) ∧ W.drew.cell? ⟨y4, 5, none⟩ = some (.slice (some ⟨b2, o2, none⟩) n2 c2)) ∧ W.drew.cell? ⟨b, o + j, none⟩ = some (.string s) ∧ W.drew.cell? ⟨b2, o2 + j, none⟩ = some (.string s2) := ⟨⟨hbx, hby⟩, h1, h2⟩
  refine wp_region_held_drew (S := fun w' => (w'.cell? ⟨x4, 5, none⟩ = some (.slice (some ⟨b, o, none⟩) n c) ∧ w'.cell? ⟨y4, 5, none⟩ = some (.slice (some ⟨b2, o2, none⟩) n2 c2)) ∧ w'.cell? ⟨b, o + j, none⟩ = some (.string s) ∧ w'.cell? ⟨b2, o2 + j, none⟩ = some (.string s2)) (by kernel_rfl) hS0 (fun hHeld => ?_)
  refine wpAnyH_take (i := 0) (v := .pointer (some ⟨x4, 5, none⟩)) rfl (by kernel_rfl) (by kernel_rfl) (by kernel_rfl) (fun _ _ _ h => hp _ _ _ _ _ h) (Or.inl ⟨by rfl, ?_⟩) (by assumption) ?_
  · intro w hSw
    (try dsimp only at hSw)
    go_simp
  (try simp only [Act.put, List.getElem_toArray, List.getElem_cons_zero, List.setIfInBounds_toArray, List.set_cons_zero, List.set_cons_succ])
  refine wpAnyH_take (i := 1) (v := .slice (some ⟨b, o, none⟩) n c) rfl (by kernel_rfl) (by kernel_rfl) (by kernel_rfl) (fun _ _ _ h => hp _ _ _ _ _ h) (Or.inl ⟨by rfl, ?_⟩) (by assumption) ?_
  · intro w hSw
    (try dsimp only at hSw)
    go_simp
  (try simp only [Act.put, List.getElem_toArray, List.getElem_cons_zero, List.getElem_cons_succ, List.setIfInBounds_toArray, List.set_cons_zero, List.set_cons_succ])
  refine wpAnyH_take (i := 2) (v := .int .i64 (j : Nat)) rfl (by kernel_rfl) (by kernel_rfl) (by kernel_rfl) (fun _ _ _ h => hp _ _ _ _ _ h) (Or.inl ⟨by rfl, ?_⟩) (by assumption) ?_
  · intro w hSw
    (try dsimp only at hSw)
    go_simp
  (try simp only [Act.put, List.getElem_toArray, List.getElem_cons_zero, List.getElem_cons_succ, List.setIfInBounds_toArray, List.set_cons_zero, List.set_cons_succ])
  refine wpAnyH_take (i := 3) (v := .pointer (some ⟨b, o + j, none⟩)) rfl (by kernel_rfl) (by kernel_rfl) (by kernel_rfl) (fun _ _ _ h => hp _ _ _ _ _ h) (Or.inl ⟨by rfl, ?_⟩) (by assumption) ?_
  · intro w hSw
    (try dsimp only at hSw)
    go_simp
  (try simp only [Act.put, List.getElem_toArray, List.getElem_cons_zero, List.getElem_cons_succ, List.setIfInBounds_toArray, List.set_cons_zero, List.set_cons_succ])
  refine wpAnyH_take (i := 4) (v := .string s) rfl (by kernel_rfl) (by kernel_rfl) (by kernel_rfl) (fun _ _ _ h => hp _ _ _ _ _ h) (Or.inl ⟨by rfl, ?_⟩) (by assumption) ?_
  · intro w hSw
    (try dsimp only at hSw)
    go_simp
  (try simp only [Act.put, List.getElem_toArray, List.getElem_cons_zero, List.getElem_cons_succ, List.setIfInBounds_toArray, List.set_cons_zero, List.set_cons_succ])
  refine wpAnyH_take (i := 5) (v := .pointer (some ⟨y4, 5, none⟩)) rfl (by kernel_rfl) (by kernel_rfl) (by kernel_rfl) (fun _ _ _ h => hp _ _ _ _ _ h) (Or.inl ⟨by rfl, ?_⟩) (by assumption) ?_
  · intro w hSw
    (try dsimp only at hSw)
    go_simp
  (try simp only [Act.put, List.getElem_toArray, List.getElem_cons_zero, List.getElem_cons_succ, List.setIfInBounds_toArray, List.set_cons_zero, List.set_cons_succ])
  refine wpAnyH_take (i := 6) (v := .slice (some ⟨b2, o2, none⟩) n2 c2) rfl (by kernel_rfl) (by kernel_rfl) (by kernel_rfl) (fun _ _ _ h => hp _ _ _ _ _ h) (Or.inl ⟨by rfl, ?_⟩) (by assumption) ?_
  · intro w hSw
    (try dsimp only at hSw)
    go_simp
  (try simp only [Act.put, List.getElem_toArray, List.getElem_cons_zero, List.getElem_cons_succ, List.setIfInBounds_toArray, List.set_cons_zero, List.set_cons_succ])
  refine wpAnyH_take (i := 7) (v := .int .i64 (j : Nat)) rfl (by kernel_rfl) (by kernel_rfl) (by kernel_rfl) (fun _ _ _ h => hp _ _ _ _ _ h) (Or.inl ⟨by rfl, ?_⟩) (by assumption) ?_
  · intro w hSw
    (try dsimp only at hSw)
    go_simp
  (try simp only [Act.put, List.getElem_toArray, List.getElem_cons_zero, List.getElem_cons_succ, List.setIfInBounds_toArray, List.set_cons_zero, List.set_cons_succ])
  refine wpAnyH_take (i := 8) (v := .pointer (some ⟨b2, o2 + j, none⟩)) rfl (by kernel_rfl) (by kernel_rfl) (by kernel_rfl) (fun _ _ _ h => hp _ _ _ _ _ h) (Or.inl ⟨by rfl, ?_⟩) (by assumption) ?_
  · intro w hSw
    (try dsimp only at hSw)
    go_simp
  (try simp only [Act.put, List.getElem_toArray, List.getElem_cons_zero, List.getElem_cons_succ, List.setIfInBounds_toArray, List.set_cons_zero, List.set_cons_succ])
  refine wpAnyH_take (i := 9) (v := .string s2) rfl (by kernel_rfl) (by kernel_rfl) (by kernel_rfl) (fun _ _ _ h => hp _ _ _ _ _ h) (Or.inl ⟨by rfl, ?_⟩) (by assumption) ?_
  · intro w hSw
    (try dsimp only at hSw)
    go_simp
  (try simp only [Act.put, List.getElem_toArray, List.getElem_cons_zero, List.getElem_cons_succ, List.setIfInBounds_toArray, List.set_cons_zero, List.set_cons_succ])
  refine wpAnyH_take (i := 10) (v := .bool q) rfl (by kernel_rfl) (by kernel_rfl) (by kernel_rfl) (fun _ _ _ h => hp _ _ _ _ _ h) (Or.inl ⟨by rfl, ?_⟩) (by assumption) ?_
  · intro w hSw
    (try dsimp only at hSw)
    go_simp
  (try simp only [Act.put, List.getElem_toArray, List.getElem_cons_zero, List.getElem_cons_succ, List.setIfInBounds_toArray, List.set_cons_zero, List.set_cons_succ])
  refine wpAnyH_done (by kernel_rfl) ?_ _
  exact h _ _ _ _ _ _ _ _ _ _ _ ((Below.refl W.heap.size W).drew)
set_option maxRecDepth 100000 in
set_option maxHeartbeats 1000000 in
theorem vs11 {Q : Exit → Act → World → Prop} {t0 t1 t4 t5 t7 t8 t9 t10 t11 t12 t13 t14 t15 t16 t17 t18 t19 t20 t21 t22 t23 t24 t25 t26 t27 t28 t29 t30 t31 t32 t33 t34 t35 t36 t37 t38 t39 t40 t41 t42 t43 t44 t45 t46 t47 t48 t49 t50 t51 t52 t53 t54 t55 t56 t57 t58 t59 t60 t61 t62 t63 t64 t65 t66 t67 t68 t69 t70 t71 t72 t73 t74 t75 t76 t77 t78 t79 t80 : Value} {W : World} {b o n c b2 o2 n2 c2 j nx cx ny cy : Nat} {hx hy : Hd} {ax ay : Option Addr} {P : Bool → Prop} {x4 y4 : Nat}
    (hj : (j : Int) < (n : Int)) (hj2 : (j : Int) < (n2 : Int)) (hbx : W.cell? ⟨x4, 4, none⟩ = some (.slice (some ⟨b, o, none⟩) n c)) (hby : W.cell? ⟨y4, 4, none⟩ = some (.slice (some ⟨b2, o2, none⟩) n2 c2)) (h1 : Cells6 W b (o + j * 6) hx (.slice ax nx cx)) (h2 : Cells6 W b2 (o2 + j * 6) hy (.slice ay ny cy)) (hcall : ∀ W', Below W.heap.size W W' → Calls Try.prog 14 #[valV hx ax nx cx, valV hy ay ny cy] W' fun r w' => (∃ q : Bool, r = .returned (.bool q) ∧ P q) ∧ Below W'.heap.size W' w')
    (hp : ∀ p d v a w, Q (.panic p) (Act.put a d v) w → Q (.panic p) a w) (h : ∀ ws q v69 v70 v71 v72 v73 v74 v75 v76 v77 v78 v79, P q → Below W.heap.size W ws → Q .normal { tmps := (t0 :: t1 :: (.pointer (some ⟨x4, 0, none⟩)) :: (.pointer (some ⟨y4, 0, none⟩)) :: t4 :: t5 :: (.int .i64 (j : Nat)) :: t7 :: t8 :: t9 :: t10 :: t11 :: t12 :: t13 :: t14 :: t15 :: t16 :: t17 :: t18 :: t19 :: t20 :: t21 :: t22 :: t23 :: t24 :: t25 :: t26 :: t27 :: t28 :: t29 :: t30 :: t31 :: t32 :: t33 :: t34 :: t35 :: t36 :: t37 :: t38 :: t39 :: t40 :: t41 :: t42 :: t43 :: t44 :: t45 :: t46 :: t47 :: t48 :: t49 :: t50 :: t51 :: t52 :: t53 :: t54 :: t55 :: t56 :: t57 :: t58 :: t59 :: t60 :: t61 :: t62 :: t63 :: t64 :: t65 :: t66 :: t67 :: t68 :: v69 :: v70 :: v71 :: v72 :: v73 :: v74 :: v75 :: v76 :: v77 :: v78 :: v79 :: .bool (!q) :: []).toArray, defers := [] } ws) :
    Code.wp Try.prog (Code.region 11 #[{ dst := some 69, op := Op.fieldAddr 28 (Operand.tmp 2) 3, type := 0, pos := "l7_value.go:82", after := #[], guard := none }, { dst := some 70, op := Op.load 25 (Operand.tmp 69), type := 25, pos := "l7_value.go:82", after := #[{ on := 0, ground := Ground.data }], guard := none }, { dst := some 71, op := Op.move (Operand.tmp 6), type := 3, pos := "l7_value.go:82", after := #[], guard := none }, { dst := some 72, op := Op.indexAddr 25 (Operand.tmp 70) (Operand.tmp 71), type := 0, pos := "l7_value.go:82", after := #[{ on := 1, ground := Ground.data }, { on := 2, ground := Ground.data }], guard := none }, { dst := some 73, op := Op.load 28 (Operand.tmp 72), type := 28, pos := "l7_value.go:82", after := #[{ on := 3, ground := Ground.data }], guard := none }, { dst := some 74, op := Op.fieldAddr 28 (Operand.tmp 3) 3, type := 0, pos := "l7_value.go:82", after := #[], guard := none }, { dst := some 75, op := Op.load 25 (Operand.tmp 74), type := 25, pos := "l7_value.go:82", after := #[{ on := 5, ground := Ground.data }], guard := none }, { dst := some 76, op := Op.move (Operand.tmp 6), type := 3, pos := "l7_value.go:82", after := #[], guard := none }, { dst := some 77, op := Op.indexAddr 25 (Operand.tmp 75) (Operand.tmp 76), type := 0, pos := "l7_value.go:82", after := #[{ on := 6, ground := Ground.data }, { on := 7, ground := Ground.data }], guard := none }, { dst := some 78, op := Op.load 28 (Operand.tmp 77), type := 28, pos := "l7_value.go:82", after := #[{ on := 8, ground := Ground.data }], guard := none }, { dst := some 79, op := Op.call { callee := Callee.value (Operand.func 14), args := #[Operand.tmp 73, Operand.tmp 78], argTypes := #[28, 28] }, type := 4, pos := "l7_value.go:82", after := #[{ on := 4, ground := Ground.data }, { on := 9, ground := Ground.data }], guard := none }, { dst := some 80, op := Op.unOp UnOp.not 4 (Operand.tmp 79), type := 4, pos := "l7_value.go:82", after := #[{ on := 10, ground := Ground.data }], guard := none }] true) Q { tmps := (t0 :: t1 :: (.pointer (some ⟨x4, 0, none⟩)) :: (.pointer (some ⟨y4, 0, none⟩)) :: t4 :: t5 :: (.int .i64 (j : Nat)) :: t7 :: t8 :: t9 :: t10 :: t11 :: t12 :: t13 :: t14 :: t15 :: t16 :: t17 :: t18 :: t19 :: t20 :: t21 :: t22 :: t23 :: t24 :: t25 :: t26 :: t27 :: t28 :: t29 :: t30 :: t31 :: t32 :: t33 :: t34 :: t35 :: t36 :: t37 :: t38 :: t39 :: t40 :: t41 :: t42 :: t43 :: t44 :: t45 :: t46 :: t47 :: t48 :: t49 :: t50 :: t51 :: t52 :: t53 :: t54 :: t55 :: t56 :: t57 :: t58 :: t59 :: t60 :: t61 :: t62 :: t63 :: t64 :: t65 :: t66 :: t67 :: t68 :: t69 :: t70 :: t71 :: t72 :: t73 :: t74 :: t75 :: t76 :: t77 :: t78 :: t79 :: t80 :: []).toArray, defers := [] } W := by
  have HSof : Hid (∀ w', Below W.heap.size W w' → (w'.cell? ⟨x4, 4, none⟩ = some (.slice (some ⟨b, o, none⟩) n c) ∧ w'.cell? ⟨y4, 4, none⟩ = some (.slice (some ⟨b2, o2, none⟩) n2 c2)) ∧ C6 w' b (o + j * 6) hx (.slice ax nx cx) ∧ C6 w' b2 (o2 + j * 6) hy (.slice ay ny cy)) := fun w' h => ⟨⟨(h.cell (p := ⟨x4, 4, none⟩) (World.block_lt_of_cell? _ _ hbx)).trans hbx, (h.cell (p := ⟨y4, 4, none⟩) (World.block_lt_of_cell? _ _ hby)).trans hby⟩, h1.grow h, h2.grow h⟩
  have hS0 := HSof.out _ ((Below.refl _ W).drew)
  clear h1 h2 hbx hby
  refine wp_region_held_drew (S := fun w' => (w'.cell? ⟨x4, 4, none⟩ = some (.slice (some ⟨b, o, none⟩) n c) ∧ w'.cell? ⟨y4, 4, none⟩ = some (.slice (some ⟨b2, o2, none⟩) n2 c2)) ∧ C6 w' b (o + j * 6) hx (.slice ax nx cx) ∧ C6 w' b2 (o2 + j * 6) hy (.slice ay ny cy)) (by kernel_rfl) hS0 (fun hHeld => ?_)
  refine wpAnyH_take (i := 0) (v := .pointer (some ⟨x4, 4, none⟩)) rfl (by kernel_rfl) (by kernel_rfl) (by kernel_rfl) (fun _ _ _ h => hp _ _ _ _ _ h) (Or.inl ⟨by rfl, ?_⟩) (by assumption) ?_
  · intro w hSw
    (try dsimp only at hSw)
    go_simp
  (try simp only [Act.put, List.getElem_toArray, List.getElem_cons_zero, List.setIfInBounds_toArray, List.set_cons_zero, List.set_cons_succ])
  refine wpAnyH_take (i := 1) (v := .slice (some ⟨b, o, none⟩) n c) rfl (by kernel_rfl) (by kernel_rfl) (by kernel_rfl) (fun _ _ _ h => hp _ _ _ _ _ h) (Or.inl ⟨by rfl, ?_⟩) (by assumption) ?_
  · intro w hSw
    (try dsimp only at hSw)
    go_simp
  (try simp only [Act.put, List.getElem_toArray, List.getElem_cons_zero, List.getElem_cons_succ, List.setIfInBounds_toArray, List.set_cons_zero, List.set_cons_succ])
  refine wpAnyH_take (i := 2) (v := .int .i64 (j : Nat)) rfl (by kernel_rfl) (by kernel_rfl) (by kernel_rfl) (fun _ _ _ h => hp _ _ _ _ _ h) (Or.inl ⟨by rfl, ?_⟩) (by assumption) ?_
  · intro w hSw
    (try dsimp only at hSw)
    go_simp
  (try simp only [Act.put, List.getElem_toArray, List.getElem_cons_zero, List.getElem_cons_succ, List.setIfInBounds_toArray, List.set_cons_zero, List.set_cons_succ])
  refine wpAnyH_take (i := 3) (v := .pointer (some ⟨b, o + j * 6, none⟩)) rfl (by kernel_rfl) (by kernel_rfl) (by kernel_rfl) (fun _ _ _ h => hp _ _ _ _ _ h) (Or.inl ⟨by rfl, ?_⟩) (by assumption) ?_
  · intro w hSw
    (try dsimp only at hSw)
    go_simp
  (try simp only [Act.put, List.getElem_toArray, List.getElem_cons_zero, List.getElem_cons_succ, List.setIfInBounds_toArray, List.set_cons_zero, List.set_cons_succ])
  refine wpAnyH_take (i := 4) (v := valV hx ax nx cx) rfl (by kernel_rfl) (by kernel_rfl) (by kernel_rfl) (fun _ _ _ h => hp _ _ _ _ _ h) (Or.inl ⟨by rfl, ?_⟩) (by assumption) ?_
  · intro w hSw
    (try dsimp only at hSw)
    go_simp
  (try simp only [Act.put, List.getElem_toArray, List.getElem_cons_zero, List.getElem_cons_succ, List.setIfInBounds_toArray, List.set_cons_zero, List.set_cons_succ])
  refine wpAnyH_take (i := 5) (v := .pointer (some ⟨y4, 4, none⟩)) rfl (by kernel_rfl) (by kernel_rfl) (by kernel_rfl) (fun _ _ _ h => hp _ _ _ _ _ h) (Or.inl ⟨by rfl, ?_⟩) (by assumption) ?_
  · intro w hSw
    (try dsimp only at hSw)
    go_simp
  (try simp only [Act.put, List.getElem_toArray, List.getElem_cons_zero, List.getElem_cons_succ, List.setIfInBounds_toArray, List.set_cons_zero, List.set_cons_succ])
  refine wpAnyH_take (i := 6) (v := .slice (some ⟨b2, o2, none⟩) n2 c2) rfl (by kernel_rfl) (by kernel_rfl) (by kernel_rfl) (fun _ _ _ h => hp _ _ _ _ _ h) (Or.inl ⟨by rfl, ?_⟩) (by assumption) ?_
  · intro w hSw
    (try dsimp only at hSw)
    go_simp
  (try simp only [Act.put, List.getElem_toArray, List.getElem_cons_zero, List.getElem_cons_succ, List.setIfInBounds_toArray, List.set_cons_zero, List.set_cons_succ])
  refine wpAnyH_take (i := 7) (v := .int .i64 (j : Nat)) rfl (by kernel_rfl) (by kernel_rfl) (by kernel_rfl) (fun _ _ _ h => hp _ _ _ _ _ h) (Or.inl ⟨by rfl, ?_⟩) (by assumption) ?_
  · intro w hSw
    (try dsimp only at hSw)
    go_simp
  (try simp only [Act.put, List.getElem_toArray, List.getElem_cons_zero, List.getElem_cons_succ, List.setIfInBounds_toArray, List.set_cons_zero, List.set_cons_succ])
  refine wpAnyH_take (i := 8) (v := .pointer (some ⟨b2, o2 + j * 6, none⟩)) rfl (by kernel_rfl) (by kernel_rfl) (by kernel_rfl) (fun _ _ _ h => hp _ _ _ _ _ h) (Or.inl ⟨by rfl, ?_⟩) (by assumption) ?_
  · intro w hSw
    (try dsimp only at hSw)
    go_simp
  (try simp only [Act.put, List.getElem_toArray, List.getElem_cons_zero, List.getElem_cons_succ, List.setIfInBounds_toArray, List.set_cons_zero, List.set_cons_succ])
  refine wpAnyH_take (i := 9) (v := valV hy ay ny cy) rfl (by kernel_rfl) (by kernel_rfl) (by kernel_rfl) (fun _ _ _ h => hp _ _ _ _ _ h) (Or.inl ⟨by rfl, ?_⟩) (by assumption) ?_
  · intro w hSw
    (try dsimp only at hSw)
    go_simp
  (try simp only [Act.put, List.getElem_toArray, List.getElem_cons_zero, List.getElem_cons_succ, List.setIfInBounds_toArray, List.set_cons_zero, List.set_cons_succ])
  have hB0 := (Below.refl W.heap.size W).drew
  refine wpAnyH_ready (rs := [10]) (by kernel_rfl) (by simp) ?_
  refine AllReadyH.cons rfl (fun K hK => ?_) AllReadyH.nil
  go_simp
  refine (hcall _ hB0).mono ?_
  rintro r w1 ⟨⟨q, rfl, hq⟩, hb1⟩
  have hB1 := hB0.trans (hb1.mono hB0.size)
  have HQ : Hid (P q) := hq
  clear hq
  go_wp2_with fail
  refine hK.out _ _ (HSof.out _ hB1) (fun hHeld => ?_)
  clear hK K hB0 hb1 hcall
  refine wpAnyH_take (i := 11) (v := .bool (!q)) rfl (by kernel_rfl) (by kernel_rfl) (by kernel_rfl) (fun _ _ _ h => hp _ _ _ _ _ h) (Or.inl ⟨by rfl, ?_⟩) (by assumption) ?_
  · intro w hSw
    (try dsimp only at hSw)
    go_simp
  (try simp only [Act.put, List.getElem_toArray, List.getElem_cons_zero, List.getElem_cons_succ, List.setIfInBounds_toArray, List.set_cons_zero, List.set_cons_succ])
  refine wpAnyH_done (by kernel_rfl) ?_ _
  exact h _ _ _ _ _ _ _ _ _ _ _ _ _ HQ.out hB1
set_option maxRecDepth 100000 in
set_option maxHeartbeats 3000000 in
theorem sValueSame_any (N : Nat) : ∀ (x y : ItV) (w : World), x.F.size < N → N ≤ 2000000 → x.F.In w x.a → y.F.In w y.a → x.h.In w → y.h.In w →
    Calls Try.prog 14 #[valV x.h x.a x.F.len x.c, valV y.h y.a y.F.len y.c] w fun r w' => SaysT (same2V (x, y)) r ∧ Below w.heap.size w w' := by
  induction N with
  | zero => intro x y w h; omega
  | succ N ih =>
    intro x y w hN hN2 hx hy hhx hhy
    have hlx := x.F.len_le
    obtain ⟨⟨k, m, e, t, na, nc, ns⟩, xa, xF, xc⟩ := x
    obtain ⟨⟨k', m', e', t', na', nc', ns'⟩, ya, yF, yc⟩ := y
    dsimp only [valV] at hN hx hy hlx ⊢
    have hB0 := ((Below.refl _ w).alloc (Nat.le_refl _) (.cells #[.int .i64 k, .int .i64 m, .int .i64 e, .string t, .slice xa xF.len xc, .slice na ns.length nc] 28)).alloc (by simp) (.cells #[.int .i64 k', .int .i64 m', .int .i64 e', .string t', .slice ya yF.len yc, .slice na' ns'.length nc'] 28)
    by_cases h1 : k = k'
    · subst h1
      by_cases h2 : m = m'
      · subst h2
        by_cases h3 : e = e'
        · subst h3
          by_cases h4 : t = t'
          · subst h4
            by_cases h5 : xF.len = yF.len
            · by_cases h6 : ns.length = ns'.length
              · have HSm : Hid (same2V (⟨⟨k, m, e, t, na, nc, ns⟩, xa, xF, xc⟩, ⟨⟨k, m, e, t, na', nc', ns'⟩, ya, yF, yc⟩) ↔ ns = ns' ∧ ∀ i, i < xF.len → same2V (xF.itAt i, yF.itAt i)) := ⟨fun h => ⟨h.1.2, alike_kidsV h.2⟩, fun h => ⟨⟨⟨rfl, rfl, rfl, rfl⟩, h.1⟩, alike_of_kidsV h5 h.2⟩⟩
                obtain ⟨n, hn⟩ : ∃ n, xF.len = n := ⟨_, rfl⟩
                obtain ⟨nl, hnl⟩ : ∃ nl, ns.length = nl := ⟨_, rfl⟩
                have HnX : Hid (xF.len = n) := hn
                have HnY : Hid (yF.len = n) := h5.symm.trans hn
                have HlX : Hid (ns.length = nl) := hnl
                have HlY : Hid (ns'.length = nl) := h6.symm.trans hnl
                have hnlm : nl ≤ nc := by rw [← hnl]; exact hhx.2.1.1
                have hncm : nc ≤ maxLen := hhx.2.1.2
                rw [← h5, ← h6, hn, hnl] at hB0 ⊢
                rw [hn] at hlx HSm
                unfold maxLen at hncm
                have HSI : Hid (SIn w ns na ∧ SIn w ns' na') := ⟨hhx.1, hhy.1⟩
                clear hn h5 hnl h6 hhx hhy
                have A0 : Row ((w.alloc (.cells #[.int .i64 k, .int .i64 m, .int .i64 e, .string t, .slice xa n xc, .slice na nl nc] 28)).alloc (.cells #[.int .i64 k, .int .i64 m, .int .i64 e, .string t, .slice ya n yc, .slice na' nl nc'] 28)) w.heap.size [.int .i64 k, .int .i64 m, .int .i64 e, .string t, .slice xa n xc, .slice na nl nc] := (Row.new w _ _).below ((Below.refl _ _).alloc (Nat.le_refl _) _) (by simp)
                have C0 : Row ((w.alloc (.cells #[.int .i64 k, .int .i64 m, .int .i64 e, .string t, .slice xa n xc, .slice na nl nc] 28)).alloc (.cells #[.int .i64 k, .int .i64 m, .int .i64 e, .string t, .slice ya n yc, .slice na' nl nc'] 28)) (w.heap.size + 1) [.int .i64 k, .int .i64 m, .int .i64 e, .string t, .slice ya n yc, .slice na' nl nc'] := by
                  have := Row.new (w.alloc (.cells #[.int .i64 k, .int .i64 m, .int .i64 e, .string t, .slice xa n xc, .slice na nl nc] 28)) [.int .i64 k, .int .i64 m, .int .i64 e, .string t, .slice ya n yc, .slice na' nl nc'] 28
                  rw [World.size_alloc] at this
                  exact this
                go_enter Try.func14, Try.ntmps14
                go_wp2_with fail
                generalize (w.alloc (.cells #[.int .i64 k, .int .i64 m, .int .i64 e, .string t, .slice xa n xc, .slice na nl nc] 28)).alloc (.cells #[.int .i64 k, .int .i64 m, .int .i64 e, .string t, .slice ya n yc, .slice na' nl nc'] 28) = W0 at *
                have HBx : Hid (∀ W, Below W0.heap.size W0 W → (W.cell? ⟨w.heap.size, 4, none⟩ = some (.slice xa n xc) ∧ W.cell? ⟨w.heap.size + 1, 4, none⟩ = some (.slice ya n yc)) ∧ W.cell? ⟨w.heap.size, 5, none⟩ = some (.slice na nl nc) ∧ W.cell? ⟨w.heap.size + 1, 5, none⟩ = some (.slice na' nl nc')) := fun W h =>
                  ⟨⟨(A0.below h A0.lt 4 _ rfl).1, (C0.below h C0.lt 4 _ rfl).1⟩, (A0.below h A0.lt 5 _ rfl).1, (C0.below h C0.lt 5 _ rfl).1⟩
                clear A0 C0
                go_loopw [5] (fun i wr => ∃ j : Nat, i = .int .i64 j ∧ j ≤ nl ∧ (∀ q, q < j → ns[q]? = ns'[q]?) ∧ Below W0.heap.size W0 wr) (fun i _ => nl - (intOf i).toNat)
                case atStart => exact ⟨0, rfl, Nat.zero_le _, fun q hq => absurd hq (Nat.not_lt_zero _), Below.refl _ _⟩
                case round =>
                  obtain ⟨j, rfl, hj, hP, hb⟩ := hrel
                  have HP : Hid (∀ q, q < j → ns[q]? = ns'[q]?) := hP
                  clear hP
                  have hBw := hB0.trans (hb.mono hB0.size)
                  obtain ⟨⟨x4, y4⟩, x5, y5⟩ := HBx.out _ hb
                  by_cases hjn : j < nl
                  · have hjl : (j : Int) < (nl : Int) := by omega
                    obtain ⟨s, hs⟩ : ∃ s, ns[j]? = some s := ⟨ns[j]'(by rw [HlX.out]; exact hjn), List.getElem?_eq_getElem _⟩
                    obtain ⟨s2, hs2⟩ : ∃ s, ns'[j]? = some s := ⟨ns'[j]'(by rw [HlY.out]; exact hjn), List.getElem?_eq_getElem _⟩
                    rcases HSI.out.1 with hin | ⟨b, o, rfl, hF⟩
                    · rw [hin] at hs; simp at hs
                    rcases HSI.out.2 with hin2 | ⟨b2, o2, rfl, hF2⟩
                    · rw [hin2] at hs2; simp at hs2
                    have hc1 := ((hF.grow hBw).at hs).1
                    have hc2 := ((hF2.grow hBw).at hs2).1
                    have HS : Hid (ns[j]? = some s ∧ ns'[j]? = some s2) := ⟨hs, hs2⟩
                    clear hs hs2 hF hF2 x4 y4 ih hx hy
                    by_cases he : s = s2
                    · subst he
                      go_wp2_with fail
                      refine vs6 hjl hjl x5 y5 hc1 hc2 (q := false) (by simp) (fun _ d _ _ _ h => by cases d <;> exact h) ?_
                      intro ws v51 v52 v53 v54 v55 v56 v57 v58 v59 v60 hb1
                      have hb2 := hb.trans (hb1.mono hb.size)
                      clear hc1 hc2 hb1 hb x5 y5 hBw
                      go_wp2_with fail
                      go_round
                      case rel =>
                        refine ⟨j + 1, by go_num, by omega, fun q hq => ?_, hb2⟩
                        by_cases e : q = j
                        · rw [e, HS.out.1, HS.out.2]
                        · exact HP.out q (by omega)
                      case measure => simp [intOf]; omega
                    · have hne := text_ne he
                      have HNO : Hid (¬ same2V (⟨⟨k, m, e, t, some ⟨b, o, none⟩, nc, ns⟩, xa, xF, xc⟩, ⟨⟨k, m, e, t, some ⟨b2, o2, none⟩, nc', ns'⟩, ya, yF, yc⟩)) := fun h => he (by have h2 := HS.out; have h3 := h.1.2; dsimp only at h3; rw [h3] at h2; exact Option.some.inj (h2.1.symm.trans h2.2))
                      go_wp2_with fail
                      refine vs6 hjl hjl x5 y5 hc1 hc2 (q := true) (by simpa using hne) (fun _ d _ _ _ h => by cases d <;> exact h) ?_
                      intro ws v51 v52 v53 v54 v55 v56 v57 v58 v59 v60 hb1
                      have hb2 := hBw.trans (hb1.mono hBw.size)
                      clear hc1 hc2 hb1 hb x5 y5 hne
                      go_wp2_with fail
                      go_ret
                      exact ⟨⟨false, rfl, fun h => (by cases h), fun h => absurd h HNO.out⟩, hb2⟩
                  · have e0 : j = nl := by omega
                    subst e0
                    have HE : Hid (ns = ns') := List.ext_getElem? fun i => by
                      by_cases hi : i < j
                      · exact HP.out i hi
                      · rw [List.getElem?_eq_none (by rw [HlX.out]; omega), List.getElem?_eq_none (by rw [HlY.out]; omega)]
                    clear HP
                    obtain ⟨w1, hw1⟩ : ∃ w1, wr = w1 := ⟨_, rfl⟩
                    subst hw1
                    clear x4 y4
                    go_wp2_with fail
                    clear x5 y5
                    go_loopw [6] (fun i wr => ∃ j : Nat, i = .int .i64 j ∧ j ≤ n ∧ (∀ i, i < j → same2V (xF.itAt i, yF.itAt i)) ∧ Below W0.heap.size W0 wr) (fun i _ => n - (intOf i).toNat)
                    case atStart => exact ⟨0, rfl, Nat.zero_le _, fun i hi => absurd hi (Nat.not_lt_zero _), hb⟩
                    case round =>
                      obtain ⟨j2, rfl, hj2, hd, hbz⟩ := hrel
                      have HD : Hid (∀ i, i < j2 → same2V (xF.itAt i, yF.itAt i)) := hd
                      clear hd
                      have hBz := hB0.trans (hbz.mono hB0.size)
                      obtain ⟨⟨z4, u4_⟩, z5, u5_⟩ := HBx.out _ hbz
                      by_cases hjn2 : j2 < n
                      · have hjl2 : (j2 : Int) < (n : Int) := by omega
                        have hjX : j2 < xF.len := by rw [HnX.out]; exact hjn2
                        have hjY : j2 < yF.len := by rw [HnY.out]; exact hjn2
                        obtain ⟨b, o, rfl, hFr⟩ := Vo.from_of_len hx hjX
                        obtain ⟨b2, o2, rfl, hGr⟩ := Vo.from_of_len hy hjY
                        have hsz := Vo.size_at hjX
                        have HXY : Hid (Cells6 wr b (o + j2 * 6) (xF.hdAt j2) (.slice (xF.addrAt j2) (xF.kidsAt j2).len (xF.capAt j2)) ∧ Cells6 wr b2 (o2 + j2 * 6) (yF.hdAt j2) (.slice (yF.addrAt j2) (yF.kidsAt j2).len (yF.capAt j2))) := ⟨(Vo.from_at (Vo.from_grow hBz xF b o hFr) hjX).1, (Vo.from_at (Vo.from_grow hBz yF b2 o2 hGr) hjY).1⟩
                        have HC : Hid (∀ W', Below wr.heap.size wr W' → Calls Try.prog 14 #[valV (xF.hdAt j2) (xF.addrAt j2) (xF.kidsAt j2).len (xF.capAt j2), valV (yF.hdAt j2) (yF.addrAt j2) (yF.kidsAt j2).len (yF.capAt j2)] W' fun r w' => (∃ q : Bool, r = .returned (.bool q) ∧ (q = true ↔ same2V (xF.itAt j2, yF.itAt j2))) ∧ Below W'.heap.size W' w') := fun W' hW => by
                          have hq1 := Vo.from_at (Vo.from_grow (hBz.trans (hW.mono hBz.size)) xF b o hFr) hjX
                          have hq2 := Vo.from_at (Vo.from_grow (hBz.trans (hW.mono hBz.size)) yF b2 o2 hGr) hjY
                          exact ih (xF.itAt j2) (yF.itAt j2) W' (by show (xF.kidsAt j2).size < N; omega) (by omega) hq1.2.1 hq2.2.1 hq1.2.2.2 hq2.2.2.2
                        clear hFr hGr hx hy hjX hjY ih z5 u5_
                        go_wp2_with fail
                        refine vs11 hjl2 hjl2 z4 u4_ HXY.out.1 HXY.out.2 (P := fun q => (q = true ↔ same2V (xF.itAt j2, yF.itAt j2))) HC.out (fun _ d _ _ _ h => by cases d <;> exact h) ?_
                        intro ws q v69 v70 v71 v72 v73 v74 v75 v76 v77 v78 v79 hq hb1
                        have hb2 := hbz.trans (hb1.mono hbz.size)
                        have hBz2 := hBz.trans (hb1.mono hBz.size)
                        have HQ : Hid (q = true ↔ same2V (xF.itAt j2, yF.itAt j2)) := hq
                        clear hq HC HXY z4 u4_ hb1
                        cases q
                        · have HNO : Hid (¬ same2V (⟨⟨k, m, e, t, na, nc, ns⟩, some ⟨b, o, none⟩, xF, xc⟩, ⟨⟨k, m, e, t, na', nc', ns'⟩, some ⟨b2, o2, none⟩, yF, yc⟩)) := fun h => by
                            have := HQ.out.2 ((HSm.out.1 h).2 j2 hjn2)
                            cases this
                          go_wp2_with fail
                          go_ret
                          exact ⟨⟨false, rfl, fun h => (by cases h), fun h => absurd h HNO.out⟩, hBz2⟩
                        · have HR : Hid (∀ i, i < j2 + 1 → same2V (xF.itAt i, yF.itAt i)) := fun i hi => by
                            rcases Nat.lt_succ_iff_lt_or_eq.1 hi with hi | rfl
                            · exact HD.out i hi
                            · exact HQ.out.1 rfl
                          go_wp2_with fail
                          go_round
                          case rel => exact ⟨j2 + 1, by go_num, by omega, HR.out, hb2⟩
                          case measure => simp [intOf]; omega
                      · have e2 : j2 = n := by omega
                        have HR : Hid (same2V (⟨⟨k, m, e, t, na, nc, ns⟩, xa, xF, xc⟩, ⟨⟨k, m, e, t, na', nc', ns'⟩, ya, yF, yc⟩)) := HSm.out.2 ⟨HE.out, by rw [← e2]; exact HD.out⟩
                        have hjl2 : ¬ (j2 : Int) < (n : Int) := by omega
                        clear hx hy ih
                        go_wp2_with fail
                        go_ret
                        exact ⟨⟨true, rfl, fun _ => HR.out, fun _ => rfl⟩, hBz⟩
              · have HNO : Hid (¬ same2V (⟨⟨k, m, e, t, na, nc, ns⟩, xa, xF, xc⟩, ⟨⟨k, m, e, t, na', nc', ns'⟩, ya, yF, yc⟩)) := fun h => h6 (congrArg List.length h.1.2)
                have h6' : ((ns.length : Int) != (ns'.length : Int)) = true := by simp; omega
                rw [← h5] at hB0 ⊢
                clear h5
                clear hx hy hhx hhy
                clear ih
                go_enter Try.func14, Try.ntmps14
                go_wp2_with fail
                all_goals
                  go_ret
                  exact ⟨⟨false, rfl, fun h => (by cases h), fun h => absurd h HNO.out⟩, hB0⟩
            · have HNO : Hid (¬ same2V (⟨⟨k, m, e, t, na, nc, ns⟩, xa, xF, xc⟩, ⟨⟨k, m, e, t, na', nc', ns'⟩, ya, yF, yc⟩)) := fun h => h5 (Vo.alike_len h.2)
              have h5' : ((xF.len : Int) != (yF.len : Int)) = true := by simp; omega
              clear hx hy hhx hhy
              clear ih
              go_enter Try.func14, Try.ntmps14
              go_wp2_with fail
              all_goals
                go_ret
                exact ⟨⟨false, rfl, fun h => (by cases h), fun h => absurd h HNO.out⟩, hB0⟩
          · have HNO : Hid (¬ same2V (⟨⟨k, m, e, t, na, nc, ns⟩, xa, xF, xc⟩, ⟨⟨k, m, e, t', na', nc', ns'⟩, ya, yF, yc⟩)) := fun h => h4 h.1.1.2.2.2
            have h4' : (t.toList == t'.toList) = false := by have := text_ne h4; simpa using this
            clear hx hy hhx hhy
            clear ih
            go_enter Try.func14, Try.ntmps14
            go_wp2_with fail
            all_goals
              go_ret
              exact ⟨⟨false, rfl, fun h => (by cases h), fun h => absurd h HNO.out⟩, hB0⟩
        · have HNO : Hid (¬ same2V (⟨⟨k, m, e, t, na, nc, ns⟩, xa, xF, xc⟩, ⟨⟨k, m, e', t', na', nc', ns'⟩, ya, yF, yc⟩)) := fun h => h3 h.1.1.2.2.1
          have h3' : (e == e') = false := by simp [h3]
          clear hx hy hhx hhy
          clear ih
          go_enter Try.func14, Try.ntmps14
          go_wp2_with fail
          all_goals
            go_ret
            exact ⟨⟨false, rfl, fun h => (by cases h), fun h => absurd h HNO.out⟩, hB0⟩
      · have HNO : Hid (¬ same2V (⟨⟨k, m, e, t, na, nc, ns⟩, xa, xF, xc⟩, ⟨⟨k, m', e', t', na', nc', ns'⟩, ya, yF, yc⟩)) := fun h => h2 h.1.1.2.1
        have h2' : (m == m') = false := by simp [h2]
        clear hx hy hhx hhy
        clear ih
        go_enter Try.func14, Try.ntmps14
        go_wp2_with fail
        all_goals
          go_ret
          exact ⟨⟨false, rfl, fun h => (by cases h), fun h => absurd h HNO.out⟩, hB0⟩
    · have HNO : Hid (¬ same2V (⟨⟨k, m, e, t, na, nc, ns⟩, xa, xF, xc⟩, ⟨⟨k', m', e', t', na', nc', ns'⟩, ya, yF, yc⟩)) := fun h => h1 h.1.1.1
      have h1' : (k != k') = true := by simp [h1]
      clear hx hy hhx hhy
      clear ih
      go_enter Try.func14, Try.ntmps14
      go_wp2_with fail
      all_goals
        go_ret
        exact ⟨⟨false, rfl, fun h => (by cases h), fun h => absurd h HNO.out⟩, hB0⟩
end Go.Proofs.Ytalncebnahlmdaa
