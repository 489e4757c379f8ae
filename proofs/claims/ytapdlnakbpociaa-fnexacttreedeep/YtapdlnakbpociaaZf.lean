/- All lists in a tree, by the program: the iterator. -/
import Derived.Test.YtapdlnakbpociaaZa
import Derived.Test.YtapdlnakbpociaaZe
namespace Go.Proofs.Ytapdlnakbpociaa
open Go.RowKit Go.Shelf
attribute [local go_sem] Oper.semAt_some
theorem wpListIn_append_two {F : Fence} {n : Nat} {P : Program} (w : World) {ops : Array Oper} {rest : List Oper} {o : Oper} {a : Act} {Q : Exit → Act → World → Prop} (hg : o.guard = none) (s x : Operand) (t : TypeId)
    (hop : o.op = Op.call { callee := Callee.builtin Builtin.append, args := #[s, x], argTypes := #[t, t] })
    (base base2 : Nat) (e : TypeId) (i : TypeInfo) (z : Value) (size bytes : Nat) (ht : P.underlying t = some (.slice e)) (hi : P.info? e = some i) (hz : i.zero = some z)
    (hsize : i.size = size) (hby : i.bytes = bytes) (hzs : z.cells.size = size) (hsz : 0 < size)
    (v : Value) (k : Nat) (xs : List Value) (hs : a.eval s = v) (hown : w.ownsRow base e size v k xs) (v2 : Value) (m : Nat) (ys : List Value) (hx : a.eval x = v2) (hown2 : w.ownsRow base2 e size v2 m ys)
    (h1 : ∀ u ∈ ys, u.oneCell' = true) (h63 : k + m ≤ maxLen) (hbytes : (k + m) * bytes ≤ 140737488355328) (hbase : base ≤ w.heap.size)
    (hK : ∀ v' w', w'.ownsRow base e size v' (k + m) (xs ++ ys) → w.grownBy w' v.ownBlock → wpListIn F n P ops Q rest (a.put o.dst v') w') : wpListIn F n P ops Q (o :: rest) a w := by
  refine wpListIn_plain hg fun K hK' => ?_
  obtain ⟨v', w', hrun, r1, r2⟩ := append_two (P := P) w base base2 t o.type e i z size bytes ht hi hz hsize hby hzs hsz v k xs hown v2 m ys hown2 h1 h63 hbytes hbase
  unfold Oper.wpIn
  refine ⟨?_, ?_⟩
  · simp [Oper.about, hop, resolve, Target.leads, Sem.run_pure]
  · rw [Oper.semAt_plain F _ _ (by rw [hop]; intro c hc'; cases hc')]
    simp [execOp, hop, resolve, invoke, builtin, hs, hx, hrun, Result.andThen]
    exact hK' _ _ (hK v' w' r1 r2)
/-- what the iterator keeps: so much is to be done yet -/
def LInv (w0 : World) (B : Nat) (top : Li) (J : List Li → World → Prop) (mb : Nat) (v : Value) (wr : World) (k : Nat) : Prop :=
  ∃ (S : List Li) (M : Pl → Nat) (L : List (Pl × Value)) (pre : List Li), Inv (liSys w0) top S M pre ∧ Counts L M ∧ (∀ q ∈ L, PlOk w0 q.1) ∧ wr.ownsRow B 30 1 v S.length (S.map Li.v) ∧ plKeys.Has wr mb L ∧ J pre wr ∧ Sees w0 wr ∧ B ≤ wr.heap.size ∧ (∀ p, M p + k ≤ 2 * (top.F.size + 1)) ∧ (liSys w0).cost M S = k
/-- what it promises of each list that it tells: it lies there, and what stands right below was told -/
def Told (w0 : World) (pre : List Li) (x : Li) : Prop := x.Ok w0 ∧ ∀ i, i < x.F.len → ∃ y ∈ pre, y.pl = (x.kid i).pl
def All (w0 : World) (top : Li) (xs : List Li) : Prop := (∀ y ∈ xs, y.Ok w0) ∧ ∃ y ∈ xs, y.pl = top.pl
theorem li_len {w : World} {x : Li} (h : x.Ok w) : x.F.len ≤ 2000000 := by have h1 := h.2.2.2; have h2 := x.F.len_le; omega
theorem bump_le1 (M : Pl → Nat) (p q : Pl) : bump M p q ≤ M q + 1 := by
  by_cases e : q = p
  · subst e; rw [bump_same]; omega
  · rw [bump_other e]; omega
theorem rowL_keeps {w w' : World} {base g n cap : Nat} {e : TypeId} {xs : List Value} (h : w.ownsRow base e 1 (.slice (some ⟨g, 0, none⟩) n cap) n xs) (hb : base ≤ g) (hk : g < w.heap.size → w'.heap[g]? = w.heap[g]?) : w'.ownsRow base e 1 (.slice (some ⟨g, 0, none⟩) n cap) n xs := by
  refine ⟨h.1, ?_⟩
  rcases h.2 with ⟨h', _⟩ | ⟨g', cap', cur, h', h2, h3, h4⟩
  · cases h'
  · simp only [Value.slice.injEq, Option.some.injEq, Addr.mk.injEq, and_true, true_and] at h'
    obtain ⟨rfl, rfl⟩ := h'
    exact .inr ⟨g, cap, cur, rfl, hb, (hk (Array.getElem?_eq_some_iff.1 h3).1).trans h3, h4⟩
set_option maxRecDepth 100000 in
set_option maxHeartbeats 4000000 in
theorem lists_low (w0 : World) (n bx : Nat) (k : Int) (t : ByteArray) (m e : Int) (top : Li) (w : World) (htop : top.Ok w0) (hw : Sees w0 w)
    (c0 : w.cell? ⟨bx, 0, none⟩ = some (.int .i64 k)) (c1 : w.cell? ⟨bx, 1, none⟩ = some (.string t)) (c2 : w.cell? ⟨bx, 2, none⟩ = some (.int .i64 m)) (c3 : w.cell? ⟨bx, 3, none⟩ = some (.int .i64 e)) (c4 : w.cell? ⟨bx, 4, none⟩ = some (.slice top.a top.F.len top.c)) :
    SeqLow n Try.prog 83 #[.pointer (some ⟨bx, 0, none⟩)] (fun x : Li => #[.slice x.a x.F.len x.c]) w0.heap.size (Told w0) (All w0 top) w := fun l J W hW hJ hY h0 => by
  have hmm : ∀ W, (Instr.makeMap 113 none).run Try.prog W = .ok (.map (some W.heap.size)) (W.alloc (.map #[] 0)) := fun W => run_makeMap _ _
  have hmeth := below_method
  obtain ⟨i0, hi, hz0, hz1, hz2⟩ := info_parts listsInfo
  have hB := World.block_lt_of_cell? w _ c0
  have C0 := (hW.cell (p := ⟨bx, 0, none⟩) hB).trans c0
  have C1 := (hW.cell (p := ⟨bx, 1, none⟩) hB).trans c1
  have C2 := (hW.cell (p := ⟨bx, 2, none⟩) hB).trans c2
  have C3 := (hW.cell (p := ⟨bx, 3, none⟩) hB).trans c3
  have C4 := (hW.cell (p := ⟨bx, 4, none⟩) hB).trans c4
  have hWs : Sees w0 W := hw.grow hw.1 hW
  have hsz := hWs.1
  have HY : Hid (∀ pre x W1, J pre W1 → Told w0 pre x → W.heap.size ≤ W1.heap.size → YieldAt Fence.wide (n - 1) Try.prog l #[.slice x.a x.F.len x.c] W1 fun e W' => e = .returned (.bool true) ∧ J (pre ++ [x]) W' ∧ Keeps2 w0.heap.size W.heap.size W1 W') := hY
  have HJ : Hid (Low W.heap.size J) := hJ
  have HT : Hid (top.Ok w0) := htop
  have HS0 : Hid (Sees w0 W) := hWs
  have H0 : Hid (J [] W) := h0
  have hxx : bx < W.heap.size := Nat.lt_of_lt_of_le hB hW.size
  clear c0 c1 c2 c3 c4 hY hJ htop hw hW h0 hWs
  have D0 := (Below.cell ((Below.refl W.heap.size W).alloc (Nat.le_refl _) (.map #[] 0)) (p := ⟨bx, 0, none⟩) hxx).trans C0
  have D1 := (Below.cell ((Below.refl W.heap.size W).alloc (Nat.le_refl _) (.map #[] 0)) (p := ⟨bx, 1, none⟩) hxx).trans C1
  have D2 := (Below.cell ((Below.refl W.heap.size W).alloc (Nat.le_refl _) (.map #[] 0)) (p := ⟨bx, 2, none⟩) hxx).trans C2
  have D3 := (Below.cell ((Below.refl W.heap.size W).alloc (Nat.le_refl _) (.map #[] 0)) (p := ⟨bx, 3, none⟩) hxx).trans C3
  have D4 := (Below.cell ((Below.refl W.heap.size W).alloc (Nat.le_refl _) (.map #[] 0)) (p := ⟨bx, 4, none⟩) hxx).trans C4
  clear C0 C1 C2 C3 C4
  refine callsIn_of_wp Try.func83 rfl trivial ?_ rfl
  simp only [Try.ntmps83, List.size_toArray, List.length_cons, List.length_nil, Nat.reduceAdd, Nat.reduceSub, Array.replicate_succ, Array.replicate_zero, List.push_toArray, List.append_toArray, List.nil_append, List.cons_append]
  gi_wp2
  refine ⟨trivial, fun h => (by cases h), (callsIn_wide.2 (below_any k t m e (.slice top.a top.F.len top.c) _ top.F.len top.c top.a rfl)).mono ?_⟩
  rintro r W1 ⟨rfl, hb1⟩
  clear D0 D1 D2 D3 D4
  have hbA : Below W.heap.size W W1 := ((Below.refl W.heap.size W).alloc (Nat.le_refl _) (.map #[] 0)).trans (hb1.mono (by simp))
  have hmap1 : plKeys.Has W1 W.heap.size [] := plKeys.has_new _ _ ((hb1.block _ (by simp)).trans (heap_alloc_new _ _))
  have hml : W.heap.size < W1.heap.size := has_lt hmap1
  clear hb1
  gi_wp2
  gi_loopw [4] (fun v wr => ∃ n, LInv w0 W.heap.size top J W.heap.size v wr n) (fun v wr => least (LInv w0 W.heap.size top J W.heap.size v wr))
  case atStart =>
    have hbB : Below W.heap.size W (W1.alloc (.cells #[.slice top.a top.F.len top.c] 30)) := hbA.alloc hbA.size _
    refine ⟨_, [top], fun _ => 0, [], [], Inv.start _ HT.out, counts_zero, fun q hq => absurd hq List.not_mem_nil, ?_, ?_, HJ.out _ _ _ H0.out hbB, HS0.out.grow hsz hbB, hbB.size, fun p => ?_, rfl⟩
    · exact World.ownsRow_lit (base := W.heap.size) (e := 30) (size := 1) W1 #[.slice top.a top.F.len top.c] 1 hbA.size (by unfold maxLen; omega) rfl
    · exact hmap1.same _ (Below.heap_alloc _ _ _ hml)
    · show 0 + ((if (0 : Nat) = 0 then 2 * (top.F.size + 1) else 1) + 0) ≤ _
      simp
  case round =>
    have hM := least_spec hrel
    have HMu : Hid (∀ v' wr' n', LInv w0 W.heap.size top J W.heap.size v' wr' n' → n' < least (LInv w0 W.heap.size top J W.heap.size u4 wr) → least (LInv w0 W.heap.size top J W.heap.size v' wr') < least (LInv w0 W.heap.size top J W.heap.size u4 wr)) := fun v' wr' n' h1 h2 => Nat.lt_of_le_of_lt (least_le h1) h2
    obtain ⟨S, M, L, pre, hI, hC, hks, hown, hmap, hJp, hse, hBs, hMk, hcost⟩ := hM
    have HI : Hid (Inv (liSys w0) top S M pre) := hI
    have HC : Hid (Counts L M) := hC
    have HKs : Hid (∀ q ∈ L, PlOk w0 q.1) := hks
    have HP : Hid (J pre wr) := hJp
    have HMk : Hid (∀ p, M p + least (LInv w0 W.heap.size top J W.heap.size u4 wr) ≤ 2 * (top.F.size + 1)) := hMk
    have HCo : Hid ((liSys w0).cost M S = least (LInv w0 W.heap.size top J W.heap.size u4 wr)) := hcost
    clear hI hC hks hJp hMk hcost hrel
    rcases List.eq_nil_or_concat S with rfl | ⟨S, y, rfl⟩
    · have HR : Hid (All w0 top pre) := ⟨HI.out.okp, HI.out.done _⟩
      rcases hown.2 with ⟨rfl, _⟩ | ⟨g, cap, cur, rfl, _⟩
      · gi_wp2
        go_end0
        exact ⟨⟨_, rfl⟩, pre, HR.out, HP.out⟩
      · gi_wp2
        go_end0
        exact ⟨⟨_, rfl⟩, pre, HR.out, HP.out⟩
    · rw [List.concat_eq_append] at HI HCo hown
      rw [List.length_append, List.length_singleton] at hown
      obtain ⟨g, cap, rfl, hg1, hg2⟩ := hown.form (by omega)
      have hpop := rowL_pop hown
      have q0 : wr.cell? ⟨g, S.length, none⟩ = some (.slice y.a y.F.len y.c) := rowL_last hown
      have hyok : y.Ok w0 := HI.out.oks y (by simp)
      have hts : top.F.size ≤ 1100000 := HT.out.2.2.2
      have hlen : S.length ≤ 2300000 := by
        have h1 := HMk.out (none, 0)
        have h2 := (liSys w0).cost_length M (S ++ [y])
        rw [List.length_append, List.length_singleton, HCo.out] at h2
        omega
      have hcap : (S.length : Int) ≤ (cap : Int) ∧ cap ≤ maxLen := by
        rcases hown.2 with ⟨h', _⟩ | ⟨g', cap', cur, h', h2, h3, h4, h5, h6, h7⟩
        · cases h'
        · simp only [Value.slice.injEq, Option.some.injEq, Addr.mk.injEq, and_true, true_and] at h'
          obtain ⟨rfl, rfl⟩ := h'
          exact ⟨by omega, h5⟩
      obtain ⟨hcap1, hcap2⟩ := hcap
      unfold maxLen at hcap2
      have hgne := rowL_ne hown hmap
      have hfull := hown
      have hyl := li_len hyok
      have hya := len_or' hyok.1
      have hn0 : M y.pl ≤ 100000000 := by have := HMk.out y.pl; omega
      have hge := counts_get HC.out y.pl
      clear hown
      obtain ⟨n9, hn⟩ : ∃ n9, S.length = n9 := ⟨_, rfl⟩
      have HSn : Hid (S.length = n9) := hn
      rw [hn] at HMu HMk HCo q0 hlen hcap1 hpop hfull ⊢
      clear hn
      have hn1 : (0 : Int) < (n9 : Int) + 1 := by omega
      have HYo : Hid (y.Ok w0) := hyok
      have HPop : Hid (wr.ownsRow W.heap.size 30 1 (.slice (some ⟨g, 0, none⟩) n9 cap) n9 (S.map Li.v)) := hpop
      have HMap : Hid (plKeys.Has wr W.heap.size L) := hmap
      have HFull : Hid (wr.ownsRow W.heap.size 30 1 (.slice (some ⟨g, 0, none⟩) (n9 + 1) cap) (n9 + 1) ((S ++ [y]).map Li.v)) := hfull
      clear hyok hpop hmap hfull
      gi_wp2
      refine wpIn_wide.2 (ls4 HMap.out (hse.plOk HYo.out.2.1) (fun q hq => hse.plOk (HKs.out q hq)) hge hn0 hya hyl (fun _ d _ _ _ h => by cases d <;> exact h) ?_)
      intro ws v20 v21 v22 v23 v24 v25 v26 hmS hgr
      have hbS : Below W.heap.size wr ws := (Below.refl _ wr).grown hgr hBs (fun k hk => by have := Option.some.inj hk; omega)
      have HCS : Hid (Counts (putL (plOf y.a y.F.len) (.int .i64 ((M y.pl : Int) + 1)) L) (bump M y.pl)) := counts_put HC.out y.pl
      have HKS : Hid (∀ q ∈ putL (plOf y.a y.F.len) (.int .i64 ((M y.pl : Int) + 1)) L, PlOk w0 q.1) := fun q hq => by
        rcases putL_keys _ _ L q hq with e | hq
        · rw [e]; exact HYo.out.2.1
        · exact HKs.out q hq
      have HRS : Hid (ws.ownsRow W.heap.size 30 1 (.slice (some ⟨g, 0, none⟩) n9 cap) n9 (S.map Li.v)) := HPop.out.kept hgr (.inr (fun e => hgne (Option.some.inj e)))
      have HFS : Hid (ws.ownsRow W.heap.size 30 1 (.slice (some ⟨g, 0, none⟩) (n9 + 1) cap) (n9 + 1) ((S ++ [y]).map Li.v)) := HFull.out.kept hgr (.inr (fun e => hgne (Option.some.inj e)))
      have HMS : Hid (plKeys.Has ws W.heap.size (putL (plOf y.a y.F.len) (.int .i64 ((M y.pl : Int) + 1)) L)) := hmS
      have HW : Hid (∀ w', Below ws.heap.size ws w' → Below W.heap.size wr w' ∧ w'.ownsRow W.heap.size 30 1 (.slice (some ⟨g, 0, none⟩) n9 cap) n9 (S.map Li.v) ∧ w'.ownsRow W.heap.size 30 1 (.slice (some ⟨g, 0, none⟩) (n9 + 1) cap) (n9 + 1) ((S ++ [y]).map Li.v) ∧ plKeys.Has w' W.heap.size (putL (plOf y.a y.F.len) (.int .i64 ((M y.pl : Int) + 1)) L) ∧ J pre w' ∧ Sees w0 w' ∧ W.heap.size ≤ w'.heap.size ∧
          (Instr.lookup 113 (.map (some W.heap.size)) (.agg #[.pointer (plOf y.a y.F.len).1, .int .i64 (plOf y.a y.F.len).2]) false).run Try.prog w' = .ok (.int .i64 ((M y.pl : Int) + 1)) w') := fun w' hb => by
        have hbW := hbS.trans (hb.mono (Nat.le_trans hBs hbS.size))
        have hm' := has_below HMS.out hb
        have hs' := hse.grow hsz hbW
        have hz : (zeroValue 3).run Try.prog w' = .ok (.int .i64 0) w' := by kernel_rfl
        have hl := plKeys.look (mty := 113) (et := 3) Try.underlying113 (plOf y.a y.F.len) (hs'.plOk HYo.out.2.1) (fun q hq => hs'.plOk (HKS.out q hq)) hm'.is hz
        rw [getL_put, if_pos rfl] at hl
        exact ⟨hbW, HRS.out.kept (row := none) ⟨hb.os, hb.tape, hb.output, hb.size, fun k hk _ => hb.block k hk⟩ (ob_or' _), HFS.out.kept (row := none) ⟨hb.os, hb.tape, hb.output, hb.size, fun k hk _ => hb.block k hk⟩ (ob_or' _), hm', HJ.out _ _ _ HP.out hbW, hs', Nat.le_trans hBs hbW.size, hl⟩
      clear hmS hgr hge hse
      gi_wp2
      refine ⟨trivial, fun h => (by cases h), (callsIn_wide.2 (placeOf_any y.a y.F.len y.c _ hya hyl)).mono ?_⟩
      rintro r w5 ⟨rfl, hb5⟩
      obtain ⟨hb5w, -, hf5, hm5, hj5, hs5, hz5, hlook⟩ := HW.out _ hb5
      unfold plV
      by_cases hM0 : M y.pl = 0
      · have hlook' : (Instr.lookup 113 (.map (some W.heap.size)) (.agg #[.pointer (plOf y.a y.F.len).1, .int .i64 (plOf y.a y.F.len).2]) false).run Try.prog w5 = .ok (.int .i64 1) w5 := by rw [hM0] at hlook; exact hlook
        have HF5 : Hid (w5.ownsRow W.heap.size 30 1 (.slice (some ⟨g, 0, none⟩) (n9 + 1) cap) (n9 + 1) ((S ++ [y]).map Li.v)) := hf5
        have HM5 : Hid (plKeys.Has w5 W.heap.size (putL (plOf y.a y.F.len) (.int .i64 ((M y.pl : Int) + 1)) L)) := hm5
        clear hlook hf5 hm5
        gi_wp2
        refine ⟨trivial, fun h => (by cases h), (callsIn_wide.2 (unmet_sees y (bump M y.pl) _ W.heap.size w0 w5 HYo.out hs5 HM5.out HCS.out HKS.out)).mono ?_⟩
        rintro r w55 ⟨⟨v9, rfl, hown9⟩, hb55⟩
        have hf55 := HF5.out.kept (row := none) ⟨hb55.os, hb55.tape, hb55.output, hb55.size, fun k hk _ => hb55.block k hk⟩ (ob_or' _)
        have hul := unm_length w0 (bump M y.pl) y y.F.len
        have hb5a := hb5w.trans (hb55.mono (Nat.le_trans hBs hb5w.size))
        have hz55 := Nat.le_trans hz5 hb55.size
        clear HF5 hlook'
        gi_wp2_with (gi_at_builtin; refine wpListIn_append_two _ rfl _ _ 114 rfl W.heap.size w5.heap.size 30 i0 (.slice none 0 0) 1 24 Try.underlying114 hi hz0 hz1 hz2 rfl (by decide) _ (n9 + 1) _ rfl hf55 v9 _ _ rfl hown9 (lv_one _) (by unfold maxLen; omega) (by omega) hz55 ?_; intro v6 w6 hr6 hgr6)
        have hb56 : Below W.heap.size w5 w6 := (hb55.mono hz5).grown hgr6 hz55 (fun k hk => by have : g = k := Option.some.inj hk; omega)
        have hm6 := (has_below HM5.out hb55).same _ (hgr6.block W.heap.size (Nat.lt_of_lt_of_le (has_lt HM5.out) hb55.size) (fun e => hgne (Option.some.inj e).symm))
        have hco := (liSys w0).cost_open M S y hM0 (li_sum w0 y)
        have HInv : Hid (LInv w0 W.heap.size top J W.heap.size v6 w6 ((liSys w0).cost (bump M y.pl) (S ++ [y] ++ (liSys w0).unm (bump M y.pl) y y.F.len))) :=
          ⟨S ++ [y] ++ (liSys w0).unm (bump M y.pl) y y.F.len, bump M y.pl, _, pre, HI.out.open_ _ hM0, HCS.out, HKS.out, by rw [List.length_append, List.length_append, List.length_singleton, HSn.out, List.map_append]; exact hr6, hm6, HJ.out _ _ _ hj5 hb56, hs5.grow hsz hb56, Nat.le_trans hz5 hb56.size, fun p => by
            have h1 := HMk.out p
            have h2 := bump_le1 M y.pl p
            have h3 : (liSys w0).cost M (S ++ [y]) = _ := HCo.out
            have h4 : (liSys w0).cost (bump M y.pl) (S ++ [y] ++ (liSys w0).unm (bump M y.pl) y y.F.len) + 1 ≤ (liSys w0).cost M (S ++ [y]) := hco
            omega, rfl⟩
        have HLt : Hid ((liSys w0).cost (bump M y.pl) (S ++ [y] ++ (liSys w0).unm (bump M y.pl) y y.F.len) < (liSys w0).cost M (S ++ [y])) := hco
        clear hr6 hgr6 hm6 hco hb56
        go_roundw
        case rel => exact ⟨_, HInv.out⟩
        case measure =>
          refine HMu.out _ _ _ HInv.out ?_
          rw [← HCo.out]
          exact HLt.out
      · have hgd : ((M y.pl : Int) + 1 == 1) = false := by simp; omega
        clear hf5 hm5 hj5 hs5 hz5 hb5w
        have HB5 : Hid (Below ws.heap.size ws w5) := hb5
        clear hb5
        gi_wp2
        refine ⟨trivial, fun h => (by cases h), (callsIn_wide.2 (placeOf_any y.a y.F.len y.c _ hya hyl)).mono ?_⟩
        rintro r w7 ⟨rfl, hb7⟩
        clear hlook
        obtain ⟨hb7w, hr7, -, hm7, hj7, hs7, hz7, hlook⟩ := HW.out _ (HB5.out.trans (hb7.mono HB5.out.size))
        unfold plV
        have HR7 : Hid (w7.ownsRow W.heap.size 30 1 (.slice (some ⟨g, 0, none⟩) n9 cap) n9 (S.map Li.v)) := hr7
        have HM7 : Hid (plKeys.Has w7 W.heap.size (putL (plOf y.a y.F.len) (.int .i64 ((M y.pl : Int) + 1)) L)) := hm7
        have hco : (liSys w0).cost (bump M y.pl) S + 1 ≤ (liSys w0).cost M (S ++ [y]) := (liSys w0).cost_pop M S y
        have HMp : Hid (∀ p, bump M y.pl p + (liSys w0).cost (bump M y.pl) S ≤ 2 * (top.F.size + 1)) := fun p => by
          have h1 := HMk.out p
          have h2 := bump_le1 M y.pl p
          have h3 : (liSys w0).cost M (S ++ [y]) = _ := HCo.out
          omega
        have HLt : Hid ((liSys w0).cost (bump M y.pl) S < (liSys w0).cost M (S ++ [y])) := hco
        clear hr7 hm7 hco hb7
        by_cases hM1 : M y.pl = 1
        · have hlook' : (Instr.lookup 113 (.map (some W.heap.size)) (.agg #[.pointer (plOf y.a y.F.len).1, .int .i64 (plOf y.a y.F.len).2]) false).run Try.prog w7 = .ok (.int .i64 2) w7 := by rw [hM1] at hlook; exact hlook
          obtain ⟨hkids, hinvT⟩ := HI.out.tell _ hM1
          obtain ⟨fn, tmps, assign, body, hy, hR⟩ := HY.out pre y w7 hj7 ⟨HYo.out, hkids⟩ hz7
          have HIT : Hid (Inv (liSys w0) top S (bump M y.pl) (pre ++ [y])) := hinvT
          clear hlook hkids hinvT
          gi_wp2
          refine ⟨fun h => (by cases h), hR.mono ?_⟩
          rintro r w8 ⟨rfl, hJ8, hk8⟩
          have hr8 := rowL_keeps HR7.out hg1 (hk8.2 g (.inr hg1))
          have hm8 := HM7.out.same _ (hk8.2 W.heap.size (.inr (Nat.le_refl _)) (has_lt HM7.out))
          have HInv : Hid (LInv w0 W.heap.size top J W.heap.size (.slice (some ⟨g, 0, none⟩) n9 cap) w8 ((liSys w0).cost (bump M y.pl) S)) :=
            ⟨S, bump M y.pl, _, pre ++ [y], HIT.out, HCS.out, HKS.out, by rw [HSn.out]; exact hr8, hm8, hJ8, ⟨Nat.le_trans hs7.1 hk8.1, fun j hj => (hk8.2 j (.inl hj) (Nat.lt_of_lt_of_le hj hs7.1)).trans (hs7.2 j hj)⟩, Nat.le_trans hz7 hk8.1, HMp.out, rfl⟩
          clear hR hy hlook' hr8 hm8 hJ8 hk8
          gi_wp2
          go_roundw
          case rel => exact ⟨_, HInv.out⟩
          case measure =>
            refine HMu.out _ _ _ HInv.out ?_
            rw [← HCo.out]
            exact HLt.out
        · have hgd2 : ((M y.pl : Int) + 1 == 2) = false := by simp; omega
          have HInv : Hid (LInv w0 W.heap.size top J W.heap.size (.slice (some ⟨g, 0, none⟩) n9 cap) w7 ((liSys w0).cost (bump M y.pl) S)) :=
            ⟨S, bump M y.pl, _, pre, HI.out.again _ (by show 2 ≤ M y.pl; omega), HCS.out, HKS.out, by rw [HSn.out]; exact HR7.out, HM7.out, hj7, hs7, hz7, HMp.out, rfl⟩
          gi_wp2
          refine ⟨fun _ h => (by cases h), ?_⟩
          gi_wp2
          go_roundw
          case rel => exact ⟨_, HInv.out⟩
          case measure =>
            refine HMu.out _ _ _ HInv.out ?_
            rw [← HCo.out]
            exact HLt.out
end Go.Proofs.Ytapdlnakbpociaa
