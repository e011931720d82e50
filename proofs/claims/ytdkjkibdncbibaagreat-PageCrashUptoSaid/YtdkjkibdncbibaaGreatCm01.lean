import Derived.Test.YtdkjkibdncbibaaGreatCm00
namespace Go.Proofs.YtdkjkibdncbibaaGreat
open Go.RowKit
open Go.Lib (hid)
def WOK (L : List WR) : Prop := ∀ x ∈ L, x.2.1.length = 256 ∧ x.2.2.length = 256
theorem flatL_drop : ∀ (i : Nat) (L : List WR), WOK L → (flatL L).drop (i * 513) = flatL (L.drop i)
 | 0, L, _ => by simp
 | i + 1, [], _ => by simp [flatL]
 | i + 1, x :: L, h => by
  have hx := wrL_len x.1 x.2.1 x.2.2 (h x List.mem_cons_self).1 (h x List.mem_cons_self).2
  have ih := flatL_drop i L (fun y hy => h y (List.mem_cons_of_mem _ hy))
  rw [List.drop_succ_cons, ← ih]
  show ((wrL x.1 x.2.1 x.2.2) ++ flatL L).drop _ = _
  rw [List.drop_append, hx, show (i + 1) * 513 - 513 = i * 513 by omega, List.drop_of_length_le (by rw [hx]; omega), List.nil_append]
theorem flatL_get (L : List WR) (h : WOK L) (i : Nat) (x : WR) (hx : L[i]? = some x) (j : Nat) (v : Value) (hv : (wrL x.1 x.2.1 x.2.2)[j]? = some v) : (flatL L)[i * 513 + j]? = some v := by
 have hi := (List.getElem?_eq_some_iff.1 hx).1
 have h1 := flatL_drop i L h
 have h2 : L.drop i = x :: L.drop (i + 1) := by
  rw [List.drop_eq_getElem_cons hi]
  congr 1
  exact (List.getElem?_eq_some_iff.1 hx).2
 have h3 : ((flatL L).drop (i * 513))[j]? = some v := by
  rw [h1, h2]
  show ((wrL x.1 x.2.1 x.2.2) ++ flatL (L.drop (i + 1)))[j]? = _
  rw [List.getElem?_append_left (List.getElem?_eq_some_iff.1 hv).1]
  exact hv
 rwa [List.getElem?_drop] at h3
theorem LooseIs.at {w : World} {B : Nat} {lv : Value} {L : List WR} (h : LooseIs w B lv L) (hw : WOK L) (hL : 0 < L.length) :
  ∃ g cap, lv = .slice (some ⟨g, 0, none⟩) L.length cap ∧ ∀ i x, L[i]? = some x → w.rangeAt g (i * 513) (wrL x.1 x.2.1 x.2.2) := by
 rcases h.2 with ⟨_, h0⟩ | ⟨g, cap, cur, rfl, _⟩
 ·omega
 ·refine ⟨g, cap, rfl, fun i x hx j v hv => ?_⟩
  have h1 := flatL_get L hw i x hx j v hv
  have h2 := h.cells (g := g) rfl (i * 513 + j) v h1
  rwa [Addr.add_mid, Nat.zero_add] at h2
def undoF (f : Int → List Int) (L : List WR) : Int → List Int := L.foldr (fun x g => fput g x.1 x.2.1) f
def undoK (kvs : List (Int × List Int)) (L : List WR) : List (Int × List Int) := L.foldr (fun x k => kput k x.1 x.2.1) kvs
theorem undoK_get (kvs : List (Int × List Int)) (f : Int → List Int) (h : ∀ n, kget kvs n = f n) : ∀ (L : List WR) (n : Int), kget (undoK kvs L) n = undoF f L n
 | [], n => h n
 | x :: L, n => by
  show kget (kput (undoK kvs L) x.1 x.2.1) n = fput (undoF f L) x.1 x.2.1 n
  rw [kget_kput, fput, undoK_get kvs f h L n]
theorem undoK_KN {kvs : List (Int × List Int)} (h : KN kvs) : ∀ (L : List WR), KN (undoK kvs L)
 | [] => h
 | x :: L => (undoK_KN h L).put x.1 x.2.1
theorem undoF_len {f : Int → List Int} (h : ∀ n, (f n).length = 256) : ∀ (L : List WR), WOK L → ∀ n, (undoF f L n).length = 256
 | [], _, n => h n
 | x :: L, hw, n => by
  show (fput (undoF f L) x.1 x.2.1 n).length = 256
  unfold fput; split
  ·exact (hw x List.mem_cons_self).1
  ·exact undoF_len h L (fun y hy => hw y (List.mem_cons_of_mem _ hy)) n
theorem zero57 (w : World) : (zeroValue 96).run Tryz.prog w = .ok (.agg (wrL 0 (zeros 256) (zeros 256)).toArray) w := by kernel_rfl
theorem exec_load_mid {P : Program} {ρ : Operand → Value} {op : Oper} {w : World} (ty : TypeId) (x : Operand) (ho : op.op = .load ty x) (b o : Nat) (hx : ρ x = .pointer (some ⟨b, o, none⟩)) (cs : List Value) (d : TypeDesc) (hc : w.rangeAt b o cs)
  (hu : P.underlying ty = some d) (hd : d.isRow = true) (hi : (P.info? ty).map (·.size) = some cs.length) : (execOp ρ op).run P w = .ok (.value (.agg cs.toArray)) w := by
 unfold execOp
 simp only [ho, hx, Instr.loadAt, Instr.sureAddr, Sem.run_bind, Sem.run_pure, Result.andThen_ok, run_loadVar_mid w b o ty cs d hc hu hd hi]
theorem range_of_row {w : World} {b : Nat} {c : List Value} {t : TypeId} (h : w.heap[b]? = some (.cells c.toArray t (0, 0))) (o : Nat) (cs : List Value) (hc : ∀ j v, cs[j]? = some v → c[o + j]? = some v) : w.rangeAt b o cs := fun j v hv => by
 rw [cell_of_row w b (o + j) _ _ _ h]
 simpa using hc j v hv
theorem wrL_before (n : Int) (a b : List Int) : ∀ (j : Nat) (v : Value), (a.map (Value.int .u8))[j]? = some v → (wrL n a b)[1 + j]? = some v := fun j v hv => by
 rw [wrL, Nat.add_comm, List.getElem?_cons_succ, List.getElem?_append_left (List.getElem?_eq_some_iff.1 hv).1]
 exact hv
theorem wrL_after (n : Int) (a b : List Int) (ha : a.length = 256) : ∀ (j : Nat) (v : Value), (b.map (Value.int .u8))[j]? = some v → (wrL n a b)[257 + j]? = some v := fun j v hv => by
 rw [wrL, show 257 + j = (256 + j) + 1 by omega, List.getElem?_cons_succ, List.getElem?_append_right (by simp [ha])]
 simpa [ha] using hv
set_option maxRecDepth 100000 in
set_option maxHeartbeats 1000000 in
theorem undo_any (B D M : Nat) (nb rm fz : Int) (dn : Bool) (f : Int → List Int) (L : List WR) (lv : Value) (w : World) (h : Dk w B D M nb rm fz dn f L lv) (hL : L.length ≤ 268435456) :
    Calls Tryz.prog 55 #[.pointer (some ⟨D, 0, none⟩)] w fun e w' => e = .returned (.tuple #[]) ∧ Dk w' B D M nb rm fz dn (undoF f L) L lv ∧ Chg (fun k => k = M) w w' := by
  have HDK := hid h
  obtain ⟨hd, ⟨kvs, hm, hkn, hkf⟩, hlo, hBD, hBM, hfz, hfl, hLl⟩ := h
  obtain ⟨sa, sc, hlv⟩ := hlo.shape
  subst hlv
  have c5 : w.cell? ⟨D, 5, none⟩ = some (.slice sa L.length sc) := hd.cell 5
  have HD := hid hd
  have HM := hid hm
  have HLO := hid hlo
  have HKF := hid hkf
  have HLL := hid hLl
  have HFL := hid hfl
  have hDlt := hd.lt
  have hMlt := hm.lt
  obtain ⟨Z, hZ, hz⟩ : ∃ Z : Array Value, Z.size = 513 ∧ ∀ u : World, (zeroValue 96).run Tryz.prog u = .ok (.agg Z) u := ⟨_, by rw [List.size_toArray]; exact wrL_len 0 (zeros 256) (zeros 256) (zeros_len _) (zeros_len _), zero57⟩
  have HZ := hid hZ
  clear hZ
  have HI57 := hid (show (Tryz.prog.info? 96).map (·.size) = some 513 by kernel_rfl)
  clear hd hm hlo hkf hLl hfl
  go_enter Tryz.func55, Tryz.ntmps55
  go_wp2_with fail
  go_loopw [2] (fun i wr => ∃ j : Nat, j ≤ L.length ∧ i = .int .i64 ((j : Int) - 1) ∧ Chg (fun k => k = M) w wr ∧ MapIs wr M (undoK kvs (L.drop j))) (fun i _ => (intOf i + 1).toNat)
  case atStart => exact ⟨L.length, Nat.le_refl _, by go_num, Chg.refl _ _, by rw [List.drop_length]; exact HM.out⟩
  case round =>
    obtain ⟨j, hj, rfl, hc, hmr⟩ := hrel
    have HC := hid hc
    have HMR := hid hmr
    clear hc hmr
    cases j with
    | zero =>
      have hdr : wr.cell? ⟨D, 5, none⟩ = some (.slice sa L.length sc) := (World.cell?_of_block (HC.out.block D hDlt HDK.out.apart.1)).trans c5
      clear c5
      go_wp2_with fail
      go_end0
      refine ⟨rfl, ⟨?_, ⟨_, HMR.out, undoK_KN hkn _, fun n => undoK_get kvs f HKF.out L n⟩, ?_, hBD, hBM, hfz, undoF_len HFL.out L HLL.out, HLL.out⟩, HC.out⟩
      · exact (HC.out.block D hDlt HDK.out.apart.1).trans HD.out
      · exact HLO.out.kept (fun k hk => HC.out.block k (HLO.out.lt k hk).2 (fun e => HDK.out.apart.2.2 (by rw [hk, e])))
    | succ j =>
      have hx : L[j]? = some (L[j]'(by omega)) := List.getElem?_eq_getElem (by omega)
      obtain ⟨g, cap, hlv, hrng⟩ := HLO.out.at HLL.out (by omega)
      injection hlv with e1 _ e2
      subst e1 e2
      generalize L[j]'(by omega) = x at hx
      have hxl := HLL.out x (List.mem_of_getElem? hx)
      have hgl := (HLO.out.lt g rfl).2
      have hr0 : wr.rangeAt g (j * 513) (wrL x.1 x.2.1 x.2.2) := fun k v hv => (World.cell?_of_block (HC.out.block g hgl (fun e => HDK.out.apart.2.2 (by rw [← e]; rfl)))).trans (hrng j x hx k v hv)
      have HR0 := hid hr0
      have HX := hid hx
      have hdr : wr.cell? ⟨D, 5, none⟩ = some (.slice (some ⟨g, 0, none⟩) L.length sc) := (World.cell?_of_block (HC.out.block D hDlt HDK.out.apart.1)).trans c5
      clear c5 hx hr0 hrng
      have hj0 : (0 : Int) ≤ ((j + 1 : Nat) : Int) - 1 := by omega
      have hj1 : ((j + 1 : Nat) : Int) - 1 < L.length := by omega
      have HWL := hid (wrL_len x.1 x.2.1 x.2.2 hxl.1 hxl.2)
      have HXL := hid hxl
      clear hxl
      go_wp2_with (first
        | (refine wpList_load_mid rfl 96 (Operand.tmp 19) rfl g (j * 513) rfl (wrL x.1 x.2.1 x.2.2) _ HR0.out Tryz.underlying96 rfl (by rw [HI57.out, HWL.out]) ?_)
        | (refine wpList_store_new rfl 96 (Operand.tmp 3) (Operand.tmp 20) rfl wr.heap.size (wrL x.1 x.2.1 x.2.2).toArray rfl rfl rfl _ 96 (by rw [HI57.out, List.size_toArray, HWL.out]) (by rw [HZ.out, List.size_toArray, HWL.out]) (by rw [Array.all_eq_true_iff_forall_mem]; intro v hv; exact wrL_one _ _ _ v (by simpa using hv)) ?_; intro w2 hd2 hb2 hs2; have HD2 := hid hd2; have HB2 := hid hb2; have HS2 := hid hs2; clear hd2 hb2 hs2))
      have hb0 : w2.cell? ⟨wr.heap.size, 0, none⟩ = some (.int .i64 x.1) := (cell_of_row w2 _ 0 _ _ _ HD2.out).trans rfl
      have hb1 : w2.rangeAt wr.heap.size 1 (x.2.1.map (Value.int .u8)) := range_of_row HD2.out 1 _ (wrL_before x.1 x.2.1 x.2.2)
      have hD2 : w2.cell? ⟨D, 4, none⟩ = some (.map (some M)) := by
        have := HC.out.size
        rw [HB2.out.cell (p := ⟨D, 4, none⟩) (show D < wr.heap.size by omega), World.cell?_of_block (HC.out.block D hDlt HDK.out.apart.1)]
        exact HD.out.cell 4
      have hM2 : MapIs w2 M (undoK kvs (L.drop (j + 1))) := HMR.out.of (HB2.out.block M HMR.out.lt)
      obtain ⟨w3, hrun, hm3, hg3, hs3⟩ := run_update_kv w2.drew M x.1 x.2.1 _ (hM2.of rfl)
      have hC3 : Chg (fun k => k = M) w w3 := (HC.out.trans (Chg.fresh (F := fun k => k = M) HB2.out) (fun i hi => .inl hi)).drew.trans (Chg.grown (F := fun k => k = M) hg3 (fun k hk => by injection hk with hk; exact hk.symm)) (fun i hi => .inl hi)
      have hML := hM2.lt
      have hb0' : w3.cell? ⟨wr.heap.size, 0, none⟩ = some (.int .i64 x.1) := (World.cell?_of_block (a := ⟨wr.heap.size, 0, none⟩) (hg3.block wr.heap.size (by show _ < w2.heap.size; rw [HS2.out]; omega) (by intro e; injection e with e; have := HMR.out.lt; omega))).trans hb0
      have hb1' : w3.rangeAt wr.heap.size 1 (x.2.1.map (Value.int .u8)) := fun k v hv => (World.cell?_of_block (a := ⟨wr.heap.size, 1 + k, none⟩) (hg3.block wr.heap.size (by show _ < w2.heap.size; rw [HS2.out]; omega) (by intro e; injection e with e; have := HMR.out.lt; omega))).trans (hb1 k v hv)
      have hD3 : w3.cell? ⟨D, 4, none⟩ = some (.map (some M)) := (World.cell?_of_block (hC3.block D hDlt HDK.out.apart.1)).trans (HD.out.cell 4)
      have H2 := hid (And.intro hD2 (And.intro hb0 hb1))
      have H3 := hid (And.intro hD3 (And.intro hb0' hb1'))
      have HRUN := hid hrun
      have HM3 := hid hm3
      have HC3 := hid hC3
      clear hb0 hb1 hD2 hM2 hrun hm3 hg3 hs3 hC3 hML hb0' hb1' hD3
      refine wp_region_held_drew (S := fun u => u.cell? ⟨D, 4, none⟩ = some (.map (some M)) ∧ u.cell? ⟨wr.heap.size, 0, none⟩ = some (.int .i64 x.1) ∧ u.rangeAt wr.heap.size 1 (x.2.1.map (Value.int .u8))) (by kernel_rfl) (H2.out) (fun hHeld => ?_)
      refine tk (i := 0) (oi := ⟨some 21, .move (.tmp 0), 24, "up.go:23", #[], none⟩) (v := ?_) (Or.inl ⟨by rfl, ?_⟩) ?_
      rotate_left 1
      · (intro u hSw; go_simp; try with_reducible rfl)
      try simp only [Act.put, sA, sB, sC]
      refine tk (i := 1) (oi := ⟨some 22, .nilCheck (.tmp 21), 0, "up.go:23", #[⟨0, .data⟩], none⟩) (v := ?_) (Or.inl ⟨by rfl, ?_⟩) ?_
      rotate_left 1
      · (intro u hSw; go_simp; try with_reducible rfl)
      try simp only [Act.put, sA, sB, sC]
      refine tk (i := 2) (oi := ⟨some 23, .fieldAddr 93 (.tmp 22) 4, 0, "up.go:23", #[⟨1, .data⟩], none⟩) (v := ?_) (Or.inl ⟨by rfl, ?_⟩) ?_
      rotate_left 1
      · (intro u hSw; go_simp; try with_reducible rfl)
      try simp only [Act.put, sA, sB, sC]
      refine tk (i := 3) (oi := ⟨some 24, .load 76 (.tmp 23), 76, "up.go:23", #[⟨2, .data⟩], none⟩) (v := ?_) (Or.inl ⟨by rfl, ?_⟩) ?_
      rotate_left 1
      · intro u hSw
        have h4 := hSw.1
        go_simp
        try with_reducible rfl
      try simp only [Act.put, sA, sB, sC]
      refine tk (i := 4) (oi := ⟨some 25, .fieldAddr 96 (.tmp 3) 0, 0, "up.go:23", #[], none⟩) (v := ?_) (Or.inl ⟨by rfl, ?_⟩) ?_
      rotate_left 1
      · (intro u hSw; go_simp; try with_reducible rfl)
      try simp only [Act.put, sA, sB, sC]
      refine tk (i := 5) (oi := ⟨some 26, .load 3 (.tmp 25), 3, "up.go:23", #[⟨4, .data⟩], none⟩) (v := ?_) (Or.inl ⟨by rfl, ?_⟩) ?_
      rotate_left 1
      · intro u hSw
        have h4 := hSw.2.1
        go_simp
        try with_reducible rfl
      try simp only [Act.put, sA, sB, sC]
      refine tk (i := 6) (oi := ⟨some 27, .fieldAddr 96 (.tmp 3) 1, 0, "up.go:23", #[], none⟩) (v := ?_) (Or.inl ⟨by rfl, ?_⟩) ?_
      rotate_left 1
      · (intro u hSw; go_simp; try with_reducible rfl)
      try simp only [Act.put, sA, sB, sC]
      refine tk (i := 7) (oi := ⟨some 28, .load 50 (.tmp 27), 50, "up.go:23", #[⟨6, .data⟩], none⟩) (v := ?_) (Or.inl ⟨by rfl, ?_⟩) ?_
      rotate_left 1
      · intro u hSw
        refine exec_load_mid 50 (Operand.tmp 27) ?_ wr.heap.size 1 ?_ (x.2.1.map (Value.int .u8)) _ hSw.2.2 Tryz.underlying50 rfl (by rw [List.length_map, HXL.out.1]; kernel_rfl) <;> rfl
      try simp only [Act.put, sA, sB, sC]
      refine wpAnyH_ready (rs := [8]) (by kernel_rfl) (by simp) ?_
      refine AllReadyH.cons (o := ⟨none, .mapUpdate 76 (.tmp 24) (.tmp 26) (.tmp 28), 0, "up.go:23", #[⟨3, .data⟩, ⟨5, .data⟩, ⟨7, .data⟩, ⟨0, .phase⟩, ⟨1, .phase⟩, ⟨2, .phase⟩, ⟨3, .phase⟩, ⟨4, .phase⟩, ⟨5, .phase⟩, ⟨6, .phase⟩, ⟨7, .phase⟩], none⟩) rfl (fun K hK => ?_) AllReadyH.nil
      refine step_of_skip ?_ (exec_update (Operand.tmp 24) (Operand.tmp 26) (Operand.tmp 28) ?_ _ _ _ ?_ ?_ ?_ HRUN.out) ?_
      rfl
      rfl
      rfl
      rfl
      rfl
      refine hK.out _ _ H3.out (fun hHeld => ?_)
      clear hK K
      try simp only [Act.put]
      refine wpAnyH_done (by kernel_rfl) ?_ _
      go_wp2_with fail
      go_roundw
      case rel =>
        refine ⟨j, by omega, by go_num, HC3.out, ?_⟩
        have e : L.drop j = x :: L.drop (j + 1) := by
          have hlt := (List.getElem?_eq_some_iff.1 HX.out).1
          rw [List.drop_eq_getElem_cons hlt]
          congr 1
          exact (List.getElem?_eq_some_iff.1 HX.out).2
        rw [e]
        exact HM3.out
      case measure => simp [intOf]
end Go.Proofs.YtdkjkibdncbibaaGreat
namespace Go.Proofs.YtdkjkibdncbibaaGreat
open Go.RowKit
open Go.Lib (hid)
theorem wpList_of_run {P : Program} {ops : Array Oper} {rest : List Oper} {o : Oper} {a : Act} {w w' : World} {v : Value} {Q : Exit → Act → World → Prop} (hg : o.guard = none) (hr : (execOp a.eval o).run P w = .ok (.value v) w') (h : wpList P ops Q rest (a.put o.dst v) w') : wpList P ops Q (o :: rest) a w :=
 wpList_plain hg fun K hK => by
  unfold Oper.wp
  simp [hr]
  exact hK _ _ h
theorem wpList_append_wr {ops : Array Oper} {rest : List Oper} {o : Oper} {a : Act} {w : World} {Q : Exit → Act → World → Prop}
  (hg : o.guard = none) (s x : Operand) (hop : o.op = Op.call { callee := Callee.builtin Builtin.append, args := #[s, x], argTypes := #[91, 91] }) (B : Nat)
  (v : Value) (L : List WR) (hs : a.eval s = v) (hown : LooseIs w B v L) (ad : Addr) (y : WR) (hy1 : y.2.1.length = 256) (hy2 : y.2.2.length = 256) (hx : a.eval x = .slice (some ad) 1 1)
  (hc : ∀ j u, (wrL y.1 y.2.1 y.2.2)[j]? = some u → w.cell? (ad.add j) = some u) (hL : L.length ≤ 268435456) (hbase : B ≤ w.heap.size)
  (hK : ∀ v' w', LooseIs w' B v' (L ++ [y]) → w.grownBy w' v.ownBlock → (v'.ownBlock = v.ownBlock ∨ ∃ k, v'.ownBlock = some k ∧ w.heap.size ≤ k) → wpList Tryz.prog ops Q rest (a.put o.dst v') w') : wpList Tryz.prog ops Q (o :: rest) a w :=
 wpList_plain hg fun K hKK => by
  obtain ⟨v', w', hrun, r1, r2, r3⟩ := run_append_wr w o.type B v L hown ad y hy1 hy2 hc hL hbase
  unfold Oper.wp
  simp [execOp, hop, resolve, invoke, builtin, hs, hx, hrun, Result.andThen]
  exact hKK _ _ (hK v' w' r1 r2 r3)
def Bools (w : World) (v : Value) (ks : List Bool) : Prop := ∃ a cap, v = .slice a ks.length cap ∧ (0 < ks.length → ∃ b off, a = some ⟨b, off, none⟩ ∧ b < w.heap.size ∧ ∀ i, i < ks.length → w.cell? ⟨b, off + i, none⟩ = some (.bool (ks[i]?.getD false)))
theorem Bools.below {w w' : World} {v : Value} {ks : List Bool} (h : Bools w v ks) (hb : Below w.heap.size w w') : Bools w' v ks := by
 obtain ⟨a, cap, h1, h2⟩ := h
 refine ⟨a, cap, h1, fun h0 => ?_⟩
 obtain ⟨b, off, h3, h4, h5⟩ := h2 h0
 exact ⟨b, off, h3, Nat.lt_of_lt_of_le h4 hb.size, fun i hi => (hb.cell (p := ⟨b, off + i, none⟩) h4).trans (h5 i hi)⟩
def survL : List WR → List Bool → List WR
 | [], _ => []
 | _ :: _, [] => []
 | x :: L, b :: ks => if b then x :: survL L ks else survL L ks
theorem survL_snoc (x : WR) : ∀ (L : List WR) (ks : List Bool), survL (L ++ [x]) ks = survL L ks ++ (if (ks[L.length]?).getD false = true then [x] else [])
 | [], [] => rfl
 | [], b :: ks => by cases b <;> simp [survL]
 | y :: L, [] => by simp [survL]
 | y :: L, b :: ks => by
  have ih := survL_snoc x L ks
  simp only [List.cons_append, survL, List.length_cons, List.getElem?_cons_succ]
  cases b <;> simp [ih]
theorem survL_le : ∀ (L : List WR) (ks : List Bool), (survL L ks).length ≤ L.length
 | [], _ => by simp [survL]
 | _ :: _, [] => by simp [survL]
 | x :: L, b :: ks => by have := survL_le L ks; cases b <;> simp [survL] <;> omega
theorem survL_mem (x : WR) : ∀ (L : List WR) (ks : List Bool), x ∈ survL L ks → x ∈ L
 | [], _, h => by simp [survL] at h
 | _ :: _, [], h => by simp [survL] at h
 | y :: L, b :: ks, h => by
  cases b
  ·exact List.mem_cons_of_mem _ (survL_mem x L ks h)
  ·rcases List.mem_cons.1 h with rfl | h
   ·exact List.mem_cons_self
   ·exact List.mem_cons_of_mem _ (survL_mem x L ks h)
theorem take_snoc (L : List WR) (j : Nat) (x : WR) (h : L[j]? = some x) : L.take (j + 1) = L.take j ++ [x] := by
 have hlt := (List.getElem?_eq_some_iff.1 h).1
 rw [List.take_succ_eq_append_getElem hlt, (List.getElem?_eq_some_iff.1 h).2]
theorem surv_step (L : List WR) (ks : List Bool) (j : Nat) (x : WR) (h : L[j]? = some x) : survL (L.take (j + 1)) ks = survL (L.take j) ks ++ (if (ks[j]?).getD false = true then [x] else []) := by
 have hlt := (List.getElem?_eq_some_iff.1 h).1
 rw [take_snoc L j x h, survL_snoc]
 congr 3
 rw [List.length_take, Nat.min_eq_left (by omega)]
set_option maxRecDepth 100000 in
set_option maxHeartbeats 1000000 in
theorem survivors_any (B : Nat) (lv kv : Value) (L : List WR) (ks : List Bool) (w : World) (hlo : LooseIs w B lv L) (hw : WOK L) (hk : Bools w kv ks) (hL : L.length ≤ 268435456) (hkl : ks.length ≤ 140737488355328) :
  Calls Tryz.prog 56 #[lv, kv] w fun e w' => ∃ v, e = .returned v ∧ LooseIs w' w.heap.size v (survL L ks) ∧ Below w.heap.size w w' := by
 have HLO := hid hlo
 have HW := hid hw
 have HKB := hid hk
 obtain ⟨sa, sc, hlv⟩ := hlo.shape
 subst hlv
 obtain ⟨ka, kc, hkv, hkc⟩ := hk
 subst hkv
 have HKC := hid hkc
 have hz0 := zero57
 obtain ⟨Z, hZ, hz⟩ : ∃ Z : Array Value, Z.size = 513 ∧ ∀ u : World, (zeroValue 96).run Tryz.prog u = .ok (.agg Z) u := ⟨_, by rw [List.size_toArray]; exact wrL_len 0 (zeros 256) (zeros 256) (zeros_len _) (zeros_len _), zero57⟩
 have HZ := hid hZ
 have HI57 := hid (show (Tryz.prog.info? 96).map (·.size) = some 513 by kernel_rfl)
 clear hZ hz0 hlo hw hkc
 go_enter Tryz.func56, Tryz.ntmps56
 go_wp2_with fail
 go_loopw [5, 10] (fun v i wr => ∃ j : Nat, j ≤ L.length ∧ i = .int .i64 (j : Int) ∧ LooseIs wr w.heap.size v (survL (L.take j) ks) ∧ Below w.heap.size w wr) (fun _ i _ => L.length - (intOf i).toNat)
 case atStart => exact ⟨0, Nat.zero_le _, rfl, by rw [List.take_zero]; exact World.ownsRow_nil _ _ _ _, Below.refl _ _⟩
 case round =>
  obtain ⟨j, hj, rfl, hlr, hbr⟩ := hrel
  have HLR := hid hlr
  have HBR := hid hbr
  clear hlr hbr
  by_cases hjl : j < L.length
  ·have hx : L[j]? = some (L[j]'hjl) := List.getElem?_eq_getElem hjl
   obtain ⟨g, cap, hlv, hrng⟩ := HLO.out.at HW.out (by omega)
   injection hlv with e1 _ e2
   subst e1 e2
   generalize L[j]'hjl = x at hx
   have hxl := HW.out x (List.mem_of_getElem? hx)
   have hgl := (HLO.out.lt g rfl).2
   have HR0 := hid (show wr.rangeAt g (j * 513) (wrL x.1 x.2.1 x.2.2) from fun k v hv => (HBR.out.cell (p := ⟨g, j * 513 + k, none⟩) hgl).trans (hrng j x hx k v hv))
   have HX := hid hx
   have HWL := hid (wrL_len x.1 x.2.1 x.2.2 hxl.1 hxl.2)
   have HXL := hid hxl
   have HST := hid (surv_step L ks j x hx)
   clear hx hrng hxl
   by_cases hjk : j < ks.length
   ·obtain ⟨b, off, rfl, hblt, hkc⟩ := HKC.out (by omega)
    have hcell := (HBR.out.cell (p := ⟨b, off + j, none⟩) hblt).trans (hkc j hjk)
    have hkj : ks[j]? = some (ks[j]'hjk) := List.getElem?_eq_getElem hjk
    rw [hkj] at HST hcell
    generalize ks[j]'hjk = kb at hcell HST
    have HCELL := hid hcell
    clear hkc hkj hcell
    cases kb
    ·go_wp2_with (first
      | (refine wpList_load_mid rfl 96 (Operand.tmp 13) rfl g (j * 513) rfl (wrL x.1 x.2.1 x.2.2) _ HR0.out Tryz.underlying96 rfl (by rw [HI57.out, HWL.out]) ?_)
      | (refine wpList_store_new rfl 96 (Operand.tmp 7) (Operand.tmp 14) rfl wr.heap.size (wrL x.1 x.2.1 x.2.2).toArray rfl rfl rfl _ 96 (by rw [HI57.out, List.size_toArray, HWL.out]) (by rw [HZ.out, List.size_toArray, HWL.out]) (by rw [Array.all_eq_true_iff_forall_mem]; intro v hv; exact wrL_one _ _ _ v (by simpa using hv)) ?_; intro w2 hd2 hb2 hs2; have HD2 := hid hd2; have HB2 := hid hb2; have HS2 := hid hs2; clear hd2 hb2 hs2; have hcell := (HB2.out.cell (p := ⟨b, off + j, none⟩) (by have := HBR.out.size; show b < wr.heap.size; omega)).trans HCELL.out))
     go_roundw
     case rel =>
      refine ⟨j + 1, by omega, by go_num, ?_, HBR.out.trans (HB2.out.mono HBR.out.size)⟩
      rw [HST.out]
      simp only [Option.getD_some, Bool.false_eq_true, if_false, List.append_nil]
      exact HLR.out.kept (fun k hk => HB2.out.block k (HLR.out.lt k hk).2)
     case measure => simp [intOf]; omega
    ·go_wp2_with (first
      | (refine wpList_load_mid rfl 96 (Operand.tmp 13) rfl g (j * 513) rfl (wrL x.1 x.2.1 x.2.2) _ HR0.out Tryz.underlying96 rfl (by rw [HI57.out, HWL.out]) ?_)
      | (refine wpList_store_new rfl 96 (Operand.tmp 7) (Operand.tmp 14) rfl wr.heap.size (wrL x.1 x.2.1 x.2.2).toArray rfl rfl rfl _ 96 (by rw [HI57.out, List.size_toArray, HWL.out]) (by rw [HZ.out, List.size_toArray, HWL.out]) (by rw [Array.all_eq_true_iff_forall_mem]; intro v hv; exact wrL_one _ _ _ v (by simpa using hv)) ?_; intro w2 hd2 hb2 hs2; have HD2 := hid hd2; have HB2 := hid hb2; have HS2 := hid hs2; clear hd2 hb2 hs2; have hcell := (HB2.out.cell (p := ⟨b, off + j, none⟩) (by have := HBR.out.size; show b < wr.heap.size; omega)).trans HCELL.out)
      | (refine wpList_load_row rfl 96 (Operand.tmp 7) rfl wr.heap.size rfl 96 (wrL x.1 x.2.1 x.2.2).toArray (0, 0) _ HD2.out Tryz.underlying96 rfl (by rw [HI57.out, List.size_toArray, HWL.out]) ?_)
      | (refine wpList_of_run rfl (exec_bslice 91 1 #[(0, Operand.tmp 26)] rfl #[(0, .agg (wrL x.1 x.2.1 x.2.2).toArray)] (by simp only [List.map_toArray, List.map_cons, List.map_nil]; rfl) _ (run_bslice_wr _ x.1 x.2.1 x.2.2 HXL.out.1 HXL.out.2)) ?_)
      | (refine wpList_append_wr rfl (Operand.tmp 25) (Operand.tmp 27) rfl w.heap.size _ _ rfl (HLR.out.kept (fun k hk => (Below.heap_alloc _ _ _ (by have := (HLR.out.lt k hk).2; have := HB2.out.size; omega)).trans (HB2.out.block k (HLR.out.lt k hk).2))) ⟨w2.heap.size, 0, none⟩ x HXL.out.1 HXL.out.2 rfl (fun i u hu => by
        rw [Addr.add_mid, Nat.zero_add, cell_of_row _ _ i _ _ _ (heap_alloc_new w2 _)]
        simpa using hu) (by have := survL_le (L.take j) ks; have := List.length_take_le j L; omega) (by have := HBR.out.size; have := HB2.out.size; simp; omega) ?_; intro v' w3 hlo3 hg3 hbl3; have HLO3 := hid hlo3; have HG3 := hid hg3; clear hlo3 hg3 hbl3))
     go_roundw
     case rel =>
      refine ⟨j + 1, by omega, by go_num, ?_, ?_⟩
      ·rw [HST.out]
       simp only [Option.getD_some, if_true]
       exact HLO3.out
      ·exact ((HBR.out.trans (HB2.out.mono HBR.out.size)).alloc (by have := HBR.out.size; have := HB2.out.size; omega) _).grown HG3.out (by have := HBR.out.size; have := HB2.out.size; simp; omega) (fun k hk => (HLR.out.lt k hk).1)
     case measure => simp [intOf]; omega
   ·have hjk2 : ks.length ≤ j := by omega
    have hkn : ks[j]? = none := List.getElem?_eq_none hjk2
    rw [hkn] at HST
    clear hkn
    go_wp2_with (first
     | (refine wpList_load_mid rfl 96 (Operand.tmp 13) rfl g (j * 513) rfl (wrL x.1 x.2.1 x.2.2) _ HR0.out Tryz.underlying96 rfl (by rw [HI57.out, HWL.out]) ?_)
     | (refine wpList_store_new rfl 96 (Operand.tmp 7) (Operand.tmp 14) rfl wr.heap.size (wrL x.1 x.2.1 x.2.2).toArray rfl rfl rfl _ 96 (by rw [HI57.out, List.size_toArray, HWL.out]) (by rw [HZ.out, List.size_toArray, HWL.out]) (by rw [Array.all_eq_true_iff_forall_mem]; intro v hv; exact wrL_one _ _ _ v (by simpa using hv)) ?_; intro w2 hd2 hb2 hs2; have HD2 := hid hd2; have HB2 := hid hb2; have HS2 := hid hs2; clear hd2 hb2 hs2))
    go_roundw
    case rel =>
     refine ⟨j + 1, by omega, by go_num, ?_, HBR.out.trans (HB2.out.mono HBR.out.size)⟩
     rw [HST.out]
     simp only [Option.getD_none, Bool.false_eq_true, if_false, List.append_nil]
     exact HLR.out.kept (fun k hk => HB2.out.block k (HLR.out.lt k hk).2)
    case measure => simp [intOf]; omega
  ·obtain rfl : j = L.length := by omega
   go_wp2_with fail
   go_ret
   exact ⟨_, rfl, by rw [List.take_length] at HLR; exact HLR.out, HBR.out⟩
end Go.Proofs.YtdkjkibdncbibaaGreat
