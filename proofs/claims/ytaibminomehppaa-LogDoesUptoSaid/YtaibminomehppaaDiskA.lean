import Derived.Test.YtaibminomehppaaDiskM1
import Derived.WalkKit
import Derived.ProofKit
import Derived.BigQuiet
import Derived.Deep.QuietTactic
import Derived.WalkSpells
import Derived.WalkLawsBesides
import Derived.Lib.Hide
import Derived.Deep.MidRow
import Derived.Deep.RegionLaw
import Derived.BigRegion
import Derived.Laws.AppendOwnNone
import Derived.Deep.DeepMust
import Derived.Deep.AppendLies
import Derived.RegionTactic
import Derived.Deep.WholeRow
import Derived.BigFrame
import Derived.Deep.RegionWith
import Derived.Deep.RegionHeld3
import Derived.Maps.RangeWalk
import Derived.Laws.CopyOwn
import Derived.StillTailTactics
namespace Go.Proofs.Ytaibminomehppaa
open Go.RowKit
def WOK (L : List WR) : Prop := ∀ x ∈ L, x.2.1.length = 256 ∧ x.2.2.length = 256
theorem flatL_drop : ∀ (i : Nat) (L : List WR), WOK L → (flatL L).drop (i * 513) = flatL (L.drop i)
  | 0, L, _ => by simp
  | i + 1, [], _ => by simp [flatL]
  | i + 1, x :: L, h => by
    have hx := wrL_len x.1 x.2.1 x.2.2 (h x List.mem_cons_self).1 (h x List.mem_cons_self).2
    have ih := flatL_drop i L (fun y hy => h y (List.mem_cons_of_mem _ hy))
    rw [List.drop_succ_cons, ← ih]
    show ((wrL x.1 x.2.1 x.2.2) ++ flatL L).drop _ = _
    rw [List.drop_append, hx, show (i + 1) * 513 - 513 = i * 513 by omega, List.drop_of_length_le (by rw [hx]; omega), List.nil_append]
theorem flatL_get (L : List WR) (h : WOK L) (i : Nat) (x : WR) (hx : L[i]? = some x) (j : Nat) (v : Value) (hv : (wrL x.1 x.2.1 x.2.2)[j]? = some v) : (flatL L)[i * 513 + j]? = some v := by
  have hi := (List.getElem?_eq_some_iff.1 hx).1
  have h1 := flatL_drop i L h
  have h2 : L.drop i = x :: L.drop (i + 1) := by
    rw [List.drop_eq_getElem_cons hi]
    congr 1
    exact (List.getElem?_eq_some_iff.1 hx).2
  have h3 : ((flatL L).drop (i * 513))[j]? = some v := by
    rw [h1, h2]
    show ((wrL x.1 x.2.1 x.2.2) ++ flatL (L.drop (i + 1)))[j]? = _
    rw [List.getElem?_append_left (List.getElem?_eq_some_iff.1 hv).1]
    exact hv
  rwa [List.getElem?_drop] at h3
theorem LooseIs.at {w : World} {B : Nat} {lv : Value} {L : List WR} (h : LooseIs w B lv L) (hw : WOK L) (hL : 0 < L.length) :
    ∃ g cap, lv = .slice (some ⟨g, 0, none⟩) L.length cap ∧ ∀ i x, L[i]? = some x → w.rangeAt g (i * 513) (wrL x.1 x.2.1 x.2.2) := by
  rcases h.2 with ⟨_, h0⟩ | ⟨g, cap, cur, rfl, _⟩
  · omega
  · refine ⟨g, cap, rfl, fun i x hx j v hv => ?_⟩
    have h1 := flatL_get L hw i x hx j v hv
    have h2 := h.cells (g := g) rfl (i * 513 + j) v h1
    rwa [Addr.add_mid, Nat.zero_add] at h2
def undoF (f : Int → List Int) (L : List WR) : Int → List Int := L.foldr (fun x g => fput g x.1 x.2.1) f
def undoK (kvs : List (Int × List Int)) (L : List WR) : List (Int × List Int) := L.foldr (fun x k => kput k x.1 x.2.1) kvs
theorem undoK_get (kvs : List (Int × List Int)) (f : Int → List Int) (h : ∀ n, kget kvs n = f n) : ∀ (L : List WR) (n : Int), kget (undoK kvs L) n = undoF f L n
  | [], n => h n
  | x :: L, n => by
    show kget (kput (undoK kvs L) x.1 x.2.1) n = fput (undoF f L) x.1 x.2.1 n
    rw [kget_kput, fput, undoK_get kvs f h L n]
theorem undoK_KN {kvs : List (Int × List Int)} (h : KN kvs) : ∀ (L : List WR), KN (undoK kvs L)
  | [] => h
  | x :: L => (undoK_KN h L).put x.1 x.2.1
theorem undoF_len {f : Int → List Int} (h : ∀ n, (f n).length = 256) : ∀ (L : List WR), WOK L → ∀ n, (undoF f L n).length = 256
  | [], _, n => h n
  | x :: L, hw, n => by
    show (fput (undoF f L) x.1 x.2.1 n).length = 256
    unfold fput; split
    · exact (hw x List.mem_cons_self).1
    · exact undoF_len h L (fun y hy => hw y (List.mem_cons_of_mem _ hy)) n
theorem zero57 (w : World) : (zeroValue 140).run Try.prog w = .ok (.agg (wrL 0 (zeros 256) (zeros 256)).toArray) w := by kernel_rfl
theorem exec_load_mid {P : Program} {ρ : Operand → Value} {op : Oper} {w : World} (ty : TypeId) (x : Operand) (ho : op.op = .load ty x) (b o : Nat) (hx : ρ x = .pointer (some ⟨b, o, none⟩)) (cs : List Value) (d : TypeDesc) (hc : w.rangeAt b o cs)
    (hu : P.underlying ty = some d) (hd : d.isRow = true) (hi : (P.info? ty).map (·.size) = some cs.length) : (execOp ρ op).run P w = .ok (.value (.agg cs.toArray)) w := by
  unfold execOp
  simp only [ho, hx, Instr.loadAt, Instr.sureAddr, Sem.run_bind, Sem.run_pure, Result.andThen_ok, run_loadVar_mid w b o ty cs d hc hu hd hi]
theorem range_of_row {w : World} {b : Nat} {c : List Value} {t : TypeId} (h : w.heap[b]? = some (.cells c.toArray t (0, 0))) (o : Nat) (cs : List Value) (hc : ∀ j v, cs[j]? = some v → c[o + j]? = some v) : w.rangeAt b o cs := fun j v hv => by
  rw [cell_of_row w b (o + j) _ _ _ h]
  simpa using hc j v hv
theorem wrL_before (n : Int) (a b : List Int) : ∀ (j : Nat) (v : Value), (a.map (Value.int .u8))[j]? = some v → (wrL n a b)[1 + j]? = some v := fun j v hv => by
  rw [wrL, Nat.add_comm, List.getElem?_cons_succ, List.getElem?_append_left (List.getElem?_eq_some_iff.1 hv).1]
  exact hv
theorem wrL_after (n : Int) (a b : List Int) (ha : a.length = 256) : ∀ (j : Nat) (v : Value), (b.map (Value.int .u8))[j]? = some v → (wrL n a b)[257 + j]? = some v := fun j v hv => by
  rw [wrL, show 257 + j = (256 + j) + 1 by omega, List.getElem?_cons_succ, List.getElem?_append_right (by simp [ha])]
  simpa [ha] using hv
set_option maxRecDepth 100000 in
set_option maxHeartbeats 1000000 in
theorem undo_any (B D M : Nat) (nb rm fz : Int) (dn : Bool) (f : Int → List Int) (L : List WR) (lv : Value) (w : World) (h : Dk w B D M nb rm fz dn f L lv) (hL : L.length ≤ 268435456) :
    Calls Try.prog 95 #[.pointer (some ⟨D, 0, none⟩)] w fun e w' => e = .returned (.tuple #[]) ∧ Dk w' B D M nb rm fz dn (undoF f L) L lv ∧ Chg (fun k => k = M) w w' := by
  have HDK := Lib.hid h
  obtain ⟨hd, ⟨kvs, hm, hkn, hkf⟩, hlo, hBD, hBM, hfz, hfl, hLl⟩ := h
  obtain ⟨sa, sc, hlv⟩ := hlo.shape
  subst hlv
  have c5 : w.cell? ⟨D, 5, none⟩ = some (.slice sa L.length sc) := hd.cell 5
  have HD := Lib.hid hd
  have HM := Lib.hid hm
  have HLO := Lib.hid hlo
  have HKF := Lib.hid hkf
  have HLL := Lib.hid hLl
  have HFL := Lib.hid hfl
  have hDlt := hd.lt
  have hMlt := hm.lt
  obtain ⟨Z, hZ, hz⟩ : ∃ Z : Array Value, Z.size = 513 ∧ ∀ u : World, (zeroValue 140).run Try.prog u = .ok (.agg Z) u := ⟨_, by rw [List.size_toArray]; exact wrL_len 0 (zeros 256) (zeros 256) (zeros_len _) (zeros_len _), zero57⟩
  have HZ := Lib.hid hZ
  clear hZ
  have HI57 := Lib.hid (show (Try.prog.info? 140).map (·.size) = some 513 by kernel_rfl)
  clear hd hm hlo hkf hLl hfl
  go_enter Try.func95, Try.ntmps95
  go_wp2_with fail
  go_loopw [2] (fun i wr => ∃ j : Nat, j ≤ L.length ∧ i = .int .i64 ((j : Int) - 1) ∧ Chg (fun k => k = M) w wr ∧ MapIs wr M (undoK kvs (L.drop j))) (fun i _ => (intOf i + 1).toNat)
  case atStart => exact ⟨L.length, Nat.le_refl _, by go_num, Chg.refl _ _, by rw [List.drop_length]; exact HM.out⟩
  case round =>
    obtain ⟨j, hj, rfl, hc, hmr⟩ := hrel
    have HC := Lib.hid hc
    have HMR := Lib.hid hmr
    clear hc hmr
    cases j with
    | zero =>
      have hdr : wr.cell? ⟨D, 5, none⟩ = some (.slice sa L.length sc) := (World.cell?_of_block (HC.out.block D hDlt HDK.out.apart.1)).trans c5
      clear c5
      go_wp2_with fail
      go_end0
      refine ⟨rfl, ⟨?_, ⟨_, HMR.out, undoK_KN hkn _, fun n => undoK_get kvs f HKF.out L n⟩, ?_, hBD, hBM, hfz, undoF_len HFL.out L HLL.out, HLL.out⟩, HC.out⟩
      · exact (HC.out.block D hDlt HDK.out.apart.1).trans HD.out
      · exact HLO.out.kept (fun k hk => HC.out.block k (HLO.out.lt k hk).2 (fun e => HDK.out.apart.2.2 (by rw [hk, e])))
    | succ j =>
      have hx : L[j]? = some (L[j]'(by omega)) := List.getElem?_eq_getElem (by omega)
      obtain ⟨g, cap, hlv, hrng⟩ := HLO.out.at HLL.out (by omega)
      injection hlv with e1 _ e2
      subst e1 e2
      generalize L[j]'(by omega) = x at hx
      have hxl := HLL.out x (List.mem_of_getElem? hx)
      have hgl := (HLO.out.lt g rfl).2
      have hr0 : wr.rangeAt g (j * 513) (wrL x.1 x.2.1 x.2.2) := fun k v hv => (World.cell?_of_block (HC.out.block g hgl (fun e => HDK.out.apart.2.2 (by rw [← e]; rfl)))).trans (hrng j x hx k v hv)
      have HR0 := Lib.hid hr0
      have HX := Lib.hid hx
      have hdr : wr.cell? ⟨D, 5, none⟩ = some (.slice (some ⟨g, 0, none⟩) L.length sc) := (World.cell?_of_block (HC.out.block D hDlt HDK.out.apart.1)).trans c5
      clear c5 hx hr0 hrng
      have hj0 : (0 : Int) ≤ ((j + 1 : Nat) : Int) - 1 := by omega
      have hj1 : ((j + 1 : Nat) : Int) - 1 < L.length := by omega
      have HWL := Lib.hid (wrL_len x.1 x.2.1 x.2.2 hxl.1 hxl.2)
      have HXL := Lib.hid hxl
      clear hxl
      go_wp2_with (first
        | (refine wpList_load_mid rfl 140 (Operand.tmp 19) rfl g (j * 513) rfl (wrL x.1 x.2.1 x.2.2) _ HR0.out Try.underlying140 rfl (by rw [HI57.out, HWL.out]) ?_)
        | (refine wpList_store_new rfl 140 (Operand.tmp 3) (Operand.tmp 20) rfl wr.heap.size (wrL x.1 x.2.1 x.2.2).toArray rfl rfl rfl _ 140 (by rw [HI57.out, List.size_toArray, HWL.out]) (by rw [HZ.out, List.size_toArray, HWL.out]) (by rw [Array.all_eq_true_iff_forall_mem]; intro v hv; exact wrL_one _ _ _ v (by simpa using hv)) ?_; intro w2 hd2 hb2 hs2; have HD2 := Lib.hid hd2; have HB2 := Lib.hid hb2; have HS2 := Lib.hid hs2; clear hd2 hb2 hs2))
      have hb0 : w2.cell? ⟨wr.heap.size, 0, none⟩ = some (.int .i64 x.1) := (cell_of_row w2 _ 0 _ _ _ HD2.out).trans rfl
      have hb1 : w2.rangeAt wr.heap.size 1 (x.2.1.map (Value.int .u8)) := range_of_row HD2.out 1 _ (wrL_before x.1 x.2.1 x.2.2)
      have hD2 : w2.cell? ⟨D, 4, none⟩ = some (.map (some M)) := by
        have := HC.out.size
        rw [HB2.out.cell (p := ⟨D, 4, none⟩) (show D < wr.heap.size by omega), World.cell?_of_block (HC.out.block D hDlt HDK.out.apart.1)]
        exact HD.out.cell 4
      have hM2 : MapIs w2 M (undoK kvs (L.drop (j + 1))) := HMR.out.of (HB2.out.block M HMR.out.lt)
      obtain ⟨w3, hrun, hm3, hg3, hs3⟩ := run_update_kv w2.drew M x.1 x.2.1 _ (hM2.of rfl)
      have hC3 : Chg (fun k => k = M) w w3 := (HC.out.trans (Chg.fresh (F := fun k => k = M) HB2.out) (fun i hi => .inl hi)).drew.trans (Chg.grown (F := fun k => k = M) hg3 (fun k hk => by injection hk with hk; exact hk.symm)) (fun i hi => .inl hi)
      have hML := hM2.lt
      have hb0' : w3.cell? ⟨wr.heap.size, 0, none⟩ = some (.int .i64 x.1) := (World.cell?_of_block (a := ⟨wr.heap.size, 0, none⟩) (hg3.block wr.heap.size (by show _ < w2.heap.size; rw [HS2.out]; omega) (by intro e; injection e with e; have := HMR.out.lt; omega))).trans hb0
      have hb1' : w3.rangeAt wr.heap.size 1 (x.2.1.map (Value.int .u8)) := fun k v hv => (World.cell?_of_block (a := ⟨wr.heap.size, 1 + k, none⟩) (hg3.block wr.heap.size (by show _ < w2.heap.size; rw [HS2.out]; omega) (by intro e; injection e with e; have := HMR.out.lt; omega))).trans (hb1 k v hv)
      have hD3 : w3.cell? ⟨D, 4, none⟩ = some (.map (some M)) := (World.cell?_of_block (hC3.block D hDlt HDK.out.apart.1)).trans (HD.out.cell 4)
      have H2 := Lib.hid (And.intro hD2 (And.intro hb0 hb1))
      have H3 := Lib.hid (And.intro hD3 (And.intro hb0' hb1'))
      have HRUN := Lib.hid hrun
      have HM3 := Lib.hid hm3
      have HC3 := Lib.hid hC3
      clear hb0 hb1 hD2 hM2 hrun hm3 hg3 hs3 hC3 hML hb0' hb1' hD3
      refine wp_region_held_drew (S := fun u => u.cell? ⟨D, 4, none⟩ = some (.map (some M)) ∧ u.cell? ⟨wr.heap.size, 0, none⟩ = some (.int .i64 x.1) ∧ u.rangeAt wr.heap.size 1 (x.2.1.map (Value.int .u8))) (by kernel_rfl) (H2.out) (fun hHeld => ?_)
      refine wpAnyH_take (i := 0) (oi := ({ dst := some 21, op := Op.move (Operand.tmp 0), type := 25, pos := "up.go:23", after := #[], guard := none } : Oper)) (v := ?_) rfl (by kernel_rfl) (by kernel_rfl) (by kernel_rfl) (fun _ _ _ h => h) (Or.inl ⟨by rfl, ?_⟩) (by assumption) ?_
      rotate_left 1
      · (intro u hSw; go_simp; try with_reducible rfl)
      try simp only [Act.put, List.setIfInBounds_toArray, List.set_cons_zero, List.set_cons_succ]
      refine wpAnyH_take (i := 1) (oi := ({ dst := some 22, op := Op.nilCheck (Operand.tmp 21), type := 0, pos := "up.go:23", after := #[{ on := 0, ground := Ground.data }], guard := none } : Oper)) (v := ?_) rfl (by kernel_rfl) (by kernel_rfl) (by kernel_rfl) (fun _ _ _ h => h) (Or.inl ⟨by rfl, ?_⟩) (by assumption) ?_
      rotate_left 1
      · (intro u hSw; go_simp; try with_reducible rfl)
      try simp only [Act.put, List.setIfInBounds_toArray, List.set_cons_zero, List.set_cons_succ]
      refine wpAnyH_take (i := 2) (oi := ({ dst := some 23, op := Op.fieldAddr 73 (Operand.tmp 22) 4, type := 0, pos := "up.go:23", after := #[{ on := 1, ground := Ground.data }], guard := none } : Oper)) (v := ?_) rfl (by kernel_rfl) (by kernel_rfl) (by kernel_rfl) (fun _ _ _ h => h) (Or.inl ⟨by rfl, ?_⟩) (by assumption) ?_
      rotate_left 1
      · (intro u hSw; go_simp; try with_reducible rfl)
      try simp only [Act.put, List.setIfInBounds_toArray, List.set_cons_zero, List.set_cons_succ]
      refine wpAnyH_take (i := 3) (oi := ({ dst := some 24, op := Op.load 70 (Operand.tmp 23), type := 70, pos := "up.go:23", after := #[{ on := 2, ground := Ground.data }], guard := none } : Oper)) (v := ?_) rfl (by kernel_rfl) (by kernel_rfl) (by kernel_rfl) (fun _ _ _ h => h) (Or.inl ⟨by rfl, ?_⟩) (by assumption) ?_
      rotate_left 1
      · intro u hSw
        have h4 := hSw.1
        go_simp
        try with_reducible rfl
      try simp only [Act.put, List.setIfInBounds_toArray, List.set_cons_zero, List.set_cons_succ]
      refine wpAnyH_take (i := 4) (oi := ({ dst := some 25, op := Op.fieldAddr 140 (Operand.tmp 3) 0, type := 0, pos := "up.go:23", after := #[], guard := none } : Oper)) (v := ?_) rfl (by kernel_rfl) (by kernel_rfl) (by kernel_rfl) (fun _ _ _ h => h) (Or.inl ⟨by rfl, ?_⟩) (by assumption) ?_
      rotate_left 1
      · (intro u hSw; go_simp; try with_reducible rfl)
      try simp only [Act.put, List.setIfInBounds_toArray, List.set_cons_zero, List.set_cons_succ]
      refine wpAnyH_take (i := 5) (oi := ({ dst := some 26, op := Op.load 3 (Operand.tmp 25), type := 3, pos := "up.go:23", after := #[{ on := 4, ground := Ground.data }], guard := none } : Oper)) (v := ?_) rfl (by kernel_rfl) (by kernel_rfl) (by kernel_rfl) (fun _ _ _ h => h) (Or.inl ⟨by rfl, ?_⟩) (by assumption) ?_
      rotate_left 1
      · intro u hSw
        have h4 := hSw.2.1
        go_simp
        try with_reducible rfl
      try simp only [Act.put, List.setIfInBounds_toArray, List.set_cons_zero, List.set_cons_succ]
      refine wpAnyH_take (i := 6) (oi := ({ dst := some 27, op := Op.fieldAddr 140 (Operand.tmp 3) 1, type := 0, pos := "up.go:23", after := #[], guard := none } : Oper)) (v := ?_) rfl (by kernel_rfl) (by kernel_rfl) (by kernel_rfl) (fun _ _ _ h => h) (Or.inl ⟨by rfl, ?_⟩) (by assumption) ?_
      rotate_left 1
      · (intro u hSw; go_simp; try with_reducible rfl)
      try simp only [Act.put, List.setIfInBounds_toArray, List.set_cons_zero, List.set_cons_succ]
      refine wpAnyH_take (i := 7) (oi := ({ dst := some 28, op := Op.load 52 (Operand.tmp 27), type := 52, pos := "up.go:23", after := #[{ on := 6, ground := Ground.data }], guard := none } : Oper)) (v := ?_) rfl (by kernel_rfl) (by kernel_rfl) (by kernel_rfl) (fun _ _ _ h => h) (Or.inl ⟨by rfl, ?_⟩) (by assumption) ?_
      rotate_left 1
      · intro u hSw
        refine exec_load_mid 52 (Operand.tmp 27) ?_ wr.heap.size 1 ?_ (x.2.1.map (Value.int .u8)) _ hSw.2.2 Try.underlying52 rfl (by rw [List.length_map, HXL.out.1]; kernel_rfl) <;> rfl
      try simp only [Act.put, List.setIfInBounds_toArray, List.set_cons_zero, List.set_cons_succ]
      refine wpAnyH_ready (rs := [8]) (by kernel_rfl) (by simp) ?_
      refine AllReadyH.cons (o := ({ dst := none, op := Op.mapUpdate 70 (Operand.tmp 24) (Operand.tmp 26) (Operand.tmp 28), type := 0, pos := "up.go:23", after := #[{ on := 3, ground := Ground.data }, { on := 5, ground := Ground.data }, { on := 7, ground := Ground.data }, { on := 0, ground := Ground.phase }, { on := 1, ground := Ground.phase }, { on := 2, ground := Ground.phase }, { on := 3, ground := Ground.phase }, { on := 4, ground := Ground.phase }, { on := 5, ground := Ground.phase }, { on := 6, ground := Ground.phase }, { on := 7, ground := Ground.phase }], guard := none } : Oper)) rfl (fun K hK => ?_) AllReadyH.nil
      refine step_of_skip ?_ (exec_update (Operand.tmp 24) (Operand.tmp 26) (Operand.tmp 28) ?_ _ _ _ ?_ ?_ ?_ HRUN.out) ?_
      rfl
      rfl
      rfl
      rfl
      rfl
      refine hK.out _ _ H3.out (fun hHeld => ?_)
      clear hK K
      try simp only [Act.put]
      refine wpAnyH_done (by kernel_rfl) ?_ _
      go_wp2_with fail
      go_roundw
      case rel =>
        refine ⟨j, by omega, by go_num, HC3.out, ?_⟩
        have e : L.drop j = x :: L.drop (j + 1) := by
          have hlt := (List.getElem?_eq_some_iff.1 HX.out).1
          rw [List.drop_eq_getElem_cons hlt]
          congr 1
          exact (List.getElem?_eq_some_iff.1 HX.out).2
        rw [e]
        exact HM3.out
      case measure => simp [intOf]
end Go.Proofs.Ytaibminomehppaa
