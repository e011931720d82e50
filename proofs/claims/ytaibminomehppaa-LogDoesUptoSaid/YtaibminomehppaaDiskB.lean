import Derived.Test.YtaibminomehppaaDiskA
import Derived.WalkKit
import Derived.ProofKit
import Derived.BigQuiet
import Derived.Deep.QuietTactic
import Derived.WalkSpells
import Derived.WalkLawsBesides
import Derived.Lib.Hide
import Derived.Deep.MidRow
import Derived.Deep.RegionLaw
import Derived.BigRegion
import Derived.Laws.AppendOwnNone
import Derived.Deep.DeepMust
import Derived.Deep.AppendLies
import Derived.RegionTactic
import Derived.Deep.WholeRow
import Derived.BigFrame
import Derived.Deep.RegionWith
import Derived.Deep.RegionHeld3
import Derived.Maps.RangeWalk
import Derived.Laws.CopyOwn
import Derived.StillTailTactics
namespace Go.Proofs.Ytaibminomehppaa
open Go.RowKit
theorem wpList_of_run {P : Program} {ops : Array Oper} {rest : List Oper} {o : Oper} {a : Act} {w w' : World} {v : Value} {Q : Exit → Act → World → Prop} (hg : o.guard = none) (hr : (execOp a.eval o).run P w = .ok (.value v) w') (h : wpList P ops Q rest (a.put o.dst v) w') : wpList P ops Q (o :: rest) a w :=
  wpList_plain hg fun K hK => by
    unfold Oper.wp
    simp [hr]
    exact hK _ _ h
theorem wpList_append_wr {ops : Array Oper} {rest : List Oper} {o : Oper} {a : Act} {w : World} {Q : Exit → Act → World → Prop}
    (hg : o.guard = none) (s x : Operand) (hop : o.op = Op.call { callee := Callee.builtin Builtin.append, args := #[s, x], argTypes := #[71, 71] }) (B : Nat)
    (v : Value) (L : List WR) (hs : a.eval s = v) (hown : LooseIs w B v L) (ad : Addr) (y : WR) (hy1 : y.2.1.length = 256) (hy2 : y.2.2.length = 256) (hx : a.eval x = .slice (some ad) 1 1)
    (hc : ∀ j u, (wrL y.1 y.2.1 y.2.2)[j]? = some u → w.cell? (ad.add j) = some u) (hL : L.length ≤ 268435456) (hbase : B ≤ w.heap.size)
    (hK : ∀ v' w', LooseIs w' B v' (L ++ [y]) → w.grownBy w' v.ownBlock → (v'.ownBlock = v.ownBlock ∨ ∃ k, v'.ownBlock = some k ∧ w.heap.size ≤ k) → wpList Try.prog ops Q rest (a.put o.dst v') w') : wpList Try.prog ops Q (o :: rest) a w :=
  wpList_plain hg fun K hKK => by
    obtain ⟨v', w', hrun, r1, r2, r3⟩ := run_append_wr w o.type B v L hown ad y hy1 hy2 hc hL hbase
    unfold Oper.wp
    simp [execOp, hop, resolve, invoke, builtin, hs, hx, hrun, Result.andThen]
    exact hKK _ _ (hK v' w' r1 r2 r3)
def Bools (w : World) (v : Value) (ks : List Bool) : Prop := ∃ a cap, v = .slice a ks.length cap ∧ (0 < ks.length → ∃ b off, a = some ⟨b, off, none⟩ ∧ b < w.heap.size ∧ ∀ i, i < ks.length → w.cell? ⟨b, off + i, none⟩ = some (.bool (ks[i]?.getD false)))
theorem Bools.below {w w' : World} {v : Value} {ks : List Bool} (h : Bools w v ks) (hb : Below w.heap.size w w') : Bools w' v ks := by
  obtain ⟨a, cap, h1, h2⟩ := h
  refine ⟨a, cap, h1, fun h0 => ?_⟩
  obtain ⟨b, off, h3, h4, h5⟩ := h2 h0
  exact ⟨b, off, h3, Nat.lt_of_lt_of_le h4 hb.size, fun i hi => (hb.cell (p := ⟨b, off + i, none⟩) h4).trans (h5 i hi)⟩
def survL : List WR → List Bool → List WR
  | [], _ => []
  | _ :: _, [] => []
  | x :: L, b :: ks => if b then x :: survL L ks else survL L ks
theorem survL_nil (L : List WR) : survL L [] = [] := by cases L <;> rfl
theorem survL_snoc (x : WR) : ∀ (L : List WR) (ks : List Bool), survL (L ++ [x]) ks = survL L ks ++ (if (ks[L.length]?).getD false = true then [x] else [])
  | [], [] => rfl
  | [], b :: ks => by cases b <;> simp [survL]
  | y :: L, [] => by simp [survL]
  | y :: L, b :: ks => by
    have ih := survL_snoc x L ks
    simp only [List.cons_append, survL, List.length_cons, List.getElem?_cons_succ]
    cases b <;> simp [ih]
theorem survL_le : ∀ (L : List WR) (ks : List Bool), (survL L ks).length ≤ L.length
  | [], _ => by simp [survL]
  | _ :: _, [] => by simp [survL]
  | x :: L, b :: ks => by have := survL_le L ks; cases b <;> simp [survL] <;> omega
theorem survL_mem (x : WR) : ∀ (L : List WR) (ks : List Bool), x ∈ survL L ks → x ∈ L
  | [], _, h => by simp [survL] at h
  | _ :: _, [], h => by simp [survL] at h
  | y :: L, b :: ks, h => by
    cases b
    · exact List.mem_cons_of_mem _ (survL_mem x L ks h)
    · rcases List.mem_cons.1 h with rfl | h
      · exact List.mem_cons_self
      · exact List.mem_cons_of_mem _ (survL_mem x L ks h)
theorem take_snoc (L : List WR) (j : Nat) (x : WR) (h : L[j]? = some x) : L.take (j + 1) = L.take j ++ [x] := by
  have hlt := (List.getElem?_eq_some_iff.1 h).1
  rw [List.take_succ_eq_append_getElem hlt, (List.getElem?_eq_some_iff.1 h).2]
theorem surv_step (L : List WR) (ks : List Bool) (j : Nat) (x : WR) (h : L[j]? = some x) : survL (L.take (j + 1)) ks = survL (L.take j) ks ++ (if (ks[j]?).getD false = true then [x] else []) := by
  have hlt := (List.getElem?_eq_some_iff.1 h).1
  rw [take_snoc L j x h, survL_snoc]
  congr 3
  rw [List.length_take, Nat.min_eq_left (by omega)]
set_option maxRecDepth 100000 in
set_option maxHeartbeats 1000000 in
theorem survivors_any (B : Nat) (lv kv : Value) (L : List WR) (ks : List Bool) (w : World) (hlo : LooseIs w B lv L) (hw : WOK L) (hk : Bools w kv ks) (hL : L.length ≤ 268435456) (hkl : ks.length ≤ 140737488355328) :
    Calls Try.prog 96 #[lv, kv] w fun e w' => ∃ v, e = .returned v ∧ LooseIs w' w.heap.size v (survL L ks) ∧ Below w.heap.size w w' := by
  have HLO := Lib.hid hlo
  have HW := Lib.hid hw
  have HKB := Lib.hid hk
  obtain ⟨sa, sc, hlv⟩ := hlo.shape
  subst hlv
  obtain ⟨ka, kc, hkv, hkc⟩ := hk
  subst hkv
  have HKC := Lib.hid hkc
  have hz0 := zero57
  obtain ⟨Z, hZ, hz⟩ : ∃ Z : Array Value, Z.size = 513 ∧ ∀ u : World, (zeroValue 140).run Try.prog u = .ok (.agg Z) u := ⟨_, by rw [List.size_toArray]; exact wrL_len 0 (zeros 256) (zeros 256) (zeros_len _) (zeros_len _), zero57⟩
  have HZ := Lib.hid hZ
  have HI57 := Lib.hid (show (Try.prog.info? 140).map (·.size) = some 513 by kernel_rfl)
  clear hZ hz0 hlo hw hkc
  go_enter Try.func96, Try.ntmps96
  go_wp2_with fail
  go_loopw [5, 10] (fun v i wr => ∃ j : Nat, j ≤ L.length ∧ i = .int .i64 (j : Int) ∧ LooseIs wr w.heap.size v (survL (L.take j) ks) ∧ Below w.heap.size w wr) (fun _ i _ => L.length - (intOf i).toNat)
  case atStart => exact ⟨0, Nat.zero_le _, rfl, by rw [List.take_zero]; exact World.ownsRow_nil _ _ _ _, Below.refl _ _⟩
  case round =>
    obtain ⟨j, hj, rfl, hlr, hbr⟩ := hrel
    have HLR := Lib.hid hlr
    have HBR := Lib.hid hbr
    clear hlr hbr
    by_cases hjl : j < L.length
    · have hx : L[j]? = some (L[j]'hjl) := List.getElem?_eq_getElem hjl
      obtain ⟨g, cap, hlv, hrng⟩ := HLO.out.at HW.out (by omega)
      injection hlv with e1 _ e2
      subst e1 e2
      generalize L[j]'hjl = x at hx
      have hxl := HW.out x (List.mem_of_getElem? hx)
      have hgl := (HLO.out.lt g rfl).2
      have HR0 := Lib.hid (show wr.rangeAt g (j * 513) (wrL x.1 x.2.1 x.2.2) from fun k v hv => (HBR.out.cell (p := ⟨g, j * 513 + k, none⟩) hgl).trans (hrng j x hx k v hv))
      have HX := Lib.hid hx
      have HWL := Lib.hid (wrL_len x.1 x.2.1 x.2.2 hxl.1 hxl.2)
      have HXL := Lib.hid hxl
      have HST := Lib.hid (surv_step L ks j x hx)
      clear hx hrng hxl
      by_cases hjk : j < ks.length
      · obtain ⟨b, off, rfl, hblt, hkc⟩ := HKC.out (by omega)
        have hcell := (HBR.out.cell (p := ⟨b, off + j, none⟩) hblt).trans (hkc j hjk)
        have hkj : ks[j]? = some (ks[j]'hjk) := List.getElem?_eq_getElem hjk
        rw [hkj] at HST hcell
        generalize ks[j]'hjk = kb at hcell HST
        have HCELL := Lib.hid hcell
        clear hkc hkj hcell
        cases kb
        · go_wp2_with (first
            | (refine wpList_load_mid rfl 140 (Operand.tmp 13) rfl g (j * 513) rfl (wrL x.1 x.2.1 x.2.2) _ HR0.out Try.underlying140 rfl (by rw [HI57.out, HWL.out]) ?_)
            | (refine wpList_store_new rfl 140 (Operand.tmp 7) (Operand.tmp 14) rfl wr.heap.size (wrL x.1 x.2.1 x.2.2).toArray rfl rfl rfl _ 140 (by rw [HI57.out, List.size_toArray, HWL.out]) (by rw [HZ.out, List.size_toArray, HWL.out]) (by rw [Array.all_eq_true_iff_forall_mem]; intro v hv; exact wrL_one _ _ _ v (by simpa using hv)) ?_; intro w2 hd2 hb2 hs2; have HD2 := Lib.hid hd2; have HB2 := Lib.hid hb2; have HS2 := Lib.hid hs2; clear hd2 hb2 hs2; have hcell := (HB2.out.cell (p := ⟨b, off + j, none⟩) (by have := HBR.out.size; show b < wr.heap.size; omega)).trans HCELL.out))
          go_roundw
          case rel =>
            refine ⟨j + 1, by omega, by go_num, ?_, HBR.out.trans (HB2.out.mono HBR.out.size)⟩
            rw [HST.out]
            simp only [Option.getD_some, Bool.false_eq_true, if_false, List.append_nil]
            exact HLR.out.kept (fun k hk => HB2.out.block k (HLR.out.lt k hk).2)
          case measure => simp [intOf]; omega
        · go_wp2_with (first
            | (refine wpList_load_mid rfl 140 (Operand.tmp 13) rfl g (j * 513) rfl (wrL x.1 x.2.1 x.2.2) _ HR0.out Try.underlying140 rfl (by rw [HI57.out, HWL.out]) ?_)
            | (refine wpList_store_new rfl 140 (Operand.tmp 7) (Operand.tmp 14) rfl wr.heap.size (wrL x.1 x.2.1 x.2.2).toArray rfl rfl rfl _ 140 (by rw [HI57.out, List.size_toArray, HWL.out]) (by rw [HZ.out, List.size_toArray, HWL.out]) (by rw [Array.all_eq_true_iff_forall_mem]; intro v hv; exact wrL_one _ _ _ v (by simpa using hv)) ?_; intro w2 hd2 hb2 hs2; have HD2 := Lib.hid hd2; have HB2 := Lib.hid hb2; have HS2 := Lib.hid hs2; clear hd2 hb2 hs2; have hcell := (HB2.out.cell (p := ⟨b, off + j, none⟩) (by have := HBR.out.size; show b < wr.heap.size; omega)).trans HCELL.out)
            | (refine wpList_load_row rfl 140 (Operand.tmp 7) rfl wr.heap.size rfl 140 (wrL x.1 x.2.1 x.2.2).toArray (0, 0) _ HD2.out Try.underlying140 rfl (by rw [HI57.out, List.size_toArray, HWL.out]) ?_)
            | (refine wpList_of_run rfl (exec_bslice 71 1 #[(0, Operand.tmp 26)] rfl #[(0, .agg (wrL x.1 x.2.1 x.2.2).toArray)] (by simp only [List.map_toArray, List.map_cons, List.map_nil]; rfl) _ (run_bslice_wr _ x.1 x.2.1 x.2.2 HXL.out.1 HXL.out.2)) ?_)
            | (refine wpList_append_wr rfl (Operand.tmp 25) (Operand.tmp 27) rfl w.heap.size _ _ rfl (HLR.out.kept (fun k hk => (Below.heap_alloc _ _ _ (by have := (HLR.out.lt k hk).2; have := HB2.out.size; omega)).trans (HB2.out.block k (HLR.out.lt k hk).2))) ⟨w2.heap.size, 0, none⟩ x HXL.out.1 HXL.out.2 rfl (fun i u hu => by
                rw [Addr.add_mid, Nat.zero_add, cell_of_row _ _ i _ _ _ (heap_alloc_new w2 _)]
                simpa using hu) (by have := survL_le (L.take j) ks; have := List.length_take_le j L; omega) (by have := HBR.out.size; have := HB2.out.size; simp; omega) ?_; intro v' w3 hlo3 hg3 hbl3; have HLO3 := Lib.hid hlo3; have HG3 := Lib.hid hg3; clear hlo3 hg3 hbl3))
          go_roundw
          case rel =>
            refine ⟨j + 1, by omega, by go_num, ?_, ?_⟩
            · rw [HST.out]
              simp only [Option.getD_some, if_true]
              exact HLO3.out
            · exact ((HBR.out.trans (HB2.out.mono HBR.out.size)).alloc (by have := HBR.out.size; have := HB2.out.size; omega) _).grown HG3.out (by have := HBR.out.size; have := HB2.out.size; simp; omega) (fun k hk => (HLR.out.lt k hk).1)
          case measure => simp [intOf]; omega
      · have hjk2 : ks.length ≤ j := by omega
        have hkn : ks[j]? = none := List.getElem?_eq_none hjk2
        rw [hkn] at HST
        clear hkn
        go_wp2_with (first
          | (refine wpList_load_mid rfl 140 (Operand.tmp 13) rfl g (j * 513) rfl (wrL x.1 x.2.1 x.2.2) _ HR0.out Try.underlying140 rfl (by rw [HI57.out, HWL.out]) ?_)
          | (refine wpList_store_new rfl 140 (Operand.tmp 7) (Operand.tmp 14) rfl wr.heap.size (wrL x.1 x.2.1 x.2.2).toArray rfl rfl rfl _ 140 (by rw [HI57.out, List.size_toArray, HWL.out]) (by rw [HZ.out, List.size_toArray, HWL.out]) (by rw [Array.all_eq_true_iff_forall_mem]; intro v hv; exact wrL_one _ _ _ v (by simpa using hv)) ?_; intro w2 hd2 hb2 hs2; have HD2 := Lib.hid hd2; have HB2 := Lib.hid hb2; have HS2 := Lib.hid hs2; clear hd2 hb2 hs2))
        go_roundw
        case rel =>
          refine ⟨j + 1, by omega, by go_num, ?_, HBR.out.trans (HB2.out.mono HBR.out.size)⟩
          rw [HST.out]
          simp only [Option.getD_none, Bool.false_eq_true, if_false, List.append_nil]
          exact HLR.out.kept (fun k hk => HB2.out.block k (HLR.out.lt k hk).2)
        case measure => simp [intOf]; omega
    · obtain rfl : j = L.length := by omega
      go_wp2_with fail
      go_ret
      exact ⟨_, rfl, by rw [List.take_length] at HLR; exact HLR.out, HBR.out⟩
end Go.Proofs.Ytaibminomehppaa
