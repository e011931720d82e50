import Derived.Test.YtkajpcjmcpollaaDoorCodeK
import Derived.Test.YtkajpcjmcpollaaDoorJoRf1
import Derived.WalkKit
import Derived.ProofKit
import Derived.BigQuiet
import Derived.Deep.QuietTactic
import Derived.WalkSpells
import Derived.WalkLawsBesides
import Derived.Lib.Hide
import Derived.Deep.MidRow
import Derived.Deep.RegionLaw
import Derived.BigRegion
import Derived.Lib.SlBytesConst
import Derived.Laws.AppendOwnNone
import Derived.Deep.DeepMust
import Derived.Deep.AppendLies
import Derived.RegionTactic
import Derived.Deep.WholeRow
import Derived.BigFrame
import Derived.Deep.RegionWith
import Derived.Deep.RegionHeld3
import Derived.Maps.RangeWalk
import Derived.Laws.CopyOwn
import Derived.StillTailTactics
namespace Go.Proofs.YtkajpcjmcpollaaDoor
open Go.RowKit
attribute [local go_sem ↓] convC_eq
theorem step_append_Own {ops : Array Oper} {o : Oper} {a : Act} {w : World} {K : Act → World → Prop} {Q : Exit → Act → World → Prop} {E : Prop}
    (hg : o.guard = none) (s x : Operand) (hop : o.op = Op.call { callee := Callee.builtin Builtin.append, args := #[s, x], argTypes := #[25, 25] }) (B : Nat)
    (v : Value) (l : List Int) (hs : a.eval s = v) (hown : Own w B v l) (v2 : Value) (m : List Int) (hx : a.eval x = v2) (hbs : Bs w v2 m) (h63 : l.length + m.length ≤ 1099511627776) (hbase : B ≤ w.heap.size)
    (hK : ∀ v' w', Own w' B v' (l ++ m) → Below B w w' → K (a.put o.dst v') w') :
    if Region.wanted o (yielded ops a.tmps) = true then Oper.wp Tryd.prog o a w K Q else E := by
  obtain ⟨i0, hi, hz0, hz1, hz2⟩ := info_parts info5
  have hw : Region.wanted o (yielded ops a.tmps) = true := by simp [Region.wanted, hg]
  rw [if_pos hw]
  obtain ⟨v', w', hrun, r1, r2⟩ := run_append_bs (P := Tryd.prog) (w := w) 25 o.type 5 B i0 Tryd.underlying25 hi hz0 hz1 hz2 v l.length _ hown v2 m hbs h63 hbase
  unfold Oper.wp
  simp [execOp, hop, resolve, invoke, builtin, hs, hx, hrun, Result.andThen]
  refine hK v' w' ?_ ?_
  · unfold Own; rw [List.length_append, List.map_append]; exact r1
  · exact (Below.refl _ _).grown r2 hbase (fun g hg => (hown.lt g hg).1)
set_option maxRecDepth 100000 in
set_option maxHeartbeats 3200000 in
theorem rseal_any (v : Value) (l : List Int) (w : World) (hv : Bs w v l) (hl : l.length ≤ 1048576) :
    Calls Tryd.prog 22 #[v] w fun e w' => ∃ v', e = .returned v' ∧ Own w' w.heap.size v' (sealed l) ∧ Below w.heap.size w w' := by
  have HV := Lib.hid hv
  obtain ⟨a, cap, rfl, hcap, hcells⟩ := hv
  clear hcells
  go_enter Tryd.func22, Tryd.ntmps22
  go_wp2_with fail
  refine (refOf_any _ [l] _ (Pss.one rfl HV.out) (by simp [jlen]; omega)).mono ?_
  rintro e w1 ⟨rfl, hb1⟩
  have HB1 := Lib.hid (((Below.refl w.heap.size w).alloc (Nat.le_refl _) _).trans (hb1.mono (by simp)))
  change Hid (Below w.heap.size w w1) at HB1
  clear hb1
  rw [show sha (joined [l]) = shaOf l from rfl]
  have HS32 := Lib.hid (show (ArrU8 (shaOf l)).size = 32 by simp [ArrU8, shaOf_len])
  have HI25 := Lib.hid (show (Tryd.prog.info? 54).map (·.size) = some (ArrU8 (shaOf l)).size by rw [HS32.out]; kernel_rfl)
  go_wp2_with (refine wpList_store_new rfl 54 (Operand.tmp 3) (Operand.tmp 6) rfl w1.heap.size (ArrU8 (shaOf l)) rfl rfl rfl _ 54 HI25.out HS32.out.symm (ArrU8_one _) ?_; intro w2 hd2 hb2 hs2; have HD2 := Lib.hid hd2; have HB2 := Lib.hid (HB1.out.trans (hb2.mono HB1.out.size)); have hs2' := HB2.out.size; have HW1 := Lib.hid hs2; clear hd2 hb2 hs2)
  have hs12 : w1.heap.size < w2.heap.size := by rw [HW1.out]; omega
  have hm : IntKind.u64.wrap (l.length : Int) = ((l.length : Nat) : Int) := by rw [IntKind.wrap_u64]; omega
  have HS2 := Lib.hid (show Below w2.heap.size w2 w2.drew from (Below.refl _ _).drew)
  have HV2 := Lib.hid (HV.out.below (HB2.out.mono (Nat.le_refl _)))
  have HN3 := Lib.hid (number3_any l.length w2.drew (by omega))
  have h8 := Lib.hid (dg_len 8 l.length)
  go_region_held3 (fun u => Below w2.heap.size w2 u)
    (first | with_reducible exact HS2.out | with_reducible exact HS3.out | with_reducible exact HS4.out | with_reducible exact HS5.out)
    (first
    | (go_at_call 26; (with_reducible refine HN3.out.mono ?_); rintro e w3 ⟨v3, rfl, hown3, hb3⟩; have O3 := Lib.hid hown3; have HS3 := Lib.hid (HS2.out.trans hb3); have s3 := HS3.out.size; clear hown3 hb3)
    | (refine step_append_Own (by rfl) (Operand.tmp 10) (Operand.tmp 11) (by rfl) w2.heap.size v3 (dg 8 l.length) (by rfl) O3.out (.slice a l.length cap) l (by rfl) (HV2.out.below HS3.out) (by rw [h8.out]; omega) s3 ?_; intro v4 w4 hown4 hb4; have O4 := Lib.hid hown4; have HS4 := Lib.hid (HS3.out.trans hb4); have s4 := HS4.out.size; have HD4 := Lib.hid (Bs_of_block 32 (shaOf_len l) ((HS4.out.block w1.heap.size hs12).trans HD2.out)); clear hown4 hb4)
    | (refine step_append_Own (by rfl) (Operand.tmp 12) (Operand.tmp 13) (by rfl) w2.heap.size v4 _ (by rfl) O4.out (.slice (some ⟨w1.heap.size, 0, none⟩) 32 32) (shaOf l) (by rfl) HD4.out (by rw [List.length_append, h8.out, shaOf_len]; omega) s4 ?_; intro v5 w5 hown5 hb5; have O5 := Lib.hid hown5; have HS5 := Lib.hid (HS4.out.trans hb5); clear hown5 hb5))
  go_wp2_with fail
  go_ret
  exact ⟨_, rfl, O5.out.base hs2', HB2.out.trans (HS5.out.mono hs2')⟩
end Go.Proofs.YtkajpcjmcpollaaDoor
