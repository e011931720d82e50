/- what was committed of a page -/
import Derived.Test.YtdkjkibdncbibaaGreatCm13
import Derived.DeepKeys
namespace Go.Proofs.YtdkjkibdncbibaaGreat
open Go.RowKit
open Go.Lib (hid)
theorem Chg.row (w : World) (X : Nat) (cs : Array Value) : Chg (fun g => g = X) w (w.setRow X cs) :=
 ⟨rfl, rfl, rfl, by simp [World.setRow], fun g _ hne => setRow_other _ _ _ _ hne⟩
/-- a block that is this call's own, written behind a call -/
theorem PE.own {k : PK} {v v1 : PV} {w0 w w1 : World} (hb : Below w0.heap.size w0 w) (hp : PgS k v w0) (h : PE k v w v1 w1) (X : Nat) (h1 : w0.heap.size ≤ X) (h2 : X < w.heap.size) (cs : Array Value) : PE k v w0 v1 (w1.setRow X cs) := by
 have hpre := PE.pre hb h
 refine ⟨h.1.chg (Chg.row w1 X cs) (fun g hg e => ?_), hpre.2.1.trans (Chg.row w1 X cs) (fun g hg => .inr (by omega)), hpre.2.2⟩
 rcases h.2.2 g hg with h3 | h3
 ·have := (hp.lt g h3).2; omega
 ·omega
def cmR (k : PK) (v : PV) (n : Int) : List Int × Int := match gl v.ca n with
 | some b => (b, 0)
 | none => if v.s.dn then (zeros 256, 44) else (sto k v n, 0)
def cmV (k : PK) (v : PV) (n : Int) : List (Int × List Int) × List Int := match gl v.ca n with
 | some _ => (v.ca, v.od)
 | none => if v.s.dn then (v.ca, v.od) else keepP k.most v.ca v.od n (sto k v n)
def CmEnds (k : PK) (v : PV) (n : Int) (w : World) (e : Ending) (w' : World) : Prop :=
 e = .returned (.tuple #[.agg (ArrU8 (cmR k v n).1), .int .i64 (cmR k v n).2]) ∧ ∃ ov', PE k v w { v with ov := ov', ca := (cmV k v n).1, od := (cmV k v n).2 } w'
theorem cmR_len {k : PK} {v : PV} {w : World} (h : PgS k v w) (hi : PIn k v) (n : Int) : (cmR k v n).1.length = 256 := by
 unfold cmR
 cases hg : gl v.ca n with
 | some b => exact hi.cal n b hg
 | none =>
  simp only
  split
  ·exact zeros_len _
  ·exact sto_len h n
set_option maxRecDepth 100000 in
set_option maxHeartbeats 2000000 in
theorem committed_any (k : PK) (v : PV) (n : Int) (w : World) (h : PgS k v w) (hi : PIn k v) (hn : 0 ≤ n ∧ n < k.nb - k.sz) :
    Calls Tryz.prog 81 #[.pointer (some ⟨k.P, 0, none⟩), .int .i64 n] w (CmEnds k v n w) := by
  have hz := zero35
  have HI35 := hid (show (Tryz.prog.info? 50).map (·.size) = some 256 by kernel_rfl)
  have SZ := hid (show (ArrU8 (zeros 256)).size = 256 by rw [ArrU8_size, zeros_len])
  have hb1 : Below w.heap.size w (w.alloc (.cells (ArrU8 (zeros 256)) 50)) := (Below.refl _ _).alloc (Nat.le_refl _) _
  have h1 := h.fresh hb1
  have p6 := (cell_of_row _ k.P 6 _ _ _ h1.box).trans (PC_lo 6 (by decide))
  have hlk := run_look_g (P := Tryz.prog) (mT := 76) (kT := 3) (eT := 50) (enc := blkV) Tryz.underlying76 Tryz.underlying3 (zeros 256) (fun u => zero35 u) n h1.ca
  have hx0 : ((w.alloc (.cells (ArrU8 (zeros 256)) 50)).alloc (.cells (ArrU8 (zeros 256)) 50)).heap[w.heap.size]? = some (.cells (ArrU8 (zeros 256)) 50 (0, 0)) := (heap_alloc_old _ _ (by simp)).trans (heap_alloc_new _ _)
  have hx1 : ((w.alloc (.cells (ArrU8 (zeros 256)) 50)).alloc (.cells (ArrU8 (zeros 256)) 50)).heap[w.heap.size + 1]? = some (.cells (ArrU8 (zeros 256)) 50 (0, 0)) := by
    have := heap_alloc_new (w.alloc (.cells (ArrU8 (zeros 256)) 50)) (.cells (ArrU8 (zeros 256)) 50)
    rwa [World.size_alloc] at this
  have hold : ((gl v.ca n).getD (zeros 256)).length = 256 := by
    cases hg : gl v.ca n with
    | none => exact zeros_len 256
    | some l => exact hi.cal n l hg
  have hb2 : ∀ X, Below w.heap.size w (((w.alloc (.cells (ArrU8 (zeros 256)) 50)).alloc (.cells (ArrU8 (zeros 256)) 50)).setRow (w.heap.size + 1) X) := fun X => below_setRow (((Below.refl _ _).alloc (Nat.le_refl _) _).alloc (by simp) _) (by omega) _
  have HX0 := hid hx0
  have HX1 := hid hx1
  have HB2 := hid hb2
  have HH := hid h
  have HI := hid hi
  have HSX := hid (show (ArrU8 ((gl v.ca n).getD (zeros 256))).size = 256 by rw [ArrU8_size, hold])
  cases hg : gl v.ca n with
  | some b =>
    rw [hg] at hlk HSX
    simp only [Option.getD_some, Option.isSome_some] at hlk HSX
    have HR := hid (show cmR k v n = (b, 0) ∧ cmV k v n = (v.ca, v.od) by unfold cmR cmV; rw [hg]; exact ⟨rfl, rfl⟩)
    clear h hi hb1 h1 hx0 hx1 hold hb2 hg
    go_enter Tryz.func81, Tryz.ntmps81
    go_wp2_with (first | (refine wpList_store_row rfl 50 (Operand.tmp 6) (Operand.tmp 18) rfl (w.heap.size + 1) (ArrU8 b) rfl rfl 50 (ArrU8 (zeros 256)) HX1.out (by rw [HI35.out, HSX.out]) (by rw [HSX.out, SZ.out]) (ArrU8_one _) ?_) | (refine wpList_load_row rfl 50 (Operand.tmp 6) rfl (w.heap.size + 1) rfl 50 (ArrU8 b) (0, 0) _ (setRow_heap _ _ _ _ _ _ HX1.out) Tryz.underlying50 rfl (by rw [HI35.out, HSX.out]) ?_) | (refine wpList_store_row rfl 50 (Operand.tmp 4) (Operand.tmp 21) rfl w.heap.size (ArrU8 b) rfl rfl 50 (ArrU8 (zeros 256)) ((setRow_other _ _ _ _ (by omega)).trans HX0.out) (by rw [HI35.out, HSX.out]) (by rw [HSX.out, SZ.out]) (ArrU8_one _) ?_))
    refine bodyPost_ret (results_cell_tmp (p := 4) (q := 5) (ty := 50) rfl _ _ w.heap.size 50 (ArrU8 b) (0, 0) _ rfl (setRow_heap _ _ _ _ _ _ ((setRow_other _ _ _ _ (by omega)).trans HX0.out)) Tryz.underlying50 rfl (by rw [HI35.out, HSX.out])) rfl ⟨by rw [HR.out.1]; rfl, v.ov, ?_⟩
    rw [HR.out.2]
    exact PE.same HH.out (below_setRow (HB2.out _) (Nat.le_refl _) _)
  | none =>
    rw [hg] at hlk HSX
    simp only [Option.getD_none, Option.isSome_none] at hlk HSX
    have hx0w := (setRow_other _ (w.heap.size + 1) w.heap.size (ArrU8 (zeros 256)) (by omega)).trans hx0
    have h2 := h.fresh (hb2 (ArrU8 (zeros 256)))
    have hst := stored_any k v n _ h2 hi hn
    have HX0W := hid hx0w
    have HST := hid hst
    have HRL := hid (show ((if v.s.dn then zeros 256 else sto k v n) : List Int).length = 256 by split; exact zeros_len _; exact sto_len h n)
    have HR := hid (show cmR k v n = (if v.s.dn then (zeros 256, 44) else (sto k v n, 0)) ∧ cmV k v n = (if v.s.dn then (v.ca, v.od) else keepP k.most v.ca v.od n (sto k v n)) by unfold cmR cmV; rw [hg]; exact ⟨rfl, rfl⟩)
    have HG := hid hg
    clear h hi hb1 h1 hx0 hx1 hold hb2 hg hx0w h2 hst
    go_enter Tryz.func81, Tryz.ntmps81
    go_wp2_with (first | (refine wpList_store_row rfl 50 (Operand.tmp 6) (Operand.tmp 18) rfl (w.heap.size + 1) (ArrU8 (zeros 256)) rfl rfl 50 (ArrU8 (zeros 256)) HX1.out (by rw [HI35.out, HSX.out]) rfl (ArrU8_one _) ?_) | fail)
    refine HST.out.mono ?_
    rintro e wa ⟨rfl, hb⟩
    have hba := (HB2.out (ArrU8 (zeros 256))).trans (hb.mono (HB2.out (ArrU8 (zeros 256))).size)
    have HBA := hid hba
    have HXA := hid ((hb.block _ (Array.getElem?_eq_some_iff.1 HX0W.out).1).trans HX0W.out)
    have HXL := hid (Array.getElem?_eq_some_iff.1 HXA.out).1
    have HHA := hid (HH.out.fresh hba)
    have hxn := heap_alloc_new wa (.cells (ArrU8 (zeros 256)) 50)
    have HXN := hid hxn
    clear hb hba hxn p6 hlk
    generalize hRR : (if v.s.dn then zeros 256 else sto k v n) = R at *
    have SR := hid (show (ArrU8 R).size = 256 by rw [ArrU8_size, HRL.out])
    cases hdn : v.s.dn with
    | true =>
      rw [hdn] at HR
      simp only [if_true] at HR
      have HRR := hid (show R = zeros 256 by rw [← hRR, hdn]; rfl)
      clear hRR hdn
      simp only [if_true]
      go_wp2_with (first | (refine wpList_store_row rfl 50 (Operand.tmp 8) (Operand.tmp 26) rfl wa.heap.size (ArrU8 R) rfl rfl 50 (ArrU8 (zeros 256)) HXN.out (by rw [HI35.out, SR.out]) (by rw [SR.out, SZ.out]) (ArrU8_one _) ?_) | (refine wpList_load_row rfl 50 (Operand.tmp 8) rfl wa.heap.size rfl 50 (ArrU8 R) (0, 0) _ (new_at wa _ _ _) Tryz.underlying50 rfl (by rw [HI35.out, SR.out]) ?_) | (refine wpList_store_row rfl 50 (Operand.tmp 4) (Operand.tmp 36) rfl w.heap.size (ArrU8 R) rfl rfl 50 (ArrU8 (zeros 256)) ((new_old _ _ _ HXL.out).trans HXA.out) (by rw [HI35.out, SR.out]) (by rw [SR.out, SZ.out]) (ArrU8_one _) ?_))
      refine bodyPost_ret (results_cell_tmp (p := 4) (q := 5) (ty := 50) rfl _ _ w.heap.size 50 (ArrU8 R) (0, 0) _ rfl (setRow_heap _ _ _ _ _ _ ((new_old _ _ _ HXL.out).trans HXA.out)) Tryz.underlying50 rfl (by rw [HI35.out, SR.out])) rfl ⟨by rw [HR.out.1, HRR.out]; rfl, v.ov, ?_⟩
      rw [HR.out.2]
      exact PE.same HH.out (below_setRow (new_below HBA.out _ _) (Nat.le_refl _) _)
    | false =>
      rw [hdn] at HR
      simp only [Bool.false_eq_true, if_false] at HR
      have HRR := hid (show R = sto k v n by rw [← hRR, hdn]; rfl)
      clear hRR hdn
      simp only [Bool.false_eq_true, if_false]
      go_wp2_with (first | (refine wpList_store_row rfl 50 (Operand.tmp 8) (Operand.tmp 26) rfl wa.heap.size (ArrU8 R) rfl rfl 50 (ArrU8 (zeros 256)) HXN.out (by rw [HI35.out, SR.out]) (by rw [SR.out, SZ.out]) (ArrU8_one _) ?_) | fail)
      have hxb := new_at wa (ArrU8 (zeros 256)) (ArrU8 R) 50
      have hx0b := (new_old (w := wa) (.cells (ArrU8 (zeros 256)) 50) (ArrU8 R) _ HXL.out).trans HXA.out
      have hbb := new_below HBA.out (.cells (ArrU8 (zeros 256)) 50) (ArrU8 R)
      have HE := hid (show w.heap.size < wa.heap.size from HXL.out)
      generalize hwb : (wa.alloc (.cells (ArrU8 (zeros 256)) 50)).setRow wa.heap.size (ArrU8 R) = wb at *
      generalize wa.heap.size = XA at *
      have HXB := hid hxb
      have HX0B := hid hx0b
      have HBB := hid hbb
      have HHB := hid (HH.out.fresh hbb)
      have HK := hid (keep_any k.B k.P (PC k v) 82 v.C v.ov k.most v.ca v.od n R wb.drew (HHB.out.fresh ((Below.refl _ _).drew)).cache HI.out.m0 HRL.out HI.out.cal HI.out.odl (show k.B ≤ wb.heap.size from HHB.out.hB))
      clear hxb hx0b hbb hwb
      refine wp_region_held_drew (S := fun u => u.heap[XA]? = some (.cells (ArrU8 R) 50 (0, 0))) (by kernel_rfl) (HXB.out) (fun hHeld => ?_)
      refine tk (i := 0) (oi := ⟨some 30, .move (.tmp 0), 30, "page.go:131", #[], none⟩) (v := ?_) (Or.inl ⟨by rfl, ?_⟩) ?_
      rotate_left 1
      · (intro u hSw; go_simp; try with_reducible rfl)
      try simp only [Act.put, sA, sB, sC]
      refine tk (i := 1) (oi := ⟨some 31, .nilCheck (.tmp 30), 0, "page.go:131", #[⟨0, .data⟩], none⟩) (v := ?_) (Or.inl ⟨by rfl, ?_⟩) ?_
      rotate_left 1
      · (intro u hSw; go_simp; try with_reducible rfl)
      try simp only [Act.put, sA, sB, sC]
      refine tk (i := 2) (oi := ⟨some 32, .fieldAddr 82 (.tmp 31) 4, 0, "page.go:131", #[⟨1, .data⟩], none⟩) (v := ?_) (Or.inl ⟨by rfl, ?_⟩) ?_
      rotate_left 1
      · (intro u hSw; go_simp; try with_reducible rfl)
      try simp only [Act.put, sA, sB, sC]
      refine tk (i := 3) (oi := ⟨some 33, .move (.tmp 1), 3, "page.go:131", #[], none⟩) (v := ?_) (Or.inl ⟨by rfl, ?_⟩) ?_
      rotate_left 1
      · (intro u hSw; go_simp; try with_reducible rfl)
      try simp only [Act.put, sA, sB, sC]
      refine tk (i := 4) (oi := ⟨some 34, .load 50 (.tmp 8), 50, "page.go:131", #[], none⟩) (v := ?_) (Or.inl ⟨by rfl, ?_⟩) ?_
      rotate_left 1
      · intro u hSw
        refine exec_load_row 50 (Operand.tmp 8) ?_ u XA ?_ (ArrU8 R) 50 (0, 0) _ hSw Tryz.underlying50 rfl (by rw [HI35.out, SR.out]) <;> rfl
      try simp only [Act.put, sA, sB, sC]
      refine wpAnyH_ready (rs := [5]) (by kernel_rfl) (by simp) ?_
      refine (AllReadyH.cons (o := ⟨some 35, .call ⟨.value (.func 87), #[.tmp 32, .tmp 33, .tmp 34], #[79, 3, 50]⟩, 0, "page.go:131", #[⟨2, .data⟩, ⟨3, .data⟩, ⟨4, .data⟩], none⟩) rfl (fun K hK => ?_) AllReadyH.nil)
      go_simp
      go_at_call 87
      refine HK.out.mono ?_
      rintro e wc ⟨rfl, ov', hca, hch, hot⟩
      have hpe := HHB.out.recache hca ((Chg.refl _ wb).drew.trans hch (fun _ h => .inl h)) hot
      have hPF : ∀ g, PF k v g → g < w.heap.size := fun g hg => (HH.out.lt g hg).2
      have hpx : ∀ g, w.heap.size ≤ g → ¬ PF k v g := fun g hg hp => by have := hPF g hp; omega
      have HXC := hid ((hpe.2.1.block XA (Array.getElem?_eq_some_iff.1 HXB.out).1 (hpx _ (by have := HE.out; omega))).trans HXB.out)
      have HX0C := hid ((hpe.2.1.block w.heap.size (Array.getElem?_eq_some_iff.1 HX0B.out).1 (hpx _ (Nat.le_refl _))).trans HX0B.out)
      have HPE := hid hpe
      clear hca hch hot hpe hPF hpx
      go_wp2_with fail
      refine hK.out _ _ HXC.out (fun hHeld => ?_)
      clear hK K
      try simp only [Act.put, sA, sB, sC]
      refine wpAnyH_done (by kernel_rfl) ?_ _
      have HWL := hid (Array.getElem?_eq_some_iff.1 HX0B.out).1
      go_wp2_with (first | (refine wpList_load_row rfl 50 (Operand.tmp 8) rfl XA rfl 50 (ArrU8 R) (0, 0) _ HXC.out Tryz.underlying50 rfl (by rw [HI35.out, SR.out]) ?_) | (refine wpList_store_row rfl 50 (Operand.tmp 4) (Operand.tmp 36) rfl w.heap.size (ArrU8 R) rfl rfl 50 (ArrU8 (zeros 256)) HX0C.out (by rw [HI35.out, SR.out]) (by rw [SR.out, SZ.out]) (ArrU8_one _) ?_))
      refine bodyPost_ret (results_cell_tmp (p := 4) (q := 5) (ty := 50) rfl _ _ w.heap.size 50 (ArrU8 R) (0, 0) _ rfl (setRow_heap _ _ _ _ _ _ HX0C.out) Tryz.underlying50 rfl (by rw [HI35.out, SR.out])) rfl ⟨by rw [HR.out.1, HRR.out]; rfl, ov', ?_⟩
      rw [HR.out.2, ← HRR.out]
      exact PE.own HBB.out HH.out HPE.out w.heap.size (Nat.le_refl _) HWL.out _
end Go.Proofs.YtdkjkibdncbibaaGreat
/- a page as it is now: looked at, and set -/
namespace Go.Proofs.YtdkjkibdncbibaaGreat
open Go.RowKit
open Go.Lib (hid)
theorem wpList_load_rowG {P : Program} {ops : Array Oper} {rest : List Oper} {o : Oper} {a : Act} {w : World} {Q : Exit → Act → World → Prop} (hw : Region.wanted o (yielded ops a.tmps) = true) (ty : TypeId) (x : Operand) (ho : o.op = .load ty x)
  (g : Nat) (hx : a.eval x = .pointer (some ⟨g, 0, none⟩)) (t : TypeId) (cs : Array Value) (fr : Nat × Nat) (d : TypeDesc) (hg : w.heap[g]? = some (.cells cs t fr))
  (hu : P.underlying ty = some d) (hd : (match d with | .struct _ | .array _ _ => true | _ => false) = true) (hi : (P.info? ty).map (·.size) = some cs.size)
  (h : wpList P ops Q rest (a.put o.dst (.agg cs)) w) : wpList P ops Q (o :: rest) a w :=
 wpList_step fun K hK => by
  rw [if_pos hw]
  exact wp_load_row ty x ho g hx t cs fr d hg hu hd hi (hK _ _ h)
theorem wpList_of_runG {P : Program} {ops : Array Oper} {rest : List Oper} {o : Oper} {a : Act} {w w' : World} {v : Value} {Q : Exit → Act → World → Prop} (hw : Region.wanted o (yielded ops a.tmps) = true) (hr : (execOp a.eval o).run P w = .ok (.value v) w') (h : wpList P ops Q rest (a.put o.dst v) w') : wpList P ops Q (o :: rest) a w :=
 wpList_step fun K hK => by
  rw [if_pos hw]
  unfold Oper.wp
  simp [hr]
  exact hK _ _ h
/-- the number at a place -/
def hN (ns : List Nat) (i : Nat) : Nat := ns[i]?.getD 0
theorem HV_at (ns : List Nat) (i : Nat) (h : i < ns.length) : (HV ns)[i]? = some (.int .u64 (hN ns i : Nat)) := by
 simp [HV, hN, h]
def usedN (v : PV) : Int := (hN v.h1 0 : Nat)
def inU (v : PV) (n : Int) : Bool := decide (0 < n) && decide (n < usedN v)
set_option maxRecDepth 100000 in
set_option maxHeartbeats 1000000 in
theorem inUse_any (k : PK) (v : PV) (n : Int) (w : World) (h : PgS k v w) (hn : n ≤ 9223372036854775807) :
  Calls Tryz.prog 61 #[.pointer (some ⟨k.P, 0, none⟩), .int .i64 n] w fun e w' => e = .returned (.bool (inU v n)) ∧ w = w' := by
 have p26 := (cell_of_row _ k.P 26 _ _ _ h.box).trans ((PC_h1 0 h.l0 h.l1 (by decide)).trans (HV_at _ _ (by rw [h.l1]; decide)))
 have HU := hid (show usedN v = ((hN v.h1 0 : Nat) : Int) from rfl)
 generalize (hN v.h1 0 : Nat) = u at *
 clear h
 by_cases h0 : 0 < n
 ·have hnw : IntKind.u64.wrap n = n := by rw [IntKind.wrap_u64]; omega
  have HR := hid (show inU v n = decide (n < (u : Int)) by unfold inU; rw [HU.out]; simp [h0])
  go_enter Tryz.func61, Tryz.ntmps61
  go_wp2_with fail
  go_ret
  exact ⟨by rw [HR.out]; rfl, rfl⟩
 ·have HR := hid (show inU v n = false by unfold inU; simp [h0])
  go_enter Tryz.func61, Tryz.ntmps61
  go_wp2_with fail
  go_ret
  exact ⟨by rw [HR.out]; rfl, rfl⟩
def cuR (k : PK) (v : PV) (n : Int) : List Int × Int := match gl v.ch n with
 | some b => (b, 0)
 | none => cmR k v n
def cuV (k : PK) (v : PV) (n : Int) : List (Int × List Int) × List Int := match gl v.ch n with
 | some _ => (v.ca, v.od)
 | none => cmV k v n
def CuEnds (k : PK) (v : PV) (n : Int) (w : World) (e : Ending) (w' : World) : Prop :=
 e = .returned (.tuple #[.agg (ArrU8 (cuR k v n).1), .int .i64 (cuR k v n).2]) ∧ ∃ ov', PE k v w { v with ov := ov', ca := (cuV k v n).1, od := (cuV k v n).2 } w'
theorem cuR_len {k : PK} {v : PV} {w : World} (h : PgS k v w) (hi : PIn k v) (n : Int) : (cuR k v n).1.length = 256 := by
 unfold cuR
 cases hg : gl v.ch n with
 | some b => exact hi.chl n b hg
 | none => exact cmR_len h hi n
set_option maxRecDepth 100000 in
set_option maxHeartbeats 2000000 in
theorem current_any (k : PK) (v : PV) (n : Int) (w : World) (h : PgS k v w) (hi : PIn k v) (hn : 0 ≤ n ∧ n < k.nb - k.sz) :
    Calls Tryz.prog 62 #[.pointer (some ⟨k.P, 0, none⟩), .int .i64 n] w (CuEnds k v n w) := by
  have hz := zero35
  have HI35 := hid (show (Tryz.prog.info? 50).map (·.size) = some 256 by kernel_rfl)
  have SZ := hid (show (ArrU8 (zeros 256)).size = 256 by rw [ArrU8_size, zeros_len])
  have hb1 : Below w.heap.size w (w.alloc (.cells (ArrU8 (zeros 256)) 50)) := (Below.refl _ _).alloc (Nat.le_refl _) _
  have h1 := h.fresh hb1
  have p44 := (cell_of_row _ k.P 44 _ _ _ h1.box).trans (PC_44 h.l0 h.l1)
  have hlk := run_look_g (P := Tryz.prog) (mT := 76) (kT := 3) (eT := 50) (enc := blkV) Tryz.underlying76 Tryz.underlying3 (zeros 256) (fun u => zero35 u) n h1.ch
  have hx0 : ((w.alloc (.cells (ArrU8 (zeros 256)) 50)).alloc (.cells (ArrU8 (zeros 256)) 50)).heap[w.heap.size]? = some (.cells (ArrU8 (zeros 256)) 50 (0, 0)) := (heap_alloc_old _ _ (by simp)).trans (heap_alloc_new _ _)
  have hx1 : ((w.alloc (.cells (ArrU8 (zeros 256)) 50)).alloc (.cells (ArrU8 (zeros 256)) 50)).heap[w.heap.size + 1]? = some (.cells (ArrU8 (zeros 256)) 50 (0, 0)) := by
    have := heap_alloc_new (w.alloc (.cells (ArrU8 (zeros 256)) 50)) (.cells (ArrU8 (zeros 256)) 50)
    rwa [World.size_alloc] at this
  have hb2 : ∀ X, Below w.heap.size w (((w.alloc (.cells (ArrU8 (zeros 256)) 50)).alloc (.cells (ArrU8 (zeros 256)) 50)).setRow (w.heap.size + 1) X) := fun X => below_setRow (((Below.refl _ _).alloc (Nat.le_refl _) _).alloc (by simp) _) (by omega) _
  have HX0 := hid hx0
  have HX1 := hid hx1
  have HB2 := hid hb2
  have HH := hid h
  have hold : ((gl v.ch n).getD (zeros 256)).length = 256 := by
    cases hg : gl v.ch n with
    | none => exact zeros_len 256
    | some l => exact hi.chl n l hg
  have HSX := hid (show (ArrU8 ((gl v.ch n).getD (zeros 256))).size = 256 by rw [ArrU8_size, hold])
  cases hg : gl v.ch n with
  | some b =>
    rw [hg] at hlk HSX
    simp only [Option.getD_some, Option.isSome_some] at hlk HSX
    have HR := hid (show cuR k v n = (b, 0) ∧ cuV k v n = (v.ca, v.od) by unfold cuR cuV; rw [hg]; exact ⟨rfl, rfl⟩)
    clear h hi hb1 h1 hx0 hx1 hold hb2 hg
    go_enter Tryz.func62, Tryz.ntmps62
    go_wp2_with (first | (refine wpList_store_row rfl 50 (Operand.tmp 6) (Operand.tmp 15) rfl (w.heap.size + 1) (ArrU8 b) rfl rfl 50 (ArrU8 (zeros 256)) HX1.out (by rw [HI35.out, HSX.out]) (by rw [HSX.out, SZ.out]) (ArrU8_one _) ?_) | (refine wpList_load_row rfl 50 (Operand.tmp 6) rfl (w.heap.size + 1) rfl 50 (ArrU8 b) (0, 0) _ (setRow_heap _ _ _ _ _ _ HX1.out) Tryz.underlying50 rfl (by rw [HI35.out, HSX.out]) ?_) | (refine wpList_store_row rfl 50 (Operand.tmp 4) (Operand.tmp 18) rfl w.heap.size (ArrU8 b) rfl rfl 50 (ArrU8 (zeros 256)) ((setRow_other _ _ _ _ (by omega)).trans HX0.out) (by rw [HI35.out, HSX.out]) (by rw [HSX.out, SZ.out]) (ArrU8_one _) ?_))
    refine bodyPost_ret (results_cell_tmp (p := 4) (q := 5) (ty := 50) rfl _ _ w.heap.size 50 (ArrU8 b) (0, 0) _ rfl (setRow_heap _ _ _ _ _ _ ((setRow_other _ _ _ _ (by omega)).trans HX0.out)) Tryz.underlying50 rfl (by rw [HI35.out, HSX.out])) rfl ⟨by rw [HR.out.1]; rfl, v.ov, ?_⟩
    rw [HR.out.2]
    exact PE.same HH.out (below_setRow (HB2.out _) (Nat.le_refl _) _)
  | none =>
    rw [hg] at hlk HSX
    simp only [Option.getD_none, Option.isSome_none] at hlk HSX
    have hx0w := (setRow_other _ (w.heap.size + 1) w.heap.size (ArrU8 (zeros 256)) (by omega)).trans hx0
    have h2 := h.fresh (hb2 (ArrU8 (zeros 256)))
    have HX0W := hid hx0w
    have HST := hid (committed_any k v n _ h2 hi hn)
    have HRL := hid (cmR_len h hi n)
    have HR := hid (show cuR k v n = cmR k v n ∧ cuV k v n = cmV k v n by unfold cuR cuV; rw [hg]; exact ⟨rfl, rfl⟩)
    clear h hi hb1 h1 hx0 hx1 hold hb2 hg hx0w h2
    go_enter Tryz.func62, Tryz.ntmps62
    go_wp2_with (first | (refine wpList_store_row rfl 50 (Operand.tmp 6) (Operand.tmp 15) rfl (w.heap.size + 1) (ArrU8 (zeros 256)) rfl rfl 50 (ArrU8 (zeros 256)) HX1.out (by rw [HI35.out, HSX.out]) rfl (ArrU8_one _) ?_) | fail)
    refine HST.out.mono ?_
    rintro e wa ⟨rfl, ov', hpe⟩
    have HXA := hid ((hpe.2.1.block w.heap.size (Array.getElem?_eq_some_iff.1 HX0W.out).1 (fun hp => by have := (HH.out.lt _ hp).2; omega)).trans HX0W.out)
    have HPE := hid hpe
    rw [← HR.out.2] at HPE
    have HWL := hid (Array.getElem?_eq_some_iff.1 HX0W.out).1
    clear hpe p44 hlk
    have SR := hid (show (ArrU8 (cmR k v n).1).size = 256 by rw [ArrU8_size, HRL.out])
    have HR1 := hid HR.out.1
    generalize cmR k v n = R at *
    obtain ⟨R, E⟩ := R
    simp only [] at SR
    go_wp2_with (first | (refine wpList_store_row rfl 50 (Operand.tmp 4) (Operand.tmp 22) rfl w.heap.size (ArrU8 R) rfl rfl 50 (ArrU8 (zeros 256)) HXA.out (by rw [HI35.out, SR.out]) (by rw [SR.out, SZ.out]) (ArrU8_one _) ?_) | fail)
    refine bodyPost_ret (results_cell_tmp (p := 4) (q := 5) (ty := 50) rfl _ _ w.heap.size 50 (ArrU8 R) (0, 0) _ rfl (setRow_heap _ _ _ _ _ _ HXA.out) Tryz.underlying50 rfl (by rw [HI35.out, SR.out])) rfl ⟨by rw [HR1.out]; rfl, ov', ?_⟩
    exact PE.own (HB2.out _) HH.out HPE.out w.heap.size (Nat.le_refl _) HWL.out _
end Go.Proofs.YtdkjkibdncbibaaGreat
/- a page set -/
namespace Go.Proofs.YtdkjkibdncbibaaGreat
open Go.RowKit
open Go.Lib (hid)
/-- the changed pages' map that has turned, put back -/
theorem PgS.rech {k : PK} {v : PV} {w w' : World} (h : PgS k v w) {ch' : List (Int × List Int)} (hm : MapG blkV w' v.Hm ch') (hg : w.grownBy w' (some v.Hm)) : PE k v w { v with ch := ch' } w' := by
  obtain ⟨u, hu⟩ := h.ap
  have hc : Chg (fun g => g = v.Hm) w w' := Chg.grown hg (fun g hg => (Option.some.inj hg).symm)
  have hn : ∀ g, u g ≠ 4 → ¬ (g = v.Hm) := fun g h4 e => h4 (by rw [e]; exact hu.h)
  exact ⟨{ h with
      ls := h.ls.chg hc (fun g hg => hn g (by rw [hu.l g hg]; decide))
      box := (hc.block k.P h.ltP (hn _ (by rw [hu.p]; decide))).trans h.box
      lg := h.lg.of (hc.block _ h.lg.lt (hn _ (by rw [hu.m]; decide)))
      ca := h.ca.of (hc.block _ h.ca.lt (hn _ (by rw [hu.c]; decide)))
      ch := hm
      ord := h.ord.chg hc (fun g hg => hn g (by rw [hu.o g hg]; decide))
      ap := ⟨u, { hu with }⟩ }, hc.mono (fun g e => .inr (.inr (.inr (.inr (.inl e))))), fun g hg => .inl hg⟩
def stV (k : PK) (v : PV) (n : Int) (b : List Int) : List (Int × List Int) := if (cmR k v n).2 = 0 ∧ b = (cmR k v n).1 then gd v.ch n else gp v.ch n b
def StEnds (k : PK) (v : PV) (n : Int) (b : List Int) (w : World) (e : Ending) (w' : World) : Prop :=
 e = .returned (.tuple #[]) ∧ ∃ ov', PE k v w { v with ov := ov', ca := (cmV k v n).1, od := (cmV k v n).2, ch := stV k v n b } w'
set_option maxRecDepth 100000 in
set_option maxHeartbeats 2000000 in
theorem set_any (k : PK) (v : PV) (n : Int) (b : List Int) (w : World) (h : PgS k v w) (hi : PIn k v) (hn : 0 ≤ n ∧ n < k.nb - k.sz) (hb : b.length = 256) :
  Calls Tryz.prog 59 #[.pointer (some ⟨k.P, 0, none⟩), .int .i64 n, .agg (ArrU8 b)] w (StEnds k v n b w) := by
 have hz := zero35
 have HI35 := hid (show (Tryz.prog.info? 50).map (·.size) = some 256 by kernel_rfl)
 have SZ := hid (show (ArrU8 (zeros 256)).size = 256 by rw [ArrU8_size, zeros_len])
 have SB := hid (show (ArrU8 b).size = 256 by rw [ArrU8_size, hb])
 have hb1 : Below w.heap.size w (w.alloc (.cells (ArrU8 b) 50)) := (Below.refl _ _).alloc (Nat.le_refl _) _
 have h1 := h.fresh hb1
 have hx := heap_alloc_new w (.cells (ArrU8 b) 50)
 have HX := hid hx
 have HB1 := hid hb1
 have HH := hid h
 have HB := hid hb
 have HRL := hid (cmR_len h hi n)
 have HST := hid (committed_any k v n _ h1 hi hn)
 have HV := hid (show stV k v n b = if (cmR k v n).2 = 0 ∧ b = (cmR k v n).1 then gd v.ch n else gp v.ch n b from rfl)
 have HER := hid (show (cmR k v n).2 = 0 ∨ (cmR k v n).2 = 44 by
  unfold cmR
  split
  ·exact .inl rfl
  ·split
   ·exact .inr rfl
   ·exact .inl rfl)
 clear h hi hb1 h1 hx hb
 go_enter Tryz.func59, Tryz.ntmps59
 go_wp2_with fail
 refine HST.out.mono ?_
 rintro e wa ⟨rfl, ov', hpe⟩
 have HPE := hid hpe
 have HXA := hid ((hpe.2.1.block w.heap.size (Array.getElem?_eq_some_iff.1 HX.out).1 (fun hp => by have := (HH.out.lt _ hp).2; omega)).trans HX.out)
 have hxn := heap_alloc_new wa (.cells (ArrU8 (zeros 256)) 50)
 have HXN := hid hxn
 have HXL := hid (Array.getElem?_eq_some_iff.1 HXA.out).1
 clear hpe hxn HST
 generalize cmR k v n = R at *
 obtain ⟨R, E⟩ := R
 simp only [] at HRL HV HER
 have SR := hid (show (ArrU8 R).size = 256 by rw [ArrU8_size, HRL.out])
 simp only []
 rcases HER.out with he | he
 ·subst he
  clear HER
  by_cases hbR : b = R
  ·have HVE := hid (show stV k v n b = gd v.ch n by rw [HV.out, if_pos ⟨rfl, hbR⟩])
   have h4 : PgS k { v with ov := ov', ca := (cmV k v n).1, od := (cmV k v n).2 } ((wa.alloc (.cells (ArrU8 (zeros 256)) 50)).setRow wa.heap.size (ArrU8 R)) := HPE.out.1.fresh (new_below (Below.refl _ _) _ _)
   have hp4 := PE.post HPE.out (new_below (Below.refl _ wa) (.cells (ArrU8 (zeros 256)) 50) (ArrU8 R))
   have p44 := (cell_of_row _ k.P 44 _ _ _ h4.box).trans (PC_44 h4.l0 h4.l1)
   have hx4 := (new_old (w := wa) (.cells (ArrU8 (zeros 256)) 50) (ArrU8 R) _ HXL.out).trans HXA.out
   obtain ⟨w9, hdel, hm9, hg9, hs9⟩ := run_delete_g (P := Tryz.prog) (mT := 76) (kT := 3) (eT := 50) (enc := blkV) (ty := 0) Tryz.underlying76 Tryz.underlying3 n h4.ch
   have HDEL := hid hdel
   have HPF := hid (hp4.trans (h4.rech hm9 hg9))
   have HBR := hid hbR
   clear hdel hm9 hg9 hs9 hx4 h4 hp4 hbR
   go_wp2_with (first | (refine wpList_store_row rfl 50 (Operand.tmp 6) (Operand.tmp 12) rfl wa.heap.size (ArrU8 R) rfl rfl 50 (ArrU8 (zeros 256)) HXN.out (by rw [HI35.out, SR.out]) (by rw [SR.out, SZ.out]) (ArrU8_one _) ?_) | (refine wpList_load_rowG (by rfl) 50 (Operand.tmp 5) rfl w.heap.size rfl 50 (ArrU8 b) (0, 0) _ ((new_old _ _ _ HXL.out).trans HXA.out) Tryz.underlying50 rfl (by rw [HI35.out, SB.out]) ?_) | (refine wpList_load_rowG (by rfl) 50 (Operand.tmp 6) rfl wa.heap.size rfl 50 (ArrU8 R) (0, 0) _ (new_at wa _ _ _) Tryz.underlying50 rfl (by rw [HI35.out, SR.out]) ?_) | (refine wpList_of_runG (by rfl) (exec_eql_blk (Operand.tmp 17) (Operand.tmp 18) 50 rfl b R rfl rfl HB.out HRL.out true (by exact decide_eq_true HBR.out)) ?_) | (at_delete; refine wpList_of_run rfl (exec_delete (Operand.tmp 24) (Operand.tmp 25) 76 3 rfl _ _ rfl rfl HDEL.out) ?_))
   go_end0
   refine ⟨rfl, ov', ?_⟩
   rw [HVE.out]
   exact PE.pre HB1.out HPF.out
  ·have HNV := hid (show ¬ ((0 : Int) = 0 ∧ b = R) from fun e => hbR e.2)
   have HBR := hid hbR
   have h4 : PgS k { v with ov := ov', ca := (cmV k v n).1, od := (cmV k v n).2 } ((wa.alloc (.cells (ArrU8 (zeros 256)) 50)).setRow wa.heap.size (ArrU8 R)) := HPE.out.1.fresh (new_below (Below.refl _ _) _ _)
   have hp4 := PE.post HPE.out (new_below (Below.refl _ wa) (.cells (ArrU8 (zeros 256)) 50) (ArrU8 R))
   have p44 := (cell_of_row _ k.P 44 _ _ _ h4.box).trans (PC_44 h4.l0 h4.l1)
   have hx4 := (new_old (w := wa) (.cells (ArrU8 (zeros 256)) 50) (ArrU8 R) _ HXL.out).trans HXA.out
   clear hbR
   go_wp2_with (first | (refine wpList_store_row rfl 50 (Operand.tmp 6) (Operand.tmp 12) rfl wa.heap.size (ArrU8 R) rfl rfl 50 (ArrU8 (zeros 256)) HXN.out (by rw [HI35.out, SR.out]) (by rw [SR.out, SZ.out]) (ArrU8_one _) ?_) | (refine wpList_load_rowG (by rfl) 50 (Operand.tmp 5) rfl w.heap.size rfl 50 (ArrU8 b) (0, 0) _ ((new_old _ _ _ HXL.out).trans HXA.out) Tryz.underlying50 rfl (by rw [HI35.out, SB.out]) ?_) | (refine wpList_load_rowG (by rfl) 50 (Operand.tmp 6) rfl wa.heap.size rfl 50 (ArrU8 R) (0, 0) _ (new_at wa _ _ _) Tryz.underlying50 rfl (by rw [HI35.out, SR.out]) ?_) | (refine wpList_of_runG (by rfl) (exec_eql_blk (Operand.tmp 17) (Operand.tmp 18) 50 rfl b R rfl rfl HB.out HRL.out false (by exact decide_eq_false HBR.out)) ?_))
   obtain ⟨w9, hup, hm9, hg9, hs9⟩ := run_update_g (P := Tryz.prog) (mT := 76) (kT := 3) (eT := 50) (enc := blkV) Tryz.underlying76 Tryz.underlying3 n b (h4.ch.of (w' := ((wa.alloc (.cells (ArrU8 (zeros 256)) 50)).setRow wa.heap.size (ArrU8 R)).drew) rfl)
   have HUP := hid hup
   have HX4 := hid hx4
   have HP44 := hid p44
   have hd4 := h4.fresh ((Below.refl _ _).drew)
   have HPF := hid ((PE.post hp4 ((Below.refl _ _).drew)).trans (hd4.rech hm9 hg9))
   have HNX := hid (show w.heap.size ≠ v.Hm by have := HH.out.ch.lt; omega)
   have HNP := hid (show k.P ≠ v.Hm by obtain ⟨u, hu⟩ := HH.out.ap; intro e; have h1 := hu.p; have h2 := hu.h; rw [e] at h1; omega)
   have H9 := hid (And.intro ((hg9.block k.P h4.ltP (fun e => HNP.out (Option.some.inj e))).trans h4.box) ((hg9.block w.heap.size (Array.getElem?_eq_some_iff.1 hx4).1 (fun e => HNX.out (Option.some.inj e))).trans hx4))
   have H44 := hid (And.intro h4.box hx4)
   have HLL := hid (And.intro h4.l0 h4.l1)
   clear hup hm9 hg9 hs9 hx4 p44 h4 hp4 hd4
   generalize (wa.alloc (.cells (ArrU8 (zeros 256)) 50)).setRow wa.heap.size (ArrU8 R) = wb at *
   refine wp_region_held_drew (S := fun u => u.heap[k.P]? = some (.cells (PC k { v with ov := ov', ca := (cmV k v n).1, od := (cmV k v n).2 }) 82 (0, 0)) ∧ u.heap[w.heap.size]? = some (.cells (ArrU8 b) 50 (0, 0))) (by kernel_rfl) (H44.out) (fun hHeld => ?_)
   refine tk (i := 0) (oi := ⟨some 26, .move (.tmp 0), 30, "page.go:150", #[], none⟩) (v := ?_) (Or.inl ⟨by rfl, ?_⟩) ?_
   rotate_left 1
   ·(intro u hSw; go_simp; try with_reducible rfl)
   try simp only [Act.put, sA, sB, sC]
   refine tk (i := 1) (oi := ⟨some 27, .nilCheck (.tmp 26), 0, "page.go:150", #[⟨0, .data⟩], none⟩) (v := ?_) (Or.inl ⟨by rfl, ?_⟩) ?_
   rotate_left 1
   ·(intro u hSw; go_simp; try with_reducible rfl)
   try simp only [Act.put, sA, sB, sC]
   refine tk (i := 2) (oi := ⟨some 28, .fieldAddr 82 (.tmp 27) 7, 0, "page.go:150", #[⟨1, .data⟩], none⟩) (v := ?_) (Or.inl ⟨by rfl, ?_⟩) ?_
   rotate_left 1
   ·(intro u hSw; go_simp; try with_reducible rfl)
   try simp only [Act.put, sA, sB, sC]
   refine tk (i := 3) (oi := ⟨some 29, .load 76 (.tmp 28), 76, "page.go:150", #[⟨2, .data⟩], none⟩) (v := ?_) (Or.inl ⟨by rfl, ?_⟩) ?_
   rotate_left 1
   ·intro u hSw
    have p44 := (cell_of_row u k.P 44 _ _ _ hSw.1).trans (PC_44 HLL.out.1 HLL.out.2)
    go_simp
    try with_reducible rfl
   try simp only [Act.put, sA, sB, sC]
   refine tk (i := 4) (oi := ⟨some 30, .move (.tmp 1), 3, "page.go:150", #[], none⟩) (v := ?_) (Or.inl ⟨by rfl, ?_⟩) ?_
   rotate_left 1
   ·(intro u hSw; go_simp; try with_reducible rfl)
   try simp only [Act.put, sA, sB, sC]
   refine tk (i := 5) (oi := ⟨some 31, .load 50 (.tmp 5), 50, "page.go:150", #[], none⟩) (v := ?_) (Or.inl ⟨by rfl, ?_⟩) ?_
   rotate_left 1
   ·intro u hSw
    refine exec_load_row 50 (Operand.tmp 5) ?_ u w.heap.size ?_ (ArrU8 b) 50 (0, 0) _ hSw.2 Tryz.underlying50 rfl (by rw [HI35.out, SB.out]) <;> rfl
   try simp only [Act.put, sA, sB, sC]
   refine wpAnyH_ready (rs := [6]) (by kernel_rfl) (by simp) ?_
   refine (AllReadyH.cons (o := ⟨none, .mapUpdate 76 (.tmp 29) (.tmp 30) (.tmp 31), 0, "page.go:150", #[⟨3, .data⟩, ⟨4, .data⟩, ⟨5, .data⟩, ⟨0, .phase⟩, ⟨1, .phase⟩, ⟨2, .phase⟩, ⟨3, .phase⟩, ⟨4, .phase⟩, ⟨5, .phase⟩], none⟩) rfl (fun K hK => ?_) AllReadyH.nil)
   refine step_of_skip ?_ (exec_update (Operand.tmp 29) (Operand.tmp 30) (Operand.tmp 31) ?_ _ _ _ ?_ ?_ ?_ HUP.out) ?_
   rfl
   rfl
   rfl
   rfl
   rfl
   refine hK.out _ _ H9.out (fun hHeld => ?_)
   clear hK K
   try simp only [Act.put]
   refine wpAnyH_done (by kernel_rfl) ?_ _
   go_end0
   refine ⟨rfl, ov', ?_⟩
   rw [HV.out, if_neg HNV.out]
   exact PE.pre HB1.out HPF.out
 ·subst he
  clear HER
  have HNV := hid (show ¬ ((44 : Int) = 0 ∧ b = R) from fun e => by have := e.1; omega)
  have h4 : PgS k { v with ov := ov', ca := (cmV k v n).1, od := (cmV k v n).2 } ((wa.alloc (.cells (ArrU8 (zeros 256)) 50)).setRow wa.heap.size (ArrU8 R)) := HPE.out.1.fresh (new_below (Below.refl _ _) _ _)
  have hp4 := PE.post HPE.out (new_below (Below.refl _ wa) (.cells (ArrU8 (zeros 256)) 50) (ArrU8 R))
  have p44 := (cell_of_row _ k.P 44 _ _ _ h4.box).trans (PC_44 h4.l0 h4.l1)
  have hx4 := (new_old (w := wa) (.cells (ArrU8 (zeros 256)) 50) (ArrU8 R) _ HXL.out).trans HXA.out
  go_wp2_with (first | (refine wpList_store_row rfl 50 (Operand.tmp 6) (Operand.tmp 12) rfl wa.heap.size (ArrU8 R) rfl rfl 50 (ArrU8 (zeros 256)) HXN.out (by rw [HI35.out, SR.out]) (by rw [SR.out, SZ.out]) (ArrU8_one _) ?_) | fail)
  obtain ⟨w9, hup, hm9, hg9, hs9⟩ := run_update_g (P := Tryz.prog) (mT := 76) (kT := 3) (eT := 50) (enc := blkV) Tryz.underlying76 Tryz.underlying3 n b (h4.ch.of (w' := ((wa.alloc (.cells (ArrU8 (zeros 256)) 50)).setRow wa.heap.size (ArrU8 R)).drew) rfl)
  have HUP := hid hup
  have HX4 := hid hx4
  have HP44 := hid p44
  have hd4 := h4.fresh ((Below.refl _ _).drew)
  have HPF := hid ((PE.post hp4 ((Below.refl _ _).drew)).trans (hd4.rech hm9 hg9))
  have HNX := hid (show w.heap.size ≠ v.Hm by have := HH.out.ch.lt; omega)
  have HNP := hid (show k.P ≠ v.Hm by obtain ⟨u, hu⟩ := HH.out.ap; intro e; have h1 := hu.p; have h2 := hu.h; rw [e] at h1; omega)
  have H9 := hid (And.intro ((hg9.block k.P h4.ltP (fun e => HNP.out (Option.some.inj e))).trans h4.box) ((hg9.block w.heap.size (Array.getElem?_eq_some_iff.1 hx4).1 (fun e => HNX.out (Option.some.inj e))).trans hx4))
  have H44 := hid (And.intro h4.box hx4)
  have HLL := hid (And.intro h4.l0 h4.l1)
  clear hup hm9 hg9 hs9 hx4 p44 h4 hp4 hd4
  generalize (wa.alloc (.cells (ArrU8 (zeros 256)) 50)).setRow wa.heap.size (ArrU8 R) = wb at *
  refine wp_region_held_drew (S := fun u => u.heap[k.P]? = some (.cells (PC k { v with ov := ov', ca := (cmV k v n).1, od := (cmV k v n).2 }) 82 (0, 0)) ∧ u.heap[w.heap.size]? = some (.cells (ArrU8 b) 50 (0, 0))) (by kernel_rfl) (H44.out) (fun hHeld => ?_)
  refine tk (i := 0) (oi := ⟨some 26, .move (.tmp 0), 30, "page.go:150", #[], none⟩) (v := ?_) (Or.inl ⟨by rfl, ?_⟩) ?_
  rotate_left 1
  ·(intro u hSw; go_simp; try with_reducible rfl)
  try simp only [Act.put, sA, sB, sC]
  refine tk (i := 1) (oi := ⟨some 27, .nilCheck (.tmp 26), 0, "page.go:150", #[⟨0, .data⟩], none⟩) (v := ?_) (Or.inl ⟨by rfl, ?_⟩) ?_
  rotate_left 1
  ·(intro u hSw; go_simp; try with_reducible rfl)
  try simp only [Act.put, sA, sB, sC]
  refine tk (i := 2) (oi := ⟨some 28, .fieldAddr 82 (.tmp 27) 7, 0, "page.go:150", #[⟨1, .data⟩], none⟩) (v := ?_) (Or.inl ⟨by rfl, ?_⟩) ?_
  rotate_left 1
  ·(intro u hSw; go_simp; try with_reducible rfl)
  try simp only [Act.put, sA, sB, sC]
  refine tk (i := 3) (oi := ⟨some 29, .load 76 (.tmp 28), 76, "page.go:150", #[⟨2, .data⟩], none⟩) (v := ?_) (Or.inl ⟨by rfl, ?_⟩) ?_
  rotate_left 1
  ·intro u hSw
   have p44 := (cell_of_row u k.P 44 _ _ _ hSw.1).trans (PC_44 HLL.out.1 HLL.out.2)
   go_simp
   try with_reducible rfl
  try simp only [Act.put, sA, sB, sC]
  refine tk (i := 4) (oi := ⟨some 30, .move (.tmp 1), 3, "page.go:150", #[], none⟩) (v := ?_) (Or.inl ⟨by rfl, ?_⟩) ?_
  rotate_left 1
  ·(intro u hSw; go_simp; try with_reducible rfl)
  try simp only [Act.put, sA, sB, sC]
  refine tk (i := 5) (oi := ⟨some 31, .load 50 (.tmp 5), 50, "page.go:150", #[], none⟩) (v := ?_) (Or.inl ⟨by rfl, ?_⟩) ?_
  rotate_left 1
  ·intro u hSw
   refine exec_load_row 50 (Operand.tmp 5) ?_ u w.heap.size ?_ (ArrU8 b) 50 (0, 0) _ hSw.2 Tryz.underlying50 rfl (by rw [HI35.out, SB.out]) <;> rfl
  try simp only [Act.put, sA, sB, sC]
  refine wpAnyH_ready (rs := [6]) (by kernel_rfl) (by simp) ?_
  refine (AllReadyH.cons (o := ⟨none, .mapUpdate 76 (.tmp 29) (.tmp 30) (.tmp 31), 0, "page.go:150", #[⟨3, .data⟩, ⟨4, .data⟩, ⟨5, .data⟩, ⟨0, .phase⟩, ⟨1, .phase⟩, ⟨2, .phase⟩, ⟨3, .phase⟩, ⟨4, .phase⟩, ⟨5, .phase⟩], none⟩) rfl (fun K hK => ?_) AllReadyH.nil)
  refine step_of_skip ?_ (exec_update (Operand.tmp 29) (Operand.tmp 30) (Operand.tmp 31) ?_ _ _ _ ?_ ?_ ?_ HUP.out) ?_
  rfl
  rfl
  rfl
  rfl
  rfl
  refine hK.out _ _ H9.out (fun hHeld => ?_)
  clear hK K
  try simp only [Act.put]
  refine wpAnyH_done (by kernel_rfl) ?_ _
  go_end0
  refine ⟨rfl, ov', ?_⟩
  rw [HV.out, if_neg HNV.out]
  exact PE.pre HB1.out HPF.out
end Go.Proofs.YtdkjkibdncbibaaGreat
/- headers held against one another -/
namespace Go.Proofs.YtdkjkibdncbibaaGreat
open Go.RowKit
open Go.Lib (hid)
def hL (n : Nat) : Lit := .int .u64 (n : Int)
theorem mapM_of {α β : Type} (f : α → Option β) (g : α → β) : ∀ (l : List α), (∀ x ∈ l, f x = some (g x)) → l.mapM f = some (l.map g)
 | [], _ => rfl
 | x :: r, h => by
  rw [List.mapM_cons, h x (by simp), mapM_of f g r (fun y hy => h y (by simp [hy]))]
  rfl
theorem lits_u64 (d n : Nat) (h : n < 18446744073709551616) : Tryz.prog.keyLits (d + 1) 60 [.int .u64 (n : Int)] = some [hL n] := by
 have hu := Tryz.underlying60
 unfold Program.keyLits
 rw [hu]
 have hw : (Lit.int .u64 (n : Int)).wf = true := by
  have h1 : IntKind.u64.min = 0 := by decide
  have h2 : IntKind.u64.max = 18446744073709551615 := by decide
  simp only [Lit.wf, h1, h2, Bool.and_eq_true, decide_eq_true_eq]
  omega
 simp [hw, hL]
theorem flat_one {α β : Type} (f : α → β) : ∀ (l : List α), (l.map fun i => [f i]).flatten = l.map f
 | [] => rfl
 | x :: r => by simp only [List.map_cons, List.flatten_cons, flat_one f r]; rfl
set_option maxRecDepth 100000 in
theorem lits_16 (d : Nat) (ns : List Nat) (hn : ns.length = 16) (h : ∀ n ∈ ns, n < 18446744073709551616) : Tryz.prog.keyLits (d + 2) 66 (HV ns) = some (ns.map hL) := by
  have hu : Tryz.prog.underlying 66 = some (.array 16 60) := by kernel_rfl
  have hc : Tryz.prog.cellsOf 66 = 16 := by kernel_rfl
  have hc1 : Tryz.prog.cellsOf 60 = 1 := by kernel_rfl
  have hm : (List.range 16).mapM (fun i => Tryz.prog.keyLits (d + 1) 60 (((HV ns).drop (i * 1)).take 1)) = some ((List.range 16).map fun i => [hL (hN ns i)]) := by
    refine mapM_of _ _ _ (fun i hi => ?_)
    have hi := List.mem_range.1 hi
    have h1 : ((HV ns).drop (i * 1)).take 1 = [.int .u64 (hN ns i : Nat)] := by
      rw [Nat.mul_one, List.drop_eq_getElem_cons (by rw [HV_len]; omega)]
      simp only [List.take_succ_cons, List.take_zero]
      congr 1
      have := HV_at ns i (by omega)
      exact (List.getElem?_eq_some_iff.1 this).2
    rw [h1]
    refine lits_u64 d _ ?_
    unfold hN
    have hil : i < ns.length := by omega
    have h5 := h (ns[i]'hil) (List.getElem_mem hil)
    rw [List.getElem?_eq_getElem hil, Option.getD_some]
    exact h5
  have hf : ((List.range 16).map fun i => [hL (hN ns i)]).flatten = ns.map hL := by
    rw [flat_one]
    apply List.ext_getElem?
    intro i
    rw [List.getElem?_map, List.getElem?_map]
    by_cases hi : i < 16
    · rw [List.getElem?_range hi, List.getElem?_eq_getElem (show i < ns.length by omega)]
      simp [hN, hn, hi]
    · rw [List.getElem?_eq_none (by simpa using hi), List.getElem?_eq_none (by omega)]; rfl
  unfold Program.keyLits
  rw [hu]
  simp only [hc, hc1, HV_len, hn, if_true, hm, Option.map_some, hf]
theorem lits_hdr (d : Nat) (ns : List Nat) (hn : ns.length = 18) (h : ∀ n ∈ ns, n < 18446744073709551616) : Tryz.prog.keyLits (d + 3) 68 (HV ns) = some (ns.map hL) := by
 obtain ⟨a, b, r, rfl⟩ : ∃ a b r, ns = a :: b :: r := by
  match ns, hn with
  | a :: b :: r, _ => exact ⟨a, b, r, rfl⟩
 have hr : r.length = 16 := by simpa using hn
 have hu : Tryz.prog.underlying 68 = some (.struct (Tryz.prog.fieldsOf 68)) := by kernel_rfl
 have hfs : (Tryz.prog.fieldsOf 68).toList.map (fun f => (f.type, f.offset)) = [(60, 0), (60, 1), (66, 2)] := by kernel_rfl
 have hnm : (Tryz.prog.fieldsOf 68).all (·.name != "_") = true := by kernel_rfl
 have hc : Tryz.prog.cellsOf 68 = 18 := by kernel_rfl
 have hc1 : Tryz.prog.cellsOf 60 = 1 := by kernel_rfl
 have hc16 : Tryz.prog.cellsOf 66 = 16 := by kernel_rfl
 have h1 := lits_u64 (d + 1) a (h a (by simp))
 have h2 := lits_u64 (d + 1) b (h b (by simp))
 have h3 := lits_16 d r hr (fun n hn => h n (by simp [hn]))
 have hm : (Tryz.prog.fieldsOf 68).toList.mapM (fun f => Tryz.prog.keyLits (d + 2) f.type (((HV (a :: b :: r)).drop f.offset).take (Tryz.prog.cellsOf f.type))) = some [[hL a], [hL b], r.map hL] := by
  generalize (Tryz.prog.fieldsOf 68).toList = l at hfs ⊢
  rcases l with _ | ⟨x, _ | ⟨y, _ | ⟨z, _ | ⟨q, rr⟩⟩⟩⟩
  ·simp at hfs
  ·simp at hfs
  ·simp at hfs
  ·simp only [List.map_cons, List.map_nil, List.cons.injEq, Prod.mk.injEq, and_true] at hfs
   obtain ⟨⟨x1, x2⟩, ⟨y1, y2⟩, z1, z2⟩ := hfs
   have e1 : ((HV (a :: b :: r)).drop 0).take 1 = [.int .u64 (a : Int)] := rfl
   have e2 : ((HV (a :: b :: r)).drop 1).take 1 = [.int .u64 (b : Int)] := rfl
   have e3 : ((HV (a :: b :: r)).drop 2).take 16 = HV r := by
    show (HV r).take 16 = HV r
    exact List.take_of_length_le (by rw [HV_len]; omega)
   simp only [List.mapM_cons, List.mapM_nil, x1, x2, y1, y2, z1, z2, hc1, hc16, e1, e2, e3, h1, h2, h3]
   rfl
  ·simp at hfs
 unfold Program.keyLits
 rw [hu]
 simp only [hc, HV_len, hn, hnm, and_self, if_true, hm, Option.map_some]
 simp
theorem hL_inj {xs ys : List Nat} (h : xs.map hL = ys.map hL) : xs = ys := by
 refine List.map_inj_right (f := hL) (fun x y e => ?_) |>.1 h
 unfold hL at e
 injection e with _ e
 omega
theorem run_neq_hdr (w : World) (xs ys : List Nat) (hx : xs.length = 18) (hy : ys.length = 18) (bx : ∀ n ∈ xs, n < 18446744073709551616) (by_ : ∀ n ∈ ys, n < 18446744073709551616) :
  (binOp .neq 68 (.agg (HA xs)) (.agg (HA ys))).run Tryz.prog w = .ok (.bool (!decide (xs = ys))) w := by
 have hk : Tryz.prog.keyTypeAt 3 68 = true := by kernel_rfl
 have hE := run_equalIn_deep (P := Tryz.prog) 9997 3 68 hk
 have hf : ∀ zs : List Nat, zs.length = 18 → (Value.agg (HA zs)).formed Tryz.prog 68 = true := by
  intro zs hz
  have hu : Tryz.prog.underlying 68 = some (.struct (Tryz.prog.fieldsOf 68)) := by kernel_rfl
  have hc : Tryz.prog.cellsOf 68 = 18 := by kernel_rfl
  simp only [Value.formed, hu, hc, HA_size, hz]
  rfl
 have hcl : ∀ zs : List Nat, (Value.agg (HA zs)).cells.toList = HV zs := fun zs => by simp [Value.cells, HA, HV]
 obtain ⟨r, hr, hrr⟩ := hE w 3 3 (.agg (HA xs)) (.agg (HA ys)) (xs.map hL) (ys.map hL) (hf xs hx) (hf ys hy) (by rw [hcl]; exact lits_hdr 0 xs hx bx) (by rw [hcl]; exact lits_hdr 0 ys hy by_)
 have hr2 : r = decide (xs = ys) := by
  cases r with
  | true => exact (decide_eq_true (hL_inj (hrr.1 rfl))).symm
  | false => exact (decide_eq_false (fun e => by have := hrr.2 (by rw [e]); cases this)).symm
 show (do pure (Value.bool (!(← Op.equal 68 (.agg (HA xs)) (.agg (HA ys))))) : Sem Value).run Tryz.prog w = _
 have h3 : (Op.equal 68 (.agg (HA xs)) (.agg (HA ys))).run Tryz.prog w = .ok r w := hr
 simp only [Sem.run_bind, Sem.run_pure, h3, Result.andThen_ok, hr2]
theorem exec_neq_hdr {ρ : Operand → Value} {o : Oper} {w : World} (x y : Operand) (U : TypeId) (ho : o.op = .binOp .neq 68 x y U) (xs ys : List Nat) (hx : ρ x = .agg (HA xs)) (hy : ρ y = .agg (HA ys)) (lx : xs.length = 18) (ly : ys.length = 18) (bx : ∀ n ∈ xs, n < 18446744073709551616) (by_ : ∀ n ∈ ys, n < 18446744073709551616) (b : Bool) (hb : (!decide (xs = ys)) = b) :
  (execOp ρ o).run Tryz.prog w = .ok (.value (.bool b)) w := by
 unfold execOp
 rw [ho]
 simp only [hx, hy]
 have hg := run_eqGuard_agg (P := Tryz.prog) w .neq 68 x y (HA xs) (HA ys) (by kernel_rfl)
 simp only [Sem.run_bind, hg, Result.andThen_ok, run_neq_hdr w xs ys lx ly bx by_, hb, Sem.run_pure]
end Go.Proofs.YtdkjkibdncbibaaGreat
