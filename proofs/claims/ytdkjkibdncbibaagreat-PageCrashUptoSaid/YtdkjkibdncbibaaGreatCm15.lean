/- pages looked at and put, roots; how many are changed and held -/
import Derived.Test.YtdkjkibdncbibaaGreatCm14
namespace Go.Proofs.YtdkjkibdncbibaaGreat
open Go.RowKit
open Go.Lib (hid)
def geR (k : PK) (v : PV) (n : Int) : List Int × Int := if inU v n = true then cuR k v n else (zeros 256, 2)
def geV (k : PK) (v : PV) (n : Int) : List (Int × List Int) × List Int := if inU v n = true then cuV k v n else (v.ca, v.od)
def GeEnds (k : PK) (v : PV) (n : Int) (w : World) (e : Ending) (w' : World) : Prop :=
 e = .returned (.tuple #[.agg (ArrU8 (geR k v n).1), .int .i64 (geR k v n).2]) ∧ ∃ ov', PE k v w { v with ov := ov', ca := (geV k v n).1, od := (geV k v n).2 } w'
theorem inU_rng {k : PK} {v : PV} {n : Int} (h : inU v n = true) (hu : usedN v ≤ k.nb - k.sz) : 0 ≤ n ∧ n < k.nb - k.sz := by
 unfold inU at h
 simp only [Bool.and_eq_true, decide_eq_true_eq] at h
 omega
set_option maxRecDepth 100000 in
set_option maxHeartbeats 2000000 in
theorem get_any (k : PK) (v : PV) (n : Int) (w : World) (h : PgS k v w) (hi : PIn k v) (hu : usedN v ≤ k.nb - k.sz) (hn : n ≤ 9223372036854775807) :
  Calls Tryz.prog 20 #[.pointer (some ⟨k.P, 0, none⟩), .int .i64 n] w (GeEnds k v n w) := by
 have hz := zero35
 have HI35 := hid (show (Tryz.prog.info? 50).map (·.size) = some 256 by kernel_rfl)
 have SZ := hid (show (ArrU8 (zeros 256)).size = 256 by rw [ArrU8_size, zeros_len])
 have hbl : ∀ u : World, (Instr.build 50 #[]).run Tryz.prog u = .ok (.agg (ArrU8 (zeros 256))) u := fun u => by kernel_rfl
 have hb1 : Below w.heap.size w (w.alloc (.cells (ArrU8 (zeros 256)) 50)) := (Below.refl _ _).alloc (Nat.le_refl _) _
 have h1 := h.fresh hb1
 have hx := heap_alloc_new w (.cells (ArrU8 (zeros 256)) 50)
 have HX := hid hx
 have HB1 := hid hb1
 have HH := hid h
 have HIN := hid (inUse_any k v n _ h1 hn)
 cases hin : inU v n with
 | false =>
  have HR := hid (show geR k v n = (zeros 256, 2) ∧ geV k v n = (v.ca, v.od) by unfold geR geV; rw [hin]; exact ⟨rfl, rfl⟩)
  rw [hin] at HIN
  clear h hi hb1 h1 hx hin hu hn
  go_enter Tryz.func20, Tryz.ntmps20
  go_wp2_with fail
  refine HIN.out.mono ?_
  rintro e w' ⟨rfl, rfl⟩
  go_wp2_with (first | (refine wpList_store_row rfl 50 (Operand.tmp 4) (Operand.tmp 10) rfl w.heap.size (ArrU8 (zeros 256)) rfl rfl 50 (ArrU8 (zeros 256)) HX.out (by rw [HI35.out, SZ.out]) rfl (ArrU8_one _) ?_) | fail)
  refine bodyPost_ret (results_cell_tmp (p := 4) (q := 5) (ty := 50) rfl _ _ w.heap.size 50 (ArrU8 (zeros 256)) (0, 0) _ rfl (setRow_heap _ _ _ _ _ _ HX.out) Tryz.underlying50 rfl (by rw [HI35.out, SZ.out])) rfl ⟨by rw [HR.out.1]; rfl, v.ov, ?_⟩
  rw [HR.out.2]
  exact PE.same HH.out (below_setRow HB1.out (Nat.le_refl _) _)
 | true =>
  have HR := hid (show geR k v n = cuR k v n ∧ geV k v n = cuV k v n by unfold geR geV; rw [hin]; exact ⟨rfl, rfl⟩)
  rw [hin] at HIN
  have HRL := hid (cuR_len h hi n)
  have HC := hid (current_any k v n _ h1 hi (inU_rng hin hu))
  clear h hi hb1 h1 hx hin hu hn
  go_enter Tryz.func20, Tryz.ntmps20
  go_wp2_with fail
  refine HIN.out.mono ?_
  rintro e w' ⟨rfl, rfl⟩
  go_wp2_with fail
  refine HC.out.mono ?_
  rintro e wa ⟨rfl, ov', hpe⟩
  have HXA := hid ((hpe.2.1.block w.heap.size (Array.getElem?_eq_some_iff.1 HX.out).1 (fun hp => by have := (HH.out.lt _ hp).2; omega)).trans HX.out)
  have HWL := hid (Array.getElem?_eq_some_iff.1 HX.out).1
  have HPE := hid hpe
  rw [← HR.out.2] at HPE
  have HR1 := hid HR.out.1
  clear hpe HC HIN
  generalize cuR k v n = R at *
  obtain ⟨R, E⟩ := R
  have SR := hid (show (ArrU8 R).size = 256 by rw [ArrU8_size]; exact HRL.out)
  go_wp2_with (first | (refine wpList_store_row rfl 50 (Operand.tmp 4) (Operand.tmp 14) rfl w.heap.size (ArrU8 R) rfl rfl 50 (ArrU8 (zeros 256)) HXA.out (by rw [HI35.out, SR.out]) (by rw [SR.out, SZ.out]) (ArrU8_one _) ?_) | fail)
  refine bodyPost_ret (results_cell_tmp (p := 4) (q := 5) (ty := 50) rfl _ _ w.heap.size 50 (ArrU8 R) (0, 0) _ rfl (setRow_heap _ _ _ _ _ _ HXA.out) Tryz.underlying50 rfl (by rw [HI35.out, SR.out])) rfl ⟨by rw [HR1.out]; rfl, ov', ?_⟩
  exact PE.own HB1.out HH.out HPE.out w.heap.size (Nat.le_refl _) HWL.out _
def puV (k : PK) (v : PV) (n : Int) (b : List Int) : List (Int × List Int) × List Int × List (Int × List Int) := if inU v n = true then ((cmV k v n).1, (cmV k v n).2, stV k v n b) else (v.ca, v.od, v.ch)
def PuEnds (k : PK) (v : PV) (n : Int) (b : List Int) (w : World) (e : Ending) (w' : World) : Prop :=
 e = .returned (.int .i64 (if inU v n = true then 0 else 2)) ∧ ∃ ov', PE k v w { v with ov := ov', ca := (puV k v n b).1, od := (puV k v n b).2.1, ch := (puV k v n b).2.2 } w'
set_option maxRecDepth 100000 in
set_option maxHeartbeats 2000000 in
theorem put_any (k : PK) (v : PV) (n : Int) (b : List Int) (w : World) (h : PgS k v w) (hi : PIn k v) (hu : usedN v ≤ k.nb - k.sz) (hn : n ≤ 9223372036854775807) (hb : b.length = 256) :
  Calls Tryz.prog 23 #[.pointer (some ⟨k.P, 0, none⟩), .int .i64 n, .agg (ArrU8 b)] w (PuEnds k v n b w) := by
 have HI35 := hid (show (Tryz.prog.info? 50).map (·.size) = some 256 by kernel_rfl)
 have SB := hid (show (ArrU8 b).size = 256 by rw [ArrU8_size, hb])
 have hb1 : Below w.heap.size w (w.alloc (.cells (ArrU8 b) 50)) := (Below.refl _ _).alloc (Nat.le_refl _) _
 have h1 := h.fresh hb1
 have HX := hid (heap_alloc_new w (.cells (ArrU8 b) 50))
 have HB1 := hid hb1
 have HH := hid h
 have HIN := hid (inUse_any k v n _ h1 hn)
 cases hin : inU v n with
 | false =>
  have HR := hid (show puV k v n b = (v.ca, v.od, v.ch) by unfold puV; rw [hin]; rfl)
  rw [hin] at HIN
  have HF := hid hin
  clear h hi hb1 h1 hin hu hn
  go_enter Tryz.func23, Tryz.ntmps23
  go_wp2_with fail
  refine HIN.out.mono ?_
  rintro e w' ⟨rfl, rfl⟩
  go_wp2_with fail
  go_ret
  refine ⟨by rw [HF.out]; rfl, v.ov, ?_⟩
  rw [HR.out]
  exact PE.same HH.out HB1.out
 | true =>
  have HR := hid (show puV k v n b = ((cmV k v n).1, (cmV k v n).2, stV k v n b) by unfold puV; rw [hin]; rfl)
  rw [hin] at HIN
  have HF := hid hin
  have HC := hid (set_any k v n b _ h1 hi (inU_rng hin hu) hb)
  clear h hi hb1 h1 hin hu hn
  go_enter Tryz.func23, Tryz.ntmps23
  go_wp2_with fail
  refine HIN.out.mono ?_
  rintro e w' ⟨rfl, rfl⟩
  go_wp2_with (first | (refine wpList_load_row rfl 50 (Operand.tmp 5) rfl w.heap.size rfl 50 (ArrU8 b) (0, 0) _ HX.out Tryz.underlying50 rfl (by rw [HI35.out, SB.out]) ?_) | fail)
  refine HC.out.mono ?_
  rintro e wa ⟨rfl, ov', hpe⟩
  have HPE := hid hpe
  clear hpe
  go_wp2_with fail
  go_ret
  refine ⟨by rw [HF.out]; rfl, ov', ?_⟩
  rw [HR.out]
  exact PE.pre HB1.out HPE.out
theorem PC_root {k : PK} {v : PV} (h0 : v.h0.length = 18) (h1 : v.h1.length = 18) (i : Nat) (hi : i < 16) : (PC k v)[28 + i]? = some (.int .u64 (hN v.h1 (2 + i) : Nat)) := by
 rw [show 28 + i = 26 + (2 + i) by omega, PC_h1 _ h0 h1 (by omega)]
 exact HV_at _ _ (by omega)
set_option maxRecDepth 100000 in
set_option maxHeartbeats 1000000 in
theorem root_any (k : PK) (v : PV) (n : Int) (w : World) (h : PgS k v w) :
  Calls Tryz.prog 28 #[.pointer (some ⟨k.P, 0, none⟩), .int .i64 n] w fun e w' => e = .returned (.int .u64 (if 0 ≤ n ∧ n < 16 then (hN v.h1 (2 + n.toNat) : Nat) else 0)) ∧ w = w' := by
 by_cases h0 : n < 0
 ·have HR := hid (show ¬ (0 ≤ n ∧ n < 16) by omega)
  clear h
  go_enter Tryz.func28, Tryz.ntmps28
  go_wp2_with fail
  go_ret
  exact ⟨rfl, rfl⟩
 ·by_cases h1 : n ≥ 16
  ·have HR := hid (show ¬ (0 ≤ n ∧ n < 16) by omega)
   clear h
   go_enter Tryz.func28, Tryz.ntmps28
   go_wp2_with fail
   go_ret
   exact ⟨rfl, rfl⟩
  ·obtain ⟨m, rfl⟩ : ∃ m : Nat, n = (m : Int) := ⟨n.toNat, by omega⟩
   have hm : m < 16 := by omega
   have c := (cell_of_row _ k.P (28 + m) _ _ _ h.box).trans (PC_root h.l0 h.l1 m hm)
   have HR := hid (show 0 ≤ (m : Int) ∧ (m : Int) < 16 by omega)
   clear h h0 h1
   go_enter Tryz.func28, Tryz.ntmps28
   go_wp2_with fail
   go_ret
   exact ⟨rfl, rfl⟩
end Go.Proofs.YtdkjkibdncbibaaGreat
/- how many pages are changed, how many are held; changes taken back -/
namespace Go.Proofs.YtdkjkibdncbibaaGreat
open Go.RowKit
open Go.Lib (hid)
theorem run_len_g {α : Type} {enc : α → Value} {u : World} {M : Nat} {kvs : List (Int × α)} {P : Program} {mT kT eT ty : TypeId} (hm : P.underlying mT = some (.map kT eT)) (h : MapG enc u M kvs) : (Builtin.len_ #[mT] ty #[.map (some M)]).run P u = .ok (.int .i64 (kvs.length : Int)) u := by
 obtain ⟨es, c, h1, h2⟩ := h.len
 have hg : (getObj M).run P u = .ok (.map es c) u := by simp [getObj, Sem.run, h1]
 simp [Builtin.len_, run_underlying hm, hg, Result.andThen, h2, goInt]
def setArr (C : Array Value) : Nat → List Value → Array Value
 | _, [] => C
 | o, v :: r => setArr (C.setIfInBounds o v) (o + 1) r
theorem heap_setCells (g : Nat) (T : TypeId) : ∀ (vs : List Value) (o : Nat) (w : World) (C : Array Value), w.heap[g]? = some (.cells C T (0, 0)) → (w.setCells g o vs).heap[g]? = some (.cells (setArr C o vs) T (0, 0))
 | [], _, _, _, h => h
 | v :: r, o, w, C, h => heap_setCells g T r (o + 1) _ _ (heap_setCell_same w g o C T v h)
theorem setArr_mid (D : List Value) : ∀ (vs B A : List Value), B.length = vs.length → setArr (A ++ B ++ D).toArray A.length vs = (A ++ vs ++ D).toArray
 | [], [], A, _ => rfl
 | [], _ :: _, _, h => by simp at h
 | _ :: _, [], _, h => by simp at h
 | v :: r, b :: B, A, h => by
  have ih := setArr_mid D r B (A ++ [v]) (by simpa using h)
  unfold setArr
  rw [show (A ++ b :: B ++ D).toArray.setIfInBounds A.length v = ((A ++ [v]) ++ B ++ D).toArray by simp, show A.length + 1 = (A ++ [v]).length by simp, ih]
  simp
theorem Chg.setCells {F : Nat → Prop} {a : World} (g : Nat) : ∀ (vs : List Value) (o : Nat) (b : World), Chg F a b → F g → Chg F a (b.setCells g o vs)
 | [], _, _, h, _ => h
 | v :: r, o, _, h, hg => Chg.setCells g r (o + 1) _ (h.setCell ⟨g, o, none⟩ v (.inl hg)) hg
section
variable {k : PK} {v : PV} {w w' : World}
theorem PC_seth1 (h0 : v.h0.length = 18) (h1 : v.h1.length = 18) (ns : List Nat) (hn : ns.length = 18) : setArr (PC k v) 26 (HV ns) = PC k { v with h1 := ns } := by
 have h := setArr_mid [.map (some v.Hm)] (HV ns) (HV v.h1) ([.pointer (some ⟨k.Pl, 0, none⟩), .pointer (some ⟨k.D, 0, none⟩), .int .i64 k.sz, .map (some v.Lm), .int .i64 v.en, .int .i64 k.most, .map (some v.C), v.ov] ++ HV v.h0) (by rw [HV_len, HV_len, h1, hn])
 rw [show ([.pointer (some ⟨k.Pl, 0, none⟩), .pointer (some ⟨k.D, 0, none⟩), .int .i64 k.sz, .map (some v.Lm), .int .i64 v.en, .int .i64 k.most, .map (some v.C), v.ov] ++ HV v.h0 : List Value).length = 26 by simp [HV_len, h0]] at h
 exact h
theorem PC_seth0 (h0 : v.h0.length = 18) (ns : List Nat) (hn : ns.length = 18) : setArr (PC k v) 8 (HV ns) = PC k { v with h0 := ns } := by
 have h := setArr_mid (HV v.h1 ++ [.map (some v.Hm)]) (HV ns) (HV v.h0) ([.pointer (some ⟨k.Pl, 0, none⟩), .pointer (some ⟨k.D, 0, none⟩), .int .i64 k.sz, .map (some v.Lm), .int .i64 v.en, .int .i64 k.most, .map (some v.C), v.ov]) (by rw [HV_len, HV_len, h0, hn])
 simp only [← List.append_assoc] at h
 exact h
theorem PC_set44 (h0 : v.h0.length = 18) (h1 : v.h1.length = 18) (x : Nat) : (PC k v).setIfInBounds 44 (.map (some x)) = PC k { v with Hm := x } := by
 have h := setArr_mid [] [.map (some x)] [.map (some v.Hm)] ([.pointer (some ⟨k.Pl, 0, none⟩), .pointer (some ⟨k.D, 0, none⟩), .int .i64 k.sz, .map (some v.Lm), .int .i64 v.en, .int .i64 k.most, .map (some v.C), v.ov] ++ HV v.h0 ++ HV v.h1) rfl
 rw [show ([.pointer (some ⟨k.Pl, 0, none⟩), .pointer (some ⟨k.D, 0, none⟩), .int .i64 k.sz, .map (some v.Lm), .int .i64 v.en, .int .i64 k.most, .map (some v.C), v.ov] ++ HV v.h0 ++ HV v.h1 : List Value).length = 44 by simp [HV_len, h0, h1], List.append_nil, List.append_nil] at h
 exact h
theorem PgS.rg0 (h : PgS k v w) : w.rangeAt k.P 8 (HV v.h0) := fun j x hj => by
 have hl := (List.getElem?_eq_some_iff.1 hj).1
 rw [HV_len, h.l0] at hl
 rw [cell_of_row _ _ _ _ _ _ h.box, PC_h0 j h.l0 hl]
 exact hj
theorem box_rg {u : World} (h0 : v.h0.length = 18) (h1 : v.h1.length = 18) (hb : u.heap[k.P]? = some (.cells (PC k v) 82 (0, 0))) : u.rangeAt k.P 8 (HV v.h0) ∧ u.rangeAt k.P 26 (HV v.h1) := by
 constructor
 ·intro j x hj
  have hl := (List.getElem?_eq_some_iff.1 hj).1
  rw [HV_len, h0] at hl
  rw [cell_of_row _ _ _ _ _ _ hb, PC_h0 j h0 hl]
  exact hj
 ·intro j x hj
  have hl := (List.getElem?_eq_some_iff.1 hj).1
  rw [HV_len, h1] at hl
  rw [cell_of_row _ _ _ _ _ _ hb, PC_h1 j h0 h1 hl]
  exact hj
end
/-- the headers' numbers are such -/
structure HIn (v : PV) : Prop where
 b0 : ∀ n ∈ v.h0, n < 18446744073709551616
 b1 : ∀ n ∈ v.h1, n < 18446744073709551616
def chN (v : PV) : Int := (v.ch.length : Int) + (if v.h1 = v.h0 then 0 else 1)
set_option maxRecDepth 100000 in
set_option maxHeartbeats 1000000 in
theorem changed_any (k : PK) (v : PV) (w : World) (h : PgS k v w) (hb : HIn v) (hc : v.ch.length ≤ 1048576) :
  Calls Tryz.prog 25 #[.pointer (some ⟨k.P, 0, none⟩)] w fun e w' => e = .returned (.int .i64 (chN v)) ∧ Below w.heap.size w w' := by
 have HIH := hid (show (Tryz.prog.info? 68).map (·.size) = some (HV v.h0).length by rw [HV_len, h.l0]; kernel_rfl)
 have HIH1 := hid (show (Tryz.prog.info? 68).map (·.size) = some (HV v.h1).length by rw [HV_len, h.l1]; kernel_rfl)
 have H := hid h
 have HB := hid hb
 have HC := hid hc
 have HA1 := hid (show (HV v.h1).toArray = HA v.h1 from rfl)
 have HA0 := hid (show (HV v.h0).toArray = HA v.h0 from rfl)
 clear h hb hc
 obtain ⟨b, hbb⟩ : ∃ b : Bool, b = !decide (v.h1 = v.h0) := ⟨_, rfl⟩
 have HBB := hid hbb
 have HN := hid (show chN v = (v.ch.length : Int) + (if b then 1 else 0) by rw [hbb]; unfold chN; by_cases e : v.h1 = v.h0 <;> simp [e])
 clear hbb
 go_enter Tryz.func25, Tryz.ntmps25
 go_wp2_with fail
 refine wp_region_held_drew (S := fun u => u.heap[k.P]? = some (.cells (PC k v) 82 (0, 0))) (by kernel_rfl) ((show w.drew.heap[k.P]? = some (.cells (PC k v) 82 (0, 0)) from H.out.box)) (fun hHeld => ?_)
 refine tk (i := 0) (oi := ⟨some 3, .move (.tmp 0), 30, "page.go:100", #[], none⟩) (v := ?_) (Or.inl ⟨by rfl, ?_⟩) ?_
 rotate_left 1
 ·(intro u hSw; go_simp; try with_reducible rfl)
 try simp only [Act.put, sA, sB, sC]
 refine tk (i := 1) (oi := ⟨some 4, .nilCheck (.tmp 3), 0, "page.go:100", #[⟨0, .data⟩], none⟩) (v := ?_) (Or.inl ⟨by rfl, ?_⟩) ?_
 rotate_left 1
 ·(intro u hSw; go_simp; try with_reducible rfl)
 try simp only [Act.put, sA, sB, sC]
 refine tk (i := 2) (oi := ⟨some 5, .fieldAddr 82 (.tmp 4) 6, 0, "page.go:100", #[⟨1, .data⟩], none⟩) (v := ?_) (Or.inl ⟨by rfl, ?_⟩) ?_
 rotate_left 1
 ·(intro u hSw; go_simp; try with_reducible rfl)
 try simp only [Act.put, sA, sB, sC]
 refine tk (i := 3) (oi := ⟨some 6, .load 68 (.tmp 5), 68, "page.go:100", #[⟨2, .data⟩], none⟩) (v := ?_) (Or.inl ⟨by rfl, ?_⟩) ?_
 rotate_left 1
 ·intro u hSw
  refine exec_load_mid 68 (Operand.tmp 5) ?_ k.P 26 ?_ (HV v.h1) _ (box_rg H.out.l0 H.out.l1 hSw).2 Tryz.underlying68 rfl HIH1.out <;> rfl
 try simp only [Act.put, sA, sB, sC]
 refine tk (i := 4) (oi := ⟨some 7, .move (.tmp 0), 30, "page.go:100", #[], none⟩) (v := ?_) (Or.inl ⟨by rfl, ?_⟩) ?_
 rotate_left 1
 ·(intro u hSw; go_simp; try with_reducible rfl)
 try simp only [Act.put, sA, sB, sC]
 refine tk (i := 5) (oi := ⟨some 8, .nilCheck (.tmp 7), 0, "page.go:100", #[⟨4, .data⟩], none⟩) (v := ?_) (Or.inl ⟨by rfl, ?_⟩) ?_
 rotate_left 1
 ·(intro u hSw; go_simp; try with_reducible rfl)
 try simp only [Act.put, sA, sB, sC]
 refine tk (i := 6) (oi := ⟨some 9, .fieldAddr 82 (.tmp 8) 5, 0, "page.go:100", #[⟨5, .data⟩], none⟩) (v := ?_) (Or.inl ⟨by rfl, ?_⟩) ?_
 rotate_left 1
 ·(intro u hSw; go_simp; try with_reducible rfl)
 try simp only [Act.put, sA, sB, sC]
 refine tk (i := 7) (oi := ⟨some 10, .load 68 (.tmp 9), 68, "page.go:100", #[⟨6, .data⟩], none⟩) (v := ?_) (Or.inl ⟨by rfl, ?_⟩) ?_
 rotate_left 1
 ·intro u hSw
  refine exec_load_mid 68 (Operand.tmp 9) ?_ k.P 8 ?_ (HV v.h0) _ (box_rg H.out.l0 H.out.l1 hSw).1 Tryz.underlying68 rfl HIH.out <;> rfl
 try simp only [Act.put, sA, sB, sC]
 refine tk (i := 8) (oi := ⟨some 11, .binOp BinOp.neq 68 (.tmp 6) (.tmp 10) 68, 4, "page.go:100", #[⟨3, .data⟩, ⟨7, .data⟩], none⟩) (v := .bool b) (Or.inl ⟨by rfl, ?_⟩) ?_
 ·intro u hSw
  exact exec_neq_hdr (Operand.tmp 6) (Operand.tmp 10) 68 rfl v.h1 v.h0 rfl rfl H.out.l1 H.out.l0 HB.out.b1 HB.out.b0 b HBB.out.symm
 try simp only [Act.put, sA, sB, sC]
 refine wpAnyH_done (by kernel_rfl) ?_ _
 have p44 := (cell_of_row w.drew k.P 44 _ _ _ H.out.box).trans (PC_44 H.out.l0 H.out.l1)
 have hln := run_len_g (P := Tryz.prog) (ty := 3) Tryz.underlying76 (H.out.ch.of (w' := w.drew) rfl)
 have HW := hid (show Below w.heap.size w w.drew from (Below.refl _ _).drew)
 have hlb := HC.out
 generalize hnn : v.ch.length = m at *
 clear hnn
 cases b with
 | true =>
  go_wp2_with fail
  go_ret
  exact ⟨by rw [HN.out]; rfl, HW.out⟩
 | false =>
  go_wp2_with fail
  go_ret
  exact ⟨by rw [HN.out]; simp, HW.out⟩
end Go.Proofs.YtdkjkibdncbibaaGreat
/- changes taken back; pages given and given back -/
namespace Go.Proofs.YtdkjkibdncbibaaGreat
open Go.RowKit
open Go.Lib (hid)
theorem run_mkmap_blk (u : World) : (Instr.makeMap 76 none).run Tryz.prog u = .ok (.map (some u.heap.size)) (u.alloc (.map #[] 0)) := by kernel_rfl
theorem Chg.two {F : Nat → Prop} {a : World} {P x : Nat} {vs : List Value} (hP : F P) : Chg F a (((a.alloc (.map #[] 0)).setCells P 26 vs).setCell ⟨P, 44, none⟩ (.map (some x))) :=
 (Chg.setCells P vs 26 _ ((Chg.refl F a).alloc _) hP).setCell ⟨P, 44, none⟩ _ (.inl hP)
/-- the box written, with maps that are new or stay -/
theorem PgS.rebox {k : PK} {v : PV} {w w' : World} (h : PgS k v w) {h0' h1' : List Nat} {en' : Int} {Lm' Hm' : Nat} {lg' : List (Int × Int)} {ch' : List (Int × List Int)} (hc : Chg (fun g => g = k.P) w w')
  (hb : w'.heap[k.P]? = some (.cells (PC k { v with h0 := h0', h1 := h1', en := en', Lm := Lm', Hm := Hm', lg := lg', ch := ch' }) 82 (0, 0))) (l0 : h0'.length = 18) (l1 : h1'.length = 18)
  (hL : (Lm' = v.Lm ∧ lg' = v.lg) ∨ (w.heap.size ≤ Lm' ∧ MapG (Value.int .i64) w' Lm' lg')) (hH : (Hm' = v.Hm ∧ ch' = v.ch) ∨ (w.heap.size ≤ Hm' ∧ MapG blkV w' Hm' ch')) (hne : Lm' ≠ Hm') :
  PE k v w { v with h0 := h0', h1 := h1', en := en', Lm := Lm', Hm := Hm', lg := lg', ch := ch' } w' := by
 obtain ⟨u, hu⟩ := h.ap
 have hn : ∀ g, u g ≠ 1 → ¬ (g = k.P) := fun g h1 e => h1 (by rw [e]; exact hu.p)
 have hB := h.hB
 have hLl : Lm' = v.Lm ∨ w.heap.size ≤ Lm' := hL.imp (fun h => h.1) (fun h => h.1)
 have hHl : Hm' = v.Hm ∨ w.heap.size ≤ Hm' := hH.imp (fun h => h.1) (fun h => h.1)
 refine ⟨{ h with ls := h.ls.chg hc (fun g hg => hn g (by rw [hu.l g hg]; decide)), box := hb, lg := ?_, ca := h.ca.of (hc.block _ h.ca.lt (hn _ (by rw [hu.c]; decide))), ch := ?_, ord := h.ord.chg hc (fun g hg => hn g (by rw [hu.o g hg]; decide)), l0 := l0, l1 := l1, bm := ?_, bh := ?_, ap := ⟨fun g => if g < w.heap.size then u g else if g = Lm' then 2 else 4, ?_, ?_, ?_, ?_, ?_, ?_⟩ }, hc.mono (fun g e => .inr (.inl e)), ?_⟩
 ·rcases hL with ⟨rfl, rfl⟩ | ⟨_, hm⟩
  ·exact h.lg.of (hc.block _ h.lg.lt (hn _ (by rw [hu.m]; decide)))
  ·exact hm
 ·rcases hH with ⟨rfl, rfl⟩ | ⟨_, hm⟩
  ·exact h.ch.of (hc.block _ h.ch.lt (hn _ (by rw [hu.h]; decide)))
  ·exact hm
 ·show k.B ≤ Lm'
  rcases hLl with rfl | e
  ·exact h.bm
  ·omega
 ·show k.B ≤ Hm'
  rcases hHl with rfl | e
  ·exact h.bh
  ·omega
 ·intro g hg
  rw [if_pos (h.ls.lt g hg).2]; exact hu.l g hg
 ·rw [if_pos h.ltP]; exact hu.p
 ·show (if Lm' < w.heap.size then u Lm' else if Lm' = Lm' then 2 else 4) = 2
  rcases hLl with e | e
  ·rw [if_pos (by rw [e]; exact h.lg.lt), e]; exact hu.m
  ·rw [if_neg (by omega), if_pos rfl]
 ·show (if v.C < w.heap.size then _ else _) = 3
  rw [if_pos h.ca.lt]; exact hu.c
 ·show (if Hm' < w.heap.size then u Hm' else if Hm' = Lm' then 2 else 4) = 4
  rcases hHl with e | e
  ·rw [if_pos (by rw [e]; exact h.ch.lt), e]; exact hu.h
  ·rw [if_neg (by omega), if_neg (fun e => hne e.symm)]
 ·intro g hg
  rw [if_pos (h.ord.lt g hg).2]; exact hu.o g hg
 ·rintro g (h1 | h1 | h1 | h1 | h1 | h1)
  ·exact .inl (.inl h1)
  ·exact .inl (.inr (.inl h1))
  ·rcases hLl with e | e
   ·exact .inl (.inr (.inr (.inl (h1.trans e))))
   ·exact .inr (by rw [show g = Lm' from h1]; exact e)
  ·exact .inl (.inr (.inr (.inr (.inl h1))))
  ·rcases hHl with e | e
   ·exact .inl (.inr (.inr (.inr (.inr (.inl (h1.trans e))))))
   ·exact .inr (by rw [show g = Hm' from h1]; exact e)
  ·exact .inl (.inr (.inr (.inr (.inr (.inr h1)))))
theorem PgS.mh {k : PK} {v : PV} {w : World} (h : PgS k v w) : v.Lm ≠ v.Hm := by
 obtain ⟨u, hu⟩ := h.ap
 intro e
 have h1 := hu.m
 have h2 := hu.h
 rw [e] at h1
 omega
theorem MapG.empty {α : Type} (enc : α → Value) (w : World) : MapG enc (w.alloc (.map #[] 0)) w.heap.size [] :=
 ⟨#[], 0, heap_alloc_new _ _, rfl, MapKept.stamped_empty 0⟩
def AbEnds (k : PK) (v : PV) (w : World) (e : Ending) (w' : World) : Prop :=
 e = .returned (.tuple #[]) ∧ ∃ H, PE k v w { v with h1 := v.h0, Hm := H, ch := [] } w'
set_option maxRecDepth 100000 in
set_option maxHeartbeats 1000000 in
theorem abort_any (k : PK) (v : PV) (w : World) (h : PgS k v w) :
  Calls Tryz.prog 21 #[.pointer (some ⟨k.P, 0, none⟩)] w (AbEnds k v w) := by
 have HIH := hid (show (Tryz.prog.info? 68).map (·.size) = some (HV v.h0).length by rw [HV_len, h.l0]; kernel_rfl)
 have HIH2 := hid (show (Tryz.prog.info? 68).map (·.size) = some (HV v.h0).toArray.size by rw [List.size_toArray, HV_len, h.l0]; kernel_rfl)
 have H := hid h
 have hrg := h.rg0
 have HRG := hid hrg
 have h1 : (w.alloc (.map #[] 0)).heap[k.P]? = some (.cells (PC k v) 82 (0, 0)) := (heap_alloc_old _ _ h.ltP).trans h.box
 have HB1 := hid h1
 have hth : (w.alloc (.map #[] 0)).there k.P 26 (HV v.h0).toArray.size := fun j hj => by
  rw [List.size_toArray, HV_len, h.l0] at hj
  rw [cell_of_row _ _ _ _ _ _ h1, PC_h1 j h.l0 h.l1 hj, HV_at _ _ (by rw [h.l1]; exact hj)]
  exact ⟨rfl, frozen_of_row _ _ _ _ _ h1⟩
 have HTH := hid hth
 have hb2 := heap_setCells k.P 82 (HV v.h0) 26 _ _ h1
 rw [PC_seth1 h.l0 h.l1 v.h0 h.l0] at hb2
 have HB2 := hid hb2
 have c44 := (cell_of_row _ k.P 44 _ _ _ hb2).trans (PC_44 (k := k) (v := { v with h1 := v.h0 }) h.l0 h.l0)
 have f44 := frozen_of_row _ k.P 44 _ _ hb2
 have H1C := hid (all_oneCell_toArray (cs := HV v.h0) (fun x hx => by obtain ⟨n, _, rfl⟩ := List.mem_map.1 hx; rfl))
 have hmk := run_mkmap_blk
 clear h h1 hrg hth hb2
 go_enter Tryz.func21, Tryz.ntmps21
 go_wp2_with (first | (refine wpList_load_mid rfl 68 (Operand.tmp 6) rfl k.P 8 rfl (HV v.h0) _ HRG.out Tryz.underlying68 rfl HIH.out ?_) | (refine wpList_store_mid rfl 68 (Operand.tmp 10) (Operand.tmp 7) rfl k.P 26 (HV v.h0).toArray rfl rfl HTH.out HIH2.out H1C.out ?_))
 go_end0
 refine ⟨rfl, w.heap.size, ?_⟩
 have hm : MapG blkV (((w.alloc (.map #[] 0)).setCells k.P 26 (HV v.h0)).setCell ⟨k.P, 44, none⟩ (.map (some w.heap.size))) w.heap.size [] := by
  refine (MapG.empty blkV w).of ((heap_setCell_other _ _ _ _ (by have := H.out.ltP; simp; omega)).trans ?_)
  exact (Chg.setCells k.P (HV v.h0) 26 _ (Chg.refl (fun g => g = k.P) (w.alloc (.map #[] 0))) rfl).block w.heap.size (by simp) (by have := H.out.ltP; omega)
 have hbx := heap_setCell_same _ k.P 44 _ 82 (.map (some w.heap.size)) HB2.out
 rw [PC_set44 (k := k) (v := { v with h1 := v.h0 }) H.out.l0 H.out.l0] at hbx
 exact H.out.rebox (h0' := v.h0) (h1' := v.h0) (en' := v.en) (Lm' := v.Lm) (lg' := v.lg) (Chg.two rfl) hbx H.out.l0 H.out.l0 (.inl ⟨rfl, rfl⟩) (.inr ⟨Nat.le_refl _, hm⟩) (by have := H.out.lg.lt; omega)
end Go.Proofs.YtdkjkibdncbibaaGreat
/- what holds of a pager between calls -/
namespace Go.Proofs.YtdkjkibdncbibaaGreat
open Go.RowKit
open Go.Lib (hid)
theorem nodup_len : ∀ (N : Nat) (l : List Int), l.Nodup → (∀ x ∈ l, 0 ≤ x ∧ x < (N : Int)) → l.length ≤ N
 | 0, [], _, _ => Nat.le_refl _
 | 0, x :: r, _, h => by have := h x (by simp); omega
 | N + 1, l, hn, h => by
  by_cases hm : (N : Int) ∈ l
  ·have h1 := nodup_len N (l.erase (N : Int)) (hn.erase _) (fun x hx => by
    have h2 := (hn.mem_erase_iff).1 hx
    have h3 := h x h2.2
    have h4 : x ≠ (N : Int) := h2.1
    omega)
   rw [List.length_erase_of_mem hm] at h1
   omega
  ·have h1 := nodup_len N l hn (fun x hx => by
    have h3 := h x hx
    have h4 : x ≠ (N : Int) := fun e => hm (by rw [← e]; exact hx)
    omega)
   omega
/-- a cache between calls: at most so many, each as it is stored -/
structure CI (most N : Int) (S : Int → List Int → Prop) (ca : List (Int × List Int)) (od : List Int) : Prop where
 nd : (gk ca).Nodup
 pm : od.Perm (gk ca)
 kr : ∀ n ∈ gk ca, 0 ≤ n ∧ n < N
 ml : (od.length : Int) ≤ most
 co : ∀ n l, gl ca n = some l → S n l
theorem gl_mem {α : Type} {l : List (Int × α)} {n : Int} {b : α} (h : gl l n = some b) : n ∈ gk l := by
 rcases Classical.em (n ∈ gk l) with h1 | h1
 ·exact h1
 ·rw [gl_none.2 h1] at h; cases h
section
variable {most N : Int} {S : Int → List Int → Prop} {ca : List (Int × List Int)} {od : List Int}
theorem CI.len (h : CI most N S ca od) : (ca.length : Int) ≤ most ∧ ((0 ≤ N) → (od.length : Int) ≤ N) := by
 have h1 := h.pm.length_eq
 have h2 : (gk ca).length = ca.length := by simp [gk]
 have h3 := h.ml
 refine ⟨by omega, fun hN => ?_⟩
 have h4 := nodup_len N.toNat (gk ca) h.nd (fun x hx => by have := h.kr x hx; omega)
 omega
theorem CI.nil (hm : 0 ≤ most) : CI most N S [] [] := ⟨List.nodup_nil, List.Perm.refl _, fun n hn => by simp [gk] at hn, by simpa using hm, fun n l h => by simp [gl] at h⟩
theorem CI.put (h : CI most N S ca od) (n : Int) (b : List Int) (hb : S n b) (hn : n ∈ gk ca) : CI most N S (gp ca n b) od := by
 have hk : gk (gp ca n b) = gk ca := by rw [gk_gp, if_pos hn]
 refine ⟨by rw [hk]; exact h.nd, by rw [hk]; exact h.pm, by rw [hk]; exact h.kr, h.ml, fun m l hl => ?_⟩
 rw [gl_gp] at hl
 split at hl
 ·rename_i e; injection hl with hl; rw [← hl, e]; exact hb
 ·exact h.co m l hl
theorem CI.add (h : CI most N S ca od) (n : Int) (b : List Int) (hb : S n b) (hn : n ∉ gk ca) (hr : 0 ≤ n ∧ n < N) (hl : (od.length : Int) < most) : CI most N S (gp ca n b) (od ++ [n]) := by
 have hk : gk (gp ca n b) = gk ca ++ [n] := by rw [gk_gp, if_neg hn]
 refine ⟨?_, ?_, ?_, by simp; omega, fun m l hl => ?_⟩
 ·rw [hk, List.nodup_append]
  exact ⟨h.nd, by simp, fun a ha b hb => by rw [List.mem_singleton] at hb; intro e; exact hn (by rw [← hb, ← e]; exact ha)⟩
 ·rw [hk]; exact h.pm.append_right _
 ·rw [hk]
  intro m hm
  rcases List.mem_append.1 hm with h1 | h1
  ·exact h.kr m h1
  ·rw [List.mem_singleton] at h1; rw [h1]; exact hr
 ·rw [gl_gp] at hl
  split at hl
  ·rename_i e; injection hl with hl; rw [← hl, e]; exact hb
  ·exact h.co m l hl
theorem CI.room (h : CI most N S ca od) (hm : 1 ≤ most) : CI most N S (roomP most ca od).1 (roomP most ca od).2 ∧ ((roomP most ca od).2.length : Int) < most ∧ (∀ n, n ∉ gk ca → n ∉ gk (roomP most ca od).1) := by
 unfold roomP
 by_cases hl : (od.length : Int) < most
 ·rw [if_pos hl]; exact ⟨h, hl, fun _ h => h⟩
 ·rw [if_neg hl]
  cases od with
  | nil => simp at hl; omega
  | cons x r =>
   have hk := gk_gd ca x
   have hx : x ∈ gk ca := h.pm.mem_iff.1 (by simp)
   have hlen := h.ml
   simp only [List.length_cons] at hlen
   refine ⟨⟨?_, ?_, ?_, by simp only []; omega, fun m l hl => ?_⟩, by simp only []; omega, fun n hn hm => hn ?_⟩
   ·simp only [hk]; exact h.nd.erase _
   ·simp only [hk]
    have h1 := h.pm.erase x
    rwa [List.erase_cons_head] at h1
   ·simp only [hk]; intro m hm; exact h.kr m (List.mem_of_mem_erase hm)
   ·simp only [gl_gd ca x h.nd] at hl
    split at hl
    ·cases hl
    ·exact h.co m l hl
   ·simp only [hk] at hm; exact List.mem_of_mem_erase hm
theorem CI.keep (h : CI most N S ca od) (h0 : 0 ≤ most) (n : Int) (c : List Int) (hc : S n c) (hr : 0 ≤ n ∧ n < N) : CI most N S (keepP most ca od n c).1 (keepP most ca od n c).2 := by
 unfold keepP
 by_cases hm : most = 0
 ·rw [if_pos hm]; exact h
 ·rw [if_neg hm]
  cases hg : gl ca n with
  | some b => simp only [Option.isSome_some, if_true]; exact h.put n c hc (gl_mem hg)
  | none =>
   simp only [Option.isSome_none, Bool.false_eq_true, if_false]
   have h1 := h.room (by omega)
   exact h1.1.add n c hc (h1.2.2 n (gl_none.1 hg)) hr h1.2.1
end
/-- a block's bytes -/
def Blk (_ : Int) (l : List Int) : Prop := l.length = 256 ∧ Rng l
/-- a pager between calls -/
structure PJ (k : PK) (v : PV) : Prop where
 z1 : 3 ≤ k.sz
 z2 : k.sz < k.nb
 z3 : k.nb ≤ 4096
 m0 : 0 ≤ k.most
 lgr : ∀ n x, gl v.lg n = some x → 0 ≤ x ∧ x + 256 ≤ (k.sz - 2) * 256
 ci : CI k.most (k.nb - k.sz) Blk v.ca v.od
 chl : ∀ n l, gl v.ch n = some l → l.length = 256 ∧ Rng l
 chn : (gk v.ch).Nodup
 chr : ∀ n ∈ gk v.ch, 0 ≤ n ∧ n < k.nb - k.sz
 fl : ∀ n, (v.s.f n).length = 256
 fr : ∀ n, Rng (v.s.f n)
 b0 : ∀ n ∈ v.h0, n < 18446744073709551616
 b1 : ∀ n ∈ v.h1, n < 18446744073709551616
 u0 : 1 ≤ hN v.h0 0 ∧ (hN v.h0 0 : Int) ≤ k.nb - k.sz
 u1 : 1 ≤ hN v.h1 0 ∧ (hN v.h1 0 : Int) ≤ k.nb - k.sz
 l0 : v.h0.length = 18
 l1 : v.h1.length = 18
section
variable {k : PK} {v : PV}
theorem gb_rng {f : Int → List Int} (h : ∀ n, Rng (f n)) (p : Nat) : 0 ≤ gb f p ∧ gb f p < 256 := by
 unfold gb
 exact (h _).get _
theorem arRd_rng {f : Int → List Int} (h : ∀ n, Rng (f n)) (a : Nat) : Rng (arRd f a) := by
 intro x hx
 obtain ⟨i, _, rfl⟩ := List.mem_map.1 hx
 exact gb_rng h _
theorem PJ.sl (h : PJ k v) (n : Int) : (sto k v n).length = 256 := by
 unfold sto
 split
 ·exact arRd_len _ _
 ·exact h.fl _
theorem PJ.sr (h : PJ k v) (n : Int) : Rng (sto k v n) := by
 unfold sto
 split
 ·exact arRd_rng h.fr _
 ·exact h.fr _
theorem PJ.pin (h : PJ k v) : PIn k v :=
  { z1 := h.z1, z2 := h.z2, z3 := h.z3, m0 := h.m0, lgr := h.lgr
    cal := fun n l hl => (h.ci.co n l hl).1
    chl := fun n l hl => (h.chl n l hl).1
    odl := by have h1 := h.ci.len.2 (by have := h.z2; omega); have := h.z1; have := h.z3; omega }
theorem PJ.hin (h : PJ k v) : HIn v := ⟨h.b0, h.b1⟩
theorem PJ.chlen (h : PJ k v) : v.ch.length ≤ 1048576 := by
  have h1 := nodup_len (k.nb - k.sz).toNat (gk v.ch) h.chn (fun x hx => by have := h.chr x hx; omega)
  have h2 : (gk v.ch).length = v.ch.length := by simp [gk]
  have := h.z1
  have := h.z3
  omega
def cmU (k : PK) (v : PV) (n : Int) : PV := { v with ca := (cmV k v n).1, od := (cmV k v n).2 }
def cuU (k : PK) (v : PV) (n : Int) : PV := { v with ca := (cuV k v n).1, od := (cuV k v n).2 }
def stU (k : PK) (v : PV) (n : Int) (b : List Int) : PV := { v with ca := (cmV k v n).1, od := (cmV k v n).2, ch := stV k v n b }
theorem PJ.ov (h : PJ k v) (x : Value) : PJ k { v with ov := x } := { h with }
theorem PJ.cm (h : PJ k v) (n : Int) (hn : 0 ≤ n ∧ n < k.nb - k.sz) : PJ k (cmU k v n) := by
 refine { h with ci := ?_ }
 show CI k.most (k.nb - k.sz) Blk (cmV k v n).1 (cmV k v n).2
 unfold cmV
 split
 ·exact h.ci
 ·split
  ·exact h.ci
  ·exact h.ci.keep h.m0 n _ ⟨h.sl n, h.sr n⟩ hn
theorem PJ.cu (h : PJ k v) (n : Int) (hn : 0 ≤ n ∧ n < k.nb - k.sz) : PJ k (cuU k v n) := by
 have h1 := h.cm n hn
 refine { h with ci := ?_ }
 show CI k.most (k.nb - k.sz) Blk (cuV k v n).1 (cuV k v n).2
 unfold cuV
 split
 ·exact h.ci
 ·exact h1.ci
theorem PJ.st (h : PJ k v) (n : Int) (b : List Int) (hn : 0 ≤ n ∧ n < k.nb - k.sz) (hb : b.length = 256) (hr : Rng b) : PJ k (stU k v n b) := by
 refine { h.cm n hn with chl := ?_, chn := ?_, chr := ?_ }
 ·show ∀ m l, gl (stV k v n b) m = some l → _
  unfold stV
  split
  ·intro m l hl
   rw [gl_gd v.ch n h.chn] at hl
   split at hl
   ·cases hl
   ·exact h.chl m l hl
  ·intro m l hl
   rw [gl_gp] at hl
   split at hl
   ·injection hl with hl; rw [← hl]; exact ⟨hb, hr⟩
   ·exact h.chl m l hl
 ·show (gk (stV k v n b)).Nodup
  unfold stV
  split
  ·rw [gk_gd]; exact h.chn.erase _
  ·rw [gk_gp]
   split
   ·exact h.chn
   ·rename_i hm
    rw [List.nodup_append]
    exact ⟨h.chn, by simp, fun a ha c hc => by rw [List.mem_singleton] at hc; intro e; exact hm (by rw [← hc, ← e]; exact ha)⟩
 ·show ∀ m ∈ gk (stV k v n b), _
  unfold stV
  split
  ·rw [gk_gd]; intro m hm; exact h.chr m (List.mem_of_mem_erase hm)
  ·rw [gk_gp]
   intro m hm
   split at hm
   ·exact h.chr m hm
   ·rcases List.mem_append.1 hm with h1 | h1
    ·exact h.chr m h1
    ·rw [List.mem_singleton] at h1; rw [h1]; exact hn
theorem hN_set (ns : List Nat) (i x j : Nat) : hN (ns.set i x) j = if i = j ∧ i < ns.length then x else hN ns j := by
 unfold hN
 rw [List.getElem?_set]
 by_cases h : i = j
 ·subst h
  by_cases h2 : i < ns.length <;> simp [h2]
 ·simp [h]
theorem PJ.head (h : PJ k v) (x : Nat) (hx : x < 18446744073709551616) : PJ k { v with h1 := v.h1.set 1 x } := by
 refine { h with b1 := ?_, u1 := ?_, l1 := by rw [List.length_set]; exact h.l1 }
 ·intro n hn
  rcases List.mem_or_eq_of_mem_set hn with h1 | h1
  ·exact h.b1 n h1
  ·rw [h1]; exact hx
 ·rw [hN_set, if_neg (by omega)]; exact h.u1
theorem PJ.used (h : PJ k v) (hx : (hN v.h1 0 : Int) < k.nb - k.sz) : PJ k { v with h1 := v.h1.set 0 (hN v.h1 0 + 1) } := by
 have hz := h.z3
 have hz1 := h.z1
 refine { h with b1 := ?_, u1 := ?_, l1 := by rw [List.length_set]; exact h.l1 }
 ·intro n hn
  rcases List.mem_or_eq_of_mem_set hn with h1 | h1
  ·exact h.b1 n h1
  ·omega
 ·rw [hN_set, if_pos ⟨rfl, by rw [h.l1]; decide⟩]
  omega
theorem PJ.ab (h : PJ k v) (H : Nat) : PJ k { v with h1 := v.h0, Hm := H, ch := [] } :=
 { h with chl := fun n l hl => by simp [gl] at hl, chn := List.nodup_nil, chr := fun n hn => by simp [gk] at hn, b1 := h.b0, u1 := h.u0, l1 := h.l0 }
theorem PJ.cmR (h : PJ k v) (n : Int) : (cmR k v n).1.length = 256 ∧ Rng (cmR k v n).1 := by
 unfold Go.Proofs.YtdkjkibdncbibaaGreat.cmR
 cases hg : gl v.ca n with
 | some b =>
  exact h.ci.co n b hg
 | none =>
  simp only
  split
  ·exact ⟨zeros_len _, fun x hx => by have := List.eq_of_mem_replicate hx; omega⟩
  ·exact ⟨h.sl n, h.sr n⟩
theorem PJ.cuR (h : PJ k v) (n : Int) : (cuR k v n).1.length = 256 ∧ Rng (cuR k v n).1 := by
 unfold Go.Proofs.YtdkjkibdncbibaaGreat.cuR
 cases hg : gl v.ch n with
 | some b => exact h.chl n b hg
 | none => exact h.cmR n
end
end Go.Proofs.YtdkjkibdncbibaaGreat
/- pages given and given back -/
namespace Go.Proofs.YtdkjkibdncbibaaGreat
open Go.RowKit
open Go.Lib (hid)
section
variable {k : PK} {v : PV}
theorem HV_set (ns : List Nat) (i x : Nat) : HV (ns.set i x) = (HV ns).set i (.int .u64 (x : Int)) := by simp [HV, List.map_set]
theorem PC_setN (h0 : v.h0.length = 18) (h1 : v.h1.length = 18) (i x : Nat) (hi : i < 18) : (PC k v).setIfInBounds (26 + i) (.int .u64 (x : Int)) = PC k { v with h1 := v.h1.set i x } := by
 have e : (PC k { v with h1 := v.h1.set i x }) = ([.pointer (some ⟨k.Pl, 0, none⟩), .pointer (some ⟨k.D, 0, none⟩), .int .i64 k.sz, .map (some v.Lm), .int .i64 v.en, .int .i64 k.most, .map (some v.C), v.ov] ++ HV v.h0 ++ (HV v.h1).set i (.int .u64 (x : Int)) ++ [.map (some v.Hm)] : List Value).toArray := by
  unfold PC PCl
  simp only [HV_set]
 rw [e]
 have hl : ([.pointer (some ⟨k.Pl, 0, none⟩), .pointer (some ⟨k.D, 0, none⟩), .int .i64 k.sz, .map (some v.Lm), .int .i64 v.en, .int .i64 k.most, .map (some v.C), v.ov] ++ HV v.h0 : List Value).length = 26 := by simp [HV_len, h0]
 have hl2 : ([.pointer (some ⟨k.Pl, 0, none⟩), .pointer (some ⟨k.D, 0, none⟩), .int .i64 k.sz, .map (some v.Lm), .int .i64 v.en, .int .i64 k.most, .map (some v.C), v.ov] ++ HV v.h0 ++ HV v.h1 : List Value).length = 44 := by simp [HV_len, h0, h1]
 unfold PC PCl
 rw [sA, List.set_append_left _ _ (by rw [hl2]; omega), List.set_append_right _ _ (by rw [hl]; omega), hl, show 26 + i - 26 = i by omega]
/-- one of the header's numbers written -/
theorem PgS.num {w : World} (h : PgS k v w) (i x : Nat) (hi : i < 18) : PE k v w { v with h1 := v.h1.set i x } (w.setCell ⟨k.P, 26 + i, none⟩ (.int .u64 (x : Int))) := by
 have hb := heap_setCell_same w k.P (26 + i) _ 82 (.int .u64 (x : Int)) h.box
 rw [PC_setN h.l0 h.l1 i x hi] at hb
 exact h.rebox (h0' := v.h0) (h1' := v.h1.set i x) (en' := v.en) (Lm' := v.Lm) (lg' := v.lg) (Hm' := v.Hm) (ch' := v.ch) ((Chg.refl _ w).setCell _ _ (.inl rfl)) hb h.l0 (by rw [List.length_set]; exact h.l1) (.inl ⟨rfl, rfl⟩) (.inl ⟨rfl, rfl⟩) h.mh
theorem PgS.cN {w : World} (h : PgS k v w) (i : Nat) (hi : i < 18) : w.cell? ⟨k.P, 26 + i, none⟩ = some (.int .u64 (hN v.h1 i : Nat)) := by
 rw [cell_of_row _ _ _ _ _ _ h.box, PC_h1 i h.l0 h.l1 hi]
 exact HV_at _ _ (by rw [h.l1]; exact hi)
end
theorem take8_rng {l : List Int} (hr : Rng l) : beI (l.take 8) < 18446744073709551616 := by
 have h := nAt_lt l hr 0
 unfold nAt at h
 simpa using h
def ahU (k : PK) (v : PV) (n : Int) : PV × Int × Int :=
 if (cuR k v n).2 = 0 then (stU k { cuU k v n with h1 := v.h1.set 1 (beI ((cuR k v n).1.take 8)) } n (zeros 256), n, 0) else (cuU k v n, 0, (cuR k v n).2)
def AhEnds (k : PK) (v : PV) (r : PV × Int × Int) (w : World) (e : Ending) (w' : World) : Prop :=
 e = .returned (.tuple #[.int .i64 r.2.1, .int .i64 r.2.2]) ∧ ∃ ov', PE k v w { r.1 with ov := ov' } w'
theorem rng_zeros (n : Nat) : Rng (zeros n) := fun x hx => by have := List.eq_of_mem_replicate hx; omega
set_option maxRecDepth 100000 in
set_option maxHeartbeats 2000000 in
theorem allocHead_any (k : PK) (v : PV) (n : Int) (w : World) (h : PgS k v w) (hj : PJ k v) (hn : 0 ≤ n ∧ n < k.nb - k.sz) :
  Calls Tryz.prog 58 #[.pointer (some ⟨k.P, 0, none⟩), .int .i64 n] w (AhEnds k v (ahU k v n) w) := by
 have hz := zero35
 have HI35 := hid (show (Tryz.prog.info? 50).map (·.size) = some 256 by kernel_rfl)
 have SZ := hid (show (ArrU8 (zeros 256)).size = 256 by rw [ArrU8_size, zeros_len])
 have hbl : ∀ u : World, (Instr.build 50 #[]).run Tryz.prog u = .ok (.agg (ArrU8 (zeros 256))) u := fun u => by kernel_rfl
 have HH := hid h
 have HC := hid (current_any k v n w h hj.pin hn)
 have HRL := hid (hj.cuR n)
 have HA := hid (show ahU k v n = if (cuR k v n).2 = 0 then (stU k { cuU k v n with h1 := v.h1.set 1 (beI ((cuR k v n).1.take 8)) } n (zeros 256), n, 0) else (cuU k v n, 0, (cuR k v n).2) from rfl)
 have HU := hid (show ∀ x, PJ k { cuU k v n with ov := x } from fun x => (hj.cu n hn).ov x)
 clear h hj
 go_enter Tryz.func58, Tryz.ntmps58
 go_wp2_with fail
 refine HC.out.mono ?_
 rintro e wa ⟨rfl, ov', hpe⟩
 have HPE := hid (show PE k v w { cuU k v n with ov := ov' } wa from hpe)
 have hxn := heap_alloc_new wa (.cells (ArrU8 (zeros 256)) 50)
 have HXN := hid hxn
 clear hpe hxn HC
 generalize cuR k v n = R at *
 obtain ⟨R, E⟩ := R
 simp only [] at HRL HA
 have SR := hid (show (ArrU8 R).size = 256 by rw [ArrU8_size]; exact HRL.out.1)
 simp only []
 by_cases hE : E = 0
 ·subst hE
  have HPE2 := hid (PE.post HPE.out (new_below (Below.refl _ wa) (.cells (ArrU8 (zeros 256)) 50) (ArrU8 R)))
  have HXB := hid (new_at wa (ArrU8 (zeros 256)) (ArrU8 R) 50)
  have hsl := fun u => slice35_all u wa.heap.size
  have hnu := (pnumber_any _ _ ((wa.alloc (.cells (ArrU8 (zeros 256)) 50)).setRow wa.heap.size (ArrU8 R)) (bs_mid HXB.out 0 256 (by omega) (by rw [HRL.out.1])) HRL.out.2 (by rw [List.drop_zero, HRL.out.1]; omega) (by rw [List.drop_zero, HRL.out.1]; omega))
  rw [List.drop_zero] at hnu
  have HNU := hid hnu
  have HX64 := hid (take8_rng HRL.out.2)
  have c27 : ((wa.alloc (.cells (ArrU8 (zeros 256)) 50)).setRow wa.heap.size (ArrU8 R)).cell? ⟨k.P, 27, none⟩ = some (.int .u64 (hN v.h1 1 : Nat)) := HPE2.out.1.cN 1 (by decide)
  have f27 := frozen_of_row _ k.P 27 _ _ HPE2.out.1.box
  clear hnu
  go_wp2_with (first | (refine wpList_store_row rfl 50 (Operand.tmp 6) (Operand.tmp 12) rfl wa.heap.size (ArrU8 R) rfl rfl 50 (ArrU8 (zeros 256)) HXN.out (by rw [HI35.out, SR.out]) (by rw [SR.out, SZ.out]) (ArrU8_one _) ?_) | fail)
  refine HNU.out.mono ?_
  rintro e w' ⟨rfl, rfl⟩
  generalize beI (R.take 8) = x at *
  have hp3 := PE.trans HPE2.out (HPE2.out.1.num 1 x (by decide))
  have hj3 := (HU.out ov').head x HX64.out
  have HP3 := hid hp3
  have HST := hid (set_any k _ n (zeros 256) _ hp3.1 hj3.pin hn (zeros_len _))
  clear hp3 hj3
  go_wp2_with fail
  refine HST.out.mono ?_
  rintro e wc ⟨rfl, ov3, hpe3⟩
  have HP4 := hid (PE.trans HP3.out hpe3)
  clear hpe3 c27 f27
  go_wp2_with fail
  go_ret2
  refine ⟨by rw [HA.out, if_pos trivial]; rfl, ov3, ?_⟩
  rw [HA.out, if_pos trivial]
  exact HP4.out
 ·have hPE2 := PE.post HPE.out (new_below (Below.refl _ wa) (.cells (ArrU8 (zeros 256)) 50) (ArrU8 R))
  have HPE2 := hid hPE2
  clear hPE2
  go_wp2_with (first | (refine wpList_store_row rfl 50 (Operand.tmp 6) (Operand.tmp 12) rfl wa.heap.size (ArrU8 R) rfl rfl 50 (ArrU8 (zeros 256)) HXN.out (by rw [HI35.out, SR.out]) (by rw [SR.out, SZ.out]) (ArrU8_one _) ?_) | fail)
  go_ret2
  refine ⟨by rw [HA.out, if_neg hE]; rfl, ov', ?_⟩
  rw [HA.out, if_neg hE]
  exact HPE2.out
/-- the block that a page given back becomes -/
def frB (v : PV) : List Int := putL (zeros 256) 0 (be8 (hN v.h1 1))
theorem frB_len (v : PV) : (frB v).length = 256 := by unfold frB; rw [putL_len _ _ _ (by rw [be8_len, zeros_len]; decide), zeros_len]
theorem frB_rng (v : PV) : Rng (frB v) := by
 unfold frB putL
 exact rng_append (rng_append ((rng_zeros _).take _) (be8_rng _)) ((rng_zeros _).drop _)
def frU (k : PK) (v : PV) (n : Int) : PV := if inU v n = true then { stU k v n (frB v) with h1 := v.h1.set 1 n.toNat } else v
def FrEnds (k : PK) (v : PV) (n : Int) (w : World) (e : Ending) (w' : World) : Prop :=
 e = .returned (.int .i64 (if inU v n = true then 0 else 2)) ∧ ∃ ov', PE k v w { frU k v n with ov := ov' } w'
set_option maxRecDepth 100000 in
set_option maxHeartbeats 2000000 in
theorem free_page (k : PK) (v : PV) (n : Int) (w : World) (h : PgS k v w) (hj : PJ k v) (hn : n ≤ 9223372036854775807) :
  Calls Tryz.prog 27 #[.pointer (some ⟨k.P, 0, none⟩), .int .i64 n] w (FrEnds k v n w) := by
 have hz := zero35
 have HI35 := hid (show (Tryz.prog.info? 50).map (·.size) = some 256 by kernel_rfl)
 have HH := hid h
 have HIN := hid (inUse_any k v n w h hn)
 cases hin : inU v n with
 | false =>
  have HR := hid (show frU k v n = v by unfold frU; rw [hin]; rfl)
  have HF := hid hin
  rw [hin] at HIN
  clear h hj hn hin
  go_enter Tryz.func27, Tryz.ntmps27
  go_wp2_with fail
  refine HIN.out.mono ?_
  rintro e w' ⟨rfl, rfl⟩
  go_wp2_with fail
  go_ret
  refine ⟨by rw [HF.out]; rfl, v.ov, ?_⟩
  rw [HR.out]
  exact PE.same HH.out (Below.refl _ _)
 | true =>
  have hrg := inU_rng hin hj.u1.2
  obtain ⟨m, rfl⟩ : ∃ m : Nat, n = (m : Int) := ⟨n.toNat, by omega⟩
  have hm64 : m < 18446744073709551616 := by omega
  have HR := hid (show frU k v m = { stU k v m (frB v) with h1 := v.h1.set 1 m } by unfold frU; rw [hin]; rfl)
  have HF := hid hin
  rw [hin] at HIN
  have hb1 : Below w.heap.size w (w.alloc (.cells (ArrU8 (zeros 256)) 50)) := (Below.refl _ _).alloc (Nat.le_refl _) _
  have h1 := h.fresh hb1
  have hx := heap_alloc_new w (.cells (ArrU8 (zeros 256)) 50)
  have HX := hid hx
  have HB1 := hid hb1
  have HS1 := hid (show (w.alloc (.cells (ArrU8 (zeros 256)) 50)).drew.heap[k.P]? = some (.cells (PC k v) 82 (0, 0)) from h1.box)
  have HC27 := hid ((PC_h1 (k := k) (v := v) 1 h.l0 h.l1 (by decide)).trans (HV_at v.h1 1 (by rw [h.l1]; decide)))
  have H64 := hid (show hN v.h1 1 < 18446744073709551616 by
   unfold hN
   have hl : 1 < v.h1.length := by rw [h.l1]; decide
   rw [List.getElem?_eq_getElem hl, Option.getD_some]
   exact hj.b1 _ (List.getElem_mem hl))
  have HJ := hid hj
  have hsl := fun u => slice35_all u w.heap.size
  have SF := hid (show (ArrU8 (frB v)).size = 256 by rw [ArrU8_size, frB_len])
  have HFB := hid (show putL (zeros 256) 0 (be8 (hN v.h1 1)) = frB v from rfl)
  have HRG := hid hrg
  have hcv : IntKind.u64.wrap (m : Int) = (m : Int) := by rw [IntKind.wrap_u64]; omega
  generalize hN v.h1 1 = hd at *
  clear h hj hn hin hb1 h1 hx hrg hm64
  go_enter Tryz.func27, Tryz.ntmps27
  go_wp2_with fail
  refine HIN.out.mono ?_
  rintro e w' ⟨rfl, rfl⟩
  go_wp2_with fail
  refine wp_region_held_drew (S := fun u => u.heap[k.P]? = some (.cells (PC k v) 82 (0, 0))) (by kernel_rfl) (HS1.out) (fun hHeld => ?_)
  refine tk (i := 0) (oi := ⟨some 10, .slice 50 (.tmp 5) none none none, 83, "free.go:39", #[], none⟩) (v := ?_) (Or.inl ⟨by rfl, ?_⟩) ?_
  rotate_left 1
  ·(intro u hSw; go_simp; try with_reducible rfl)
  try simp only [Act.put, sA, sB, sC]
  refine tk (i := 1) (oi := ⟨some 11, .move (.tmp 0), 30, "free.go:39", #[], none⟩) (v := ?_) (Or.inl ⟨by rfl, ?_⟩) ?_
  rotate_left 1
  ·(intro u hSw; go_simp; try with_reducible rfl)
  try simp only [Act.put, sA, sB, sC]
  refine tk (i := 2) (oi := ⟨some 12, .nilCheck (.tmp 11), 0, "free.go:39", #[⟨1, .data⟩], none⟩) (v := ?_) (Or.inl ⟨by rfl, ?_⟩) ?_
  rotate_left 1
  ·(intro u hSw; go_simp; try with_reducible rfl)
  try simp only [Act.put, sA, sB, sC]
  refine tk (i := 3) (oi := ⟨some 13, .fieldAddr 82 (.tmp 12) 6, 0, "free.go:39", #[⟨2, .data⟩], none⟩) (v := ?_) (Or.inl ⟨by rfl, ?_⟩) ?_
  rotate_left 1
  ·(intro u hSw; go_simp; try with_reducible rfl)
  try simp only [Act.put, sA, sB, sC]
  refine tk (i := 4) (oi := ⟨some 14, .fieldAddr 68 (.tmp 13) 1, 0, "free.go:39", #[⟨3, .data⟩], none⟩) (v := ?_) (Or.inl ⟨by rfl, ?_⟩) ?_
  rotate_left 1
  ·(intro u hSw; go_simp; try with_reducible rfl)
  try simp only [Act.put, sA, sB, sC]
  refine tk (i := 5) (oi := ⟨some 15, .load 60 (.tmp 14), 60, "free.go:39", #[⟨4, .data⟩], none⟩) (v := ?_) (Or.inl ⟨by rfl, ?_⟩) ?_
  rotate_left 1
  ·(intro u hSw; have c27 := (cell_of_row u k.P 27 _ _ _ hSw).trans HC27.out; go_simp; try with_reducible rfl)
  try simp only [Act.put, sA, sB, sC]
  refine wpAnyH_ready (rs := [6]) (by kernel_rfl) (by simp) ?_
  refine (AllReadyH.cons (o := ⟨some 16, .call ⟨.value (.func 63), #[.tmp 10, .tmp 15], #[83, 60]⟩, 0, "free.go:39", #[⟨0, .data⟩, ⟨5, .data⟩], none⟩) rfl (fun K hK => ?_) AllReadyH.nil)
  go_simp
  go_at_call 63
  refine (putNumber_any w.heap.size 0 256 256 hd (zeros 256) 50 _ (show (w.alloc (.cells (ArrU8 (zeros 256)) 50)).drew.heap[w.heap.size]? = _ from HX.out) (by rw [zeros_len]; decide) (by omega) H64.out).mono ?_
  rintro e w2 ⟨rfl, hx2, hc2⟩
  rw [HFB.out] at hx2
  have hc3 : Below w.heap.size w w2 := (HB1.out.drew).trans (hc2.below (fun g hg => by omega) (HB1.out.drew).size)
  have HX2 := hid hx2
  have HB2 := hid hc3
  have H2 := hid (HH.out.fresh hc3)
  clear hx2 hc2 hc3
  go_wp2_with fail
  refine hK.out _ _ H2.out.box (fun hHeld => ?_)
  clear hK K
  try simp only [Act.put, sA, sB, sC]
  refine wpAnyH_done (by kernel_rfl) ?_ _
  have HST := hid (set_any k v m (frB v) w2 H2.out HJ.out.pin HRG.out (frB_len v))
  clear hsl
  go_wp2_with (first | (refine wpList_load_row rfl 50 (Operand.tmp 5) rfl w.heap.size rfl 50 (ArrU8 (frB v)) (0, 0) _ HX2.out Tryz.underlying50 rfl (by rw [HI35.out, SF.out]) ?_) | fail)
  refine HST.out.mono ?_
  rintro e wc ⟨rfl, ov3, hpe3⟩
  have hp4 : PE k v w2 { stU k v m (frB v) with ov := ov3 } wc := hpe3
  have hp5 := PE.pre HB2.out (PE.trans hp4 (hp4.1.num 1 m (by decide)))
  have HP5 := hid hp5
  have c27 : wc.cell? ⟨k.P, 27, none⟩ = some (.int .u64 (hN v.h1 1 : Nat)) := hp4.1.cN 1 (by decide)
  have f27 := frozen_of_row _ k.P 27 _ _ hp4.1.box
  clear hpe3 hp4 hp5
  go_wp2_with fail
  go_ret
  refine ⟨by rw [HF.out]; rfl, ov3, ?_⟩
  rw [HR.out]
  exact HP5.out
end Go.Proofs.YtdkjkibdncbibaaGreat
