import Derived.Test.YtaklkjjoplfokaaDisk8
import Derived.WalkKit
import Derived.ProofKit
import Derived.BigQuiet
import Derived.Deep.QuietTactic
import Derived.WalkSpells
import Derived.WalkLawsBesides
import Derived.Lib.Hide
import Derived.Deep.MidRow
import Derived.Deep.RegionLaw
import Derived.BigRegion
import Derived.Laws.AppendOwnNone
import Derived.Deep.DeepMust
import Derived.Deep.AppendLies
import Derived.RegionTactic
import Derived.Deep.WholeRow
import Derived.BigFrame
import Derived.Deep.RegionWith
import Derived.Deep.RegionHeld3
import Derived.Maps.RangeWalk
import Derived.Laws.CopyOwn
import Derived.StillTailTactics
namespace Go.Proofs.Ytaklkjjoplfokaa
open Go.RowKit
theorem Dk.apart {w : World} {B D M : Nat} {nb rm fz : Int} {dn : Bool} {f : Int → List Int} {L : List WR} {lv : Value} (h : Dk w B D M nb rm fz dn f L lv) : D ≠ M ∧ lv.ownBlock ≠ some D ∧ lv.ownBlock ≠ some M := by
  obtain ⟨h1, ⟨kvs, ⟨es, c, h2, _⟩, _, _⟩, h3, _⟩ := h
  refine ⟨fun e => ?_, fun e => ?_, fun e => ?_⟩
  · subst e; rw [DiskIs] at h1; rw [h1] at h2; cases h2
  · rcases h3.2 with ⟨rfl, _⟩ | ⟨g, cap, cur, rfl, hb, hg, _⟩
    · cases e
    · injection e with e
      have e : g = D := e
      subst e
      rw [DiskIs] at h1; rw [h1] at hg; injection hg with hg; injection hg with _ hg _; exact absurd hg (by decide)
  · rcases h3.2 with ⟨rfl, _⟩ | ⟨g, cap, cur, rfl, hb, hg, _⟩
    · cases e
    · injection e with e
      have e : g = M := e
      subst e
      rw [h2] at hg; cases hg
/-- another disk cell, all else as it was -/
theorem Dk.turned {w w1 : World} {B D M : Nat} {nb rm fz : Int} {dn : Bool} {f : Int → List Int} {L : List WR} {lv : Value} (h : Dk w B D M nb rm fz dn f L lv) {rm1 fz1 : Int} {dn1 : Bool} (hd : DiskIs w1 D (DC nb rm1 fz1 dn1 (.map (some M)) lv)) (hf : -1 ≤ fz1 ∧ fz1 ≤ 9223372036854775807)
    (hc : Chg (fun k => k = D) w w1) : Dk w1 B D M nb rm1 fz1 dn1 f L lv := by
  obtain ⟨a1, a2, a3⟩ := h.apart
  obtain ⟨h1, ⟨kvs, h2, h2b, h2c⟩, h3, h4, h5, h6, h7⟩ := h
  refine ⟨hd, ⟨kvs, h2.of (hc.block M h2.lt (fun e => a1 e.symm)), h2b, h2c⟩, h3.kept (fun k hk => hc.block k (h3.lt k hk).2 (fun e => a2 (by rw [hk, e]))), h4, h5, hf, h7⟩
theorem exec_build {P : Program} {ρ : Operand → Value} {o : Oper} {w : World} (T : TypeId) (parts : Array (Nat × Operand)) (ho : o.op = .build T parts) (vs : Array (Nat × Value)) (hv : (parts.map fun (i, x) => (i, ρ x)) = vs) (r : Value) (h : (Instr.build T vs).run P w = .ok r w) :
    (execOp ρ o).run P w = .ok (.value r) w := by
  unfold execOp
  simp only [ho, hv, Sem.run_bind, h, Result.andThen_ok]
  rfl
theorem exec_bslice {P : Program} {ρ : Operand → Value} {o : Oper} {w w' : World} (T : TypeId) (len : Nat) (parts : Array (Nat × Operand)) (ho : o.op = .buildSlice T len parts) (vs : Array (Nat × Value)) (hv : (parts.map fun (i, x) => (i, ρ x)) = vs) (r : Value) (h : (Instr.buildSlice T len vs).run P w = .ok r w') :
    (execOp ρ o).run P w = .ok (.value r) w' := by
  unfold execOp
  simp only [ho, hv, Sem.run_bind, h, Result.andThen_ok]
  rfl
theorem step_of_run {P : Program} {ops : Array Oper} {o : Oper} {a : Act} {w w' : World} {v : Value} {K : Act → World → Prop} {Q : Exit → Act → World → Prop} {E : Prop} (hg : o.guard = none) (hr : (execOp a.eval o).run P w = .ok (.value v) w') (hK : K (a.put o.dst v) w') :
    if Region.wanted o (yielded ops a.tmps) = true then Oper.wp P o a w K Q else E := by
  have hw : Region.wanted o (yielded ops a.tmps) = true := by simp [Region.wanted, hg]
  rw [if_pos hw]
  unfold Oper.wp
  simp [hr]
  exact hK
theorem exec_load_loose {ρ : Operand → Value} {o : Oper} {w : World} (x : Operand) (ho : o.op = .load 91 x) (b k : Nat) (hx : ρ x = .pointer (some ⟨b, k, none⟩)) (v : Value) (hc : w.cell? ⟨b, k, none⟩ = some v) :
    (execOp ρ o).run Try.prog w = .ok (.value v) w := by
  unfold execOp
  rw [ho]
  simp only [hx]
  go_simp
theorem LooseIs.shape {w : World} {B : Nat} {lv : Value} {L : List WR} (h : LooseIs w B lv L) : ∃ a c, lv = .slice a L.length c := by
  rcases h.2 with ⟨rfl, h0⟩ | ⟨g, cap, cur, rfl, _⟩
  · exact ⟨none, 0, by rw [h0]⟩
  · exact ⟨_, _, rfl⟩
theorem exec_update {ρ : Operand → Value} {o : Oper} {w w' : World} (x y z : Operand) (ho : o.op = .mapUpdate 90 x y z) (m k v : Value) (hx : ρ x = m) (hy : ρ y = k) (hz : ρ z = v) (h : (Instr.mapUpdate 90 m k v).run Try.prog w = .ok () w') :
    (execOp ρ o).run Try.prog w = .ok .skip w' := by
  unfold execOp
  simp only [ho, hx, hy, hz, Sem.run_bind, h, Result.andThen_ok]
  rfl
theorem step_of_skip {P : Program} {ops : Array Oper} {o : Oper} {a : Act} {w w' : World} {K : Act → World → Prop} {Q : Exit → Act → World → Prop} {E : Prop} (hg : o.guard = none) (hr : (execOp a.eval o).run P w = .ok .skip w') (hK : K (a.put o.dst undef) w') :
    if Region.wanted o (yielded ops a.tmps) = true then Oper.wp P o a w K Q else E := by
  have hw : Region.wanted o (yielded ops a.tmps) = true := by simp [Region.wanted, hg]
  rw [if_pos hw]
  unfold Oper.wp
  simp [hr]
  exact hK
def wErr (nb rm fz n : Int) (dn : Bool) : Int := if opOk fz dn = true then (if hasB nb n = true then (if rm ≤ n then 42 else 0) else 2) else 44
def WriteEnds (B D M : Nat) (nb rm fz : Int) (dn : Bool) (f : Int → List Int) (L : List WR) (lv : Value) (n : Int) (b : List Int) (w : World) (e : Ending) (w' : World) : Prop :=
  e = .returned (.int .i64 (wErr nb rm fz n dn)) ∧ ∃ lv', Dk w' B D M nb rm (opFz fz dn) (opDn fz dn) (if wErr nb rm fz n dn = 0 then fput f n b else f) (if wErr nb rm fz n dn = 0 then L ++ [(n, f n, b)] else L) lv' ∧
    Chg (Foot D M lv) w w' ∧ (∀ k, Foot D M lv' k → Foot D M lv k ∨ w.heap.size ≤ k)
theorem opFz_rng {fz : Int} {dn : Bool} (h : -1 ≤ fz ∧ fz ≤ 9223372036854775807) : -1 ≤ opFz fz dn ∧ opFz fz dn ≤ 9223372036854775807 := by
  unfold opFz; split <;> (try split) <;> (try split) <;> omega
set_option maxRecDepth 100000 in
set_option maxHeartbeats 1000000 in
theorem write_any (B D M : Nat) (nb rm fz n : Int) (dn : Bool) (f : Int → List Int) (L : List WR) (lv : Value) (b : List Int) (w : World) (h : Dk w B D M nb rm fz dn f L lv) (hb : b.length = 256) (hL : L.length ≤ 268435456) :
    Calls Try.prog 16 #[.pointer (some ⟨D, 0, none⟩), .int .i64 n, .agg (ArrU8 b)] w (WriteEnds B D M nb rm fz dn f L lv n b w) := by
  have HDK := Lib.hid h
  obtain ⟨hd, ⟨kvs, hm, hkn, hkf⟩, hlo, hBD, hBM, hfz, hfl, hLl⟩ := h
  have HFZ := Lib.hid hfz
  have hd0 : DiskIs (w.alloc (.cells (ArrU8 b) 35)) D (DC nb rm fz dn (.map (some M)) lv) := (heap_alloc_old _ _ hd.lt).trans hd
  have HD := Lib.hid hd
  have HM := Lib.hid hm
  have HLO := Lib.hid hlo
  have HKF := Lib.hid hkf
  have HOP := Lib.hid (operates_any D nb rm fz dn (.map (some M)) lv _ hd0 hfz.1 hfz.2)
  have hbx : (w.alloc (.cells (ArrU8 b) 35)).heap[w.heap.size]? = some (.cells (ArrU8 b) 35 (0, 0)) := heap_alloc_new _ _
  have HBX := Lib.hid hbx
  have HFL := Lib.hid hfl
  have HLL := Lib.hid hLl
  have hDlt := hd.lt
  have hMlt := hm.lt
  clear hd hd0 hm hlo hbx hkf hfl hLl
  go_enter Try.func16, Try.ntmps16
  go_wp2_with fail
  refine HOP.out.mono ?_
  rintro e w1 ⟨rfl, hd1, hg1, hs1⟩
  have HD1 := Lib.hid hd1
  have HG1 := Lib.hid hg1
  have HS1 := Lib.hid hs1
  clear hd1 hg1 hs1
  have hc1 : Chg (fun k => k = D) w w1 := ((Chg.refl (fun k => k = D) w).alloc _).trans (G := fun k => k = D) (Chg.grown HG1.out (fun k hk => by injection hk with hk; exact hk.symm)) (fun i hi => .inl hi)
  have HC1 := Lib.hid hc1
  clear hc1
  cases hop : opOk fz dn
  · have HE := Lib.hid (show wErr nb rm fz n dn = 44 from by simp [wErr, hop])
    clear hop
    go_wp2
    all_goals go_ret
    all_goals
      refine ⟨congrArg (fun z => Ending.returned (.int .i64 z)) HE.out.symm, lv, ?_, HC1.out.mono (fun i hi => .inl hi), fun k hk => .inl hk⟩
      rw [HE.out]
      exact HDK.out.turned HD1.out (opFz_rng HFZ.out) HC1.out
  have hd1 := HD1.out
  have HAS := Lib.hid (has_any D nb n _ w1 hd1 rfl)
  have c1 : w1.cell? ⟨D, 1, none⟩ = some (.int .i64 rm) := hd1.cell 1
  clear hd1
  cases hb : hasB nb n
  · have HE := Lib.hid (show wErr nb rm fz n dn = 2 from by simp [wErr, hop, hb])
    rw [hb] at HAS
    clear hop hb
    go_wp2_with (go_at_call 58; refine HAS.out.mono ?_; rintro e w' ⟨rfl, rfl⟩)
    all_goals go_ret
    all_goals
      refine ⟨congrArg (fun z => Ending.returned (.int .i64 z)) HE.out.symm, lv, ?_, HC1.out.mono (fun i hi => .inl hi), fun k hk => .inl hk⟩
      rw [HE.out]
      exact HDK.out.turned HD1.out (opFz_rng HFZ.out) HC1.out
  rw [hb] at HAS
  by_cases hrm : rm ≤ n
  · have HE := Lib.hid (show wErr nb rm fz n dn = 42 from by simp [wErr, hop, hb, hrm])
    clear hop hb
    go_wp2_with (go_at_call 58; refine HAS.out.mono ?_; rintro e w' ⟨rfl, rfl⟩)
    all_goals go_ret
    all_goals
      refine ⟨congrArg (fun z => Ending.returned (.int .i64 z)) HE.out.symm, lv, ?_, HC1.out.mono (fun i hi => .inl hi), fun k hk => .inl hk⟩
      rw [HE.out]
      exact HDK.out.turned HD1.out (opFz_rng HFZ.out) HC1.out
  have HE := Lib.hid (show wErr nb rm fz n dn = 0 from by simp [wErr, hop, hb, hrm])
  have hrm2 : n < rm := by omega
  clear hop hb
  go_wp2_with (go_at_call 58; refine HAS.out.mono ?_; rintro e w' ⟨rfl, rfl⟩)
  have hM1 : MapIs w1 M kvs := HM.out.of (HC1.out.block M hMlt (fun e => HDK.out.apart.1 e.symm))
  have hB1 : w1.heap[w.heap.size]? = some (.cells (ArrU8 b) 35 (0, 0)) := (HG1.out.block w.heap.size (by simp) (by intro e; injection e with e; omega)).trans HBX.out
  have hL1 : LooseIs w1 B lv L := HLO.out.kept (fun k hk => HC1.out.block k (HLO.out.lt k hk).2 (fun e => HDK.out.apart.2.1 (by rw [hk, e])))
  have hD4 : w1.cell? ⟨D, 4, none⟩ = some (.map (some M)) := HD1.out.cell 4
  have hs1 : w1.heap.size = w.heap.size + 1 := by rw [HS1.out]; simp
  have HM1 := Lib.hid hM1
  have HB1 := Lib.hid hB1
  have HL1 := Lib.hid hL1
  have HD4 := Lib.hid hD4
  have HSS := Lib.hid hs1
  have hk := HFL.out n
  rw [← HKF.out n] at hk
  have HKG := Lib.hid hk
  have HI35 := Lib.hid (show (Try.prog.info? 35).map (·.size) = some (ArrU8 b).size by rw [ArrU8_size, hb]; kernel_rfl)
  clear hM1 hB1 hL1 hD4 hs1 hk c1 hrm hrm2
  have C5a := Lib.hid (show w1.drew.cell? ⟨D, 5, none⟩ = some lv from HD1.out.cell 5)
  have C5b := Lib.hid (show (w1.drew.alloc (.cells (wrL n (kget kvs n) b).toArray 96)).cell? ⟨D, 5, none⟩ = some lv from (World.cell?_alloc_lt _ _ _ (by show D < w1.heap.size; exact HD1.out.lt)).trans C5a.out)
  have HB2 := Lib.hid (show (w1.drew.alloc (.cells (wrL n (kget kvs n) b).toArray 96)).cell? ⟨D, 4, none⟩ = some (.map (some M)) ∧ MapIs (w1.drew.alloc (.cells (wrL n (kget kvs n) b).toArray 96)) M kvs ∧ (w1.drew.alloc (.cells (wrL n (kget kvs n) b).toArray 96)).heap[w.heap.size]? = some (.cells (ArrU8 b) 35 (0, 0)) from
    ⟨(World.cell?_alloc_lt _ _ _ (by show D < w1.heap.size; exact HD1.out.lt)).trans HD4.out, HM1.out.of (Below.heap_alloc w1.drew _ _ (show M < w1.drew.heap.size from HM1.out.lt)), (Below.heap_alloc w1.drew _ _ (by show w.heap.size < w1.heap.size; rw [HSS.out]; omega)).trans HB1.out⟩)
  have HL2 := Lib.hid (show LooseIs (w1.drew.alloc (.cells (wrL n (kget kvs n) b).toArray 96)) B lv L from HL1.out.kept (fun k hk => Below.heap_alloc w1.drew _ _ (show k < w1.drew.heap.size from (HL1.out.lt k hk).2)))
  have HC2 := Lib.hid (show ∀ j u, (wrL n (kget kvs n) b)[j]? = some u → (w1.drew.alloc (.cells (wrL n (kget kvs n) b).toArray 96)).cell? ((⟨w1.drew.heap.size, 0, none⟩ : Addr).add j) = some u from fun j u hu => by
    rw [Addr.add_mid, Nat.zero_add, cell_of_row _ _ j _ _ _ (heap_alloc_new w1.drew _)]
    simpa using hu)
  have hBs : B ≤ (w1.drew.alloc (.cells (wrL n (kget kvs n) b).toArray 96)).heap.size := by simp; have := HSS.out; omega
  have HBS := Lib.hid hBs
  clear hBs
  refine wp_region_held_drew (S := fun u => u.cell? ⟨D, 4, none⟩ = some (.map (some M)) ∧ MapIs u M kvs ∧ u.heap[w.heap.size]? = some (.cells (ArrU8 b) 35 (0, 0))) (by kernel_rfl) (⟨HD4.out, HM1.out, HB1.out⟩) (fun hHeld => ?_)
  refine wpAnyH_take (i := 0) (oi := ({ dst := some 20, op := Op.move (Operand.tmp 0), type := 24, pos := "disk.go:63", after := #[], guard := none } : Oper)) (v := ?_) rfl (by kernel_rfl) (by kernel_rfl) (by kernel_rfl) (fun _ _ _ h => h) (Or.inl ⟨by rfl, ?_⟩) (by assumption) ?_
  rotate_left 1
  · (intro u hSw; go_simp; try with_reducible rfl)
  try simp only [Act.put, List.setIfInBounds_toArray, List.set_cons_zero, List.set_cons_succ]
  refine wpAnyH_take (i := 1) (oi := ({ dst := some 21, op := Op.move (Operand.tmp 0), type := 24, pos := "disk.go:63", after := #[], guard := none } : Oper)) (v := ?_) rfl (by kernel_rfl) (by kernel_rfl) (by kernel_rfl) (fun _ _ _ h => h) (Or.inl ⟨by rfl, ?_⟩) (by assumption) ?_
  rotate_left 1
  · (intro u hSw; go_simp; try with_reducible rfl)
  try simp only [Act.put, List.setIfInBounds_toArray, List.set_cons_zero, List.set_cons_succ]
  refine wpAnyH_take (i := 2) (oi := ({ dst := some 22, op := Op.nilCheck (Operand.tmp 21), type := 0, pos := "disk.go:63", after := #[{ on := 1, ground := Ground.data }], guard := none } : Oper)) (v := ?_) rfl (by kernel_rfl) (by kernel_rfl) (by kernel_rfl) (fun _ _ _ h => h) (Or.inl ⟨by rfl, ?_⟩) (by assumption) ?_
  rotate_left 1
  · (intro u hSw; go_simp; try with_reducible rfl)
  try simp only [Act.put, List.setIfInBounds_toArray, List.set_cons_zero, List.set_cons_succ]
  refine wpAnyH_take (i := 3) (oi := ({ dst := some 23, op := Op.fieldAddr 93 (Operand.tmp 22) 5, type := 0, pos := "disk.go:63", after := #[{ on := 2, ground := Ground.data }], guard := none } : Oper)) (v := ?_) rfl (by kernel_rfl) (by kernel_rfl) (by kernel_rfl) (fun _ _ _ h => h) (Or.inl ⟨by rfl, ?_⟩) (by assumption) ?_
  rotate_left 1
  · (intro u hSw; go_simp; try with_reducible rfl)
  try simp only [Act.put, List.setIfInBounds_toArray, List.set_cons_zero, List.set_cons_succ]
  refine wpAnyH_take (i := 5) (oi := ({ dst := some 25, op := Op.move (Operand.tmp 1), type := 3, pos := "disk.go:63", after := #[], guard := none } : Oper)) (v := ?_) rfl (by kernel_rfl) (by kernel_rfl) (by kernel_rfl) (fun _ _ _ h => h) (Or.inl ⟨by rfl, ?_⟩) (by assumption) ?_
  rotate_left 1
  · (intro u hSw; go_simp; try with_reducible rfl)
  try simp only [Act.put, List.setIfInBounds_toArray, List.set_cons_zero, List.set_cons_succ]
  refine wpAnyH_take (i := 6) (oi := ({ dst := some 26, op := Op.move (Operand.tmp 0), type := 24, pos := "disk.go:63", after := #[], guard := none } : Oper)) (v := ?_) rfl (by kernel_rfl) (by kernel_rfl) (by kernel_rfl) (fun _ _ _ h => h) (Or.inl ⟨by rfl, ?_⟩) (by assumption) ?_
  rotate_left 1
  · (intro u hSw; go_simp; try with_reducible rfl)
  try simp only [Act.put, List.setIfInBounds_toArray, List.set_cons_zero, List.set_cons_succ]
  refine wpAnyH_take (i := 7) (oi := ({ dst := some 27, op := Op.nilCheck (Operand.tmp 26), type := 0, pos := "disk.go:63", after := #[{ on := 6, ground := Ground.data }], guard := none } : Oper)) (v := ?_) rfl (by kernel_rfl) (by kernel_rfl) (by kernel_rfl) (fun _ _ _ h => h) (Or.inl ⟨by rfl, ?_⟩) (by assumption) ?_
  rotate_left 1
  · (intro u hSw; go_simp; try with_reducible rfl)
  try simp only [Act.put, List.setIfInBounds_toArray, List.set_cons_zero, List.set_cons_succ]
  refine wpAnyH_take (i := 8) (oi := ({ dst := some 28, op := Op.fieldAddr 93 (Operand.tmp 27) 4, type := 0, pos := "disk.go:63", after := #[{ on := 7, ground := Ground.data }], guard := none } : Oper)) (v := ?_) rfl (by kernel_rfl) (by kernel_rfl) (by kernel_rfl) (fun _ _ _ h => h) (Or.inl ⟨by rfl, ?_⟩) (by assumption) ?_
  rotate_left 1
  · (intro u hSw; go_simp; try with_reducible rfl)
  try simp only [Act.put, List.setIfInBounds_toArray, List.set_cons_zero, List.set_cons_succ]
  refine wpAnyH_take (i := 9) (oi := ({ dst := some 29, op := Op.load 90 (Operand.tmp 28), type := 90, pos := "disk.go:63", after := #[{ on := 8, ground := Ground.data }], guard := none } : Oper)) (v := ?_) rfl (by kernel_rfl) (by kernel_rfl) (by kernel_rfl) (fun _ _ _ h => h) (Or.inl ⟨by rfl, ?_⟩) (by assumption) ?_
  rotate_left 1
  · intro u hSw
    have h4 := hSw.1
    go_simp
    try with_reducible rfl
  try simp only [Act.put, List.setIfInBounds_toArray, List.set_cons_zero, List.set_cons_succ]
  refine wpAnyH_take (i := 10) (oi := ({ dst := some 30, op := Op.move (Operand.tmp 1), type := 3, pos := "disk.go:63", after := #[], guard := none } : Oper)) (v := ?_) rfl (by kernel_rfl) (by kernel_rfl) (by kernel_rfl) (fun _ _ _ h => h) (Or.inl ⟨by rfl, ?_⟩) (by assumption) ?_
  rotate_left 1
  · (intro u hSw; go_simp; try with_reducible rfl)
  try simp only [Act.put, List.setIfInBounds_toArray, List.set_cons_zero, List.set_cons_succ]
  refine wpAnyH_take (i := 11) (oi := ({ dst := some 31, op := Op.lookup 90 (Operand.tmp 29) (Operand.tmp 30) false, type := 35, pos := "disk.go:63", after := #[{ on := 9, ground := Ground.data }, { on := 10, ground := Ground.data }], guard := none } : Oper)) (v := ?_) rfl (by kernel_rfl) (by kernel_rfl) (by kernel_rfl) (fun _ _ _ h => h) (Or.inl ⟨by rfl, ?_⟩) (by assumption) ?_
  rotate_left 1
  · intro u hSw
    have hlk := run_lookup_kv u M n kvs hSw.2.1
    go_simp
    try with_reducible rfl
  try simp only [Act.put, List.setIfInBounds_toArray, List.set_cons_zero, List.set_cons_succ]
  refine wpAnyH_take (i := 12) (oi := ({ dst := some 32, op := Op.load 35 (Operand.tmp 5), type := 35, pos := "disk.go:63", after := #[], guard := none } : Oper)) (v := ?_) rfl (by kernel_rfl) (by kernel_rfl) (by kernel_rfl) (fun _ _ _ h => h) (Or.inl ⟨by rfl, ?_⟩) (by assumption) ?_
  rotate_left 1
  · intro u hSw
    refine exec_load_row 35 (Operand.tmp 5) ?_ u w.heap.size ?_ (ArrU8 b) 35 (0, 0) _ hSw.2.2 Try.underlying35 rfl HI35.out <;> rfl
  try simp only [Act.put, List.setIfInBounds_toArray, List.set_cons_zero, List.set_cons_succ]
  refine wpAnyH_take (i := 13) (oi := ({ dst := some 33, op := Op.build 96 #[(0, Operand.tmp 25), (1, Operand.tmp 31), (2, Operand.tmp 32)], type := 96, pos := "disk.go:63", after := #[{ on := 5, ground := Ground.data }, { on := 11, ground := Ground.data }, { on := 12, ground := Ground.data }], guard := none } : Oper)) (v := .agg (wrL n (kget kvs n) b).toArray) rfl (by kernel_rfl) (by kernel_rfl) (by kernel_rfl) (fun _ _ _ h => h) (Or.inl ⟨by rfl, ?_⟩) (by assumption) ?_
  · intro u hSw
    exact exec_build 96 #[(0, Operand.tmp 25), (1, Operand.tmp 31), (2, Operand.tmp 32)] rfl #[(0, .int .i64 n), (1, .agg (ArrU8 (kget kvs n))), (2, .agg (ArrU8 b))] (by simp only [List.map_toArray, List.map_cons, List.map_nil]; rfl) _ (run_build_wr u n (kget kvs n) b HKG.out hb)
  try simp only [Act.put, List.setIfInBounds_toArray, List.set_cons_zero, List.set_cons_succ]
  refine wpAnyH_ready (rs := [4, 14]) (by kernel_rfl) (by simp) ?_
  refine AllReadyH.cons (o := ({ dst := some 24, op := Op.load 91 (Operand.tmp 23), type := 91, pos := "disk.go:63", after := #[{ on := 3, ground := Ground.data }], guard := none } : Oper)) rfl (fun K hK => ?_) (AllReadyH.cons (o := ({ dst := some 34, op := Op.buildSlice 91 1 #[(0, Operand.tmp 33)], type := 91, pos := "disk.go:63", after := #[{ on := 13, ground := Ground.data }], guard := none } : Oper)) rfl (fun K hK => ?_) AllReadyH.nil)
  refine step_of_run ?_ (exec_load_loose (Operand.tmp 23) ?_ D 5 ?_ lv (by first | exact C5a.out | exact C5b.out)) ?_
  rfl
  rfl
  rfl
  refine hK.out _ _ (by assumption) (fun hHeld => ?_)
  clear hK K
  try simp only [Act.put, List.setIfInBounds_toArray, List.set_cons_zero, List.set_cons_succ]
  refine wpAnyH_ready (rs := [14]) (by kernel_rfl) (by simp) ?_
  refine AllReadyH.cons (o := ({ dst := some 34, op := Op.buildSlice 91 1 #[(0, Operand.tmp 33)], type := 91, pos := "disk.go:63", after := #[{ on := 13, ground := Ground.data }], guard := none } : Oper)) rfl (fun K hK => ?_) AllReadyH.nil
  refine step_of_run ?_ (exec_bslice 91 1 #[(0, Operand.tmp 33)] ?_ #[(0, .agg (wrL n (kget kvs n) b).toArray)] ?_ _ (run_bslice_wr _ n (kget kvs n) b HKG.out hb)) ?_
  rfl
  rfl
  (simp only [List.map_toArray, List.map_cons, List.map_nil]; rfl)
  refine hK.out _ _ HB2.out (fun hHeld => ?_)
  clear hK K
  try simp only [Act.put, List.setIfInBounds_toArray, List.set_cons_zero, List.set_cons_succ]
  rotate_left 1
  refine step_of_run ?_ (exec_bslice 91 1 #[(0, Operand.tmp 33)] ?_ #[(0, .agg (wrL n (kget kvs n) b).toArray)] ?_ _ (run_bslice_wr _ n (kget kvs n) b HKG.out hb)) ?_
  rfl
  rfl
  (simp only [List.map_toArray, List.map_cons, List.map_nil]; rfl)
  refine hK.out _ _ HB2.out (fun hHeld => ?_)
  clear hK K
  try simp only [Act.put, List.setIfInBounds_toArray, List.set_cons_zero, List.set_cons_succ]
  refine wpAnyH_ready (rs := [4]) (by kernel_rfl) (by simp) ?_
  refine AllReadyH.cons (o := ({ dst := some 24, op := Op.load 91 (Operand.tmp 23), type := 91, pos := "disk.go:63", after := #[{ on := 3, ground := Ground.data }], guard := none } : Oper)) rfl (fun K hK => ?_) AllReadyH.nil
  refine step_of_run ?_ (exec_load_loose (Operand.tmp 23) ?_ D 5 ?_ lv (by first | exact C5a.out | exact C5b.out)) ?_
  rfl
  rfl
  rfl
  refine hK.out _ _ (by assumption) (fun hHeld => ?_)
  clear hK K
  try simp only [Act.put, List.setIfInBounds_toArray, List.set_cons_zero, List.set_cons_succ]
  rotate_left 1
  all_goals
    refine wpAnyH_ready (rs := [15]) (by kernel_rfl) (by simp) ?_
    refine AllReadyH.cons (o := ({ dst := some 35, op := Op.call { callee := Callee.builtin Builtin.append, args := #[Operand.tmp 24, Operand.tmp 34], argTypes := #[91, 91] }, type := 91, pos := "disk.go:63", after := #[{ on := 4, ground := Ground.data }, { on := 14, ground := Ground.data }], guard := none } : Oper)) rfl (fun K hK => ?_) AllReadyH.nil
    refine step_append_wr ?_ (Operand.tmp 24) (Operand.tmp 34) ?_ B lv L ?_ HL2.out ⟨w1.drew.heap.size, 0, none⟩ (n, kget kvs n, b) HKG.out hb ?_ HC2.out hL HBS.out ?_
    rfl
    rfl
    rfl
    rfl
    intro v' w2 hlo2 hgr2 hblk
    obtain ⟨sa, sc, hv'⟩ := hlo2.shape
    generalize (L ++ [(n, kget kvs n, b)]).length = sn at hv'
    subst hv'
    have HLO2 := Lib.hid hlo2
    have HGR2 := Lib.hid hgr2
    have HBLK := Lib.hid hblk
    clear hlo2 hgr2 hblk
    have HD2 := Lib.hid (show DiskIs w2 D (DC nb rm (opFz fz dn) (opDn fz dn) (.map (some M)) lv) from (HGR2.out.block D (by simp; have := HD1.out.lt; omega) (fun e => HDK.out.apart.2.1 e.symm)).trans ((Below.heap_alloc w1.drew _ _ (show D < w1.drew.heap.size from HD1.out.lt)).trans HD1.out))
    have HM2 := Lib.hid (show MapIs w2 M kvs from hHeld.2.1.of (HGR2.out.block M hHeld.2.1.lt (fun e => HDK.out.apart.2.2 e.symm)))
    have HX2 := Lib.hid (show w2.heap[w.heap.size]? = some (.cells (ArrU8 b) 35 (0, 0)) from (HGR2.out.block w.heap.size (by simp; have := HSS.out; omega) (fun e => by have := (HLO.out.lt _ e.symm).2; omega)).trans hHeld.2.2)
    refine hK.out _ _ ⟨HD2.out.cell 4, HM2.out, HX2.out⟩ (fun hHeld => ?_)
    clear hK K
    try simp only [Act.put, List.setIfInBounds_toArray, List.set_cons_zero, List.set_cons_succ]
    refine wpAnyH_take (i := 16) (oi := ({ dst := some 36, op := Op.nilCheck (Operand.tmp 20), type := 0, pos := "disk.go:63", after := #[{ on := 0, ground := Ground.data }, { on := 0, ground := Ground.phase }, { on := 1, ground := Ground.phase }, { on := 2, ground := Ground.phase }, { on := 3, ground := Ground.phase }, { on := 4, ground := Ground.phase }, { on := 5, ground := Ground.phase }, { on := 6, ground := Ground.phase }, { on := 7, ground := Ground.phase }, { on := 8, ground := Ground.phase }, { on := 9, ground := Ground.phase }, { on := 10, ground := Ground.phase }, { on := 11, ground := Ground.phase }, { on := 12, ground := Ground.phase }, { on := 13, ground := Ground.phase }, { on := 14, ground := Ground.phase }, { on := 15, ground := Ground.phase }], guard := none } : Oper)) (v := ?_) rfl (by kernel_rfl) (by kernel_rfl) (by kernel_rfl) (fun _ _ _ h => h) (Or.inl ⟨by rfl, ?_⟩) (by assumption) ?_
    rotate_left 1
    · (intro u hSw; go_simp; try with_reducible rfl)
    try simp only [Act.put, List.setIfInBounds_toArray, List.set_cons_zero, List.set_cons_succ]
    refine wpAnyH_take (i := 17) (oi := ({ dst := some 37, op := Op.fieldAddr 93 (Operand.tmp 36) 5, type := 0, pos := "disk.go:63", after := #[{ on := 16, ground := Ground.data }, { on := 0, ground := Ground.phase }, { on := 1, ground := Ground.phase }, { on := 2, ground := Ground.phase }, { on := 3, ground := Ground.phase }, { on := 4, ground := Ground.phase }, { on := 5, ground := Ground.phase }, { on := 6, ground := Ground.phase }, { on := 7, ground := Ground.phase }, { on := 8, ground := Ground.phase }, { on := 9, ground := Ground.phase }, { on := 10, ground := Ground.phase }, { on := 11, ground := Ground.phase }, { on := 12, ground := Ground.phase }, { on := 13, ground := Ground.phase }, { on := 14, ground := Ground.phase }, { on := 15, ground := Ground.phase }], guard := none } : Oper)) (v := ?_) rfl (by kernel_rfl) (by kernel_rfl) (by kernel_rfl) (fun _ _ _ h => h) (Or.inl ⟨by rfl, ?_⟩) (by assumption) ?_
    rotate_left 1
    · (intro u hSw; go_simp; try with_reducible rfl)
    try simp only [Act.put, List.setIfInBounds_toArray, List.set_cons_zero, List.set_cons_succ]
    refine wpAnyH_ready (rs := [18]) (by kernel_rfl) (by simp) ?_
    refine AllReadyH.cons (o := ({ dst := none, op := Op.store 91 (Operand.tmp 37) (Operand.tmp 35), type := 0, pos := "disk.go:63", after := #[{ on := 17, ground := Ground.data }, { on := 15, ground := Ground.data }, { on := 15, ground := Ground.chain }, { on := 0, ground := Ground.phase }, { on := 1, ground := Ground.phase }, { on := 2, ground := Ground.phase }, { on := 3, ground := Ground.phase }, { on := 4, ground := Ground.phase }, { on := 5, ground := Ground.phase }, { on := 6, ground := Ground.phase }, { on := 7, ground := Ground.phase }, { on := 8, ground := Ground.phase }, { on := 9, ground := Ground.phase }, { on := 10, ground := Ground.phase }, { on := 11, ground := Ground.phase }, { on := 12, ground := Ground.phase }, { on := 13, ground := Ground.phase }, { on := 14, ground := Ground.phase }, { on := 15, ground := Ground.phase }], guard := none } : Oper)) rfl (fun K hK => ?_) AllReadyH.nil
    have c5 : w2.cell? ⟨D, 5, none⟩ = some lv := HD2.out.cell 5
    have f5 := HD2.out.frozen 5
    have HS3 := Lib.hid (show (w2.setCell ⟨D, 5, none⟩ (.slice sa sn sc)).cell? ⟨D, 4, none⟩ = some (.map (some M)) ∧ MapIs (w2.setCell ⟨D, 5, none⟩ (.slice sa sn sc)) M kvs ∧ (w2.setCell ⟨D, 5, none⟩ (.slice sa sn sc)).heap[w.heap.size]? = some (.cells (ArrU8 b) 35 (0, 0)) from
    ⟨(HD2.out.set 5 (.slice sa sn sc)).cell 4, HM2.out.of (Below.heap_setCell _ _ _ _ (fun e => HDK.out.apart.1 e.symm)), (Below.heap_setCell _ _ _ _ (show w.heap.size ≠ D by omega)).trans HX2.out⟩)
    go_simp
    refine hK.out _ _ HS3.out (fun hHeld => ?_)
    clear c5 f5
    clear hK K
    try simp only [Act.put]
    refine wpAnyH_done (by kernel_rfl) ?_ _
    have HD3 := Lib.hid (show DiskIs (w2.setCell ⟨D, 5, none⟩ (.slice sa sn sc)) D (DC nb rm (opFz fz dn) (opDn fz dn) (.map (some M)) (.slice sa sn sc)) from HD2.out.set 5 (.slice sa sn sc))
    have hown : ∀ k, (Value.slice sa sn sc).ownBlock = some k → lv.ownBlock = some k ∨ w.heap.size + 2 ≤ k := fun k hk => HBLK.out.elim (fun e => .inl (e.symm.trans hk)) (fun ⟨k', e, h⟩ => .inr (by rw [e] at hk; injection hk with hk; subst hk; simp at h; have := HSS.out; omega))
    have HOWN := Lib.hid hown
    have HLO3 := Lib.hid (show LooseIs (w2.setCell ⟨D, 5, none⟩ (.slice sa sn sc)) B (.slice sa sn sc) (L ++ [(n, kget kvs n, b)]) from HLO2.out.kept (fun k hk => Below.heap_setCell _ _ _ _ (fun e => by
      have e : k = D := e
      subst e
      exact (hown _ hk).elim HDK.out.apart.2.1 (fun h => by omega))))
    have HC3 := Lib.hid (show Chg (Foot D M lv) w (w2.setCell ⟨D, 5, none⟩ (.slice sa sn sc)) from
      (((HC1.out.mono (fun i hi => .inl hi)).drew.alloc _).trans (Chg.grown (F := fun k => lv.ownBlock = some k) HGR2.out (fun k hk => hk)) (fun i hi => .inl (.inr (.inr hi)))).setCell ⟨D, 5, none⟩ _ (.inl (.inl rfl)))
    have HM3 := Lib.hid hHeld.2.1
    have HX3 := Lib.hid hHeld.2.2
    clear hHeld hown
    generalize w2.setCell ⟨D, 5, none⟩ (.slice sa sn sc) = w3 at *
    go_wp2_with fail
    obtain ⟨w4, hrun, hm4, hg4, hs4⟩ := run_update_kv w3.drew M n b kvs (HM3.out.of rfl)
    have HRUN := Lib.hid hrun
    have HM4 := Lib.hid hm4
    have HG4 := Lib.hid hg4
    have HC4 := Lib.hid (show Chg (Foot D M lv) w w4 from HC3.out.drew.trans (Chg.grown (F := fun k => k = M) hg4 (fun k hk => by injection hk with hk; exact hk.symm)) (fun i hi => .inl (.inr (.inl hi))))
    have HD4' := Lib.hid (show DiskIs w4 D (DC nb rm (opFz fz dn) (opDn fz dn) (.map (some M)) (.slice sa sn sc)) from (hg4.block D (show D < w3.heap.size from HD3.out.lt) (fun e => HDK.out.apart.1 (by injection e))).trans HD3.out)
    have HX4 := Lib.hid ((hg4.block w.heap.size (show w.heap.size < w3.heap.size from (Array.getElem?_eq_some_iff.1 HX3.out).1) (by intro e; injection e with e; omega)).trans HX3.out)
    have HLO4 := Lib.hid (show LooseIs w4 B (.slice sa sn sc) (L ++ [(n, kget kvs n, b)]) from HLO3.out.kept (fun k hk => hg4.block k (HLO3.out.lt k hk).2 (fun e => by
      injection e with e
      subst e
      exact (HOWN.out _ hk).elim HDK.out.apart.2.2 (fun h => by omega))))
    clear hrun hm4 hg4 hs4
    refine wp_region_held_drew (S := fun u => u.cell? ⟨D, 4, none⟩ = some (.map (some M)) ∧ u.heap[w.heap.size]? = some (.cells (ArrU8 b) 35 (0, 0))) (by kernel_rfl) (⟨HD3.out.cell 4, HX3.out⟩) (fun hHeld => ?_)
    refine wpAnyH_take (i := 0) (oi := ({ dst := some 38, op := Op.move (Operand.tmp 0), type := 24, pos := "disk.go:64", after := #[], guard := none } : Oper)) (v := ?_) rfl (by kernel_rfl) (by kernel_rfl) (by kernel_rfl) (fun _ _ _ h => h) (Or.inl ⟨by rfl, ?_⟩) (by assumption) ?_
    rotate_left 1
    · (intro u hSw; go_simp; try with_reducible rfl)
    try simp only [Act.put, List.setIfInBounds_toArray, List.set_cons_zero, List.set_cons_succ]
    refine wpAnyH_take (i := 1) (oi := ({ dst := some 39, op := Op.nilCheck (Operand.tmp 38), type := 0, pos := "disk.go:64", after := #[{ on := 0, ground := Ground.data }], guard := none } : Oper)) (v := ?_) rfl (by kernel_rfl) (by kernel_rfl) (by kernel_rfl) (fun _ _ _ h => h) (Or.inl ⟨by rfl, ?_⟩) (by assumption) ?_
    rotate_left 1
    · (intro u hSw; go_simp; try with_reducible rfl)
    try simp only [Act.put, List.setIfInBounds_toArray, List.set_cons_zero, List.set_cons_succ]
    refine wpAnyH_take (i := 2) (oi := ({ dst := some 40, op := Op.fieldAddr 93 (Operand.tmp 39) 4, type := 0, pos := "disk.go:64", after := #[{ on := 1, ground := Ground.data }], guard := none } : Oper)) (v := ?_) rfl (by kernel_rfl) (by kernel_rfl) (by kernel_rfl) (fun _ _ _ h => h) (Or.inl ⟨by rfl, ?_⟩) (by assumption) ?_
    rotate_left 1
    · (intro u hSw; go_simp; try with_reducible rfl)
    try simp only [Act.put, List.setIfInBounds_toArray, List.set_cons_zero, List.set_cons_succ]
    refine wpAnyH_take (i := 3) (oi := ({ dst := some 41, op := Op.load 90 (Operand.tmp 40), type := 90, pos := "disk.go:64", after := #[{ on := 2, ground := Ground.data }], guard := none } : Oper)) (v := ?_) rfl (by kernel_rfl) (by kernel_rfl) (by kernel_rfl) (fun _ _ _ h => h) (Or.inl ⟨by rfl, ?_⟩) (by assumption) ?_
    rotate_left 1
    · intro u hSw
      have h4 := hSw.1
      go_simp
      try with_reducible rfl
    try simp only [Act.put, List.setIfInBounds_toArray, List.set_cons_zero, List.set_cons_succ]
    refine wpAnyH_take (i := 4) (oi := ({ dst := some 42, op := Op.move (Operand.tmp 1), type := 3, pos := "disk.go:64", after := #[], guard := none } : Oper)) (v := ?_) rfl (by kernel_rfl) (by kernel_rfl) (by kernel_rfl) (fun _ _ _ h => h) (Or.inl ⟨by rfl, ?_⟩) (by assumption) ?_
    rotate_left 1
    · (intro u hSw; go_simp; try with_reducible rfl)
    try simp only [Act.put, List.setIfInBounds_toArray, List.set_cons_zero, List.set_cons_succ]
    refine wpAnyH_take (i := 5) (oi := ({ dst := some 43, op := Op.load 35 (Operand.tmp 5), type := 35, pos := "disk.go:64", after := #[], guard := none } : Oper)) (v := ?_) rfl (by kernel_rfl) (by kernel_rfl) (by kernel_rfl) (fun _ _ _ h => h) (Or.inl ⟨by rfl, ?_⟩) (by assumption) ?_
    rotate_left 1
    · intro u hSw
      refine exec_load_row 35 (Operand.tmp 5) ?_ u w.heap.size ?_ (ArrU8 b) 35 (0, 0) _ hSw.2 Try.underlying35 rfl HI35.out <;> rfl
    try simp only [Act.put, List.setIfInBounds_toArray, List.set_cons_zero, List.set_cons_succ]
    refine wpAnyH_ready (rs := [6]) (by kernel_rfl) (by simp) ?_
    refine AllReadyH.cons (o := ({ dst := none, op := Op.mapUpdate 90 (Operand.tmp 41) (Operand.tmp 42) (Operand.tmp 43), type := 0, pos := "disk.go:64", after := #[{ on := 3, ground := Ground.data }, { on := 4, ground := Ground.data }, { on := 5, ground := Ground.data }, { on := 0, ground := Ground.phase }, { on := 1, ground := Ground.phase }, { on := 2, ground := Ground.phase }, { on := 3, ground := Ground.phase }, { on := 4, ground := Ground.phase }, { on := 5, ground := Ground.phase }], guard := none } : Oper)) rfl (fun K hK => ?_) AllReadyH.nil
    refine step_of_skip ?_ (exec_update (Operand.tmp 41) (Operand.tmp 42) (Operand.tmp 43) ?_ _ _ _ ?_ ?_ ?_ HRUN.out) ?_
    rfl
    rfl
    rfl
    rfl
    rfl
    refine hK.out _ _ ⟨HD4'.out.cell 4, HX4.out⟩ (fun hHeld => ?_)
    clear hK K
    try simp only [Act.put]
    refine wpAnyH_done (by kernel_rfl) ?_ _
    go_wp2_with fail
    go_ret
    refine ⟨congrArg (fun z => Ending.returned (.int .i64 z)) HE.out.symm, .slice sa sn sc, ?_, HC4.out, fun k hk => ?_⟩
    · rw [HE.out, if_pos rfl, if_pos rfl]
      rw [HKF.out n] at HLO4
      refine ⟨HD4'.out, ⟨_, HM4.out, hkn.put n b, fun m => ?_⟩, HLO4.out, hBD, hBM, opFz_rng HFZ.out, fun m => ?_, fun x hx => ?_⟩
      · rw [kget_kput, fput, HKF.out m]
      · unfold fput; split
        · exact hb
        · exact HFL.out m
      · rcases List.mem_append.1 hx with hx | hx
        · exact HLL.out x hx
        · rw [List.mem_singleton] at hx; subst hx; exact ⟨HFL.out n, hb⟩
    · rcases hk with hk | hk | hk
      · exact .inl (.inl hk)
      · exact .inl (.inr (.inl hk))
      · exact (HOWN.out k hk).elim (fun h => .inl (.inr (.inr h))) (fun h => .inr (by omega))
end Go.Proofs.Ytaklkjjoplfokaa
