import Derived.Test.YtaibminomehppaaDiskB
import Derived.WalkKit
import Derived.ProofKit
import Derived.BigQuiet
import Derived.Deep.QuietTactic
import Derived.WalkSpells
import Derived.WalkLawsBesides
import Derived.Lib.Hide
import Derived.Deep.MidRow
import Derived.Deep.RegionLaw
import Derived.BigRegion
import Derived.Laws.AppendOwnNone
import Derived.Deep.DeepMust
import Derived.Deep.AppendLies
import Derived.RegionTactic
import Derived.Deep.WholeRow
import Derived.BigFrame
import Derived.Deep.RegionWith
import Derived.Deep.RegionHeld3
import Derived.Maps.RangeWalk
import Derived.Laws.CopyOwn
import Derived.StillTailTactics
namespace Go.Proofs.Ytaibminomehppaa
open Go.RowKit
/-- what is written again: step by step, the last one torn -/
def redoF (g : Int → List Int) (K : List WR) (t : Int) : Nat → Int → List Int
  | 0 => g
  | j + 1 => match K[j]? with
    | some x => fput (redoF g K t j) x.1 (if j + 1 = K.length then tearL (redoF g K t j x.1) x.2.2 t else x.2.2)
    | none => redoF g K t j
def redoK (kvs : List (Int × List Int)) (K : List WR) (t : Int) : Nat → List (Int × List Int)
  | 0 => kvs
  | j + 1 => match K[j]? with
    | some x => kput (redoK kvs K t j) x.1 (if j + 1 = K.length then tearL (kget (redoK kvs K t j) x.1) x.2.2 t else x.2.2)
    | none => redoK kvs K t j
theorem redoK_get (kvs : List (Int × List Int)) (g : Int → List Int) (h : ∀ n, kget kvs n = g n) (K : List WR) (t : Int) : ∀ (j : Nat) (n : Int), kget (redoK kvs K t j) n = redoF g K t j n
  | 0, n => h n
  | j + 1, n => by
    have ih := redoK_get kvs g h K t j
    simp only [redoK, redoF]
    cases K[j]? with
    | none => exact ih n
    | some x => simp only [kget_kput, fput, ih]
theorem redoK_KN {kvs : List (Int × List Int)} (h : KN kvs) (K : List WR) (t : Int) : ∀ (j : Nat), KN (redoK kvs K t j)
  | 0 => h
  | j + 1 => by
    simp only [redoK]
    cases K[j]? with
    | none => exact redoK_KN h K t j
    | some x => exact (redoK_KN h K t j).put _ _
theorem tearL_len (b a : List Int) (t : Int) (hb : b.length = 256) (ha : a.length = 256) : (tearL b a t).length = 256 := by
  unfold tearL; split
  · exact ha
  · simp [ha, hb]; omega
theorem redoF_len {g : Int → List Int} (h : ∀ n, (g n).length = 256) (K : List WR) (hK : WOK K) (t : Int) : ∀ (j : Nat) (n : Int), (redoF g K t j n).length = 256
  | 0, n => h n
  | j + 1, n => by
    have ih := redoF_len h K hK t j
    simp only [redoF]
    cases hx : K[j]? with
    | none => exact ih n
    | some x =>
      have h2 := (hK x (List.mem_of_getElem? hx)).2
      simp only [fput]
      split
      · split
        · exact tearL_len _ _ _ (ih _) h2
        · exact h2
      · exact ih n
/-- what is there behind a failure -/
def upF (f : Int → List Int) (L : List WR) (ks : List Bool) (t : Int) : Int → List Int := redoF (undoF f L) (survL L ks) t (survL L ks).length
theorem exec_store_mid {P : Program} {ρ : Operand → Value} {op : Oper} {w : World} (ty : TypeId) (x y : Operand) (ho : op.op = .store ty x y) (b o : Nat) (cells : Array Value) (hx : ρ x = .pointer (some ⟨b, o, none⟩)) (hy : ρ y = .agg cells)
    (ht : w.there b o cells.size) (hi : (P.info? ty).map (·.size) = some cells.size) (h1 : cells.all (·.oneCell') = true) : (execOp ρ op).run P w = .ok .skip (w.setCells b o cells.toList) := by
  unfold execOp
  simp only [ho, hx, hy, Sem.run_bind, run_storeAt_mid w b o ty cells ht hi h1, Result.andThen_ok]
  rfl
theorem setCells_block (b : Nat) : ∀ (vs : List Value) (o : Nat) (w : World) (k : Nat), k ≠ b → (w.setCells b o vs).heap[k]? = w.heap[k]?
  | [], _, _, _, _ => rfl
  | v :: r, o, w, k, h => by
    rw [World.setCells, setCells_block b r (o + 1) _ k h]
    exact Below.heap_setCell _ _ _ _ h
theorem setCells_size (b : Nat) : ∀ (vs : List Value) (o : Nat) (w : World), (w.setCells b o vs).heap.size = w.heap.size
  | [], _, _ => rfl
  | v :: r, o, w => by rw [World.setCells, setCells_size b r (o + 1)]; simp [World.setCell]
theorem setCells_grown (b : Nat) : ∀ (vs : List Value) (o : Nat) (w : World), w.grownBy (w.setCells b o vs) (some b)
  | [], _, _ => World.grownBy.refl _ _
  | v :: r, o, w => grownBy_trans (grownBy_setCell w ⟨b, o, none⟩ v) (setCells_grown b r (o + 1) _)
set_option maxRecDepth 100000 in
set_option maxHeartbeats 4000000 in
theorem up_any (B D M : Nat) (nb rm fz t : Int) (dn : Bool) (f : Int → List Int) (L : List WR) (lv kv : Value) (ks : List Bool) (w : World) (h : Dk w B D M nb rm fz dn f L lv) (hkb : Bools w kv ks) (hkd : ∀ b o n c, kv = .slice (some ⟨b, o, none⟩) n c → 0 < ks.length → b ≠ M) (hL : L.length ≤ 268435456) (hkl : ks.length ≤ 140737488355328) :
    Calls Try.prog 56 #[.pointer (some ⟨D, 0, none⟩), kv, .int .i64 t] w fun e w' => e = .returned (.tuple #[]) ∧ Dk w' B D M nb rm (-1) false (upF f L ks t) [] (.slice none 0 0) ∧ Chg (fun k => k = D ∨ k = M) w w' := by
  have HDK := Lib.hid h
  have HKB := Lib.hid hkb
  have HKD := Lib.hid hkd
  clear hkb hkd
  obtain ⟨Z, hZ, hz⟩ : ∃ Z : Array Value, Z.size = 513 ∧ ∀ u : World, (zeroValue 140).run Try.prog u = .ok (.agg Z) u := ⟨_, by rw [List.size_toArray]; exact wrL_len 0 (zeros 256) (zeros 256) (zeros_len _) (zeros_len _), zero57⟩
  have HZ := Lib.hid hZ
  have HI57 := Lib.hid (show (Try.prog.info? 140).map (·.size) = some 513 by kernel_rfl)
  have HI35 := Lib.hid (show (Try.prog.info? 52).map (·.size) = some 256 by kernel_rfl)
  clear hZ h
  go_enter Try.func56, Try.ntmps56
  go_wp2_with fail
  refine (undo_any B D M nb rm fz dn f L lv w HDK.out hL).mono ?_
  rintro e w1 ⟨rfl, hdk1, hc1⟩
  have HDK1 := Lib.hid hdk1
  have HC1 := Lib.hid hc1
  have hkb1 : Bools w1 kv ks := by
    obtain ⟨a, cap, h1, h2⟩ := HKB.out
    refine ⟨a, cap, h1, fun h0 => ?_⟩
    obtain ⟨b, off, h3, h4, h5⟩ := h2 h0
    subst h3
    exact ⟨b, off, rfl, Nat.lt_of_lt_of_le h4 hc1.size, fun i hi => (World.cell?_of_block (a := ⟨b, off + i, none⟩) (hc1.block b h4 (HKD.out b off _ _ h1 h0))).trans (h5 i hi)⟩
  have HKB1 := Lib.hid hkb1
  obtain ⟨hd1, ⟨kvs, hm1, hkn, hkf⟩, hlo1, hBD, hBM, hfz, hfl, hLl⟩ := hdk1
  have c5 : w1.cell? ⟨D, 5, none⟩ = some lv := hd1.cell 5
  have HD1 := Lib.hid hd1
  have HM1 := Lib.hid hm1
  have HLO1 := Lib.hid hlo1
  have HKF := Lib.hid hkf
  have HFL := Lib.hid hfl
  have HLL := Lib.hid hLl
  clear hd1 hm1 hlo1 hkf hfl hLl hc1 hkb1
  go_wp2_with fail
  refine (survivors_any B lv kv L ks w1 HLO1.out HLL.out HKB1.out hL hkl).mono ?_
  rintro e w2 ⟨kr, rfl, hlo2, hb2⟩
  have HWK := Lib.hid (show WOK (survL L ks) from fun x hx => HLL.out x (survL_mem x L ks hx))
  have hKL : (survL L ks).length ≤ 268435456 := by have := survL_le L ks; omega
  have HUP := Lib.hid (show upF f L ks t = redoF (undoF f L) (survL L ks) t (survL L ks).length from rfl)
  generalize survL L ks = K at *
  obtain ⟨sa, sc, hkr⟩ := hlo2.shape
  subst hkr
  have HLO2 := Lib.hid hlo2
  have HB12 := Lib.hid hb2
  have HD24 := Lib.hid (show w2.cell? ⟨D, 4, none⟩ = some (.map (some M)) from (hb2.cell (p := ⟨D, 4, none⟩) HD1.out.lt).trans (HD1.out.cell 4))
  have HD2 := Lib.hid (show DiskIs w2 D _ from (hb2.block D HD1.out.lt).trans HD1.out)
  have HM2 := Lib.hid (show MapIs w2 M kvs from HM1.out.of (hb2.block M HM1.out.lt))
  clear hlo2 hb2 c5
  go_wp2_with fail
  go_loopw [19] (fun i wr => ∃ j : Nat, j ≤ K.length ∧ i = .int .i64 (j : Int) ∧ Chg (fun k => k = M) w2 wr ∧ MapIs wr M (redoK kvs K t j)) (fun i _ => K.length - (intOf i).toNat)
  case atStart => exact ⟨0, Nat.zero_le _, rfl, Chg.refl _ _, HM2.out⟩
  case round =>
    obtain ⟨j, hj, rfl, hcr, hmr⟩ := hrel
    have HCR := Lib.hid hcr
    have HMR := Lib.hid hmr
    clear hcr hmr
    by_cases hjl : j < K.length
    · have hx : K[j]? = some (K[j]'hjl) := List.getElem?_eq_getElem hjl
      obtain ⟨g, cap, hlv, hrng⟩ := HLO2.out.at HWK.out (by omega)
      injection hlv with e1 _ e2
      subst e1 e2
      generalize K[j]'hjl = x at hx
      have hxl := HWK.out x (List.mem_of_getElem? hx)
      have hgM : g ≠ M := fun e => by have := (HLO2.out.lt g rfl).1; have := HM1.out.lt; omega
      have hgl := (HLO2.out.lt g rfl).2
      have HR0 := Lib.hid (show wr.rangeAt g (j * 513) (wrL x.1 x.2.1 x.2.2) from fun k v hv => (World.cell?_of_block (a := ⟨g, j * 513 + k, none⟩) (HCR.out.block g hgl hgM)).trans (hrng j x hx k v hv))
      have HX := Lib.hid hx
      have HWL := Lib.hid (wrL_len x.1 x.2.1 x.2.2 hxl.1 hxl.2)
      have HXL := Lib.hid hxl
      clear hx hrng hxl
      by_cases hlast : j + 1 = K.length
      · have HSTEP := Lib.hid (show redoK kvs K t (j + 1) = kput (redoK kvs K t j) x.1 (tearL (kget (redoK kvs K t j) x.1) x.2.2 t) from by simp only [redoK, HX.out, if_pos hlast])
        have hgl : (kget (redoK kvs K t j) x.1).length = 256 := by rw [redoK_get kvs _ HKF.out]; exact redoF_len HFL.out K HWK.out t j x.1
        generalize redoK kvs K t j = kj at *
        have HGL := Lib.hid hgl
        have hl1 : (j : Int) = (K.length : Int) - 1 := by omega
        have HL1 := Lib.hid hl1
        clear hgl hlast hl1
        have heq : ((j : Int) == (K.length : Int) - 1) = true := by rw [HL1.out]; simp
        go_wp2_with (first
          | (refine wpList_load_mid rfl 140 (Operand.tmp 22) rfl g (j * 513) rfl (wrL x.1 x.2.1 x.2.2) _ HR0.out Try.underlying140 rfl (by rw [HI57.out, HWL.out]) ?_)
          | (refine wpList_store_new rfl 140 (Operand.tmp 8) (Operand.tmp 23) rfl wr.heap.size (wrL x.1 x.2.1 x.2.2).toArray rfl rfl rfl _ 140 (by rw [HI57.out, List.size_toArray, HWL.out]) (by rw [HZ.out, List.size_toArray, HWL.out]) (by rw [Array.all_eq_true_iff_forall_mem]; intro v hv; exact wrL_one _ _ _ v (by simpa using hv)) ?_; intro w3 hd3 hb3 hs3; have HD3 := Lib.hid hd3; have HB3 := Lib.hid hb3; have HS3 := Lib.hid hs3; clear hd3 hb3 hs3))
        have hb0 : w3.cell? ⟨wr.heap.size, 0, none⟩ = some (.int .i64 x.1) := (cell_of_row w3 _ 0 _ _ _ HD3.out).trans rfl
        have hb1 : w3.rangeAt wr.heap.size 257 (x.2.2.map (Value.int .u8)) := range_of_row HD3.out 257 _ (wrL_after x.1 x.2.1 x.2.2 HXL.out.1)
        have hc3 : Chg (fun k => k = M) w2 w3 := HCR.out.trans (Chg.fresh (F := fun k => k = M) HB3.out) (fun i hi => .inl hi)
        have hDlt2 : D < w2.heap.size := by have := HB12.out.size; have := HD1.out.lt; omega
        have hd4 : w3.cell? ⟨D, 4, none⟩ = some (.map (some M)) := (World.cell?_of_block (hc3.block D hDlt2 HDK1.out.apart.1)).trans HD24.out
        have hm3 : MapIs w3 M kj := HMR.out.of (HB3.out.block M HMR.out.lt)
        have H3 := Lib.hid (And.intro hd4 (And.intro hb0 hm3))
        have HRG := Lib.hid hb1
        have HCH3 := Lib.hid hc3
        clear hb0 hb1 hc3 hd4 hm3 heq
        have HS3b := HS3.out
        refine wp_region_held_drew (S := fun u => u.cell? ⟨D, 4, none⟩ = some (.map (some M)) ∧ u.cell? ⟨wr.heap.size, 0, none⟩ = some (.int .i64 x.1) ∧ MapIs u M kj) (by kernel_rfl) (H3.out) (fun hHeld => ?_)
        refine wpAnyH_take (i := 0) (oi := ({ dst := some 29, op := Op.move (Operand.tmp 0), type := 25, pos := "up.go:12", after := #[], guard := none } : Oper)) (v := ?_) rfl (by kernel_rfl) (by kernel_rfl) (by kernel_rfl) (fun _ _ _ h => h) (Or.inl ⟨by rfl, ?_⟩) (by assumption) ?_
        rotate_left 1
        · (intro u hSw; go_simp; try with_reducible rfl)
        try simp only [Act.put, List.setIfInBounds_toArray, List.set_cons_zero, List.set_cons_succ]
        refine wpAnyH_take (i := 1) (oi := ({ dst := some 30, op := Op.nilCheck (Operand.tmp 29), type := 0, pos := "up.go:12", after := #[{ on := 0, ground := Ground.data }], guard := none } : Oper)) (v := ?_) rfl (by kernel_rfl) (by kernel_rfl) (by kernel_rfl) (fun _ _ _ h => h) (Or.inl ⟨by rfl, ?_⟩) (by assumption) ?_
        rotate_left 1
        · (intro u hSw; go_simp; try with_reducible rfl)
        try simp only [Act.put, List.setIfInBounds_toArray, List.set_cons_zero, List.set_cons_succ]
        refine wpAnyH_take (i := 2) (oi := ({ dst := some 31, op := Op.fieldAddr 73 (Operand.tmp 30) 4, type := 0, pos := "up.go:12", after := #[{ on := 1, ground := Ground.data }], guard := none } : Oper)) (v := ?_) rfl (by kernel_rfl) (by kernel_rfl) (by kernel_rfl) (fun _ _ _ h => h) (Or.inl ⟨by rfl, ?_⟩) (by assumption) ?_
        rotate_left 1
        · (intro u hSw; go_simp; try with_reducible rfl)
        try simp only [Act.put, List.setIfInBounds_toArray, List.set_cons_zero, List.set_cons_succ]
        refine wpAnyH_take (i := 3) (oi := ({ dst := some 32, op := Op.load 70 (Operand.tmp 31), type := 70, pos := "up.go:12", after := #[{ on := 2, ground := Ground.data }], guard := none } : Oper)) (v := ?_) rfl (by kernel_rfl) (by kernel_rfl) (by kernel_rfl) (fun _ _ _ h => h) (Or.inl ⟨by rfl, ?_⟩) (by assumption) ?_
        rotate_left 1
        · intro u hSw
          have h4 := hSw.1
          go_simp
          try with_reducible rfl
        try simp only [Act.put, List.setIfInBounds_toArray, List.set_cons_zero, List.set_cons_succ]
        refine wpAnyH_take (i := 4) (oi := ({ dst := some 33, op := Op.fieldAddr 140 (Operand.tmp 8) 0, type := 0, pos := "up.go:12", after := #[], guard := none } : Oper)) (v := ?_) rfl (by kernel_rfl) (by kernel_rfl) (by kernel_rfl) (fun _ _ _ h => h) (Or.inl ⟨by rfl, ?_⟩) (by assumption) ?_
        rotate_left 1
        · (intro u hSw; go_simp; try with_reducible rfl)
        try simp only [Act.put, List.setIfInBounds_toArray, List.set_cons_zero, List.set_cons_succ]
        refine wpAnyH_take (i := 5) (oi := ({ dst := some 34, op := Op.load 3 (Operand.tmp 33), type := 3, pos := "up.go:12", after := #[{ on := 4, ground := Ground.data }], guard := none } : Oper)) (v := ?_) rfl (by kernel_rfl) (by kernel_rfl) (by kernel_rfl) (fun _ _ _ h => h) (Or.inl ⟨by rfl, ?_⟩) (by assumption) ?_
        rotate_left 1
        · intro u hSw
          have h4 := hSw.2.1
          go_simp
          try with_reducible rfl
        try simp only [Act.put, List.setIfInBounds_toArray, List.set_cons_zero, List.set_cons_succ]
        refine wpAnyH_take (i := 6) (oi := ({ dst := some 35, op := Op.lookup 70 (Operand.tmp 32) (Operand.tmp 34) false, type := 52, pos := "up.go:12", after := #[{ on := 3, ground := Ground.data }, { on := 5, ground := Ground.data }], guard := none } : Oper)) (v := ?_) rfl (by kernel_rfl) (by kernel_rfl) (by kernel_rfl) (fun _ _ _ h => h) (Or.inl ⟨by rfl, ?_⟩) (by assumption) ?_
        rotate_left 1
        · intro u hSw
          have hlk := run_lookup_kv u M x.1 kj hSw.2.2
          go_simp
          try with_reducible rfl
        try simp only [Act.put, List.setIfInBounds_toArray, List.set_cons_zero, List.set_cons_succ]
        refine wpAnyH_take (i := 7) (oi := ({ dst := some 36, op := Op.fieldAddr 140 (Operand.tmp 8) 2, type := 0, pos := "up.go:12", after := #[], guard := none } : Oper)) (v := ?_) rfl (by kernel_rfl) (by kernel_rfl) (by kernel_rfl) (fun _ _ _ h => h) (Or.inl ⟨by rfl, ?_⟩) (by assumption) ?_
        rotate_left 1
        · (intro u hSw; go_simp; try with_reducible rfl)
        try simp only [Act.put, List.setIfInBounds_toArray, List.set_cons_zero, List.set_cons_succ]
        refine wpAnyH_take (i := 9) (oi := ({ dst := some 38, op := Op.move (Operand.tmp 2), type := 3, pos := "up.go:12", after := #[], guard := none } : Oper)) (v := ?_) rfl (by kernel_rfl) (by kernel_rfl) (by kernel_rfl) (fun _ _ _ h => h) (Or.inl ⟨by rfl, ?_⟩) (by assumption) ?_
        rotate_left 1
        · (intro u hSw; go_simp; try with_reducible rfl)
        try simp only [Act.put, List.setIfInBounds_toArray, List.set_cons_zero, List.set_cons_succ]
        refine wpAnyH_ready (rs := [8]) (by kernel_rfl) (by simp) ?_
        refine AllReadyH.cons (o := ({ dst := some 37, op := Op.load 52 (Operand.tmp 36), type := 52, pos := "up.go:12", after := #[{ on := 7, ground := Ground.data }], guard := none } : Oper)) rfl (fun K hK => ?_) AllReadyH.nil
        refine step_of_run ?_ (exec_load_mid 52 (Operand.tmp 36) ?_ wr.heap.size 257 ?_ (x.2.2.map (Value.int .u8)) _ HRG.out Try.underlying52 rfl (by rw [List.length_map, HXL.out.2]; kernel_rfl)) ?_
        rfl
        rfl
        rfl
        refine hK.out _ _ (by assumption) (fun hHeld => ?_)
        clear hK K
        try simp only [Act.put, List.setIfInBounds_toArray, List.set_cons_zero, List.set_cons_succ]
        refine wpAnyH_ready (rs := [10]) (by kernel_rfl) (by simp) ?_
        refine AllReadyH.cons (o := ({ dst := some 39, op := Op.call { callee := Callee.value (Operand.func 97), args := #[Operand.tmp 35, Operand.tmp 37, Operand.tmp 38], argTypes := #[52, 52, 3] }, type := 52, pos := "up.go:12", after := #[{ on := 6, ground := Ground.data }, { on := 8, ground := Ground.data }, { on := 9, ground := Ground.data }], guard := none } : Oper)) rfl (fun K hK => ?_) AllReadyH.nil
        go_simp
        go_at_call 97
        refine (tear_any (kget kj x.1) x.2.2 t _ HGL.out HXL.out.2).mono ?_
        rintro e w4 ⟨rfl, hb4⟩
        have HB4 := Lib.hid (show Below w3.heap.size w3 w4 from ((Below.refl _ _).drew).trans hb4)
        clear hb4
        go_wp2_with fail
        have HX4 := Lib.hid ((HB4.out.block wr.heap.size (by omega)).trans HD3.out)
        refine hK.out _ _ ⟨(HB4.out.cell (p := ⟨D, 4, none⟩) (by show D < w3.heap.size; have := HCH3.out.size; omega)).trans H3.out.1, (HB4.out.cell (p := ⟨wr.heap.size, 0, none⟩) (by show wr.heap.size < w3.heap.size; omega)).trans H3.out.2.1, H3.out.2.2.of (HB4.out.block M H3.out.2.2.lt)⟩ (fun hHeld => ?_)
        clear hK K
        try simp only [Act.put, List.setIfInBounds_toArray, List.set_cons_zero, List.set_cons_succ]
        refine wpAnyH_take (i := 11) (oi := ({ dst := some 40, op := Op.fieldAddr 140 (Operand.tmp 8) 2, type := 0, pos := "up.go:12", after := #[{ on := 0, ground := Ground.phase }, { on := 1, ground := Ground.phase }, { on := 2, ground := Ground.phase }, { on := 3, ground := Ground.phase }, { on := 4, ground := Ground.phase }, { on := 5, ground := Ground.phase }, { on := 6, ground := Ground.phase }, { on := 7, ground := Ground.phase }, { on := 8, ground := Ground.phase }, { on := 9, ground := Ground.phase }, { on := 10, ground := Ground.phase }], guard := none } : Oper)) (v := ?_) rfl (by kernel_rfl) (by kernel_rfl) (by kernel_rfl) (fun _ _ _ h => h) (Or.inl ⟨by rfl, ?_⟩) (by assumption) ?_
        rotate_left 1
        · (intro u hSw; go_simp; try with_reducible rfl)
        try simp only [Act.put, List.setIfInBounds_toArray, List.set_cons_zero, List.set_cons_succ]
        refine wpAnyH_ready (rs := [12]) (by kernel_rfl) (by simp) ?_
        refine AllReadyH.cons (o := ({ dst := none, op := Op.store 52 (Operand.tmp 40) (Operand.tmp 39), type := 0, pos := "up.go:12", after := #[{ on := 11, ground := Ground.data }, { on := 10, ground := Ground.data }, { on := 10, ground := Ground.chain }, { on := 0, ground := Ground.phase }, { on := 1, ground := Ground.phase }, { on := 2, ground := Ground.phase }, { on := 3, ground := Ground.phase }, { on := 4, ground := Ground.phase }, { on := 5, ground := Ground.phase }, { on := 6, ground := Ground.phase }, { on := 7, ground := Ground.phase }, { on := 8, ground := Ground.phase }, { on := 9, ground := Ground.phase }, { on := 10, ground := Ground.phase }], guard := none } : Oper)) rfl (fun K hK => ?_) AllReadyH.nil
        have HTH := Lib.hid (show w4.there wr.heap.size 257 (ArrU8 (tearL (kget kj x.1) x.2.2 t)).size from fun i hi => by
        rw [ArrU8_size, tearL_len _ _ _ HGL.out HXL.out.2] at hi
        refine ⟨?_, frozen_of_row w4 _ _ _ _ HX4.out⟩
        rw [cell_of_row w4 _ _ _ _ _ HX4.out, List.getElem?_toArray, List.getElem?_eq_getElem (by rw [HWL.out]; omega)]
        rfl)
        have HTL := Lib.hid (tearL_len (kget kj x.1) x.2.2 t HGL.out HXL.out.2)
        have hM4 : MapIs w4 M kj := hHeld.2.2
        have hbM : wr.heap.size ≠ M := fun e => by have := HMR.out.lt; omega
        have hbD : wr.heap.size ≠ D := fun e => by have := HCR.out.size; omega
        have HS5 := Lib.hid (show (w4.setCells wr.heap.size 257 (ArrU8 (tearL (kget kj x.1) x.2.2 t)).toList).cell? ⟨D, 4, none⟩ = some (.map (some M)) ∧ (w4.setCells wr.heap.size 257 (ArrU8 (tearL (kget kj x.1) x.2.2 t)).toList).cell? ⟨wr.heap.size, 0, none⟩ = some (.int .i64 x.1) ∧ MapIs (w4.setCells wr.heap.size 257 (ArrU8 (tearL (kget kj x.1) x.2.2 t)).toList) M kj from
        ⟨(World.cell?_setCells_out _ _ _ _ _ (fun e _ => absurd e.symm hbD)).trans hHeld.1, (World.cell?_setCells_out _ _ _ _ _ (fun _ _ => .inl (by show 0 < 257; omega))).trans hHeld.2.1, hM4.of (setCells_block _ _ _ _ _ (fun e => hbM e.symm))⟩)
        have HRG5 := Lib.hid (show (w4.setCells wr.heap.size 257 (ArrU8 (tearL (kget kj x.1) x.2.2 t)).toList).rangeAt wr.heap.size 257 ((tearL (kget kj x.1) x.2.2 t).map (Value.int .u8)) from fun i v hv => by
        have hlt := (List.getElem?_eq_some_iff.1 hv).1
        have := World.cell?_setCells_in wr.heap.size ((tearL (kget kj x.1) x.2.2 t).map (Value.int .u8)) 257 w4 (fun q hq => (HTH.out q (by rw [ArrU8_size]; simpa using hq)).1) i hlt
        refine this.trans ?_
        rw [← hv, List.getElem?_eq_getElem hlt])
        have HCH5 := Lib.hid (show Chg (fun k => k = M) w2 (w4.setCells wr.heap.size 257 (ArrU8 (tearL (kget kj x.1) x.2.2 t)).toList) from
        (HCH3.out.trans (Chg.fresh (F := fun k => k = M) HB4.out) (fun i hi => .inl hi)).trans (Chg.grown (F := fun k => k = wr.heap.size) (setCells_grown _ _ _ _) (fun k hk => by injection hk with hk; exact hk.symm)) (fun i hi => .inr (by subst hi; exact HCR.out.size)))
        have HSZ5 := Lib.hid (show wr.heap.size + 1 ≤ (w4.setCells wr.heap.size 257 (ArrU8 (tearL (kget kj x.1) x.2.2 t)).toList).heap.size by rw [setCells_size]; have := HB4.out.size; omega)
        clear hM4 hbM hbD
        refine step_of_skip ?_ (exec_store_mid 52 (Operand.tmp 40) (Operand.tmp 39) ?_ wr.heap.size 257 (ArrU8 (tearL (kget kj x.1) x.2.2 t)) ?_ ?_ HTH.out (by rw [ArrU8_size, HTL.out]; exact HI35.out) (ArrU8_one _)) ?_
        rfl
        rfl
        rfl
        rfl
        refine hK.out _ _ HS5.out (fun hHeld => ?_)
        clear hK K
        try simp only [Act.put]
        refine wpAnyH_done (by kernel_rfl) ?_ _
        clear hHeld
        generalize w4.setCells wr.heap.size 257 (ArrU8 (tearL (kget kj x.1) x.2.2 t)).toList = w5 at *
        generalize tearL (kget kj x.1) x.2.2 t = T at *
        go_wp2_with fail
        obtain ⟨w9, hrun, hm9, hg9, hs9⟩ := run_update_kv w5.drew M x.1 T _ (HS5.out.2.2.of rfl)
        have hC9 : Chg (fun k => k = M) w2 w9 := HCH5.out.drew.trans (Chg.grown (F := fun k => k = M) hg9 (fun k hk => by injection hk with hk; exact hk.symm)) (fun i hi => .inl hi)
        have hbx9 : w9.heap[wr.heap.size]? = w5.heap[wr.heap.size]? := hg9.block wr.heap.size (by show _ < w5.heap.size; have := HSZ5.out; omega) (by intro e; injection e with e; have := HMR.out.lt; omega)
        have hD9 : w9.cell? ⟨D, 4, none⟩ = some (.map (some M)) := (World.cell?_of_block (hC9.block D (by have := HB12.out.size; have := HD1.out.lt; omega) HDK1.out.apart.1)).trans HD24.out
        have H8 := Lib.hid (And.intro HS5.out.1 (And.intro HS5.out.2.1 HRG5.out))
        have H9 := Lib.hid (And.intro hD9 (And.intro ((World.cell?_of_block (a := ⟨wr.heap.size, 0, none⟩) hbx9).trans HS5.out.2.1) (show w9.rangeAt wr.heap.size 257 (T.map (Value.int .u8)) from fun k v hv => (World.cell?_of_block (a := ⟨wr.heap.size, 257 + k, none⟩) hbx9).trans (HRG5.out k v hv))))
        have HRUN := Lib.hid hrun
        have HM9 := Lib.hid hm9
        have HC9 := Lib.hid hC9
        clear hrun hm9 hg9 hs9 hC9 hD9 hbx9
        refine wp_region_held_drew (S := fun u => u.cell? ⟨D, 4, none⟩ = some (.map (some M)) ∧ u.cell? ⟨wr.heap.size, 0, none⟩ = some (.int .i64 x.1) ∧ u.rangeAt wr.heap.size 257 (T.map (Value.int .u8))) (by kernel_rfl) (H8.out) (fun hHeld => ?_)
        refine wpAnyH_take (i := 0) (oi := ({ dst := some 41, op := Op.move (Operand.tmp 0), type := 25, pos := "up.go:14", after := #[], guard := none } : Oper)) (v := ?_) rfl (by kernel_rfl) (by kernel_rfl) (by kernel_rfl) (fun _ _ _ h => h) (Or.inl ⟨by rfl, ?_⟩) (by assumption) ?_
        rotate_left 1
        · (intro u hSw; go_simp; try with_reducible rfl)
        try simp only [Act.put, List.setIfInBounds_toArray, List.set_cons_zero, List.set_cons_succ]
        refine wpAnyH_take (i := 1) (oi := ({ dst := some 42, op := Op.nilCheck (Operand.tmp 41), type := 0, pos := "up.go:14", after := #[{ on := 0, ground := Ground.data }], guard := none } : Oper)) (v := ?_) rfl (by kernel_rfl) (by kernel_rfl) (by kernel_rfl) (fun _ _ _ h => h) (Or.inl ⟨by rfl, ?_⟩) (by assumption) ?_
        rotate_left 1
        · (intro u hSw; go_simp; try with_reducible rfl)
        try simp only [Act.put, List.setIfInBounds_toArray, List.set_cons_zero, List.set_cons_succ]
        refine wpAnyH_take (i := 2) (oi := ({ dst := some 43, op := Op.fieldAddr 73 (Operand.tmp 42) 4, type := 0, pos := "up.go:14", after := #[{ on := 1, ground := Ground.data }], guard := none } : Oper)) (v := ?_) rfl (by kernel_rfl) (by kernel_rfl) (by kernel_rfl) (fun _ _ _ h => h) (Or.inl ⟨by rfl, ?_⟩) (by assumption) ?_
        rotate_left 1
        · (intro u hSw; go_simp; try with_reducible rfl)
        try simp only [Act.put, List.setIfInBounds_toArray, List.set_cons_zero, List.set_cons_succ]
        refine wpAnyH_take (i := 3) (oi := ({ dst := some 44, op := Op.load 70 (Operand.tmp 43), type := 70, pos := "up.go:14", after := #[{ on := 2, ground := Ground.data }], guard := none } : Oper)) (v := ?_) rfl (by kernel_rfl) (by kernel_rfl) (by kernel_rfl) (fun _ _ _ h => h) (Or.inl ⟨by rfl, ?_⟩) (by assumption) ?_
        rotate_left 1
        · intro u hSw
          have h4 := hSw.1
          go_simp
          try with_reducible rfl
        try simp only [Act.put, List.setIfInBounds_toArray, List.set_cons_zero, List.set_cons_succ]
        refine wpAnyH_take (i := 4) (oi := ({ dst := some 45, op := Op.fieldAddr 140 (Operand.tmp 8) 0, type := 0, pos := "up.go:14", after := #[], guard := none } : Oper)) (v := ?_) rfl (by kernel_rfl) (by kernel_rfl) (by kernel_rfl) (fun _ _ _ h => h) (Or.inl ⟨by rfl, ?_⟩) (by assumption) ?_
        rotate_left 1
        · (intro u hSw; go_simp; try with_reducible rfl)
        try simp only [Act.put, List.setIfInBounds_toArray, List.set_cons_zero, List.set_cons_succ]
        refine wpAnyH_take (i := 5) (oi := ({ dst := some 46, op := Op.load 3 (Operand.tmp 45), type := 3, pos := "up.go:14", after := #[{ on := 4, ground := Ground.data }], guard := none } : Oper)) (v := ?_) rfl (by kernel_rfl) (by kernel_rfl) (by kernel_rfl) (fun _ _ _ h => h) (Or.inl ⟨by rfl, ?_⟩) (by assumption) ?_
        rotate_left 1
        · intro u hSw
          have h4 := hSw.2.1
          go_simp
          try with_reducible rfl
        try simp only [Act.put, List.setIfInBounds_toArray, List.set_cons_zero, List.set_cons_succ]
        refine wpAnyH_take (i := 6) (oi := ({ dst := some 47, op := Op.fieldAddr 140 (Operand.tmp 8) 2, type := 0, pos := "up.go:14", after := #[], guard := none } : Oper)) (v := ?_) rfl (by kernel_rfl) (by kernel_rfl) (by kernel_rfl) (fun _ _ _ h => h) (Or.inl ⟨by rfl, ?_⟩) (by assumption) ?_
        rotate_left 1
        · (intro u hSw; go_simp; try with_reducible rfl)
        try simp only [Act.put, List.setIfInBounds_toArray, List.set_cons_zero, List.set_cons_succ]
        refine wpAnyH_take (i := 7) (oi := ({ dst := some 48, op := Op.load 52 (Operand.tmp 47), type := 52, pos := "up.go:14", after := #[{ on := 6, ground := Ground.data }], guard := none } : Oper)) (v := ?_) rfl (by kernel_rfl) (by kernel_rfl) (by kernel_rfl) (fun _ _ _ h => h) (Or.inl ⟨by rfl, ?_⟩) (by assumption) ?_
        rotate_left 1
        · intro u hSw
          refine exec_load_mid 52 (Operand.tmp 47) ?_ wr.heap.size 257 ?_ (T.map (Value.int .u8)) _ hSw.2.2 Try.underlying52 rfl (by rw [List.length_map, HTL.out]; kernel_rfl) <;> rfl
        try simp only [Act.put, List.setIfInBounds_toArray, List.set_cons_zero, List.set_cons_succ]
        refine wpAnyH_ready (rs := [8]) (by kernel_rfl) (by simp) ?_
        refine AllReadyH.cons (o := ({ dst := none, op := Op.mapUpdate 70 (Operand.tmp 44) (Operand.tmp 46) (Operand.tmp 48), type := 0, pos := "up.go:14", after := #[{ on := 3, ground := Ground.data }, { on := 5, ground := Ground.data }, { on := 7, ground := Ground.data }, { on := 0, ground := Ground.phase }, { on := 1, ground := Ground.phase }, { on := 2, ground := Ground.phase }, { on := 3, ground := Ground.phase }, { on := 4, ground := Ground.phase }, { on := 5, ground := Ground.phase }, { on := 6, ground := Ground.phase }, { on := 7, ground := Ground.phase }], guard := none } : Oper)) rfl (fun K hK => ?_) AllReadyH.nil
        refine step_of_skip ?_ (exec_update (Operand.tmp 44) (Operand.tmp 46) (Operand.tmp 48) ?_ _ _ _ ?_ ?_ ?_ HRUN.out) ?_
        rfl
        rfl
        rfl
        rfl
        rfl
        refine hK.out _ _ H9.out (fun hHeld => ?_)
        clear hK K
        try simp only [Act.put]
        refine wpAnyH_done (by kernel_rfl) ?_ _
        go_wp2_with fail
        go_roundw
        case rel =>
          refine ⟨j + 1, by omega, by go_num, HC9.out, ?_⟩
          rw [HSTEP.out]
          exact HM9.out
        case measure => simp [intOf]; omega
      · have HSTEP := Lib.hid (show redoK kvs K t (j + 1) = kput (redoK kvs K t j) x.1 x.2.2 from by simp only [redoK, HX.out, if_neg hlast])
        generalize redoK kvs K t j = kj at *
        have hne : ((j : Int) == (K.length : Int) - 1) = false := by simp; omega
        clear hlast
        go_wp2_with (first
          | (refine wpList_load_mid rfl 140 (Operand.tmp 22) rfl g (j * 513) rfl (wrL x.1 x.2.1 x.2.2) _ HR0.out Try.underlying140 rfl (by rw [HI57.out, HWL.out]) ?_)
          | (refine wpList_store_new rfl 140 (Operand.tmp 8) (Operand.tmp 23) rfl wr.heap.size (wrL x.1 x.2.1 x.2.2).toArray rfl rfl rfl _ 140 (by rw [HI57.out, List.size_toArray, HWL.out]) (by rw [HZ.out, List.size_toArray, HWL.out]) (by rw [Array.all_eq_true_iff_forall_mem]; intro v hv; exact wrL_one _ _ _ v (by simpa using hv)) ?_; intro w3 hd3 hb3 hs3; have HD3 := Lib.hid hd3; have HB3 := Lib.hid hb3; have HS3 := Lib.hid hs3; clear hd3 hb3 hs3))
        have hb0 : w3.cell? ⟨wr.heap.size, 0, none⟩ = some (.int .i64 x.1) := (cell_of_row w3 _ 0 _ _ _ HD3.out).trans rfl
        have hb1 : w3.rangeAt wr.heap.size 257 (x.2.2.map (Value.int .u8)) := range_of_row HD3.out 257 _ (wrL_after x.1 x.2.1 x.2.2 HXL.out.1)
        have hc3 : Chg (fun k => k = M) w2 w3 := HCR.out.trans (Chg.fresh (F := fun k => k = M) HB3.out) (fun i hi => .inl hi)
        have hd4 : w3.cell? ⟨D, 4, none⟩ = some (.map (some M)) := (World.cell?_of_block (hc3.block D (by have := HB12.out.size; have := HD1.out.lt; omega) HDK1.out.apart.1)).trans HD24.out
        have hm3 : MapIs w3 M kj := HMR.out.of (HB3.out.block M HMR.out.lt)
        obtain ⟨w9, hrun, hm9, hg9, hs9⟩ := run_update_kv w3.drew M x.1 x.2.2 _ (hm3.of rfl)
        have hC9 : Chg (fun k => k = M) w2 w9 := hc3.drew.trans (Chg.grown (F := fun k => k = M) hg9 (fun k hk => by injection hk with hk; exact hk.symm)) (fun i hi => .inl hi)
        have hbx9 : w9.heap[wr.heap.size]? = w3.heap[wr.heap.size]? := hg9.block wr.heap.size (by show _ < w3.heap.size; have := HS3.out; omega) (by intro e; injection e with e; have := HMR.out.lt; omega)
        have hD9 : w9.cell? ⟨D, 4, none⟩ = some (.map (some M)) := (World.cell?_of_block (hC9.block D (by have := HB12.out.size; have := HD1.out.lt; omega) HDK1.out.apart.1)).trans HD24.out
        have H8 := Lib.hid (And.intro hd4 (And.intro hb0 hb1))
        have H9 := Lib.hid (And.intro hD9 (And.intro ((World.cell?_of_block (a := ⟨wr.heap.size, 0, none⟩) hbx9).trans hb0) (show w9.rangeAt wr.heap.size 257 (x.2.2.map (Value.int .u8)) from fun k v hv => (World.cell?_of_block (a := ⟨wr.heap.size, 257 + k, none⟩) hbx9).trans (hb1 k v hv))))
        have HRUN := Lib.hid hrun
        have HM9 := Lib.hid hm9
        have HC9 := Lib.hid hC9
        clear hrun hm9 hg9 hs9 hC9 hD9 hbx9
        refine wp_region_held_drew (S := fun u => u.cell? ⟨D, 4, none⟩ = some (.map (some M)) ∧ u.cell? ⟨wr.heap.size, 0, none⟩ = some (.int .i64 x.1) ∧ u.rangeAt wr.heap.size 257 (x.2.2.map (Value.int .u8))) (by kernel_rfl) (H8.out) (fun hHeld => ?_)
        refine wpAnyH_take (i := 0) (oi := ({ dst := some 41, op := Op.move (Operand.tmp 0), type := 25, pos := "up.go:14", after := #[], guard := none } : Oper)) (v := ?_) rfl (by kernel_rfl) (by kernel_rfl) (by kernel_rfl) (fun _ _ _ h => h) (Or.inl ⟨by rfl, ?_⟩) (by assumption) ?_
        rotate_left 1
        · (intro u hSw; go_simp; try with_reducible rfl)
        try simp only [Act.put, List.setIfInBounds_toArray, List.set_cons_zero, List.set_cons_succ]
        refine wpAnyH_take (i := 1) (oi := ({ dst := some 42, op := Op.nilCheck (Operand.tmp 41), type := 0, pos := "up.go:14", after := #[{ on := 0, ground := Ground.data }], guard := none } : Oper)) (v := ?_) rfl (by kernel_rfl) (by kernel_rfl) (by kernel_rfl) (fun _ _ _ h => h) (Or.inl ⟨by rfl, ?_⟩) (by assumption) ?_
        rotate_left 1
        · (intro u hSw; go_simp; try with_reducible rfl)
        try simp only [Act.put, List.setIfInBounds_toArray, List.set_cons_zero, List.set_cons_succ]
        refine wpAnyH_take (i := 2) (oi := ({ dst := some 43, op := Op.fieldAddr 73 (Operand.tmp 42) 4, type := 0, pos := "up.go:14", after := #[{ on := 1, ground := Ground.data }], guard := none } : Oper)) (v := ?_) rfl (by kernel_rfl) (by kernel_rfl) (by kernel_rfl) (fun _ _ _ h => h) (Or.inl ⟨by rfl, ?_⟩) (by assumption) ?_
        rotate_left 1
        · (intro u hSw; go_simp; try with_reducible rfl)
        try simp only [Act.put, List.setIfInBounds_toArray, List.set_cons_zero, List.set_cons_succ]
        refine wpAnyH_take (i := 3) (oi := ({ dst := some 44, op := Op.load 70 (Operand.tmp 43), type := 70, pos := "up.go:14", after := #[{ on := 2, ground := Ground.data }], guard := none } : Oper)) (v := ?_) rfl (by kernel_rfl) (by kernel_rfl) (by kernel_rfl) (fun _ _ _ h => h) (Or.inl ⟨by rfl, ?_⟩) (by assumption) ?_
        rotate_left 1
        · intro u hSw
          have h4 := hSw.1
          go_simp
          try with_reducible rfl
        try simp only [Act.put, List.setIfInBounds_toArray, List.set_cons_zero, List.set_cons_succ]
        refine wpAnyH_take (i := 4) (oi := ({ dst := some 45, op := Op.fieldAddr 140 (Operand.tmp 8) 0, type := 0, pos := "up.go:14", after := #[], guard := none } : Oper)) (v := ?_) rfl (by kernel_rfl) (by kernel_rfl) (by kernel_rfl) (fun _ _ _ h => h) (Or.inl ⟨by rfl, ?_⟩) (by assumption) ?_
        rotate_left 1
        · (intro u hSw; go_simp; try with_reducible rfl)
        try simp only [Act.put, List.setIfInBounds_toArray, List.set_cons_zero, List.set_cons_succ]
        refine wpAnyH_take (i := 5) (oi := ({ dst := some 46, op := Op.load 3 (Operand.tmp 45), type := 3, pos := "up.go:14", after := #[{ on := 4, ground := Ground.data }], guard := none } : Oper)) (v := ?_) rfl (by kernel_rfl) (by kernel_rfl) (by kernel_rfl) (fun _ _ _ h => h) (Or.inl ⟨by rfl, ?_⟩) (by assumption) ?_
        rotate_left 1
        · intro u hSw
          have h4 := hSw.2.1
          go_simp
          try with_reducible rfl
        try simp only [Act.put, List.setIfInBounds_toArray, List.set_cons_zero, List.set_cons_succ]
        refine wpAnyH_take (i := 6) (oi := ({ dst := some 47, op := Op.fieldAddr 140 (Operand.tmp 8) 2, type := 0, pos := "up.go:14", after := #[], guard := none } : Oper)) (v := ?_) rfl (by kernel_rfl) (by kernel_rfl) (by kernel_rfl) (fun _ _ _ h => h) (Or.inl ⟨by rfl, ?_⟩) (by assumption) ?_
        rotate_left 1
        · (intro u hSw; go_simp; try with_reducible rfl)
        try simp only [Act.put, List.setIfInBounds_toArray, List.set_cons_zero, List.set_cons_succ]
        refine wpAnyH_take (i := 7) (oi := ({ dst := some 48, op := Op.load 52 (Operand.tmp 47), type := 52, pos := "up.go:14", after := #[{ on := 6, ground := Ground.data }], guard := none } : Oper)) (v := ?_) rfl (by kernel_rfl) (by kernel_rfl) (by kernel_rfl) (fun _ _ _ h => h) (Or.inl ⟨by rfl, ?_⟩) (by assumption) ?_
        rotate_left 1
        · intro u hSw
          refine exec_load_mid 52 (Operand.tmp 47) ?_ wr.heap.size 257 ?_ (x.2.2.map (Value.int .u8)) _ hSw.2.2 Try.underlying52 rfl (by rw [List.length_map, HXL.out.2]; kernel_rfl) <;> rfl
        try simp only [Act.put, List.setIfInBounds_toArray, List.set_cons_zero, List.set_cons_succ]
        refine wpAnyH_ready (rs := [8]) (by kernel_rfl) (by simp) ?_
        refine AllReadyH.cons (o := ({ dst := none, op := Op.mapUpdate 70 (Operand.tmp 44) (Operand.tmp 46) (Operand.tmp 48), type := 0, pos := "up.go:14", after := #[{ on := 3, ground := Ground.data }, { on := 5, ground := Ground.data }, { on := 7, ground := Ground.data }, { on := 0, ground := Ground.phase }, { on := 1, ground := Ground.phase }, { on := 2, ground := Ground.phase }, { on := 3, ground := Ground.phase }, { on := 4, ground := Ground.phase }, { on := 5, ground := Ground.phase }, { on := 6, ground := Ground.phase }, { on := 7, ground := Ground.phase }], guard := none } : Oper)) rfl (fun K hK => ?_) AllReadyH.nil
        refine step_of_skip ?_ (exec_update (Operand.tmp 44) (Operand.tmp 46) (Operand.tmp 48) ?_ _ _ _ ?_ ?_ ?_ HRUN.out) ?_
        rfl
        rfl
        rfl
        rfl
        rfl
        refine hK.out _ _ H9.out (fun hHeld => ?_)
        clear hK K
        try simp only [Act.put]
        refine wpAnyH_done (by kernel_rfl) ?_ _
        go_wp2_with fail
        go_roundw
        case rel =>
          refine ⟨j + 1, by omega, by go_num, HC9.out, ?_⟩
          rw [HSTEP.out]
          exact HM9.out
        case measure => simp [intOf]; omega
    · obtain rfl : j = K.length := by omega
      have HDR := Lib.hid (show DiskIs wr D _ from (HCR.out.block D (by have := HB12.out.size; have := HD1.out.lt; omega) HDK1.out.apart.1).trans HD2.out)
      have c2 := HDR.out.cell 2
      have c3 := HDR.out.cell 3
      have c5 := HDR.out.cell 5
      have f2 := HDR.out.frozen 2
      have f3 := HDR.out.frozen 3
      have f5 := HDR.out.frozen 5
      go_wp2_with fail
      go_end0
      refine ⟨rfl, ⟨((HDR.out.set 5 _).set 2 _).set 3 _, ⟨redoK kvs K t K.length, ?_, redoK_KN hkn _ _ _, fun n => by rw [HUP.out]; exact redoK_get kvs _ HKF.out K t _ n⟩, World.ownsRow_nil _ _ _ _, hBD, hBM, ⟨by omega, by omega⟩, fun n => by rw [HUP.out]; exact redoF_len HFL.out K HWK.out t _ n, fun x hx => by cases hx⟩, ?_⟩
      · exact HMR.out.of ((Below.heap_setCell _ _ _ _ (fun e => HDK1.out.apart.1 e.symm)).trans ((Below.heap_setCell _ _ _ _ (fun e => HDK1.out.apart.1 e.symm)).trans (Below.heap_setCell _ _ _ _ (fun e => HDK1.out.apart.1 e.symm))))
      · refine ((((HC1.out.mono (fun i hi => .inr hi)).trans (Chg.fresh (F := fun _ => False) HB12.out) (fun i hi => hi.elim)).trans HCR.out (fun i hi => .inl (.inr hi))).setCell ⟨D, 5, none⟩ _ (.inl (.inl rfl))).setCell ⟨D, 2, none⟩ _ (.inl (.inl rfl)) |>.setCell ⟨D, 3, none⟩ _ (.inl (.inl rfl))
end Go.Proofs.Ytaibminomehppaa
