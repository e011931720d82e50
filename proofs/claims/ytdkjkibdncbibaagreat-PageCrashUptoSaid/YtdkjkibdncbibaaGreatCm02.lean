import Derived.Test.YtdkjkibdncbibaaGreatCm01
import Derived.Lib.SlBytesConst
namespace Go.Proofs.YtdkjkibdncbibaaGreat
open Go.RowKit
open Go.Lib (hid)
/-- what is written again: step by step, the last one torn -/
def redoF (g : Int → List Int) (K : List WR) (t : Int) : Nat → Int → List Int
 | 0 => g
 | j + 1 => match K[j]? with
  | some x => fput (redoF g K t j) x.1 (if j + 1 = K.length then tearL (redoF g K t j x.1) x.2.2 t else x.2.2)
  | none => redoF g K t j
def redoK (kvs : List (Int × List Int)) (K : List WR) (t : Int) : Nat → List (Int × List Int)
 | 0 => kvs
 | j + 1 => match K[j]? with
  | some x => kput (redoK kvs K t j) x.1 (if j + 1 = K.length then tearL (kget (redoK kvs K t j) x.1) x.2.2 t else x.2.2)
  | none => redoK kvs K t j
theorem redoK_get (kvs : List (Int × List Int)) (g : Int → List Int) (h : ∀ n, kget kvs n = g n) (K : List WR) (t : Int) : ∀ (j : Nat) (n : Int), kget (redoK kvs K t j) n = redoF g K t j n
 | 0, n => h n
 | j + 1, n => by
  have ih := redoK_get kvs g h K t j
  simp only [redoK, redoF]
  cases K[j]? with
  | none => exact ih n
  | some x => simp only [kget_kput, fput, ih]
theorem redoK_KN {kvs : List (Int × List Int)} (h : KN kvs) (K : List WR) (t : Int) : ∀ (j : Nat), KN (redoK kvs K t j)
 | 0 => h
 | j + 1 => by
  simp only [redoK]
  cases K[j]? with
  | none => exact redoK_KN h K t j
  | some x => exact (redoK_KN h K t j).put _ _
theorem tearL_len (b a : List Int) (t : Int) (hb : b.length = 256) (ha : a.length = 256) : (tearL b a t).length = 256 := by
 unfold tearL; split
 ·exact ha
 ·simp [ha, hb]; omega
theorem redoF_len {g : Int → List Int} (h : ∀ n, (g n).length = 256) (K : List WR) (hK : WOK K) (t : Int) : ∀ (j : Nat) (n : Int), (redoF g K t j n).length = 256
 | 0, n => h n
 | j + 1, n => by
  have ih := redoF_len h K hK t j
  simp only [redoF]
  cases hx : K[j]? with
  | none => exact ih n
  | some x =>
   have h2 := (hK x (List.mem_of_getElem? hx)).2
   simp only [fput]
   split
   ·split
    ·exact tearL_len _ _ _ (ih _) h2
    ·exact h2
   ·exact ih n
/-- what is there behind a failure -/
def upF (f : Int → List Int) (L : List WR) (ks : List Bool) (t : Int) : Int → List Int := redoF (undoF f L) (survL L ks) t (survL L ks).length
theorem exec_store_mid {P : Program} {ρ : Operand → Value} {op : Oper} {w : World} (ty : TypeId) (x y : Operand) (ho : op.op = .store ty x y) (b o : Nat) (cells : Array Value) (hx : ρ x = .pointer (some ⟨b, o, none⟩)) (hy : ρ y = .agg cells)
  (ht : w.there b o cells.size) (hi : (P.info? ty).map (·.size) = some cells.size) (h1 : cells.all (·.oneCell') = true) : (execOp ρ op).run P w = .ok .skip (w.setCells b o cells.toList) := by
 unfold execOp
 simp only [ho, hx, hy, Sem.run_bind, run_storeAt_mid w b o ty cells ht hi h1, Result.andThen_ok]
 rfl
theorem setCells_block (b : Nat) : ∀ (vs : List Value) (o : Nat) (w : World) (k : Nat), k ≠ b → (w.setCells b o vs).heap[k]? = w.heap[k]?
 | [], _, _, _, _ => rfl
 | v :: r, o, w, k, h => by
  rw [World.setCells, setCells_block b r (o + 1) _ k h]
  exact Below.heap_setCell _ _ _ _ h
theorem setCells_size (b : Nat) : ∀ (vs : List Value) (o : Nat) (w : World), (w.setCells b o vs).heap.size = w.heap.size
 | [], _, _ => rfl
 | v :: r, o, w => by rw [World.setCells, setCells_size b r (o + 1)]; simp [World.setCell]
theorem setCells_grown (b : Nat) : ∀ (vs : List Value) (o : Nat) (w : World), w.grownBy (w.setCells b o vs) (some b)
 | [], _, _ => World.grownBy.refl _ _
 | v :: r, o, w => grownBy_trans (grownBy_setCell w ⟨b, o, none⟩ v) (setCells_grown b r (o + 1) _)
set_option maxRecDepth 100000 in
set_option maxHeartbeats 4000000 in
theorem up_any (B D M : Nat) (nb rm fz t : Int) (dn : Bool) (f : Int → List Int) (L : List WR) (lv kv : Value) (ks : List Bool) (w : World) (h : Dk w B D M nb rm fz dn f L lv) (hkb : Bools w kv ks) (hkd : ∀ b o n c, kv = .slice (some ⟨b, o, none⟩) n c → 0 < ks.length → b ≠ M) (hL : L.length ≤ 268435456) (hkl : ks.length ≤ 140737488355328) :
    Calls Tryz.prog 17 #[.pointer (some ⟨D, 0, none⟩), kv, .int .i64 t] w fun e w' => e = .returned (.tuple #[]) ∧ Dk w' B D M nb rm (-1) false (upF f L ks t) [] (.slice none 0 0) ∧ Chg (fun k => k = D ∨ k = M) w w' := by
  have HDK := hid h
  have HKB := hid hkb
  have HKD := hid hkd
  clear hkb hkd
  obtain ⟨Z, hZ, hz⟩ : ∃ Z : Array Value, Z.size = 513 ∧ ∀ u : World, (zeroValue 96).run Tryz.prog u = .ok (.agg Z) u := ⟨_, by rw [List.size_toArray]; exact wrL_len 0 (zeros 256) (zeros 256) (zeros_len _) (zeros_len _), zero57⟩
  have HZ := hid hZ
  have HI57 := hid (show (Tryz.prog.info? 96).map (·.size) = some 513 by kernel_rfl)
  have HI35 := hid (show (Tryz.prog.info? 50).map (·.size) = some 256 by kernel_rfl)
  clear hZ h
  go_enter Tryz.func17, Tryz.ntmps17
  go_wp2_with fail
  refine (undo_any B D M nb rm fz dn f L lv w HDK.out hL).mono ?_
  rintro e w1 ⟨rfl, hdk1, hc1⟩
  have HDK1 := hid hdk1
  have HC1 := hid hc1
  have hkb1 : Bools w1 kv ks := by
    obtain ⟨a, cap, h1, h2⟩ := HKB.out
    refine ⟨a, cap, h1, fun h0 => ?_⟩
    obtain ⟨b, off, h3, h4, h5⟩ := h2 h0
    subst h3
    exact ⟨b, off, rfl, Nat.lt_of_lt_of_le h4 hc1.size, fun i hi => (World.cell?_of_block (a := ⟨b, off + i, none⟩) (hc1.block b h4 (HKD.out b off _ _ h1 h0))).trans (h5 i hi)⟩
  have HKB1 := hid hkb1
  obtain ⟨hd1, ⟨kvs, hm1, hkn, hkf⟩, hlo1, hBD, hBM, hfz, hfl, hLl⟩ := hdk1
  have c5 : w1.cell? ⟨D, 5, none⟩ = some lv := hd1.cell 5
  have HD1 := hid hd1
  have HM1 := hid hm1
  have HLO1 := hid hlo1
  have HKF := hid hkf
  have HFL := hid hfl
  have HLL := hid hLl
  clear hd1 hm1 hlo1 hkf hfl hLl hc1 hkb1
  go_wp2_with fail
  refine (survivors_any B lv kv L ks w1 HLO1.out HLL.out HKB1.out hL hkl).mono ?_
  rintro e w2 ⟨kr, rfl, hlo2, hb2⟩
  have HWK := hid (show WOK (survL L ks) from fun x hx => HLL.out x (survL_mem x L ks hx))
  have hKL : (survL L ks).length ≤ 268435456 := by have := survL_le L ks; omega
  have HUP := hid (show upF f L ks t = redoF (undoF f L) (survL L ks) t (survL L ks).length from rfl)
  generalize survL L ks = K at *
  obtain ⟨sa, sc, hkr⟩ := hlo2.shape
  subst hkr
  have HLO2 := hid hlo2
  have HB12 := hid hb2
  have HD24 := hid (show w2.cell? ⟨D, 4, none⟩ = some (.map (some M)) from (hb2.cell (p := ⟨D, 4, none⟩) HD1.out.lt).trans (HD1.out.cell 4))
  have HD2 := hid (show DiskIs w2 D _ from (hb2.block D HD1.out.lt).trans HD1.out)
  have HM2 := hid (show MapIs w2 M kvs from HM1.out.of (hb2.block M HM1.out.lt))
  clear hlo2 hb2 c5
  go_wp2_with fail
  go_loopw [19] (fun i wr => ∃ j : Nat, j ≤ K.length ∧ i = .int .i64 (j : Int) ∧ Chg (fun k => k = M) w2 wr ∧ MapIs wr M (redoK kvs K t j)) (fun i _ => K.length - (intOf i).toNat)
  case atStart => exact ⟨0, Nat.zero_le _, rfl, Chg.refl _ _, HM2.out⟩
  case round =>
    obtain ⟨j, hj, rfl, hcr, hmr⟩ := hrel
    have HCR := hid hcr
    have HMR := hid hmr
    clear hcr hmr
    by_cases hjl : j < K.length
    · have hx : K[j]? = some (K[j]'hjl) := List.getElem?_eq_getElem hjl
      obtain ⟨g, cap, hlv, hrng⟩ := HLO2.out.at HWK.out (by omega)
      injection hlv with e1 _ e2
      subst e1 e2
      generalize K[j]'hjl = x at hx
      have hxl := HWK.out x (List.mem_of_getElem? hx)
      have hgM : g ≠ M := fun e => by have := (HLO2.out.lt g rfl).1; have := HM1.out.lt; omega
      have hgl := (HLO2.out.lt g rfl).2
      have HR0 := hid (show wr.rangeAt g (j * 513) (wrL x.1 x.2.1 x.2.2) from fun k v hv => (World.cell?_of_block (a := ⟨g, j * 513 + k, none⟩) (HCR.out.block g hgl hgM)).trans (hrng j x hx k v hv))
      have HX := hid hx
      have HWL := hid (wrL_len x.1 x.2.1 x.2.2 hxl.1 hxl.2)
      have HXL := hid hxl
      clear hx hrng hxl
      by_cases hlast : j + 1 = K.length
      · have HSTEP := hid (show redoK kvs K t (j + 1) = kput (redoK kvs K t j) x.1 (tearL (kget (redoK kvs K t j) x.1) x.2.2 t) from by simp only [redoK, HX.out, if_pos hlast])
        have hgl : (kget (redoK kvs K t j) x.1).length = 256 := by rw [redoK_get kvs _ HKF.out]; exact redoF_len HFL.out K HWK.out t j x.1
        generalize redoK kvs K t j = kj at *
        have HGL := hid hgl
        have hl1 : (j : Int) = (K.length : Int) - 1 := by omega
        have HL1 := hid hl1
        clear hgl hlast hl1
        have heq : ((j : Int) == (K.length : Int) - 1) = true := by rw [HL1.out]; simp
        go_wp2_with (first
          | (refine wpList_load_mid rfl 96 (Operand.tmp 22) rfl g (j * 513) rfl (wrL x.1 x.2.1 x.2.2) _ HR0.out Tryz.underlying96 rfl (by rw [HI57.out, HWL.out]) ?_)
          | (refine wpList_store_new rfl 96 (Operand.tmp 8) (Operand.tmp 23) rfl wr.heap.size (wrL x.1 x.2.1 x.2.2).toArray rfl rfl rfl _ 96 (by rw [HI57.out, List.size_toArray, HWL.out]) (by rw [HZ.out, List.size_toArray, HWL.out]) (by rw [Array.all_eq_true_iff_forall_mem]; intro v hv; exact wrL_one _ _ _ v (by simpa using hv)) ?_; intro w3 hd3 hb3 hs3; have HD3 := hid hd3; have HB3 := hid hb3; have HS3 := hid hs3; clear hd3 hb3 hs3))
        have hb0 : w3.cell? ⟨wr.heap.size, 0, none⟩ = some (.int .i64 x.1) := (cell_of_row w3 _ 0 _ _ _ HD3.out).trans rfl
        have hb1 : w3.rangeAt wr.heap.size 257 (x.2.2.map (Value.int .u8)) := range_of_row HD3.out 257 _ (wrL_after x.1 x.2.1 x.2.2 HXL.out.1)
        have hc3 : Chg (fun k => k = M) w2 w3 := HCR.out.trans (Chg.fresh (F := fun k => k = M) HB3.out) (fun i hi => .inl hi)
        have hDlt2 : D < w2.heap.size := by have := HB12.out.size; have := HD1.out.lt; omega
        have hd4 : w3.cell? ⟨D, 4, none⟩ = some (.map (some M)) := (World.cell?_of_block (hc3.block D hDlt2 HDK1.out.apart.1)).trans HD24.out
        have hm3 : MapIs w3 M kj := HMR.out.of (HB3.out.block M HMR.out.lt)
        have H3 := hid (And.intro hd4 (And.intro hb0 hm3))
        have HRG := hid hb1
        have HCH3 := hid hc3
        clear hb0 hb1 hc3 hd4 hm3 heq
        have HS3b := HS3.out
        refine wp_region_held_drew (S := fun u => u.cell? ⟨D, 4, none⟩ = some (.map (some M)) ∧ u.cell? ⟨wr.heap.size, 0, none⟩ = some (.int .i64 x.1) ∧ MapIs u M kj) (by kernel_rfl) (H3.out) (fun hHeld => ?_)
        refine tk (i := 0) (oi := ⟨some 29, .move (.tmp 0), 24, "up.go:12", #[], none⟩) (v := ?_) (Or.inl ⟨by rfl, ?_⟩) ?_
        rotate_left 1
        · (intro u hSw; go_simp; try with_reducible rfl)
        try simp only [Act.put, sA, sB, sC]
        refine tk (i := 1) (oi := ⟨some 30, .nilCheck (.tmp 29), 0, "up.go:12", #[⟨0, .data⟩], none⟩) (v := ?_) (Or.inl ⟨by rfl, ?_⟩) ?_
        rotate_left 1
        · (intro u hSw; go_simp; try with_reducible rfl)
        try simp only [Act.put, sA, sB, sC]
        refine tk (i := 2) (oi := ⟨some 31, .fieldAddr 93 (.tmp 30) 4, 0, "up.go:12", #[⟨1, .data⟩], none⟩) (v := ?_) (Or.inl ⟨by rfl, ?_⟩) ?_
        rotate_left 1
        · (intro u hSw; go_simp; try with_reducible rfl)
        try simp only [Act.put, sA, sB, sC]
        refine tk (i := 3) (oi := ⟨some 32, .load 76 (.tmp 31), 76, "up.go:12", #[⟨2, .data⟩], none⟩) (v := ?_) (Or.inl ⟨by rfl, ?_⟩) ?_
        rotate_left 1
        · intro u hSw
          have h4 := hSw.1
          go_simp
          try with_reducible rfl
        try simp only [Act.put, sA, sB, sC]
        refine tk (i := 4) (oi := ⟨some 33, .fieldAddr 96 (.tmp 8) 0, 0, "up.go:12", #[], none⟩) (v := ?_) (Or.inl ⟨by rfl, ?_⟩) ?_
        rotate_left 1
        · (intro u hSw; go_simp; try with_reducible rfl)
        try simp only [Act.put, sA, sB, sC]
        refine tk (i := 5) (oi := ⟨some 34, .load 3 (.tmp 33), 3, "up.go:12", #[⟨4, .data⟩], none⟩) (v := ?_) (Or.inl ⟨by rfl, ?_⟩) ?_
        rotate_left 1
        · intro u hSw
          have h4 := hSw.2.1
          go_simp
          try with_reducible rfl
        try simp only [Act.put, sA, sB, sC]
        refine tk (i := 6) (oi := ⟨some 35, .lookup 76 (.tmp 32) (.tmp 34) false, 50, "up.go:12", #[⟨3, .data⟩, ⟨5, .data⟩], none⟩) (v := ?_) (Or.inl ⟨by rfl, ?_⟩) ?_
        rotate_left 1
        · intro u hSw
          have hlk := run_lookup_kv u M x.1 kj hSw.2.2
          go_simp
          try with_reducible rfl
        try simp only [Act.put, sA, sB, sC]
        refine tk (i := 7) (oi := ⟨some 36, .fieldAddr 96 (.tmp 8) 2, 0, "up.go:12", #[], none⟩) (v := ?_) (Or.inl ⟨by rfl, ?_⟩) ?_
        rotate_left 1
        · (intro u hSw; go_simp; try with_reducible rfl)
        try simp only [Act.put, sA, sB, sC]
        refine tk (i := 9) (oi := ⟨some 38, .move (.tmp 2), 3, "up.go:12", #[], none⟩) (v := ?_) (Or.inl ⟨by rfl, ?_⟩) ?_
        rotate_left 1
        · (intro u hSw; go_simp; try with_reducible rfl)
        try simp only [Act.put, sA, sB, sC]
        refine wpAnyH_ready (rs := [8]) (by kernel_rfl) (by simp) ?_
        refine AllReadyH.cons (o := ⟨some 37, .load 50 (.tmp 36), 50, "up.go:12", #[⟨7, .data⟩], none⟩) rfl (fun K hK => ?_) AllReadyH.nil
        refine step_of_run ?_ (exec_load_mid 50 (Operand.tmp 36) ?_ wr.heap.size 257 ?_ (x.2.2.map (Value.int .u8)) _ HRG.out Tryz.underlying50 rfl (by rw [List.length_map, HXL.out.2]; kernel_rfl)) ?_
        rfl
        rfl
        rfl
        refine hK.out _ _ (by assumption) (fun hHeld => ?_)
        clear hK K
        try simp only [Act.put, sA, sB, sC]
        refine wpAnyH_ready (rs := [10]) (by kernel_rfl) (by simp) ?_
        refine AllReadyH.cons (o := ⟨some 39, .call ⟨.value (.func 57), #[.tmp 35, .tmp 37, .tmp 38], #[50, 50, 3]⟩, 50, "up.go:12", #[⟨6, .data⟩, ⟨8, .data⟩, ⟨9, .data⟩], none⟩) rfl (fun K hK => ?_) AllReadyH.nil
        go_simp
        go_at_call 57
        refine (tear_any (kget kj x.1) x.2.2 t _ HGL.out HXL.out.2).mono ?_
        rintro e w4 ⟨rfl, hb4⟩
        have HB4 := hid (show Below w3.heap.size w3 w4 from ((Below.refl _ _).drew).trans hb4)
        clear hb4
        go_wp2_with fail
        have HX4 := hid ((HB4.out.block wr.heap.size (by omega)).trans HD3.out)
        refine hK.out _ _ ⟨(HB4.out.cell (p := ⟨D, 4, none⟩) (by show D < w3.heap.size; have := HCH3.out.size; omega)).trans H3.out.1, (HB4.out.cell (p := ⟨wr.heap.size, 0, none⟩) (by show wr.heap.size < w3.heap.size; omega)).trans H3.out.2.1, H3.out.2.2.of (HB4.out.block M H3.out.2.2.lt)⟩ (fun hHeld => ?_)
        clear hK K
        try simp only [Act.put, sA, sB, sC]
        refine tk (i := 11) (oi := ⟨some 40, .fieldAddr 96 (.tmp 8) 2, 0, "up.go:12", #[⟨0, .phase⟩, ⟨1, .phase⟩, ⟨2, .phase⟩, ⟨3, .phase⟩, ⟨4, .phase⟩, ⟨5, .phase⟩, ⟨6, .phase⟩, ⟨7, .phase⟩, ⟨8, .phase⟩, ⟨9, .phase⟩, ⟨10, .phase⟩], none⟩) (v := ?_) (Or.inl ⟨by rfl, ?_⟩) ?_
        rotate_left 1
        · (intro u hSw; go_simp; try with_reducible rfl)
        try simp only [Act.put, sA, sB, sC]
        refine wpAnyH_ready (rs := [12]) (by kernel_rfl) (by simp) ?_
        refine AllReadyH.cons (o := ⟨none, .store 50 (.tmp 40) (.tmp 39), 0, "up.go:12", #[⟨11, .data⟩, ⟨10, .data⟩, ⟨10, .chain⟩, ⟨0, .phase⟩, ⟨1, .phase⟩, ⟨2, .phase⟩, ⟨3, .phase⟩, ⟨4, .phase⟩, ⟨5, .phase⟩, ⟨6, .phase⟩, ⟨7, .phase⟩, ⟨8, .phase⟩, ⟨9, .phase⟩, ⟨10, .phase⟩], none⟩) rfl (fun K hK => ?_) AllReadyH.nil
        have HTH := hid (show w4.there wr.heap.size 257 (ArrU8 (tearL (kget kj x.1) x.2.2 t)).size from fun i hi => by
        rw [ArrU8_size, tearL_len _ _ _ HGL.out HXL.out.2] at hi
        refine ⟨?_, frozen_of_row w4 _ _ _ _ HX4.out⟩
        rw [cell_of_row w4 _ _ _ _ _ HX4.out, List.getElem?_toArray, List.getElem?_eq_getElem (by rw [HWL.out]; omega)]
        rfl)
        have HTL := hid (tearL_len (kget kj x.1) x.2.2 t HGL.out HXL.out.2)
        have hM4 : MapIs w4 M kj := hHeld.2.2
        have hbM : wr.heap.size ≠ M := fun e => by have := HMR.out.lt; omega
        have hbD : wr.heap.size ≠ D := fun e => by have := HCR.out.size; omega
        have HS5 := hid (show (w4.setCells wr.heap.size 257 (ArrU8 (tearL (kget kj x.1) x.2.2 t)).toList).cell? ⟨D, 4, none⟩ = some (.map (some M)) ∧ (w4.setCells wr.heap.size 257 (ArrU8 (tearL (kget kj x.1) x.2.2 t)).toList).cell? ⟨wr.heap.size, 0, none⟩ = some (.int .i64 x.1) ∧ MapIs (w4.setCells wr.heap.size 257 (ArrU8 (tearL (kget kj x.1) x.2.2 t)).toList) M kj from
        ⟨(World.cell?_setCells_out _ _ _ _ _ (fun e _ => absurd e.symm hbD)).trans hHeld.1, (World.cell?_setCells_out _ _ _ _ _ (fun _ _ => .inl (by show 0 < 257; omega))).trans hHeld.2.1, hM4.of (setCells_block _ _ _ _ _ (fun e => hbM e.symm))⟩)
        have HRG5 := hid (show (w4.setCells wr.heap.size 257 (ArrU8 (tearL (kget kj x.1) x.2.2 t)).toList).rangeAt wr.heap.size 257 ((tearL (kget kj x.1) x.2.2 t).map (Value.int .u8)) from fun i v hv => by
        have hlt := (List.getElem?_eq_some_iff.1 hv).1
        have := World.cell?_setCells_in wr.heap.size ((tearL (kget kj x.1) x.2.2 t).map (Value.int .u8)) 257 w4 (fun q hq => (HTH.out q (by rw [ArrU8_size]; simpa using hq)).1) i hlt
        refine this.trans ?_
        rw [← hv, List.getElem?_eq_getElem hlt])
        have HCH5 := hid (show Chg (fun k => k = M) w2 (w4.setCells wr.heap.size 257 (ArrU8 (tearL (kget kj x.1) x.2.2 t)).toList) from
        (HCH3.out.trans (Chg.fresh (F := fun k => k = M) HB4.out) (fun i hi => .inl hi)).trans (Chg.grown (F := fun k => k = wr.heap.size) (setCells_grown _ _ _ _) (fun k hk => by injection hk with hk; exact hk.symm)) (fun i hi => .inr (by subst hi; exact HCR.out.size)))
        have HSZ5 := hid (show wr.heap.size + 1 ≤ (w4.setCells wr.heap.size 257 (ArrU8 (tearL (kget kj x.1) x.2.2 t)).toList).heap.size by rw [setCells_size]; have := HB4.out.size; omega)
        clear hM4 hbM hbD
        refine step_of_skip ?_ (exec_store_mid 50 (Operand.tmp 40) (Operand.tmp 39) ?_ wr.heap.size 257 (ArrU8 (tearL (kget kj x.1) x.2.2 t)) ?_ ?_ HTH.out (by rw [ArrU8_size, HTL.out]; exact HI35.out) (ArrU8_one _)) ?_
        rfl
        rfl
        rfl
        rfl
        refine hK.out _ _ HS5.out (fun hHeld => ?_)
        clear hK K
        try simp only [Act.put]
        refine wpAnyH_done (by kernel_rfl) ?_ _
        clear hHeld
        generalize w4.setCells wr.heap.size 257 (ArrU8 (tearL (kget kj x.1) x.2.2 t)).toList = w5 at *
        generalize tearL (kget kj x.1) x.2.2 t = T at *
        go_wp2_with fail
        obtain ⟨w9, hrun, hm9, hg9, hs9⟩ := run_update_kv w5.drew M x.1 T _ (HS5.out.2.2.of rfl)
        have hC9 : Chg (fun k => k = M) w2 w9 := HCH5.out.drew.trans (Chg.grown (F := fun k => k = M) hg9 (fun k hk => by injection hk with hk; exact hk.symm)) (fun i hi => .inl hi)
        have hbx9 : w9.heap[wr.heap.size]? = w5.heap[wr.heap.size]? := hg9.block wr.heap.size (by show _ < w5.heap.size; have := HSZ5.out; omega) (by intro e; injection e with e; have := HMR.out.lt; omega)
        have hD9 : w9.cell? ⟨D, 4, none⟩ = some (.map (some M)) := (World.cell?_of_block (hC9.block D (by have := HB12.out.size; have := HD1.out.lt; omega) HDK1.out.apart.1)).trans HD24.out
        have H8 := hid (And.intro HS5.out.1 (And.intro HS5.out.2.1 HRG5.out))
        have H9 := hid (And.intro hD9 (And.intro ((World.cell?_of_block (a := ⟨wr.heap.size, 0, none⟩) hbx9).trans HS5.out.2.1) (show w9.rangeAt wr.heap.size 257 (T.map (Value.int .u8)) from fun k v hv => (World.cell?_of_block (a := ⟨wr.heap.size, 257 + k, none⟩) hbx9).trans (HRG5.out k v hv))))
        have HRUN := hid hrun
        have HM9 := hid hm9
        have HC9 := hid hC9
        clear hrun hm9 hg9 hs9 hC9 hD9 hbx9
        refine wp_region_held_drew (S := fun u => u.cell? ⟨D, 4, none⟩ = some (.map (some M)) ∧ u.cell? ⟨wr.heap.size, 0, none⟩ = some (.int .i64 x.1) ∧ u.rangeAt wr.heap.size 257 (T.map (Value.int .u8))) (by kernel_rfl) (H8.out) (fun hHeld => ?_)
        refine tk (i := 0) (oi := ⟨some 41, .move (.tmp 0), 24, "up.go:14", #[], none⟩) (v := ?_) (Or.inl ⟨by rfl, ?_⟩) ?_
        rotate_left 1
        · (intro u hSw; go_simp; try with_reducible rfl)
        try simp only [Act.put, sA, sB, sC]
        refine tk (i := 1) (oi := ⟨some 42, .nilCheck (.tmp 41), 0, "up.go:14", #[⟨0, .data⟩], none⟩) (v := ?_) (Or.inl ⟨by rfl, ?_⟩) ?_
        rotate_left 1
        · (intro u hSw; go_simp; try with_reducible rfl)
        try simp only [Act.put, sA, sB, sC]
        refine tk (i := 2) (oi := ⟨some 43, .fieldAddr 93 (.tmp 42) 4, 0, "up.go:14", #[⟨1, .data⟩], none⟩) (v := ?_) (Or.inl ⟨by rfl, ?_⟩) ?_
        rotate_left 1
        · (intro u hSw; go_simp; try with_reducible rfl)
        try simp only [Act.put, sA, sB, sC]
        refine tk (i := 3) (oi := ⟨some 44, .load 76 (.tmp 43), 76, "up.go:14", #[⟨2, .data⟩], none⟩) (v := ?_) (Or.inl ⟨by rfl, ?_⟩) ?_
        rotate_left 1
        · intro u hSw
          have h4 := hSw.1
          go_simp
          try with_reducible rfl
        try simp only [Act.put, sA, sB, sC]
        refine tk (i := 4) (oi := ⟨some 45, .fieldAddr 96 (.tmp 8) 0, 0, "up.go:14", #[], none⟩) (v := ?_) (Or.inl ⟨by rfl, ?_⟩) ?_
        rotate_left 1
        · (intro u hSw; go_simp; try with_reducible rfl)
        try simp only [Act.put, sA, sB, sC]
        refine tk (i := 5) (oi := ⟨some 46, .load 3 (.tmp 45), 3, "up.go:14", #[⟨4, .data⟩], none⟩) (v := ?_) (Or.inl ⟨by rfl, ?_⟩) ?_
        rotate_left 1
        · intro u hSw
          have h4 := hSw.2.1
          go_simp
          try with_reducible rfl
        try simp only [Act.put, sA, sB, sC]
        refine tk (i := 6) (oi := ⟨some 47, .fieldAddr 96 (.tmp 8) 2, 0, "up.go:14", #[], none⟩) (v := ?_) (Or.inl ⟨by rfl, ?_⟩) ?_
        rotate_left 1
        · (intro u hSw; go_simp; try with_reducible rfl)
        try simp only [Act.put, sA, sB, sC]
        refine tk (i := 7) (oi := ⟨some 48, .load 50 (.tmp 47), 50, "up.go:14", #[⟨6, .data⟩], none⟩) (v := ?_) (Or.inl ⟨by rfl, ?_⟩) ?_
        rotate_left 1
        · intro u hSw
          refine exec_load_mid 50 (Operand.tmp 47) ?_ wr.heap.size 257 ?_ (T.map (Value.int .u8)) _ hSw.2.2 Tryz.underlying50 rfl (by rw [List.length_map, HTL.out]; kernel_rfl) <;> rfl
        try simp only [Act.put, sA, sB, sC]
        refine wpAnyH_ready (rs := [8]) (by kernel_rfl) (by simp) ?_
        refine AllReadyH.cons (o := ⟨none, .mapUpdate 76 (.tmp 44) (.tmp 46) (.tmp 48), 0, "up.go:14", #[⟨3, .data⟩, ⟨5, .data⟩, ⟨7, .data⟩, ⟨0, .phase⟩, ⟨1, .phase⟩, ⟨2, .phase⟩, ⟨3, .phase⟩, ⟨4, .phase⟩, ⟨5, .phase⟩, ⟨6, .phase⟩, ⟨7, .phase⟩], none⟩) rfl (fun K hK => ?_) AllReadyH.nil
        refine step_of_skip ?_ (exec_update (Operand.tmp 44) (Operand.tmp 46) (Operand.tmp 48) ?_ _ _ _ ?_ ?_ ?_ HRUN.out) ?_
        rfl
        rfl
        rfl
        rfl
        rfl
        refine hK.out _ _ H9.out (fun hHeld => ?_)
        clear hK K
        try simp only [Act.put]
        refine wpAnyH_done (by kernel_rfl) ?_ _
        go_wp2_with fail
        go_roundw
        case rel =>
          refine ⟨j + 1, by omega, by go_num, HC9.out, ?_⟩
          rw [HSTEP.out]
          exact HM9.out
        case measure => simp [intOf]; omega
      · have HSTEP := hid (show redoK kvs K t (j + 1) = kput (redoK kvs K t j) x.1 x.2.2 from by simp only [redoK, HX.out, if_neg hlast])
        generalize redoK kvs K t j = kj at *
        have hne : ((j : Int) == (K.length : Int) - 1) = false := by simp; omega
        clear hlast
        go_wp2_with (first
          | (refine wpList_load_mid rfl 96 (Operand.tmp 22) rfl g (j * 513) rfl (wrL x.1 x.2.1 x.2.2) _ HR0.out Tryz.underlying96 rfl (by rw [HI57.out, HWL.out]) ?_)
          | (refine wpList_store_new rfl 96 (Operand.tmp 8) (Operand.tmp 23) rfl wr.heap.size (wrL x.1 x.2.1 x.2.2).toArray rfl rfl rfl _ 96 (by rw [HI57.out, List.size_toArray, HWL.out]) (by rw [HZ.out, List.size_toArray, HWL.out]) (by rw [Array.all_eq_true_iff_forall_mem]; intro v hv; exact wrL_one _ _ _ v (by simpa using hv)) ?_; intro w3 hd3 hb3 hs3; have HD3 := hid hd3; have HB3 := hid hb3; have HS3 := hid hs3; clear hd3 hb3 hs3))
        have hb0 : w3.cell? ⟨wr.heap.size, 0, none⟩ = some (.int .i64 x.1) := (cell_of_row w3 _ 0 _ _ _ HD3.out).trans rfl
        have hb1 : w3.rangeAt wr.heap.size 257 (x.2.2.map (Value.int .u8)) := range_of_row HD3.out 257 _ (wrL_after x.1 x.2.1 x.2.2 HXL.out.1)
        have hc3 : Chg (fun k => k = M) w2 w3 := HCR.out.trans (Chg.fresh (F := fun k => k = M) HB3.out) (fun i hi => .inl hi)
        have hd4 : w3.cell? ⟨D, 4, none⟩ = some (.map (some M)) := (World.cell?_of_block (hc3.block D (by have := HB12.out.size; have := HD1.out.lt; omega) HDK1.out.apart.1)).trans HD24.out
        have hm3 : MapIs w3 M kj := HMR.out.of (HB3.out.block M HMR.out.lt)
        obtain ⟨w9, hrun, hm9, hg9, hs9⟩ := run_update_kv w3.drew M x.1 x.2.2 _ (hm3.of rfl)
        have hC9 : Chg (fun k => k = M) w2 w9 := hc3.drew.trans (Chg.grown (F := fun k => k = M) hg9 (fun k hk => by injection hk with hk; exact hk.symm)) (fun i hi => .inl hi)
        have hbx9 : w9.heap[wr.heap.size]? = w3.heap[wr.heap.size]? := hg9.block wr.heap.size (by show _ < w3.heap.size; have := HS3.out; omega) (by intro e; injection e with e; have := HMR.out.lt; omega)
        have hD9 : w9.cell? ⟨D, 4, none⟩ = some (.map (some M)) := (World.cell?_of_block (hC9.block D (by have := HB12.out.size; have := HD1.out.lt; omega) HDK1.out.apart.1)).trans HD24.out
        have H8 := hid (And.intro hd4 (And.intro hb0 hb1))
        have H9 := hid (And.intro hD9 (And.intro ((World.cell?_of_block (a := ⟨wr.heap.size, 0, none⟩) hbx9).trans hb0) (show w9.rangeAt wr.heap.size 257 (x.2.2.map (Value.int .u8)) from fun k v hv => (World.cell?_of_block (a := ⟨wr.heap.size, 257 + k, none⟩) hbx9).trans (hb1 k v hv))))
        have HRUN := hid hrun
        have HM9 := hid hm9
        have HC9 := hid hC9
        clear hrun hm9 hg9 hs9 hC9 hD9 hbx9
        refine wp_region_held_drew (S := fun u => u.cell? ⟨D, 4, none⟩ = some (.map (some M)) ∧ u.cell? ⟨wr.heap.size, 0, none⟩ = some (.int .i64 x.1) ∧ u.rangeAt wr.heap.size 257 (x.2.2.map (Value.int .u8))) (by kernel_rfl) (H8.out) (fun hHeld => ?_)
        refine tk (i := 0) (oi := ⟨some 41, .move (.tmp 0), 24, "up.go:14", #[], none⟩) (v := ?_) (Or.inl ⟨by rfl, ?_⟩) ?_
        rotate_left 1
        · (intro u hSw; go_simp; try with_reducible rfl)
        try simp only [Act.put, sA, sB, sC]
        refine tk (i := 1) (oi := ⟨some 42, .nilCheck (.tmp 41), 0, "up.go:14", #[⟨0, .data⟩], none⟩) (v := ?_) (Or.inl ⟨by rfl, ?_⟩) ?_
        rotate_left 1
        · (intro u hSw; go_simp; try with_reducible rfl)
        try simp only [Act.put, sA, sB, sC]
        refine tk (i := 2) (oi := ⟨some 43, .fieldAddr 93 (.tmp 42) 4, 0, "up.go:14", #[⟨1, .data⟩], none⟩) (v := ?_) (Or.inl ⟨by rfl, ?_⟩) ?_
        rotate_left 1
        · (intro u hSw; go_simp; try with_reducible rfl)
        try simp only [Act.put, sA, sB, sC]
        refine tk (i := 3) (oi := ⟨some 44, .load 76 (.tmp 43), 76, "up.go:14", #[⟨2, .data⟩], none⟩) (v := ?_) (Or.inl ⟨by rfl, ?_⟩) ?_
        rotate_left 1
        · intro u hSw
          have h4 := hSw.1
          go_simp
          try with_reducible rfl
        try simp only [Act.put, sA, sB, sC]
        refine tk (i := 4) (oi := ⟨some 45, .fieldAddr 96 (.tmp 8) 0, 0, "up.go:14", #[], none⟩) (v := ?_) (Or.inl ⟨by rfl, ?_⟩) ?_
        rotate_left 1
        · (intro u hSw; go_simp; try with_reducible rfl)
        try simp only [Act.put, sA, sB, sC]
        refine tk (i := 5) (oi := ⟨some 46, .load 3 (.tmp 45), 3, "up.go:14", #[⟨4, .data⟩], none⟩) (v := ?_) (Or.inl ⟨by rfl, ?_⟩) ?_
        rotate_left 1
        · intro u hSw
          have h4 := hSw.2.1
          go_simp
          try with_reducible rfl
        try simp only [Act.put, sA, sB, sC]
        refine tk (i := 6) (oi := ⟨some 47, .fieldAddr 96 (.tmp 8) 2, 0, "up.go:14", #[], none⟩) (v := ?_) (Or.inl ⟨by rfl, ?_⟩) ?_
        rotate_left 1
        · (intro u hSw; go_simp; try with_reducible rfl)
        try simp only [Act.put, sA, sB, sC]
        refine tk (i := 7) (oi := ⟨some 48, .load 50 (.tmp 47), 50, "up.go:14", #[⟨6, .data⟩], none⟩) (v := ?_) (Or.inl ⟨by rfl, ?_⟩) ?_
        rotate_left 1
        · intro u hSw
          refine exec_load_mid 50 (Operand.tmp 47) ?_ wr.heap.size 257 ?_ (x.2.2.map (Value.int .u8)) _ hSw.2.2 Tryz.underlying50 rfl (by rw [List.length_map, HXL.out.2]; kernel_rfl) <;> rfl
        try simp only [Act.put, sA, sB, sC]
        refine wpAnyH_ready (rs := [8]) (by kernel_rfl) (by simp) ?_
        refine AllReadyH.cons (o := ⟨none, .mapUpdate 76 (.tmp 44) (.tmp 46) (.tmp 48), 0, "up.go:14", #[⟨3, .data⟩, ⟨5, .data⟩, ⟨7, .data⟩, ⟨0, .phase⟩, ⟨1, .phase⟩, ⟨2, .phase⟩, ⟨3, .phase⟩, ⟨4, .phase⟩, ⟨5, .phase⟩, ⟨6, .phase⟩, ⟨7, .phase⟩], none⟩) rfl (fun K hK => ?_) AllReadyH.nil
        refine step_of_skip ?_ (exec_update (Operand.tmp 44) (Operand.tmp 46) (Operand.tmp 48) ?_ _ _ _ ?_ ?_ ?_ HRUN.out) ?_
        rfl
        rfl
        rfl
        rfl
        rfl
        refine hK.out _ _ H9.out (fun hHeld => ?_)
        clear hK K
        try simp only [Act.put]
        refine wpAnyH_done (by kernel_rfl) ?_ _
        go_wp2_with fail
        go_roundw
        case rel =>
          refine ⟨j + 1, by omega, by go_num, HC9.out, ?_⟩
          rw [HSTEP.out]
          exact HM9.out
        case measure => simp [intOf]; omega
    · obtain rfl : j = K.length := by omega
      have HDR := hid (show DiskIs wr D _ from (HCR.out.block D (by have := HB12.out.size; have := HD1.out.lt; omega) HDK1.out.apart.1).trans HD2.out)
      have c2 := HDR.out.cell 2
      have c3 := HDR.out.cell 3
      have c5 := HDR.out.cell 5
      have f2 := HDR.out.frozen 2
      have f3 := HDR.out.frozen 3
      have f5 := HDR.out.frozen 5
      go_wp2_with fail
      go_end0
      refine ⟨rfl, ⟨((HDR.out.set 5 _).set 2 _).set 3 _, ⟨redoK kvs K t K.length, ?_, redoK_KN hkn _ _ _, fun n => by rw [HUP.out]; exact redoK_get kvs _ HKF.out K t _ n⟩, World.ownsRow_nil _ _ _ _, hBD, hBM, ⟨by omega, by omega⟩, fun n => by rw [HUP.out]; exact redoF_len HFL.out K HWK.out t _ n, fun x hx => by cases hx⟩, ?_⟩
      · exact HMR.out.of ((Below.heap_setCell _ _ _ _ (fun e => HDK1.out.apart.1 e.symm)).trans ((Below.heap_setCell _ _ _ _ (fun e => HDK1.out.apart.1 e.symm)).trans (Below.heap_setCell _ _ _ _ (fun e => HDK1.out.apart.1 e.symm))))
      · refine ((((HC1.out.mono (fun i hi => .inr hi)).trans (Chg.fresh (F := fun _ => False) HB12.out) (fun i hi => hi.elim)).trans HCR.out (fun i hi => .inl (.inr hi))).setCell ⟨D, 5, none⟩ _ (.inl (.inl rfl))).setCell ⟨D, 2, none⟩ _ (.inl (.inl rfl)) |>.setCell ⟨D, 3, none⟩ _ (.inl (.inl rfl))
end Go.Proofs.YtdkjkibdncbibaaGreat
namespace Go.Proofs.YtdkjkibdncbibaaGreat
open Go.RowKit
open Go.Lib (hid)
end Go.Proofs.YtdkjkibdncbibaaGreat
namespace Go.Proofs.YtdkjkibdncbibaaGreat
open Go.RowKit
open Go.Lib (hid)
theorem exec_append {P : Program} {ρ : Operand → Value} {o : Oper} {w w' : World} {v : Value} (s x : Operand) (T : TypeId) (ho : o.op = Op.call { callee := Callee.builtin Builtin.append, args := #[s, x], argTypes := #[T, T] }) (v1 v2 : Value) (hs : ρ s = v1) (hx : ρ x = v2) (h : (Builtin.append_ #[T, T] o.type #[v1, v2]).run P w = .ok v w') :
  (execOp ρ o).run P w = .ok (.value v) w' := by
 unfold execOp
 simp [ho, resolve, invoke, builtin, hs, hx, h, Result.andThen]
theorem wpList_of_skip {P : Program} {ops : Array Oper} {rest : List Oper} {o : Oper} {a : Act} {w w' : World} {Q : Exit → Act → World → Prop} (hg : o.guard = none) (hr : (execOp a.eval o).run P w = .ok .skip w') (h : wpList P ops Q rest (a.put o.dst undef) w') : wpList P ops Q (o :: rest) a w :=
 wpList_plain hg fun K hK => by
  unfold Oper.wp
  simp [hr]
  exact hK _ _ h
end Go.Proofs.YtdkjkibdncbibaaGreat
namespace Go.Proofs.YtdkjkibdncbibaaGreat
open Go.RowKit
open Go.Lib (hid)
theorem ArrU8_at (l : List Int) (i : Nat) (h : i < l.length) : (ArrU8 l)[i]? = some (.int .u8 l[i]) := by
 simp [ArrU8, h]
theorem run_eqItems_bytes {P : Program} (w : World) (d : Nat) (e : TypeId) (he : P.underlying e = some (.int .u8)) (hk : P.plainKey e = true) (hc : P.cellsOf e = 1) (xs ys : List Int) (hl : xs.length = ys.length) :
  ∀ is : List Nat, (∀ i ∈ is, i < xs.length) → (Op.eqItems (d + 1) e (P.cellsOf e) (ArrU8 xs) (ArrU8 ys) is).run P w = .ok (decide (∀ i ∈ is, xs[i]? = ys[i]?)) w
 | [], _ => by simp [Op.eqItems]
 | i :: is, h => by
  have hi : i < xs.length := h i (by simp)
  have hi2 : i < ys.length := by omega
  have ih := run_eqItems_bytes w d e he hk hc xs ys hl is (fun j hj => h j (by simp [hj]))
  have p1 := run_part_plain (P := P) (w := w) hk (ArrU8_at xs i hi)
  have p2 := run_part_plain (P := P) (w := w) hk (ArrU8_at ys i hi2)
  rw [hc] at ih ⊢
  simp only [Op.eqItems, Sem.run_bind, Nat.mul_one, p1, p2, Result.andThen_ok, run_equalIn_int w d e .u8 .u8 _ _ he]
  by_cases hx : xs[i] = ys[i]
  ·rw [hx, if_neg (by simp), ih]
   congr 1
   simp [hi, hi2, hx]
  ·rw [if_pos (by simp [hx])]
   simp [hi, hi2, hx, Sem.run_pure]
theorem run_eql_bytes {P : Program} (w : World) (t e n : Nat) (i : TypeInfo) (ht : P.underlying t = some (.array n e)) (hi : P.info? e = some i) (he : P.underlying e = some (.int .u8)) (hk : P.plainKey e = true) (hc : P.cellsOf e = 1)
  (xs ys : List Int) (hx : xs.length = n) (hy : ys.length = n) : (binOp .eql t (.agg (ArrU8 xs)) (.agg (ArrU8 ys))).run P w = .ok (.bool (decide (xs = ys))) w := by
 have h := run_equalIn_array (P := P) (w := w) 9999 (ArrU8 xs) (ArrU8 ys) ht hi
 have h2 := run_eqItems_bytes (P := P) w 9998 e he hk hc xs ys (by omega) (List.range n) (fun j hj => by rw [List.mem_range] at hj; omega)
 have e1 : decide (∀ i ∈ List.range n, xs[i]? = ys[i]?) = decide (xs = ys) := by
  rw [Bool.eq_iff_iff, decide_eq_true_eq, decide_eq_true_eq]
  constructor
  ·intro h
   apply List.ext_getElem?
   intro j
   by_cases hj : j < n
   ·exact h j (List.mem_range.2 hj)
   ·rw [List.getElem?_eq_none (by omega), List.getElem?_eq_none (by omega)]
  ·intro h j _; rw [h]
 rw [e1] at h2
 show (do pure (Value.bool (← Op.equal t (.agg (ArrU8 xs)) (.agg (ArrU8 ys)))) : Sem Value).run P w = _
 simp only [Op.equal, Op.maxDepth, Sem.run_bind, h, h2, Result.andThen_ok, Sem.run_pure]
theorem run_neq_bytes {P : Program} (w : World) (t e n : Nat) (i : TypeInfo) (ht : P.underlying t = some (.array n e)) (hi : P.info? e = some i) (he : P.underlying e = some (.int .u8)) (hk : P.plainKey e = true) (hc : P.cellsOf e = 1)
  (xs ys : List Int) (hx : xs.length = n) (hy : ys.length = n) : (binOp .neq t (.agg (ArrU8 xs)) (.agg (ArrU8 ys))).run P w = .ok (.bool (!decide (xs = ys))) w := by
 have h := run_eql_bytes w t e n i ht hi he hk hc xs ys hx hy
 have h1 : (do pure (Value.bool (← Op.equal t (.agg (ArrU8 xs)) (.agg (ArrU8 ys)))) : Sem Value).run P w = .ok (.bool (decide (xs = ys))) w := h
 show (do pure (Value.bool (!(← Op.equal t (.agg (ArrU8 xs)) (.agg (ArrU8 ys))))) : Sem Value).run P w = _
 simp only [Sem.run_bind, Sem.run_pure] at h1 ⊢
 cases hr : (Op.equal t (.agg (ArrU8 xs)) (.agg (ArrU8 ys))).run P w with
 | ok b w' => rw [hr] at h1; simp only [Result.andThen_ok] at h1 ⊢; injection h1 with h2 h3; injection h2 with h2; rw [h2, h3]
 | halt x w' => rw [hr] at h1; cases h1
theorem info_u8 : ∃ i, Tryz.prog.info? 5 = some i := by
 have h : (Tryz.prog.info? 5).isSome = true := by kernel_rfl
 exact Option.isSome_iff_exists.1 h
set_option maxRecDepth 100000 in
theorem run_eql_blk (w : World) (xs ys : List Int) (hx : xs.length = 256) (hy : ys.length = 256) : (binOp .eql 50 (.agg (ArrU8 xs)) (.agg (ArrU8 ys))).run Tryz.prog w = .ok (.bool (decide (xs = ys))) w := by
 obtain ⟨i, hi⟩ := info_u8
 exact run_eql_bytes w 50 5 256 i Tryz.underlying50 hi Tryz.underlying5 (by kernel_rfl) (by kernel_rfl) xs ys hx hy
set_option maxRecDepth 100000 in
theorem run_neq_blk (w : World) (xs ys : List Int) (hx : xs.length = 256) (hy : ys.length = 256) : (binOp .neq 50 (.agg (ArrU8 xs)) (.agg (ArrU8 ys))).run Tryz.prog w = .ok (.bool (!decide (xs = ys))) w := by
 obtain ⟨i, hi⟩ := info_u8
 exact run_neq_bytes w 50 5 256 i Tryz.underlying50 hi Tryz.underlying5 (by kernel_rfl) (by kernel_rfl) xs ys hx hy
set_option maxRecDepth 100000 in
theorem exec_eql_blk {ρ : Operand → Value} {o : Oper} {w : World} (x y : Operand) (U : TypeId) (ho : o.op = .binOp .eql 50 x y U) (xs ys : List Int) (hx : ρ x = .agg (ArrU8 xs)) (hy : ρ y = .agg (ArrU8 ys)) (lx : xs.length = 256) (ly : ys.length = 256) (b : Bool) (hb : decide (xs = ys) = b) :
  (execOp ρ o).run Tryz.prog w = .ok (.value (.bool b)) w := by
 unfold execOp
 rw [ho]
 simp only [hx, hy]
 show ((binOp .eql 50 (.agg (ArrU8 xs)) (.agg (ArrU8 ys))) >>= fun v => pure (Next.value v) : Sem Next).run Tryz.prog w = _
 simp only [Sem.run_bind, run_eql_blk w xs ys lx ly, Result.andThen_ok, hb, Sem.run_pure]
set_option maxRecDepth 100000 in
theorem exec_neq_blk {ρ : Operand → Value} {o : Oper} {w : World} (x y : Operand) (U : TypeId) (ho : o.op = .binOp .neq 50 x y U) (xs ys : List Int) (hx : ρ x = .agg (ArrU8 xs)) (hy : ρ y = .agg (ArrU8 ys)) (lx : xs.length = 256) (ly : ys.length = 256) (b : Bool) (hb : (!decide (xs = ys)) = b) :
  (execOp ρ o).run Tryz.prog w = .ok (.value (.bool b)) w := by
 unfold execOp
 rw [ho]
 simp only [hx, hy]
 show ((binOp .neq 50 (.agg (ArrU8 xs)) (.agg (ArrU8 ys))) >>= fun v => pure (Next.value v) : Sem Next).run Tryz.prog w = _
 simp only [Sem.run_bind, run_neq_blk w xs ys lx ly, Result.andThen_ok, hb, Sem.run_pure]
/-! ### the calls, by the state of a disk -/
theorem new_dk (n : Int) (w : World) (h1 : 1 ≤ n) (h2 : n ≤ 4096) :
  Calls Tryz.prog 26 #[.int .i64 n] w fun e w' => e = .returned (.pointer (some ⟨w.heap.size + 1, 0, none⟩)) ∧ Dk w' w.heap.size (w.heap.size + 1) w.heap.size n n (-1) false (fun _ => zeros 256) [] (.slice none 0 0) ∧ Below w.heap.size w w' := by
 refine (new_any n w h1 h2).mono ?_
 rintro e w' ⟨rfl, rfl⟩
 refine ⟨rfl, ⟨?_, ⟨[], ⟨#[], 0, ?_, rfl, MapKept.stamped_empty 0⟩, List.nodup_nil, fun _ => rfl⟩, World.ownsRow_nil _ _ _ _, by omega, Nat.le_refl _, ⟨by omega, by omega⟩, fun _ => zeros_len _, fun x hx => by cases hx⟩, ((Below.refl _ _).alloc (Nat.le_refl _) _).alloc (by simp) _⟩
 ·have := heap_alloc_new (w.alloc (.map #[] 0)) (.cells (DC n n (-1) false (.map (some w.heap.size)) (.slice none 0 0)) 93)
  rwa [World.size_alloc] at this
 ·exact (Below.heap_alloc _ _ _ (by simp)).trans (heap_alloc_new w _)
def SyncEnds (B D M : Nat) (nb rm fz : Int) (dn : Bool) (f : Int → List Int) (L : List WR) (lv : Value) (w : World) (e : Ending) (w' : World) : Prop :=
 e = .returned (.int .i64 (if opOk fz dn = true then 0 else 44)) ∧ ∃ lv', Dk w' B D M nb rm (opFz fz dn) (opDn fz dn) f (if opOk fz dn = true then [] else L) lv' ∧ Chg (fun k => k = D) w w' ∧ (lv' = lv ∨ lv' = .slice none 0 0)
theorem sync_dk (B D M : Nat) (nb rm fz : Int) (dn : Bool) (f : Int → List Int) (L : List WR) (lv : Value) (w : World) (h : Dk w B D M nb rm fz dn f L lv) :
  Calls Tryz.prog 14 #[.pointer (some ⟨D, 0, none⟩)] w (SyncEnds B D M nb rm fz dn f L lv w) := by
 refine (sync_any D nb rm fz dn (.map (some M)) lv w h.1 h.2.2.2.2.2.1.1 h.2.2.2.2.2.1.2).mono ?_
 rintro e w' ⟨rfl, hd, hg, hs⟩
 have hc : Chg (fun k => k = D) w w' := Chg.grown hg (fun k hk => by injection hk with hk; exact hk.symm)
 cases hop : opOk fz dn
 ·rw [hop, if_neg (by simp)] at hd
  refine ⟨by rw [hop], lv, ?_, hc, .inl rfl⟩
  rw [hop, if_neg (by simp)]
  exact h.turned hd (opFz_rng h.2.2.2.2.2.1) hc
 ·rw [hop, if_pos rfl] at hd
  refine ⟨by rw [hop], .slice none 0 0, ?_, hc, .inr rfl⟩
  rw [hop, if_pos rfl]
  obtain ⟨a1, a2, a3⟩ := h.apart
  obtain ⟨h1, ⟨kvs, h2, h2b, h2c⟩, h3, h4, h5, h6, h7, h8⟩ := h
  exact ⟨hd, ⟨kvs, h2.of (hc.block M h2.lt (fun e => a1 e.symm)), h2b, h2c⟩, World.ownsRow_nil _ _ _ _, h4, h5, opFz_rng h6, h7, fun x hx => by cases hx⟩
theorem arm_dk (B D M : Nat) (nb rm fz n : Int) (dn : Bool) (f : Int → List Int) (L : List WR) (lv : Value) (w : World) (h : Dk w B D M nb rm fz dn f L lv) (hn : n ≤ 9223372036854775807) :
  Calls Tryz.prog 15 #[.pointer (some ⟨D, 0, none⟩), .int .i64 n] w fun e w' => e = .returned (.tuple #[]) ∧ Dk w' B D M nb rm (if 0 ≤ n then n else -1) dn f L lv ∧ Chg (fun k => k = D) w w' := by
 refine (arm_any D nb rm fz n dn (.map (some M)) lv w h.1).mono ?_
 rintro e w' ⟨rfl, hd, hg, hs⟩
 have hc : Chg (fun k => k = D) w w' := Chg.grown hg (fun k hk => by injection hk with hk; exact hk.symm)
 exact ⟨rfl, h.turned hd (by split <;> omega) hc, hc⟩
def rdF (nb n : Int) (dn : Bool) (f : Int → List Int) : List Int := if dn then zeros 256 else if hasB nb n then f n else zeros 256
theorem rdF_len (nb n : Int) (dn : Bool) (f : Int → List Int) (h : ∀ n, (f n).length = 256) : (rdF nb n dn f).length = 256 := by
 unfold rdF; split
 ·exact zeros_len _
 ·split
  ·exact h n
  ·exact zeros_len _
theorem read_dk (B D M : Nat) (nb rm fz n : Int) (dn : Bool) (f : Int → List Int) (L : List WR) (lv : Value) (w : World) (h : Dk w B D M nb rm fz dn f L lv) :
    Calls Tryz.prog 93 #[.pointer (some ⟨D, 0, none⟩), .int .i64 n] w fun e w' => e = .returned (.tuple #[.agg (ArrU8 (rdF nb n dn f)), .int .i64 (readErr nb n dn)]) ∧ Below w.heap.size w w' := by
  obtain ⟨h1, ⟨kvs, h2, h2b, h2c⟩, h3, h4, h5, h6, h7, h8⟩ := h
  have := read_any D M nb rm fz n dn lv kvs w h1 h2 (by rw [h2c]; exact h7 n)
  unfold readBlk at this
  rw [h2c] at this
  exact this
end Go.Proofs.YtdkjkibdncbibaaGreat
namespace Go.Proofs.YtdkjkibdncbibaaGreat
open Go.RowKit
open Go.Lib (hid)
theorem wpList_store_nw {P : Program} {ops : Array Oper} {rest : List Oper} {o : Oper} {a : Act} {w : World} {Q : Exit → Act → World → Prop} (hgd : o.guard = none) (ty : TypeId) (x y : Operand) (ho : o.op = .store ty x y) (w0 : World) (old : Array Value) (T : TypeId) (hw : w = w0.alloc (.cells old T))
  (H : Nat) (cells : Array Value) (hx : a.eval x = .pointer (some ⟨H, 0, none⟩)) (hy : a.eval y = .agg cells) (hH : w0.heap.size = H) (hi : (P.info? ty).map (·.size) = some cells.size) (hold : old.size = cells.size) (h1 : cells.all (·.oneCell') = true)
  (h : ∀ w', w'.heap[H]? = some (.cells cells T (0, 0)) → Below H w0 w' → w'.heap.size = H + 1 → wpList P ops Q rest (a.put o.dst undef) w') : wpList P ops Q (o :: rest) a w := by
 subst hw
 exact wpList_store_new hgd ty x y ho H cells hx hy hH old T hi hold h1 h
end Go.Proofs.YtdkjkibdncbibaaGreat
