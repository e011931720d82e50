/- pages: their small functions -/
import Derived.Test.YtdkjkibdncbibaaGreatCm06
namespace Go.Proofs.YtdkjkibdncbibaaGreat
open Go.RowKit
open Go.Lib (hid)
set_option maxHeartbeats 400000 in
theorem pnumber_any (v : Value) (l : List Int) (w : World) (hv : Bs w v l) (hr : Rng l) (h8 : 8 ≤ l.length) (hl : l.length ≤ 1099511627776) :
  Calls Tryz.prog 73 #[v] w fun e w' => w = w' ∧ e = .returned (.int .u64 (beI (l.take 8))) := by
 obtain ⟨a, cap, rfl, hcap, hcells⟩ := hv
 obtain ⟨b, off, rfl, hbw, hc⟩ := hcells (by omega)
 have HC := hid hc
 have HR := hid hr
 have hcap8 : 8 ≤ cap := by omega
 clear hc hr hcells
 generalize hn : l.length = n at *
 have HN := hid hn
 clear hn
 go_enter Tryz.func73, Tryz.ntmps73
 go_wp2_with fail
 go_loop [3, 9] (fun t i => ∃ k : Nat, k ≤ 8 ∧ i = .int .i64 k ∧ t = .int .u64 (beI (l.take k))) (fun _ i => 8 - (intOf i).toNat)
 case atStart => exact ⟨0, Nat.zero_le _, rfl, rfl⟩
 case round =>
  obtain ⟨k, hk, rfl, rfl⟩ := hrel
  by_cases hlt : k < 8
  ·have hce := HC.out k (by omega)
   have HST := hid (be_step l HR.out k hlt (by rw [HN.out]; omega))
   go_wp2
   go_round
   case rel => exact ⟨k + 1, by omega, by go_num, by rw [HST.out]⟩
   case measure => simp [intOf]; omega
  ·have hk8 : 8 ≤ k := by omega
   have hk8' : k = 8 := by omega
   have HK := hid hk8'
   clear hlt hk8'
   go_wp2
   go_ret
   rw [HK.out]
   exact ⟨rfl, rfl⟩
set_option maxRecDepth 100000 in
set_option maxHeartbeats 1000000 in
theorem readHome_any (B D M : Nat) (nb rm fz fi n : Int) (dn : Bool) (f : Int → List Int) (L : List WR) (lv : Value) (w : World) (h : Dk w B D M nb rm fz dn f L lv) (hfi : 0 ≤ fi ∧ fi ≤ 4096) (hn : 0 ≤ n ∧ n ≤ 4096) :
  Calls Tryz.prog 75 #[.agg #[.pointer (some ⟨D, 0, none⟩), .int .i64 fi], .int .i64 n] w fun e w' => e = .returned (.tuple #[.agg (ArrU8 (rdF nb (fi + n) dn f)), .int .i64 (readErr nb (fi + n) dn)]) ∧ Below w.heap.size w w' := by
 have hz := zero35
 have HI35 := hid (show (Tryz.prog.info? 50).map (·.size) = some 256 by kernel_rfl)
 have SZ := hid (show (ArrU8 (zeros 256)).size = 256 by rw [ArrU8_size, zeros, List.length_replicate])
 have HG := hid (rdF_len nb (fi + n) dn f h.2.2.2.2.2.2.1)
 have hb1 : Below w.heap.size w (w.alloc (.cells #[.pointer (some ⟨D, 0, none⟩), .int .i64 fi] 63)) := (Below.refl _ _).alloc (Nat.le_refl _) _
 have hb2 : Below w.heap.size w ((w.alloc (.cells #[.pointer (some ⟨D, 0, none⟩), .int .i64 fi] 63)).alloc (.cells (ArrU8 (zeros 256)) 50)) := hb1.alloc (by simp) _
 have hx := heap_alloc_new (w.alloc (.cells #[.pointer (some ⟨D, 0, none⟩), .int .i64 fi] 63)) (.cells (ArrU8 (zeros 256)) 50)
 have hs1 : (w.alloc (.cells #[.pointer (some ⟨D, 0, none⟩), .int .i64 fi] 63)).heap.size = w.heap.size + 1 := by simp
 have hx0 : ((w.alloc (.cells #[.pointer (some ⟨D, 0, none⟩), .int .i64 fi] 63)).alloc (.cells (ArrU8 (zeros 256)) 50)).heap[w.heap.size]? = some (.cells #[.pointer (some ⟨D, 0, none⟩), .int .i64 fi] 63 (0, 0)) := (heap_alloc_old _ _ (by simp)).trans (heap_alloc_new _ _)
 have c0 := (cell_of_row _ w.heap.size 0 _ _ _ hx0).trans (show (#[Value.pointer (some ⟨D, 0, none⟩), .int .i64 fi] : Array Value)[0]? = some (.pointer (some ⟨D, 0, none⟩)) from rfl)
 have c1 := (cell_of_row _ w.heap.size 1 _ _ _ hx0).trans (show (#[Value.pointer (some ⟨D, 0, none⟩), .int .i64 fi] : Array Value)[1]? = some (.int .i64 fi) from rfl)
 rw [hs1] at hx
 have HL2 := hid (show w.heap.size + 1 < ((w.alloc (.cells #[.pointer (some ⟨D, 0, none⟩), .int .i64 fi] 63)).alloc (.cells (ArrU8 (zeros 256)) 50)).heap.size by simp)
 have HD2 := hid (h.chg (Chg.fresh (F := fun _ => False) hb2) (fun _ _ h => h))
 have HB2 := hid hb2
 have HX := hid hx
 clear hb1 hb2 hx hs1 hx0 h
 have HRD := fun u (h : Dk u B D M nb rm fz dn f L lv) => read_dk B D M nb rm fz (fi + n) dn f L lv u h
 generalize rdF nb (fi + n) dn f = g at *
 generalize readErr nb (fi + n) dn = E at *
 have HRD := hid HRD
 go_enter Tryz.func75, Tryz.ntmps75
 generalize hw2 : (w.alloc (.cells #[.pointer (some ⟨D, 0, none⟩), .int .i64 fi] 63)).alloc (.cells (ArrU8 (zeros 256)) 50) = w2 at *
 have HW2 := hid hw2
 go_wp2_with fail
 refine (HRD.out w2 HD2.out).mono ?_
 rintro e wa ⟨rfl, hb⟩
 have XA := hid hb
 have HXA := hid ((hb.block _ HL2.out).trans HX.out)
 have SG := hid (show (ArrU8 g).size = 256 by rw [ArrU8_size, HG.out])
 clear hb c0 c1 hz
 go_wp2_with (refine wpList_store_row rfl 50 (Operand.tmp 4) (Operand.tmp 13) rfl (w.heap.size + 1) (ArrU8 g) rfl rfl 50 (ArrU8 (zeros 256)) HXA.out (by rw [HI35.out, SG.out]) (by rw [SZ.out, SG.out]) (ArrU8_one _) ?_)
 have hbb := HB2.out.trans (XA.out.mono HB2.out.size)
 refine bodyPost_ret (results_cell_tmp (p := 4) (q := 5) (ty := 50) rfl _ _ (w.heap.size + 1) 50 (ArrU8 g) (0, 0) _ rfl (setRow_heap _ _ _ _ _ _ HXA.out) Tryz.underlying50 rfl (by rw [HI35.out, SG.out])) rfl ⟨rfl, ?_⟩
 exact below_setRow hbb (by omega) _
def PWrEnds (B D M : Nat) (nb rm fz : Int) (dn : Bool) (f : Int → List Int) (L : List WR) (lv : Value) (n : Int) (b : List Int) (w : World) (e : Ending) (w' : World) : Prop :=
 e = .returned (.int .i64 (wErr nb rm fz n dn)) ∧ ∃ lv', Dk w' B D M nb rm (opFz fz dn) (opDn fz dn) (if wErr nb rm fz n dn = 0 then fput f n b else f) (if wErr nb rm fz n dn = 0 then L ++ [(n, f n, b)] else L) lv' ∧
  Chg (Foot D M lv) w w' ∧ (∀ k, Foot D M lv' k → Foot D M lv k ∨ w.heap.size ≤ k)
set_option maxRecDepth 100000 in
set_option maxHeartbeats 1000000 in
theorem writeHome_any (B D M : Nat) (nb rm fz fi n : Int) (dn : Bool) (f : Int → List Int) (L : List WR) (lv : Value) (b : List Int) (w : World) (h : Dk w B D M nb rm fz dn f L lv) (hb : b.length = 256) (hL : L.length ≤ 268435456) (hfi : 0 ≤ fi ∧ fi ≤ 4096) (hn : 0 ≤ n ∧ n ≤ 4096) :
  Calls Tryz.prog 31 #[.agg #[.pointer (some ⟨D, 0, none⟩), .int .i64 fi], .int .i64 n, .agg (ArrU8 b)] w (PWrEnds B D M nb rm fz dn f L lv (fi + n) b w) := by
 have HI35 := hid (show (Tryz.prog.info? 50).map (·.size) = some 256 by kernel_rfl)
 have SB := hid (show (ArrU8 b).size = 256 by rw [ArrU8_size, hb])
 have HB := hid hb
 have hb1 : Below w.heap.size w (w.alloc (.cells #[.pointer (some ⟨D, 0, none⟩), .int .i64 fi] 63)) := (Below.refl _ _).alloc (Nat.le_refl _) _
 have hb2 : Below w.heap.size w ((w.alloc (.cells #[.pointer (some ⟨D, 0, none⟩), .int .i64 fi] 63)).alloc (.cells (ArrU8 b) 50)) := hb1.alloc (by simp) _
 have hx := heap_alloc_new (w.alloc (.cells #[.pointer (some ⟨D, 0, none⟩), .int .i64 fi] 63)) (.cells (ArrU8 b) 50)
 have hs1 : (w.alloc (.cells #[.pointer (some ⟨D, 0, none⟩), .int .i64 fi] 63)).heap.size = w.heap.size + 1 := by simp
 have hx0 : ((w.alloc (.cells #[.pointer (some ⟨D, 0, none⟩), .int .i64 fi] 63)).alloc (.cells (ArrU8 b) 50)).heap[w.heap.size]? = some (.cells #[.pointer (some ⟨D, 0, none⟩), .int .i64 fi] 63 (0, 0)) := (heap_alloc_old _ _ (by simp)).trans (heap_alloc_new _ _)
 have c0 := (cell_of_row _ w.heap.size 0 _ _ _ hx0).trans (show (#[Value.pointer (some ⟨D, 0, none⟩), .int .i64 fi] : Array Value)[0]? = some (.pointer (some ⟨D, 0, none⟩)) from rfl)
 have c1 := (cell_of_row _ w.heap.size 1 _ _ _ hx0).trans (show (#[Value.pointer (some ⟨D, 0, none⟩), .int .i64 fi] : Array Value)[1]? = some (.int .i64 fi) from rfl)
 rw [hs1] at hx
 have HD2 := hid (h.chg (Chg.fresh (F := fun _ => False) hb2) (fun _ _ h => h))
 have HB2 := hid hb2
 have HX := hid hx
 clear hb1 hb2 hx hs1 hx0 h hb
 go_enter Tryz.func31, Tryz.ntmps31
 generalize hw2 : (w.alloc (.cells #[.pointer (some ⟨D, 0, none⟩), .int .i64 fi] 63)).alloc (.cells (ArrU8 b) 50) = w2 at *
 have HW2 := hid hw2
 go_wp2_with (refine wpList_load_row rfl 50 (Operand.tmp 5) rfl (w.heap.size + 1) rfl 50 (ArrU8 b) (0, 0) _ HX.out Tryz.underlying50 rfl (by rw [HI35.out, SB.out]) ?_)
 refine (write_any B D M nb rm fz (fi + n) dn f L lv b w2 HD2.out HB.out hL).mono ?_
 rintro e w3 ⟨rfl, lv', hdk, hch, hft⟩
 have HR := hid (show PWrEnds B D M nb rm fz dn f L lv (fi + n) b w (.returned (.int .i64 (wErr nb rm fz (fi + n) dn))) w3 from ⟨rfl, lv', hdk, (Chg.fresh (F := Foot D M lv) HB2.out).trans hch (fun _ h => .inl h), fun k hk => (hft k hk).elim .inl (fun h => .inr (by have := HB2.out.size; omega))⟩)
 clear hdk hch hft c0 c1
 generalize wErr nb rm fz (fi + n) dn = E at *
 go_wp2_with fail
 go_ret
 exact HR.out
end Go.Proofs.YtdkjkibdncbibaaGreat
/- pages: the layout, numbers in bytes -/
namespace Go.Proofs.YtdkjkibdncbibaaGreat
open Go.RowKit
open Go.Lib (hid)

theorem zeroLay (w : World) : (zeroValue 63).run Tryz.prog w = .ok (.agg #[.pointer none, .int .i64 0]) w := by kernel_rfl
set_option maxRecDepth 100000 in
set_option maxHeartbeats 1000000 in
theorem layoutOf_any (B D M : Nat) (nb rm fz sz : Int) (dn : Bool) (f : Int → List Int) (L : List WR) (lv : Value) (w : World) (h : Dk w B D M nb rm fz dn f L lv) :
  Calls Tryz.prog 30 #[.pointer (some ⟨D, 0, none⟩), .int .i64 sz] w fun e w' => e = .returned (if 3 ≤ sz ∧ sz < nb then .tuple #[.agg #[.pointer (some ⟨D, 0, none⟩), .int .i64 sz], .int .i64 0] else .tuple #[.agg #[.pointer none, .int .i64 0], .int .i64 1]) ∧ Below w.heap.size w w' := by
 have hz := zeroLay
 have hbl : ∀ u : World, (Instr.build 63 #[]).run Tryz.prog u = .ok (.agg #[.pointer none, .int .i64 0]) u := fun u => by kernel_rfl
 have hb1 : Below w.heap.size w (w.alloc (.cells #[.pointer none, .int .i64 0] 63)) := (Below.refl _ _).alloc (Nat.le_refl _) _
 have HDK := hid (h.chg (Chg.fresh (F := fun _ => False) hb1) (fun _ _ h => h))
 have HB := hid hb1
 clear hb1 h
 by_cases hs : sz < 3
 ·have HR := hid (show ¬ (3 ≤ sz ∧ sz < nb) by omega)
  go_enter Tryz.func30, Tryz.ntmps30
  go_wp2_with fail
  refine bodyPost_ret (results_cell_tmp (p := 4) (q := 5) (ty := 63) rfl _ _ w.heap.size 63 #[.pointer none, .int .i64 0] (0, 0) _ rfl (heap_alloc_new _ _) Tryz.underlying63 rfl (by kernel_rfl)) rfl ⟨rfl, (Below.refl _ _).alloc (Nat.le_refl _) _⟩
 ·by_cases hn : sz ≥ nb
  ·have HR := hid (show ¬ (3 ≤ sz ∧ sz < nb) by omega)
   go_enter Tryz.func30, Tryz.ntmps30
   go_wp2_with (go_at_call 65; refine (blocks_any D _ _ _ _ _ _ _ HDK.out.1).mono ?_; rintro e w' ⟨rfl, rfl⟩)
   refine bodyPost_ret (results_cell_tmp (p := 4) (q := 5) (ty := 63) rfl _ _ w.heap.size 63 #[.pointer none, .int .i64 0] (0, 0) _ rfl (heap_alloc_new _ _) Tryz.underlying63 rfl (by kernel_rfl)) rfl ⟨rfl, (Below.refl _ _).alloc (Nat.le_refl _) _⟩
  ·have HR := hid (show (3 ≤ sz ∧ sz < nb) by omega)
   go_enter Tryz.func30, Tryz.ntmps30
   go_wp2_with (go_at_call 65; refine (blocks_any D _ _ _ _ _ _ _ HDK.out.1).mono ?_; rintro e w' ⟨rfl, rfl⟩)
   refine bodyPost_ret (results_cell_tmp (p := 4) (q := 5) (ty := 63) rfl _ _ w.heap.size 63 #[.pointer (some ⟨D, 0, none⟩), .int .i64 sz] (0, 0) _ rfl (heap_alloc_new _ _) Tryz.underlying63 rfl (by kernel_rfl)) rfl ⟨rfl, (Below.refl _ _).alloc (Nat.le_refl _) _⟩
set_option maxRecDepth 100000 in
set_option maxHeartbeats 1000000 in
theorem pages_any (B D M : Nat) (nb rm fz sz : Int) (dn : Bool) (f : Int → List Int) (L : List WR) (lv : Value) (w : World) (h : Dk w B D M nb rm fz dn f L lv) (h0 : 0 ≤ nb ∧ nb ≤ 4096) (h1 : 0 ≤ sz ∧ sz ≤ 4096) :
  Calls Tryz.prog 37 #[.agg #[.pointer (some ⟨D, 0, none⟩), .int .i64 sz]] w fun e w' => e = .returned (.int .i64 (nb - sz)) ∧ Below w.heap.size w w' := by
 have hb1 : Below w.heap.size w (w.alloc (.cells #[.pointer (some ⟨D, 0, none⟩), .int .i64 sz] 63)) := (Below.refl _ _).alloc (Nat.le_refl _) _
 have HDK := hid (h.chg (Chg.fresh (F := fun _ => False) hb1) (fun _ _ h => h))
 have HB := hid hb1
 have hx := heap_alloc_new w (.cells #[.pointer (some ⟨D, 0, none⟩), .int .i64 sz] 63)
 have c0 := (cell_of_row _ w.heap.size 0 _ _ _ hx).trans (show (#[Value.pointer (some ⟨D, 0, none⟩), .int .i64 sz] : Array Value)[0]? = some (.pointer (some ⟨D, 0, none⟩)) from rfl)
 have c1 := (cell_of_row _ w.heap.size 1 _ _ _ hx).trans (show (#[Value.pointer (some ⟨D, 0, none⟩), .int .i64 sz] : Array Value)[1]? = some (.int .i64 sz) from rfl)
 have HDD := fun u (hu : Below w.heap.size w u) => (h.chg (Chg.fresh (F := fun _ => False) hu) (fun _ _ h => h)).1
 have HDD := hid HDD
 have HX0 := hid (show (w.alloc (.cells #[.pointer (some ⟨D, 0, none⟩), .int .i64 sz] 63)).drew.heap[w.heap.size]? = some (.cells #[.pointer (some ⟨D, 0, none⟩), .int .i64 sz] 63 (0, 0)) ∧ Below w.heap.size w (w.alloc (.cells #[.pointer (some ⟨D, 0, none⟩), .int .i64 sz] 63)).drew from ⟨hx, hb1.drew⟩)
 clear hb1 h hx
 go_enter Tryz.func37, Tryz.ntmps37
 go_wp2_with fail
 have hw1 : IntKind.i64.wrap (nb - sz) = nb - sz := wrap_i64 _ (by omega) (by omega)
 refine wp_region_held_drew (S := fun u => u.heap[w.heap.size]? = some (.cells #[.pointer (some ⟨D, 0, none⟩), .int .i64 sz] 63 (0, 0)) ∧ Below w.heap.size w u) (by kernel_rfl) (HX0.out) (fun hHeld => ?_)
 refine tk (i := 0) (oi := ⟨some 3, .fieldAddr 63 (.tmp 1) 0, 0, "layout.go:29", #[], none⟩) (v := ?_) (Or.inl ⟨by rfl, ?_⟩) ?_
 rotate_left 1
 ·(intro u hSw; go_simp; try with_reducible rfl)
 try simp only [Act.put, sA, sB, sC]
 refine tk (i := 1) (oi := ⟨some 4, .load 24 (.tmp 3), 24, "layout.go:29", #[⟨0, .data⟩], none⟩) (v := ?_) (Or.inl ⟨by rfl, ?_⟩) ?_
 rotate_left 1
 ·(intro u hSw; have p0 := (cell_of_row u (w.heap.size) 0 _ _ _ hSw.1).trans (show (#[Value.pointer (some ⟨D, 0, none⟩), .int .i64 sz] : Array Value)[0]? = some (.pointer (some ⟨D, 0, none⟩)) from rfl); have p1 := (cell_of_row u (w.heap.size) 1 _ _ _ hSw.1).trans (show (#[Value.pointer (some ⟨D, 0, none⟩), .int .i64 sz] : Array Value)[1]? = some (.int .i64 sz) from rfl); go_simp; try with_reducible rfl)
 try simp only [Act.put, sA, sB, sC]
 refine tk (i := 3) (oi := ⟨some 6, .fieldAddr 63 (.tmp 1) 1, 0, "layout.go:29", #[], none⟩) (v := ?_) (Or.inl ⟨by rfl, ?_⟩) ?_
 rotate_left 1
 ·(intro u hSw; go_simp; try with_reducible rfl)
 try simp only [Act.put, sA, sB, sC]
 refine tk (i := 4) (oi := ⟨some 7, .load 3 (.tmp 6), 3, "layout.go:29", #[⟨3, .data⟩], none⟩) (v := ?_) (Or.inl ⟨by rfl, ?_⟩) ?_
 rotate_left 1
 ·(intro u hSw; have p0 := (cell_of_row u (w.heap.size) 0 _ _ _ hSw.1).trans (show (#[Value.pointer (some ⟨D, 0, none⟩), .int .i64 sz] : Array Value)[0]? = some (.pointer (some ⟨D, 0, none⟩)) from rfl); have p1 := (cell_of_row u (w.heap.size) 1 _ _ _ hSw.1).trans (show (#[Value.pointer (some ⟨D, 0, none⟩), .int .i64 sz] : Array Value)[1]? = some (.int .i64 sz) from rfl); go_simp; try with_reducible rfl)
 try simp only [Act.put, sA, sB, sC]
 refine wpAnyH_ready (rs := [2]) (by kernel_rfl) (by simp) ?_
 refine AllReadyH.cons (o := ⟨some 5, .call ⟨.value (.func 65), #[.tmp 4], #[24]⟩, 3, "layout.go:29", #[⟨1, .data⟩], none⟩) rfl (fun K hK => ?_) AllReadyH.nil
 go_simp
 go_at_call 65
 refine (blocks_any D _ _ _ _ _ _ _ (HDD.out _ hHeld.2)).mono ?_
 rintro e w' ⟨rfl, rfl⟩
 go_wp2_with fail
 refine hK.out _ _ hHeld (fun hHeld => ?_)
 clear hK K
 try simp only [Act.put, sA, sB, sC]
 refine tk (i := 5) (oi := ⟨some 8, .binOp BinOp.sub 3 (.tmp 5) (.tmp 7) 3, 3, "layout.go:29", #[⟨2, .data⟩, ⟨4, .data⟩], none⟩) (v := ?_) (Or.inl ⟨by rfl, ?_⟩) ?_
 rotate_left 1
 ·(intro u hSw; go_simp; try with_reducible rfl)
 try simp only [Act.put, sA, sB, sC]
 refine tk (i := 6) (oi := ⟨some 2, .assign (.tmp 8), 3, "layout.go:29", #[⟨5, .data⟩, ⟨2, .chain⟩, ⟨0, .phase⟩, ⟨1, .phase⟩, ⟨2, .phase⟩, ⟨3, .phase⟩, ⟨4, .phase⟩, ⟨5, .phase⟩], none⟩) (v := ?_) (Or.inl ⟨by rfl, ?_⟩) ?_
 rotate_left 1
 ·(intro u hSw; go_simp; try with_reducible rfl)
 try simp only [Act.put, sA, sB, sC]
 refine wpAnyH_done (by kernel_rfl) ?_ _
 go_wp2_with fail
 go_ret
 exact ⟨rfl, hHeld.2⟩
set_option maxRecDepth 100000 in
set_option maxHeartbeats 1000000 in
theorem putNumber_any (X n m c k : Nat) (l : List Int) (T : TypeId) (w : World) (hX : w.heap[X]? = some (.cells (l.map (Value.int .u8)).toArray T (0, 0))) (hn : n + 8 ≤ l.length) (hm : 8 ≤ m) (hk : k < 18446744073709551616) :
  Calls Tryz.prog 63 #[.slice (some ⟨X, n, none⟩) m c, .int .u64 k] w fun e w' => e = .returned (.tuple #[]) ∧ w'.heap[X]? = some (.cells ((putL l n (be8 k)).map (Value.int .u8)).toArray T (0, 0)) ∧ Chg (fun g => g = X) w w' := by
 have HO := hid hX
 have HK := hid hk
 have HN := hid hn
 have h8 := be8_len k
 clear hX hk hn
 go_enter Tryz.func63, Tryz.ntmps63
 go_wp2_with fail
 go_loopw [5] (fun s wr => ∃ j : Nat, j ≤ 8 ∧ s = .int .i64 (j : Int) ∧ wr.heap[X]? = some (.cells ((putL l n ((be8 k).take j)).map (Value.int .u8)).toArray T (0, 0)) ∧ Chg (fun g => g = X) w wr)
  (fun s _ => 8 - (intOf s).toNat)
 case atStart => exact ⟨0, by omega, rfl, by simpa [putL] using HO.out, Chg.refl _ _⟩
 case round =>
  obtain ⟨j, hj, rfl, hown, hbw⟩ := hrel
  have hsz := hbw.size
  by_cases hlt : j < 8
  ·have HB := hid (be8_succ k j hlt)
   have HBW := hid hbw
   have HOW := hid hown
   have H8 := hid h8
   have HTJ := hid (show ((be8 k).take j).length = j by simp [h8]; omega)
   have hlen : n + j < (putL l n ((be8 k).take j)).length := by rw [putL_len _ _ _ (by rw [HTJ.out]; have := HN.out; omega)]; have := HN.out; omega
   have cs : wr.cell? ⟨X, n + j, none⟩ = some (.int .u8 ((putL l n ((be8 k).take j))[n + j])) := by
    rw [cell_of_row _ _ _ _ _ _ hown]; simp [hlen]
   have fs := frozen_of_row _ X (n + j) _ _ hown
   generalize ((putL l n ((be8 k).take j))[n + j]) = old at cs
   have hs1 : ((j : Int) * 8) = ((8 * j : Nat) : Int) := by omega
   have HS1 := hid hs1
   clear hbw hown h8 hlen hs1
   go_wp2_with fail
   go_roundw
   case rel =>
    refine ⟨j + 1, by omega, by go_num, ?_, ?_⟩
    ·have h2 := putL_set l ((be8 k).take j) n ((k : Int) / 2 ^ (56 - 8 * j) % 256) (by rw [HTJ.out]; have := HN.out; omega)
     rw [HTJ.out] at h2
     refine (heap_setCell_same _ X (n + j) _ T _ HOW.out).trans ?_
     rw [map_set_arr, h2, ← HB.out]
    ·exact HBW.out.setCell _ _ (.inl rfl)
   case measure => simp [intOf]; omega
  ·have hj8 : j = 8 := by omega
   rw [hj8] at hown
   rw [List.take_of_length_le (by omega)] at hown
   have hj9 : 8 ≤ j := by omega
   have HBW := hid hbw
   have HOW := hid hown
   subst hj8
   clear hbw hown hlt h8
   go_wp2_with fail
   go_end0
   exact ⟨rfl, HOW.out, HBW.out⟩
end Go.Proofs.YtdkjkibdncbibaaGreat
/- the numbers that a header's page begins with, read -/
namespace Go.Proofs.YtdkjkibdncbibaaGreat
open Go.RowKit
open Go.Lib (hid)
/-- a header's cells -/
def HA (ns : List Nat) : Array Value := (ns.map fun n : Nat => Value.int .u64 (n : Int)).toArray
theorem HA_size (ns : List Nat) : (HA ns).size = ns.length := by simp [HA]
theorem HA_one (ns : List Nat) : (HA ns).all (·.oneCell') = true := by simp [HA, Value.oneCell']
theorem HA_set (ns : List Nat) (i n : Nat) : (HA ns).setIfInBounds i (.int .u64 (n : Int)) = HA (ns.set i n) := by simp [HA, List.map_set]
theorem HA_at (ns : List Nat) (i : Nat) (h : i < ns.length) : (HA ns)[i]? = some (.int .u64 ((ns[i]'h : Nat) : Int)) := by simp [HA, h]
/-- when i of the roots are read -/
def hdrL (l : List Int) (i : Nat) : List Nat := (List.range 18).map fun k => if k < i + 2 then nAt l k else 0
def hdr (l : List Int) : List Nat := (List.range 18).map (nAt l)
theorem hdr_len (l : List Int) : (hdr l).length = 18 := by simp [hdr]
theorem hdrL_len (l : List Int) (i : Nat) : (hdrL l i).length = 18 := by simp [hdrL]
theorem hdrL_end (l : List Int) : hdrL l 16 = hdr l := by
 unfold hdrL hdr
 apply List.map_congr_left
 intro k hk
 rw [if_pos (by have := List.mem_range.1 hk; omega)]
theorem hdrL_set (l : List Int) (i : Nat) (hi : i < 16) : (hdrL l i).set (2 + i) (nAt l (2 + i)) = hdrL l (i + 1) := by
 apply List.ext_getElem?
 intro j
 rw [List.getElem?_set]
 unfold hdrL
 by_cases hj : 2 + i = j
 ·subst hj
  have h1 : 2 + i < 18 := by omega
  have h2 : 2 + i < i + 1 + 2 := by omega
  simp [h1, h2]
 ·rw [if_neg hj]
  by_cases h : j < 18
  ·by_cases h3 : j < i + 2
   ·have h4 : j < i + 1 + 2 := by omega
    simp [h, h3, h4]
   ·have h4 : ¬ j < i + 1 + 2 := by omega
    simp [h, h3, h4]
  ·simp [h]
theorem zeroHdr (w : World) : (zeroValue 68).run Tryz.prog w = .ok (.agg (HA (List.replicate 18 0))) w := by kernel_rfl
theorem buildHdr (w : World) (a b : Int) : (Instr.build 68 #[(0, .int .u64 a), (1, .int .u64 b)]).run Tryz.prog w = .ok (.agg #[.int .u64 a, .int .u64 b, .int .u64 0, .int .u64 0, .int .u64 0, .int .u64 0, .int .u64 0, .int .u64 0, .int .u64 0, .int .u64 0, .int .u64 0, .int .u64 0, .int .u64 0, .int .u64 0, .int .u64 0, .int .u64 0, .int .u64 0, .int .u64 0]) w := by kernel_rfl
set_option maxRecDepth 100000 in
set_option maxHeartbeats 2000000 in
theorem headerIn_any (l : List Int) (w : World) (hl : l.length = 256) (hr : Rng l) :
    Calls Tryz.prog 40 #[.agg (ArrU8 l)] w fun e w' => e = .returned (.agg (HA (hdr l))) ∧ Below w.heap.size w w' := by
  have hz := zeroHdr
  have hbd := buildHdr
  have HL := hid hl
  have HR := hid hr
  have HI := hid (show (Tryz.prog.info? 68).map (·.size) = some 18 by kernel_rfl)
  clear hl hr
  go_enter Tryz.func40, Tryz.ntmps40
  go_wp2_with fail
  have hb2 : Below w.heap.size w ((w.alloc (.cells (ArrU8 l) 50)).alloc (.cells (HA [0, 0, 0, 0, 0, 0, 0, 0, 0, 0, 0, 0, 0, 0, 0, 0, 0, 0]) 68)) := ((Below.refl _ _).alloc (Nat.le_refl _) _).alloc (by simp) _
  have hx0 : ((w.alloc (.cells (ArrU8 l) 50)).alloc (.cells (HA [0, 0, 0, 0, 0, 0, 0, 0, 0, 0, 0, 0, 0, 0, 0, 0, 0, 0]) 68)).heap[w.heap.size]? = some (.cells (l.map (Value.int .u8)).toArray 50 (0, 0)) := (heap_alloc_old _ _ (by simp)).trans (heap_alloc_new _ _)
  have hx1 : ((w.alloc (.cells (ArrU8 l) 50)).alloc (.cells (HA [0, 0, 0, 0, 0, 0, 0, 0, 0, 0, 0, 0, 0, 0, 0, 0, 0, 0]) 68)).heap[w.heap.size + 1]? = some (.cells (HA (List.replicate 18 0)) 68 (0, 0)) := by
    have := heap_alloc_new (w.alloc (.cells (ArrU8 l) 50)) (.cells (HA [0, 0, 0, 0, 0, 0, 0, 0, 0, 0, 0, 0, 0, 0, 0, 0, 0, 0]) 68)
    rwa [World.size_alloc] at this
  have hs2 : ((w.alloc (.cells (ArrU8 l) 50)).alloc (.cells (HA [0, 0, 0, 0, 0, 0, 0, 0, 0, 0, 0, 0, 0, 0, 0, 0, 0, 0]) 68)).heap.size = w.heap.size + 2 := by simp
  generalize (w.alloc (.cells (ArrU8 l) 50)).alloc (.cells (HA [0, 0, 0, 0, 0, 0, 0, 0, 0, 0, 0, 0, 0, 0, 0, 0, 0, 0]) 68) = w2 at *
  have HB2 := hid hb2
  have HX0 := hid (show w2.drew.heap[w.heap.size]? = some (.cells (l.map (Value.int .u8)).toArray 50 (0, 0)) from hx0)
  have HX1 := hid (show w2.drew.heap[w.heap.size + 1]? = some (.cells (HA (List.replicate 18 0)) 68 (0, 0)) from hx1)
  have HS2 := hid (show w2.drew.heap.size = w.heap.size + 2 from hs2)
  have HBD := hid (show Below w.heap.size w w2.drew from hb2.drew)
  clear hb2 hx0 hx1 hs2
  have SA := fun u => slice35_all u w.heap.size
  have SB := fun u => slice35_l u w.heap.size 8 8 rfl (by omega)
  refine wp_region_held_drew (S := fun u => u.heap[w.heap.size]? = some (.cells (l.map (Value.int .u8)).toArray 50 (0, 0))) (by kernel_rfl) (HX0.out) (fun hHeld => ?_)
  refine tk (i := 0) (oi := ⟨some 5, .slice 50 (.tmp 1) none none none, 83, "header.go:18", #[], none⟩) (v := ?_) (Or.inl ⟨by rfl, ?_⟩) ?_
  rotate_left 1
  · (intro u hSw; go_simp; try with_reducible rfl)
  try simp only [Act.put, sA, sB, sC]
  refine tk (i := 2) (oi := ⟨some 7, .slice 50 (.tmp 1) (some (.const (Value.int IntKind.i64 8))) none none, 83, "header.go:18", #[], none⟩) (v := ?_) (Or.inl ⟨by rfl, ?_⟩) ?_
  rotate_left 1
  · (intro u hSw; go_simp; try with_reducible rfl)
  try simp only [Act.put, sA, sB, sC]
  refine wpAnyH_ready (rs := [1, 5]) (by kernel_rfl) (by simp) ?_
  refine (AllReadyH.cons (o := ⟨some 6, .call ⟨.value (.func 73), #[.tmp 5], #[83]⟩, 60, "header.go:18", #[⟨0, .data⟩], none⟩) rfl (fun K hK => ?_) (AllReadyH.cons (o := ⟨some 3, .alloc 68, 0, "header.go:18", #[], none⟩) rfl (fun K hK => ?_) AllReadyH.nil))
  · go_simp
    go_at_call 73
    refine (pnumber_any _ _ _ (bs_mid hHeld 0 256 (by omega) (by rw [HL.out])) HR.out (by rw [List.drop_zero, HL.out]; omega) (by rw [List.drop_zero, HL.out]; omega)).mono ?_
    rintro e w' ⟨rfl, rfl⟩
    go_wp2_with fail
    refine hK.out _ _ hHeld (fun hHeld => ?_)
    clear hK K
    try simp only [Act.put, sA, sB, sC]
    refine wpAnyH_ready (rs := [3, 5]) (by kernel_rfl) (by simp) ?_
    refine (AllReadyH.cons (o := ⟨some 8, .call ⟨.value (.func 73), #[.tmp 7], #[83]⟩, 60, "header.go:18", #[⟨2, .data⟩, ⟨1, .chain⟩], none⟩) rfl (fun K hK => ?_) (AllReadyH.cons (o := ⟨some 3, .alloc 68, 0, "header.go:18", #[], none⟩) rfl (fun K hK => ?_) AllReadyH.nil))
    · go_simp
      go_at_call 73
      refine (pnumber_any _ _ _ (bs_mid hHeld 8 248 (by rw [HL.out]; omega) (by rw [HL.out])) (HR.out.drop _) (by rw [List.length_drop, HL.out]; omega) (by rw [List.length_drop, HL.out]; omega)).mono ?_
      rintro e w' ⟨rfl, rfl⟩
      go_wp2_with fail
      refine hK.out _ _ hHeld (fun hHeld => ?_)
      clear hK K
      try simp only [Act.put, sA, sB, sC]
      refine tk (i := 4) (oi := ⟨some 9, .build 68 #[(0, .tmp 6), (1, .tmp 8)], 68, "header.go:18", #[⟨1, .data⟩, ⟨3, .data⟩], none⟩) (v := .agg (HA (hdrL l 0))) (Or.inl ⟨by rfl, ?_⟩) ?_
      · intro u hSw
        go_simp
        rfl
      try simp only [Act.put, sA, sB, sC]
      refine wpAnyH_ready (rs := [5]) (by kernel_rfl) (by simp) ?_
      refine (AllReadyH.cons (o := ⟨some 3, .alloc 68, 0, "header.go:18", #[], none⟩) rfl (fun K hK => ?_) AllReadyH.nil)
      go_simp
      refine hK.out _ _ ((heap_alloc_old _ _ (show w.heap.size < w2.drew.heap.size by rw [HS2.out]; omega)).trans HX0.out) (fun hHeld => ?_)
      clear hK K
      try simp only [Act.put, sA, sB, sC]
      refine wpAnyH_ready (rs := [6]) (by kernel_rfl) (by simp) ?_
      refine (AllReadyH.cons (o := ⟨none, .store 68 (.tmp 3) (.tmp 9), 0, "header.go:18", #[⟨5, .data⟩, ⟨4, .data⟩, ⟨3, .chain⟩, ⟨0, .phase⟩, ⟨1, .phase⟩, ⟨2, .phase⟩, ⟨3, .phase⟩, ⟨4, .phase⟩, ⟨5, .phase⟩], none⟩) rfl (fun K hK => ?_) AllReadyH.nil)
      rw [if_pos (by rfl)]
      refine wp_store_row 68 (Operand.tmp 3) (Operand.tmp 9) rfl w2.heap.size (HA (hdrL l 0)) rfl rfl 68 (HA (List.replicate 18 0)) (heap_alloc_new _ _) HI.out rfl (HA_one _) ?_
      refine hK.out _ _ ?_ (fun hHeld => ?_)
      · rw [setRow_other _ _ _ _ (by rw [show w2.heap.size = w.heap.size + 2 from HS2.out]; omega)]
        exact (heap_alloc_old _ _ (show w.heap.size < w2.drew.heap.size by rw [HS2.out]; omega)).trans HX0.out
      clear hK K
      try simp only [Act.put]
      refine wpAnyH_done (by kernel_rfl) ?_ _
      have HY := hid (setRow_heap (w2.alloc (Obj.cells (HA [0, 0, 0, 0, 0, 0, 0, 0, 0, 0, 0, 0, 0, 0, 0, 0, 0, 0]) 68)).drew w2.heap.size (HA (List.replicate 18 0)) (HA (hdrL l 0)) 68 (0, 0) (heap_alloc_new _ _))
      have hb3 : Below w.heap.size w ((w2.alloc (Obj.cells (HA [0, 0, 0, 0, 0, 0, 0, 0, 0, 0, 0, 0, 0, 0, 0, 0, 0, 0]) 68)).drew.setRow w2.heap.size (HA (hdrL l 0))) := below_setRow (HB2.out.alloc HB2.out.size _).drew HB2.out.size _
      have hx0 := hHeld
      have hx1 : ((w2.alloc (Obj.cells (HA [0, 0, 0, 0, 0, 0, 0, 0, 0, 0, 0, 0, 0, 0, 0, 0, 0, 0]) 68)).drew.setRow w2.heap.size (HA (hdrL l 0))).heap[w.heap.size + 1]? = some (.cells (HA (List.replicate 18 0)) 68 (0, 0)) := by
        rw [setRow_other _ _ _ _ (by rw [show w2.heap.size = w.heap.size + 2 from HS2.out]; omega)]
        exact (heap_alloc_old _ _ (show w.heap.size + 1 < w2.drew.heap.size by rw [HS2.out]; omega)).trans HX1.out
      generalize ((w2.alloc (Obj.cells (HA [0, 0, 0, 0, 0, 0, 0, 0, 0, 0, 0, 0, 0, 0, 0, 0, 0, 0]) 68)).drew.setRow w2.heap.size (HA (hdrL l 0))) = w3 at *
      have HX0' := hid hx0
      have HX1' := hid hx1
      have HB3 := hid hb3
      have HE := hid (show w2.heap.size = w.heap.size + 2 from HS2.out)
      generalize w2.heap.size = X at *
      clear hHeld hx0 hx1 hb3 SA SB
      have HLT := hid (Array.getElem?_eq_some_iff.1 HY.out).1
      go_wp2_with fail
      go_loopw [10] (fun iv wr => ∃ i : Nat, i ≤ 16 ∧ iv = .int .i64 (i : Int) ∧ wr.heap[X]? = some (.cells (HA (hdrL l i)) 68 (0, 0)) ∧ Chg (fun g => g = X) w3 wr) (fun iv _ => 16 - (intOf iv).toNat)
      case atStart => exact ⟨0, by omega, rfl, HY.out, Chg.refl _ _⟩
      case round =>
        obtain ⟨i, hi, rfl, hx, hc⟩ := hrel
        have HX := hid hx
        have HC := hid hc
        by_cases hlt : i < 16
        · have h0 : wr.heap[w.heap.size]? = some (.cells (l.map (Value.int .u8)).toArray 50 (0, 0)) := (hc.block _ (by have := HE.out; have := HLT.out; omega) (by have := HE.out; omega)).trans HX0'.out
          have hsl := fun u => slice35_l u w.heap.size ((2 + (i : Int)) * 8) (8 * (2 + i)) (by omega) (by omega)
          have HNU := hid (pnumber_any _ _ wr (bs_mid h0 (8 * (2 + i)) (256 - 8 * (2 + i)) (by rw [HL.out]; omega) (by rw [HL.out])) (HR.out.drop _) (by rw [List.length_drop, HL.out]; omega) (by rw [List.length_drop, HL.out]; omega))
          have cs : wr.cell? ⟨X, 2 + i, none⟩ = some (.int .u64 (((hdrL l i)[2 + i]'(by rw [hdrL_len]; omega) : Nat) : Int)) := (cell_of_row _ X (2 + i) _ _ _ hx).trans (HA_at _ _ _)
          have fs := frozen_of_row _ X (2 + i) _ _ hx
          generalize ((hdrL l i)[2 + i]'(by rw [hdrL_len]; omega)) = old at cs
          clear hx hc h0
          go_wp2_with fail
          refine HNU.out.mono ?_
          rintro e w' ⟨rfl, rfl⟩
          go_wp2_with fail
          go_roundw
          case rel =>
            refine ⟨i + 1, by omega, by go_num, ?_, HC.out.setCell _ _ (.inl rfl)⟩
            refine (heap_setCell_same _ X (2 + i) _ _ _ HX.out).trans ?_
            rw [show (2 + i) = 2 + i from rfl]
            rw [← hdrL_set l i hlt, ← HA_set]
            rfl
          case measure => simp [intOf]; omega
        · obtain rfl : i = 16 := by omega
          have hcb := hc
          clear hx hc
          have h1w := (hcb.block (w.heap.size + 1) (by have := HE.out; have := HLT.out; omega) (by have := HE.out; omega)).trans HX1'.out
          have H1W := hid h1w
          have HBW := hid hcb
          have HS := hid (show (HA (hdrL l 16)).size = 18 by rw [HA_size, hdrL_len])
          clear h1w hcb
          go_wp2_with (first | (refine wpList_load_row rfl 68 (Operand.tmp 3) rfl X rfl 68 (HA (hdrL l 16)) (0, 0) _ HX.out Tryz.underlying68 rfl (by rw [HI.out, HS.out]) ?_) | (refine wpList_store_row rfl 68 (Operand.tmp 2) (Operand.tmp 22) rfl (w.heap.size + 1) (HA (hdrL l 16)) rfl rfl 68 (HA (List.replicate 18 0)) H1W.out (by rw [HI.out, HS.out]) (by rw [HS.out]; rfl) (HA_one _) ?_))
          refine bodyPost_ret (results_cell_row rfl _ _ (w.heap.size + 1) 68 (HA (hdrL l 16)) (0, 0) _ rfl (setRow_heap _ _ _ _ _ _ H1W.out) Tryz.underlying68 rfl (by rw [HI.out, HS.out])) rfl ⟨by rw [hdrL_end], ?_⟩
          refine below_setRow (HB3.out.trans (HBW.out.below (fun k hk => by rw [hk]; have := HE.out; omega) HB3.out.size)) (by omega) _
    · go_simp
      refine hK.out _ _ ((heap_alloc_old _ _ (show w.heap.size < w2.drew.heap.size by rw [HS2.out]; omega)).trans HX0.out) (fun hHeld => ?_)
      clear hK K
      try simp only [Act.put, sA, sB, sC]
      refine wpAnyH_ready (rs := [3]) (by kernel_rfl) (by simp) ?_
      refine (AllReadyH.cons (o := ⟨some 8, .call ⟨.value (.func 73), #[.tmp 7], #[83]⟩, 60, "header.go:18", #[⟨2, .data⟩, ⟨1, .chain⟩], none⟩) rfl (fun K hK => ?_) AllReadyH.nil)
      go_simp
      go_at_call 73
      refine (pnumber_any _ _ _ (bs_mid hHeld 8 248 (by rw [HL.out]; omega) (by rw [HL.out])) (HR.out.drop _) (by rw [List.length_drop, HL.out]; omega) (by rw [List.length_drop, HL.out]; omega)).mono ?_
      rintro e w' ⟨rfl, rfl⟩
      go_wp2_with fail
      refine hK.out _ _ hHeld (fun hHeld => ?_)
      clear hK K
      try simp only [Act.put, sA, sB, sC]
      refine tk (i := 4) (oi := ⟨some 9, .build 68 #[(0, .tmp 6), (1, .tmp 8)], 68, "header.go:18", #[⟨1, .data⟩, ⟨3, .data⟩], none⟩) (v := .agg (HA (hdrL l 0))) (Or.inl ⟨by rfl, ?_⟩) ?_
      · intro u hSw
        go_simp
        rfl
      try simp only [Act.put, sA, sB, sC]
      refine wpAnyH_ready (rs := [6]) (by kernel_rfl) (by simp) ?_
      refine (AllReadyH.cons (o := ⟨none, .store 68 (.tmp 3) (.tmp 9), 0, "header.go:18", #[⟨5, .data⟩, ⟨4, .data⟩, ⟨3, .chain⟩, ⟨0, .phase⟩, ⟨1, .phase⟩, ⟨2, .phase⟩, ⟨3, .phase⟩, ⟨4, .phase⟩, ⟨5, .phase⟩], none⟩) rfl (fun K hK => ?_) AllReadyH.nil)
      rw [if_pos (by rfl)]
      refine wp_store_row 68 (Operand.tmp 3) (Operand.tmp 9) rfl w2.heap.size (HA (hdrL l 0)) rfl rfl 68 (HA (List.replicate 18 0)) (heap_alloc_new _ _) HI.out rfl (HA_one _) ?_
      refine hK.out _ _ ?_ (fun hHeld => ?_)
      · rw [setRow_other _ _ _ _ (by rw [show w2.heap.size = w.heap.size + 2 from HS2.out]; omega)]
        exact (heap_alloc_old _ _ (show w.heap.size < w2.drew.heap.size by rw [HS2.out]; omega)).trans HX0.out
      clear hK K
      try simp only [Act.put]
      refine wpAnyH_done (by kernel_rfl) ?_ _
      have HY := hid (setRow_heap (w2.alloc (Obj.cells (HA [0, 0, 0, 0, 0, 0, 0, 0, 0, 0, 0, 0, 0, 0, 0, 0, 0, 0]) 68)).drew w2.heap.size (HA (List.replicate 18 0)) (HA (hdrL l 0)) 68 (0, 0) (heap_alloc_new _ _))
      have hb3 : Below w.heap.size w ((w2.alloc (Obj.cells (HA [0, 0, 0, 0, 0, 0, 0, 0, 0, 0, 0, 0, 0, 0, 0, 0, 0, 0]) 68)).drew.setRow w2.heap.size (HA (hdrL l 0))) := below_setRow (HB2.out.alloc HB2.out.size _).drew HB2.out.size _
      have hx0 := hHeld
      have hx1 : ((w2.alloc (Obj.cells (HA [0, 0, 0, 0, 0, 0, 0, 0, 0, 0, 0, 0, 0, 0, 0, 0, 0, 0]) 68)).drew.setRow w2.heap.size (HA (hdrL l 0))).heap[w.heap.size + 1]? = some (.cells (HA (List.replicate 18 0)) 68 (0, 0)) := by
        rw [setRow_other _ _ _ _ (by rw [show w2.heap.size = w.heap.size + 2 from HS2.out]; omega)]
        exact (heap_alloc_old _ _ (show w.heap.size + 1 < w2.drew.heap.size by rw [HS2.out]; omega)).trans HX1.out
      generalize ((w2.alloc (Obj.cells (HA [0, 0, 0, 0, 0, 0, 0, 0, 0, 0, 0, 0, 0, 0, 0, 0, 0, 0]) 68)).drew.setRow w2.heap.size (HA (hdrL l 0))) = w3 at *
      have HX0' := hid hx0
      have HX1' := hid hx1
      have HB3 := hid hb3
      have HE := hid (show w2.heap.size = w.heap.size + 2 from HS2.out)
      generalize w2.heap.size = X at *
      clear hHeld hx0 hx1 hb3 SA SB
      have HLT := hid (Array.getElem?_eq_some_iff.1 HY.out).1
      go_wp2_with fail
      go_loopw [10] (fun iv wr => ∃ i : Nat, i ≤ 16 ∧ iv = .int .i64 (i : Int) ∧ wr.heap[X]? = some (.cells (HA (hdrL l i)) 68 (0, 0)) ∧ Chg (fun g => g = X) w3 wr) (fun iv _ => 16 - (intOf iv).toNat)
      case atStart => exact ⟨0, by omega, rfl, HY.out, Chg.refl _ _⟩
      case round =>
        obtain ⟨i, hi, rfl, hx, hc⟩ := hrel
        have HX := hid hx
        have HC := hid hc
        by_cases hlt : i < 16
        · have h0 : wr.heap[w.heap.size]? = some (.cells (l.map (Value.int .u8)).toArray 50 (0, 0)) := (hc.block _ (by have := HE.out; have := HLT.out; omega) (by have := HE.out; omega)).trans HX0'.out
          have hsl := fun u => slice35_l u w.heap.size ((2 + (i : Int)) * 8) (8 * (2 + i)) (by omega) (by omega)
          have HNU := hid (pnumber_any _ _ wr (bs_mid h0 (8 * (2 + i)) (256 - 8 * (2 + i)) (by rw [HL.out]; omega) (by rw [HL.out])) (HR.out.drop _) (by rw [List.length_drop, HL.out]; omega) (by rw [List.length_drop, HL.out]; omega))
          have cs : wr.cell? ⟨X, 2 + i, none⟩ = some (.int .u64 (((hdrL l i)[2 + i]'(by rw [hdrL_len]; omega) : Nat) : Int)) := (cell_of_row _ X (2 + i) _ _ _ hx).trans (HA_at _ _ _)
          have fs := frozen_of_row _ X (2 + i) _ _ hx
          generalize ((hdrL l i)[2 + i]'(by rw [hdrL_len]; omega)) = old at cs
          clear hx hc h0
          go_wp2_with fail
          refine HNU.out.mono ?_
          rintro e w' ⟨rfl, rfl⟩
          go_wp2_with fail
          go_roundw
          case rel =>
            refine ⟨i + 1, by omega, by go_num, ?_, HC.out.setCell _ _ (.inl rfl)⟩
            refine (heap_setCell_same _ X (2 + i) _ _ _ HX.out).trans ?_
            rw [show (2 + i) = 2 + i from rfl]
            rw [← hdrL_set l i hlt, ← HA_set]
            rfl
          case measure => simp [intOf]; omega
        · obtain rfl : i = 16 := by omega
          have hcb := hc
          clear hx hc
          have h1w := (hcb.block (w.heap.size + 1) (by have := HE.out; have := HLT.out; omega) (by have := HE.out; omega)).trans HX1'.out
          have H1W := hid h1w
          have HBW := hid hcb
          have HS := hid (show (HA (hdrL l 16)).size = 18 by rw [HA_size, hdrL_len])
          clear h1w hcb
          go_wp2_with (first | (refine wpList_load_row rfl 68 (Operand.tmp 3) rfl X rfl 68 (HA (hdrL l 16)) (0, 0) _ HX.out Tryz.underlying68 rfl (by rw [HI.out, HS.out]) ?_) | (refine wpList_store_row rfl 68 (Operand.tmp 2) (Operand.tmp 22) rfl (w.heap.size + 1) (HA (hdrL l 16)) rfl rfl 68 (HA (List.replicate 18 0)) H1W.out (by rw [HI.out, HS.out]) (by rw [HS.out]; rfl) (HA_one _) ?_))
          refine bodyPost_ret (results_cell_row rfl _ _ (w.heap.size + 1) 68 (HA (hdrL l 16)) (0, 0) _ rfl (setRow_heap _ _ _ _ _ _ H1W.out) Tryz.underlying68 rfl (by rw [HI.out, HS.out])) rfl ⟨by rw [hdrL_end], ?_⟩
          refine below_setRow (HB3.out.trans (HBW.out.below (fun k hk => by rw [hk]; have := HE.out; omega) HB3.out.size)) (by omega) _
  · go_simp
    refine hK.out _ _ ((heap_alloc_old _ _ (show w.heap.size < w2.drew.heap.size by rw [HS2.out]; omega)).trans HX0.out) (fun hHeld => ?_)
    clear hK K
    try simp only [Act.put, sA, sB, sC]
    refine wpAnyH_ready (rs := [1]) (by kernel_rfl) (by simp) ?_
    refine (AllReadyH.cons (o := ⟨some 6, .call ⟨.value (.func 73), #[.tmp 5], #[83]⟩, 60, "header.go:18", #[⟨0, .data⟩], none⟩) rfl (fun K hK => ?_) AllReadyH.nil)
    go_simp
    go_at_call 73
    refine (pnumber_any _ _ _ (bs_mid hHeld 0 256 (by omega) (by rw [HL.out])) HR.out (by rw [List.drop_zero, HL.out]; omega) (by rw [List.drop_zero, HL.out]; omega)).mono ?_
    rintro e w' ⟨rfl, rfl⟩
    go_wp2_with fail
    refine hK.out _ _ hHeld (fun hHeld => ?_)
    clear hK K
    try simp only [Act.put, sA, sB, sC]
    refine wpAnyH_ready (rs := [3]) (by kernel_rfl) (by simp) ?_
    refine (AllReadyH.cons (o := ⟨some 8, .call ⟨.value (.func 73), #[.tmp 7], #[83]⟩, 60, "header.go:18", #[⟨2, .data⟩, ⟨1, .chain⟩], none⟩) rfl (fun K hK => ?_) AllReadyH.nil)
    go_simp
    go_at_call 73
    refine (pnumber_any _ _ _ (bs_mid hHeld 8 248 (by rw [HL.out]; omega) (by rw [HL.out])) (HR.out.drop _) (by rw [List.length_drop, HL.out]; omega) (by rw [List.length_drop, HL.out]; omega)).mono ?_
    rintro e w' ⟨rfl, rfl⟩
    go_wp2_with fail
    refine hK.out _ _ hHeld (fun hHeld => ?_)
    clear hK K
    try simp only [Act.put, sA, sB, sC]
    refine tk (i := 4) (oi := ⟨some 9, .build 68 #[(0, .tmp 6), (1, .tmp 8)], 68, "header.go:18", #[⟨1, .data⟩, ⟨3, .data⟩], none⟩) (v := .agg (HA (hdrL l 0))) (Or.inl ⟨by rfl, ?_⟩) ?_
    · intro u hSw
      go_simp
      rfl
    try simp only [Act.put, sA, sB, sC]
    refine wpAnyH_ready (rs := [6]) (by kernel_rfl) (by simp) ?_
    refine (AllReadyH.cons (o := ⟨none, .store 68 (.tmp 3) (.tmp 9), 0, "header.go:18", #[⟨5, .data⟩, ⟨4, .data⟩, ⟨3, .chain⟩, ⟨0, .phase⟩, ⟨1, .phase⟩, ⟨2, .phase⟩, ⟨3, .phase⟩, ⟨4, .phase⟩, ⟨5, .phase⟩], none⟩) rfl (fun K hK => ?_) AllReadyH.nil)
    rw [if_pos (by rfl)]
    refine wp_store_row 68 (Operand.tmp 3) (Operand.tmp 9) rfl w2.heap.size (HA (hdrL l 0)) rfl rfl 68 (HA (List.replicate 18 0)) (heap_alloc_new _ _) HI.out rfl (HA_one _) ?_
    refine hK.out _ _ ?_ (fun hHeld => ?_)
    · rw [setRow_other _ _ _ _ (by rw [show w2.heap.size = w.heap.size + 2 from HS2.out]; omega)]
      exact (heap_alloc_old _ _ (show w.heap.size < w2.drew.heap.size by rw [HS2.out]; omega)).trans HX0.out
    clear hK K
    try simp only [Act.put]
    refine wpAnyH_done (by kernel_rfl) ?_ _
    have HY := hid (setRow_heap (w2.alloc (Obj.cells (HA [0, 0, 0, 0, 0, 0, 0, 0, 0, 0, 0, 0, 0, 0, 0, 0, 0, 0]) 68)).drew w2.heap.size (HA (List.replicate 18 0)) (HA (hdrL l 0)) 68 (0, 0) (heap_alloc_new _ _))
    have hb3 : Below w.heap.size w ((w2.alloc (Obj.cells (HA [0, 0, 0, 0, 0, 0, 0, 0, 0, 0, 0, 0, 0, 0, 0, 0, 0, 0]) 68)).drew.setRow w2.heap.size (HA (hdrL l 0))) := below_setRow (HB2.out.alloc HB2.out.size _).drew HB2.out.size _
    have hx0 := hHeld
    have hx1 : ((w2.alloc (Obj.cells (HA [0, 0, 0, 0, 0, 0, 0, 0, 0, 0, 0, 0, 0, 0, 0, 0, 0, 0]) 68)).drew.setRow w2.heap.size (HA (hdrL l 0))).heap[w.heap.size + 1]? = some (.cells (HA (List.replicate 18 0)) 68 (0, 0)) := by
      rw [setRow_other _ _ _ _ (by rw [show w2.heap.size = w.heap.size + 2 from HS2.out]; omega)]
      exact (heap_alloc_old _ _ (show w.heap.size + 1 < w2.drew.heap.size by rw [HS2.out]; omega)).trans HX1.out
    generalize ((w2.alloc (Obj.cells (HA [0, 0, 0, 0, 0, 0, 0, 0, 0, 0, 0, 0, 0, 0, 0, 0, 0, 0]) 68)).drew.setRow w2.heap.size (HA (hdrL l 0))) = w3 at *
    have HX0' := hid hx0
    have HX1' := hid hx1
    have HB3 := hid hb3
    have HE := hid (show w2.heap.size = w.heap.size + 2 from HS2.out)
    generalize w2.heap.size = X at *
    clear hHeld hx0 hx1 hb3 SA SB
    have HLT := hid (Array.getElem?_eq_some_iff.1 HY.out).1
    go_wp2_with fail
    go_loopw [10] (fun iv wr => ∃ i : Nat, i ≤ 16 ∧ iv = .int .i64 (i : Int) ∧ wr.heap[X]? = some (.cells (HA (hdrL l i)) 68 (0, 0)) ∧ Chg (fun g => g = X) w3 wr) (fun iv _ => 16 - (intOf iv).toNat)
    case atStart => exact ⟨0, by omega, rfl, HY.out, Chg.refl _ _⟩
    case round =>
      obtain ⟨i, hi, rfl, hx, hc⟩ := hrel
      have HX := hid hx
      have HC := hid hc
      by_cases hlt : i < 16
      · have h0 : wr.heap[w.heap.size]? = some (.cells (l.map (Value.int .u8)).toArray 50 (0, 0)) := (hc.block _ (by have := HE.out; have := HLT.out; omega) (by have := HE.out; omega)).trans HX0'.out
        have hsl := fun u => slice35_l u w.heap.size ((2 + (i : Int)) * 8) (8 * (2 + i)) (by omega) (by omega)
        have HNU := hid (pnumber_any _ _ wr (bs_mid h0 (8 * (2 + i)) (256 - 8 * (2 + i)) (by rw [HL.out]; omega) (by rw [HL.out])) (HR.out.drop _) (by rw [List.length_drop, HL.out]; omega) (by rw [List.length_drop, HL.out]; omega))
        have cs : wr.cell? ⟨X, 2 + i, none⟩ = some (.int .u64 (((hdrL l i)[2 + i]'(by rw [hdrL_len]; omega) : Nat) : Int)) := (cell_of_row _ X (2 + i) _ _ _ hx).trans (HA_at _ _ _)
        have fs := frozen_of_row _ X (2 + i) _ _ hx
        generalize ((hdrL l i)[2 + i]'(by rw [hdrL_len]; omega)) = old at cs
        clear hx hc h0
        go_wp2_with fail
        refine HNU.out.mono ?_
        rintro e w' ⟨rfl, rfl⟩
        go_wp2_with fail
        go_roundw
        case rel =>
          refine ⟨i + 1, by omega, by go_num, ?_, HC.out.setCell _ _ (.inl rfl)⟩
          refine (heap_setCell_same _ X (2 + i) _ _ _ HX.out).trans ?_
          rw [show (2 + i) = 2 + i from rfl]
          rw [← hdrL_set l i hlt, ← HA_set]
          rfl
        case measure => simp [intOf]; omega
      · obtain rfl : i = 16 := by omega
        have hcb := hc
        clear hx hc
        have h1w := (hcb.block (w.heap.size + 1) (by have := HE.out; have := HLT.out; omega) (by have := HE.out; omega)).trans HX1'.out
        have H1W := hid h1w
        have HBW := hid hcb
        have HS := hid (show (HA (hdrL l 16)).size = 18 by rw [HA_size, hdrL_len])
        clear h1w hcb
        go_wp2_with (first | (refine wpList_load_row rfl 68 (Operand.tmp 3) rfl X rfl 68 (HA (hdrL l 16)) (0, 0) _ HX.out Tryz.underlying68 rfl (by rw [HI.out, HS.out]) ?_) | (refine wpList_store_row rfl 68 (Operand.tmp 2) (Operand.tmp 22) rfl (w.heap.size + 1) (HA (hdrL l 16)) rfl rfl 68 (HA (List.replicate 18 0)) H1W.out (by rw [HI.out, HS.out]) (by rw [HS.out]; rfl) (HA_one _) ?_))
        refine bodyPost_ret (results_cell_row rfl _ _ (w.heap.size + 1) 68 (HA (hdrL l 16)) (0, 0) _ rfl (setRow_heap _ _ _ _ _ _ H1W.out) Tryz.underlying68 rfl (by rw [HI.out, HS.out])) rfl ⟨by rw [hdrL_end], ?_⟩
        refine below_setRow (HB3.out.trans (HBW.out.below (fun k hk => by rw [hk]; have := HE.out; omega) HB3.out.size)) (by omega) _
end Go.Proofs.YtdkjkibdncbibaaGreat
