import Derived.Test.YthdkmnagfjpjcaaGreatFm01
namespace Go.Proofs.YthdkmnagfjpjcaaGreat
open Go.RowKit
set_option maxRecDepth 100000 in
set_option maxHeartbeats 1000000 in
theorem lread_any (B D M : Nat) (nb rm fz fi sz n : Int) (dn : Bool) (f : Int → List Int) (L : List WR) (lv : Value) (w : World) (h : Dk w B D M nb rm fz dn f L lv) (hfi : 0 ≤ fi ∧ fi ≤ 4096) (hn : 0 ≤ n ∧ n ≤ 4096) :
  Calls Tryz.prog 89 #[.agg #[.pointer (some ⟨D, 0, none⟩), .int .i64 fi, .int .i64 sz], .int .i64 n] w fun e w' => e = .returned (.tuple #[.agg (ArrU8 (rdF nb (fi + n) dn f)), .int .i64 (readErr nb (fi + n) dn)]) ∧ Below w.heap.size w w' := by
 have hz := zero35
 have HI35 := Lib.hid (show (Tryz.prog.info? 50).map (·.size) = some 256 by kernel_rfl)
 have SZ := Lib.hid (show (ArrU8 (zeros 256)).size = 256 by rw [ArrU8_size, zeros, List.length_replicate])
 have HG := Lib.hid (rdF_len nb (fi + n) dn f h.2.2.2.2.2.2.1)
 have hb1 : Below w.heap.size w (w.alloc (.cells #[.pointer (some ⟨D, 0, none⟩), .int .i64 fi, .int .i64 sz] 103)) := (Below.refl _ _).alloc (Nat.le_refl _) _
 have hb2 : Below w.heap.size w ((w.alloc (.cells #[.pointer (some ⟨D, 0, none⟩), .int .i64 fi, .int .i64 sz] 103)).alloc (.cells (ArrU8 (zeros 256)) 50)) := hb1.alloc (by simp) _
 have hx := heap_alloc_new (w.alloc (.cells #[.pointer (some ⟨D, 0, none⟩), .int .i64 fi, .int .i64 sz] 103)) (.cells (ArrU8 (zeros 256)) 50)
 have hs1 : (w.alloc (.cells #[.pointer (some ⟨D, 0, none⟩), .int .i64 fi, .int .i64 sz] 103)).heap.size = w.heap.size + 1 := by simp
 have hx0 : ((w.alloc (.cells #[.pointer (some ⟨D, 0, none⟩), .int .i64 fi, .int .i64 sz] 103)).alloc (.cells (ArrU8 (zeros 256)) 50)).heap[w.heap.size]? = some (.cells #[.pointer (some ⟨D, 0, none⟩), .int .i64 fi, .int .i64 sz] 103 (0, 0)) := (heap_alloc_old _ _ (by simp)).trans (heap_alloc_new _ _)
 have c0 := (cell_of_row _ w.heap.size 0 _ _ _ hx0).trans (show (#[Value.pointer (some ⟨D, 0, none⟩), .int .i64 fi, .int .i64 sz] : Array Value)[0]? = some (.pointer (some ⟨D, 0, none⟩)) from rfl)
 have c1 := (cell_of_row _ w.heap.size 1 _ _ _ hx0).trans (show (#[Value.pointer (some ⟨D, 0, none⟩), .int .i64 fi, .int .i64 sz] : Array Value)[1]? = some (.int .i64 fi) from rfl)
 rw [hs1] at hx
 have HL2 := Lib.hid (show w.heap.size + 1 < ((w.alloc (.cells #[.pointer (some ⟨D, 0, none⟩), .int .i64 fi, .int .i64 sz] 103)).alloc (.cells (ArrU8 (zeros 256)) 50)).heap.size by simp)
 have HD2 := Lib.hid (h.chg (Chg.fresh (F := fun _ => False) hb2) (fun _ _ h => h))
 have HB2 := Lib.hid hb2
 have HX := Lib.hid hx
 clear hb1 hb2 hx hs1 hx0 h
 have HRD := fun u (h : Dk u B D M nb rm fz dn f L lv) => read_dk B D M nb rm fz (fi + n) dn f L lv u h
 generalize rdF nb (fi + n) dn f = g at *
 generalize readErr nb (fi + n) dn = E at *
 have HRD := Lib.hid HRD
 go_enter Tryz.func89, Tryz.ntmps89
 generalize hw2 : (w.alloc (.cells #[.pointer (some ⟨D, 0, none⟩), .int .i64 fi, .int .i64 sz] 103)).alloc (.cells (ArrU8 (zeros 256)) 50) = w2 at *
 have HW2 := Lib.hid hw2
 go_wp2_with fail
 refine (HRD.out w2 HD2.out).mono ?_
 rintro e wa ⟨rfl, hb⟩
 have XA := Lib.hid hb
 have HXA := Lib.hid ((hb.block _ HL2.out).trans HX.out)
 have SG := Lib.hid (show (ArrU8 g).size = 256 by rw [ArrU8_size, HG.out])
 clear hb c0 c1 hz
 go_wp2_with (refine wpList_store_row rfl 50 (Operand.tmp 4) (Operand.tmp 13) rfl (w.heap.size + 1) (ArrU8 g) rfl rfl 50 (ArrU8 (zeros 256)) HXA.out (by rw [HI35.out, SG.out]) (by rw [SZ.out, SG.out]) (ArrU8_one _) ?_)
 have hbb := HB2.out.trans (XA.out.mono HB2.out.size)
 refine bodyPost_ret (results_cell_tmp (p := 4) (q := 5) (ty := 50) rfl _ _ (w.heap.size + 1) 50 (ArrU8 g) (0, 0) _ rfl (setRow_heap _ _ _ _ _ _ HXA.out) Tryz.underlying50 rfl (by rw [HI35.out, SG.out])) rfl ⟨rfl, ?_⟩
 exact below_setRow hbb (by omega) _
def LWrEnds (B D M : Nat) (nb rm fz : Int) (dn : Bool) (f : Int → List Int) (L : List WR) (lv : Value) (n : Int) (b : List Int) (w : World) (e : Ending) (w' : World) : Prop :=
 e = .returned (.int .i64 (wErr nb rm fz n dn)) ∧ ∃ lv', Dk w' B D M nb rm (opFz fz dn) (opDn fz dn) (if wErr nb rm fz n dn = 0 then fput f n b else f) (if wErr nb rm fz n dn = 0 then L ++ [(n, f n, b)] else L) lv' ∧
  Chg (Foot D M lv) w w' ∧ (∀ k, Foot D M lv' k → Foot D M lv k ∨ w.heap.size ≤ k)
set_option maxRecDepth 100000 in
set_option maxHeartbeats 1000000 in
theorem lwrite_any (B D M : Nat) (nb rm fz fi sz n : Int) (dn : Bool) (f : Int → List Int) (L : List WR) (lv : Value) (b : List Int) (w : World) (h : Dk w B D M nb rm fz dn f L lv) (hb : b.length = 256) (hL : L.length ≤ 268435456) (hfi : 0 ≤ fi ∧ fi ≤ 4096) (hn : 0 ≤ n ∧ n ≤ 4096) :
  Calls Tryz.prog 67 #[.agg #[.pointer (some ⟨D, 0, none⟩), .int .i64 fi, .int .i64 sz], .int .i64 n, .agg (ArrU8 b)] w (LWrEnds B D M nb rm fz dn f L lv (fi + n) b w) := by
 have HI35 := Lib.hid (show (Tryz.prog.info? 50).map (·.size) = some 256 by kernel_rfl)
 have SB := Lib.hid (show (ArrU8 b).size = 256 by rw [ArrU8_size, hb])
 have HB := Lib.hid hb
 have hb1 : Below w.heap.size w (w.alloc (.cells #[.pointer (some ⟨D, 0, none⟩), .int .i64 fi, .int .i64 sz] 103)) := (Below.refl _ _).alloc (Nat.le_refl _) _
 have hb2 : Below w.heap.size w ((w.alloc (.cells #[.pointer (some ⟨D, 0, none⟩), .int .i64 fi, .int .i64 sz] 103)).alloc (.cells (ArrU8 b) 50)) := hb1.alloc (by simp) _
 have hx := heap_alloc_new (w.alloc (.cells #[.pointer (some ⟨D, 0, none⟩), .int .i64 fi, .int .i64 sz] 103)) (.cells (ArrU8 b) 50)
 have hs1 : (w.alloc (.cells #[.pointer (some ⟨D, 0, none⟩), .int .i64 fi, .int .i64 sz] 103)).heap.size = w.heap.size + 1 := by simp
 have hx0 : ((w.alloc (.cells #[.pointer (some ⟨D, 0, none⟩), .int .i64 fi, .int .i64 sz] 103)).alloc (.cells (ArrU8 b) 50)).heap[w.heap.size]? = some (.cells #[.pointer (some ⟨D, 0, none⟩), .int .i64 fi, .int .i64 sz] 103 (0, 0)) := (heap_alloc_old _ _ (by simp)).trans (heap_alloc_new _ _)
 have c0 := (cell_of_row _ w.heap.size 0 _ _ _ hx0).trans (show (#[Value.pointer (some ⟨D, 0, none⟩), .int .i64 fi, .int .i64 sz] : Array Value)[0]? = some (.pointer (some ⟨D, 0, none⟩)) from rfl)
 have c1 := (cell_of_row _ w.heap.size 1 _ _ _ hx0).trans (show (#[Value.pointer (some ⟨D, 0, none⟩), .int .i64 fi, .int .i64 sz] : Array Value)[1]? = some (.int .i64 fi) from rfl)
 rw [hs1] at hx
 have HD2 := Lib.hid (h.chg (Chg.fresh (F := fun _ => False) hb2) (fun _ _ h => h))
 have HB2 := Lib.hid hb2
 have HX := Lib.hid hx
 clear hb1 hb2 hx hs1 hx0 h hb
 go_enter Tryz.func67, Tryz.ntmps67
 generalize hw2 : (w.alloc (.cells #[.pointer (some ⟨D, 0, none⟩), .int .i64 fi, .int .i64 sz] 103)).alloc (.cells (ArrU8 b) 50) = w2 at *
 have HW2 := Lib.hid hw2
 go_wp2_with (refine wpList_load_row rfl 50 (Operand.tmp 5) rfl (w.heap.size + 1) rfl 50 (ArrU8 b) (0, 0) _ HX.out Tryz.underlying50 rfl (by rw [HI35.out, SB.out]) ?_)
 refine (write_any B D M nb rm fz (fi + n) dn f L lv b w2 HD2.out HB.out hL).mono ?_
 rintro e w3 ⟨rfl, lv', hdk, hch, hft⟩
 have HR := Lib.hid (show LWrEnds B D M nb rm fz dn f L lv (fi + n) b w (.returned (.int .i64 (wErr nb rm fz (fi + n) dn))) w3 from ⟨rfl, lv', hdk, (Chg.fresh (F := Foot D M lv) HB2.out).trans hch (fun _ h => .inl h), fun k hk => (hft k hk).elim .inl (fun h => .inr (by have := HB2.out.size; omega))⟩)
 clear hdk hch hft c0 c1
 generalize wErr nb rm fz (fi + n) dn = E at *
 go_wp2_with fail
 go_ret
 exact HR.out
def putL (l : List Int) (n : Nat) (xs : List Int) : List Int := l.take n ++ xs ++ l.drop (n + xs.length)
theorem putL_set (l xs : List Int) (n : Nat) (x : Int) (h : n + xs.length < l.length) : (putL l n xs).set (n + xs.length) x = putL l n (xs ++ [x]) := by
 unfold putL
 have hlen : (l.take n ++ xs).length = n + xs.length := by simp; omega
 rw [List.set_append_right _ _ (by rw [hlen]; exact Nat.le_refl _), hlen, Nat.sub_self, List.drop_eq_getElem_cons h, List.set_cons_zero]
 simp [List.append_assoc, Nat.add_assoc]
theorem putL_len (l xs : List Int) (n : Nat) (h : n + xs.length ≤ l.length) : (putL l n xs).length = l.length := by
 simp [putL]; omega
theorem map_set_arr (L : List Int) (o : Nat) (x : Int) : (L.map (Value.int .u8)).toArray.setIfInBounds o (.int .u8 x) = ((L.set o x).map (Value.int .u8)).toArray := by
 simp [List.map_set]
set_option maxRecDepth 100000 in
theorem append_in {u : World} (X n : Nat) (l : List Int) (T : TypeId) (hX : u.heap[X]? = some (.cells (l.map (Value.int .u8)).toArray T (0, 0))) (hl : l.length = 256) (hn : n < 256) (a : Nat) (x : Int) (c : Nat) (ha : u.cell? ⟨a, 0, none⟩ = some (.int .u8 x)) (ty : TypeId) :
  (Builtin.append_ #[83, 83] ty #[.slice (some ⟨X, 0, none⟩) n 256, .slice (some ⟨a, 0, none⟩) 1 c]).run Tryz.prog u = .ok (.slice (some ⟨X, 0, none⟩) (n + 1) 256) (u.setCell ⟨X, n, none⟩ (.int .u8 x)) := by
 obtain ⟨i0, hi, hz0, hz1, hz2⟩ := info_parts info5
 have h := run_append_room_cells (P := Tryz.prog) u 83 ty 5 i0 Tryz.underlying83 hi X 0 n 256 ⟨a, 0, none⟩ 1 c [.int .u8 x] (by rw [hz1]; rfl) (by
  intro j v hv
  match j, hv with
  | 0, hv => simp only [List.getElem?_cons_zero, Option.some.injEq] at hv; subst hv; exact ha) (by intro v hv; rw [List.mem_singleton.1 hv]; rfl) (by omega) (by
  intro j hj
  rw [cell_of_row _ _ _ _ _ _ hX, hz1]
  simp at hj ⊢
  omega) (by
  intro j hj
  exact frozen_of_row _ _ _ _ _ hX)
 rw [h, hz1]
 simp [World.setCells]
set_option maxRecDepth 100000 in
set_option maxHeartbeats 400000 in
theorem appendNumber_in (X n k : Nat) (l : List Int) (T : TypeId) (w : World) (hX : w.heap[X]? = some (.cells (l.map (Value.int .u8)).toArray T (0, 0))) (hl : l.length = 256) (hn : n + 8 ≤ 256) (hk : k < 18446744073709551616) :
  Calls Tryz.prog 88 #[.slice (some ⟨X, 0, none⟩) n 256, .int .u64 k] w fun e w' => e = .returned (.slice (some ⟨X, 0, none⟩) (n + 8 : Nat) 256) ∧ w'.heap[X]? = some (.cells ((putL l n (be8 k)).map (Value.int .u8)).toArray T (0, 0)) ∧ Chg (fun g => g = X) w w' := by
 have HO := Lib.hid hX
 have HK := Lib.hid hk
 have HL := Lib.hid hl
 have h8 := be8_len k
 clear hX hk hl
 go_enter Tryz.func88, Tryz.ntmps88
 go_wp2_with fail
 go_loopw [0, 5] (fun v0 s wr => ∃ j : Nat, j ≤ 8 ∧ s = .int .i64 (56 - 8 * (j : Int)) ∧ v0 = .slice (some ⟨X, 0, none⟩) (n + j : Nat) 256 ∧ wr.heap[X]? = some (.cells ((putL l n ((be8 k).take j)).map (Value.int .u8)).toArray T (0, 0)) ∧ Chg (fun g => g = X) w wr)
  (fun _ s _ => (intOf s + 8).toNat)
 case atStart => exact ⟨0, by omega, by simp, rfl, by simpa [putL] using HO.out, Chg.refl _ _⟩
 case round =>
  obtain ⟨j, hj, rfl, rfl, hown, hbw⟩ := hrel
  have hsz := hbw.size
  have hXlt : X < wr.heap.size := (Array.getElem?_eq_some_iff.1 hown).1
  by_cases hlt : j < 8
  ·have HB := Lib.hid (be8_succ k j hlt)
   have HBW := Lib.hid hbw
   have HOW := Lib.hid hown
   have H8 := Lib.hid h8
   have HXL := Lib.hid hXlt
   have HTJ := Lib.hid (show ((be8 k).take j).length = j by simp [h8]; omega)
   clear hbw hown h8 hXlt
   go_wp2_with (at_builtin; refine wpList_of_run rfl (exec_append (Operand.tmp 10) (Operand.tmp 15) 83 rfl _ _ rfl rfl (append_in X (n + j) _ T ((heap_alloc_old _ _ HXL.out).trans HOW.out) (by rw [putL_len _ _ _ (by rw [HTJ.out, HL.out]; omega), HL.out]) (by omega) wr.heap.size ((k : Int) / 2 ^ (56 - 8 * j) % 256) _ (by rw [cell_of_row _ _ _ _ _ _ (heap_alloc_new _ _)]; rfl) _)) ?_)
   go_roundw
   case rel =>
    refine ⟨j + 1, by omega, by congr 1; omega, rfl, ?_, ?_⟩
    ·have h2 := putL_set l ((be8 k).take j) n ((k : Int) / 2 ^ (56 - 8 * j) % 256) (by rw [HTJ.out, HL.out]; omega)
     rw [HTJ.out] at h2
     refine (heap_setCell_same _ X (n + j) _ T _ ((heap_alloc_old wr _ HXL.out).trans HOW.out)).trans ?_
     rw [map_set_arr, h2, ← HB.out]
    ·exact (HBW.out.alloc _).setCell _ _ (.inl rfl)
   case measure => simp [intOf]; omega
  ·have hj8 : j = 8 := by omega
   rw [hj8] at hown
   rw [List.take_of_length_le (by omega)] at hown
   have hj9 : 8 ≤ j := by omega
   have HBW := Lib.hid hbw
   have HOW := Lib.hid hown
   subst hj8
   clear hbw hown hlt h8
   go_wp2_with fail
   go_ret
   exact ⟨rfl, HOW.out, HBW.out⟩
end Go.Proofs.YthdkmnagfjpjcaaGreat
