import Derived.Test.YtdkjkibdncbibaaGreatCm04
namespace Go.Proofs.YtdkjkibdncbibaaGreat
open Go.RowKit
open Go.Lib (hid)
theorem wpList_store_nwL {P : Program} {ops : Array Oper} {rest : List Oper} {o : Oper} {a : Act} {w : World} {Q : Exit → Act → World → Prop} (hgd : o.guard = none) (ty : TypeId) (x y : Operand) (ho : o.op = .store ty x y) (w0 : World) (old : Array Value) (T : TypeId) (hw : w = w0.alloc (.cells old T))
  (H : Nat) (cells : Array Value) (hx : a.eval x = .pointer (some ⟨H, 0, none⟩)) (hy : a.eval y = .agg cells) (hH : w0.heap.size = H) (hi : (P.info? ty).map (·.size) = some cells.size) (hold : old.size = cells.size) (h1 : cells.all (·.oneCell') = true)
  (h : ∀ w', w'.heap[H]? = some (.cells cells T (0, 0)) → Below H w0 w' → w'.heap.size = H + 1 → wpList P ops Q rest (a.put o.dst undef) w') : wpList P ops Q (o :: rest) a w := by
 subst hw
 exact wpList_store_new hgd ty x y ho H cells hx hy hH old T hi hold h1 h
/-- what a failing disk is -/
structure DS where
 fz : Int
 dn : Bool
 f : Int → List Int
 L : List WR
def DS.we (nb rm : Int) (s : DS) (n : Int) : Int := wErr nb rm s.fz n s.dn
def DS.wr (nb rm : Int) (s : DS) (n : Int) (b : List Int) : DS := ⟨opFz s.fz s.dn, opDn s.fz s.dn, if s.we nb rm n = 0 then fput s.f n b else s.f, if s.we nb rm n = 0 then s.L ++ [(n, s.f n, b)] else s.L⟩
def DS.sy (s : DS) : DS := ⟨opFz s.fz s.dn, opDn s.fz s.dn, s.f, if opOk s.fz s.dn = true then [] else s.L⟩
def DS.se (s : DS) : Int := if opOk s.fz s.dn = true then 0 else 44
def DS.ws (nb rm : Int) : DS → List (Int × List Int) → DS × Int
 | s, [] => (s, 0)
 | s, x :: r => if s.we nb rm x.1 = 0 then DS.ws nb rm (s.wr nb rm x.1 x.2) r else (s.wr nb rm x.1 x.2, s.we nb rm x.1)
def DS.wsy (nb rm : Int) (s : DS) (l : List (Int × List Int)) : DS × Int := if (s.ws nb rm l).2 = 0 then ((s.ws nb rm l).1.sy, (s.ws nb rm l).1.se) else s.ws nb rm l
abbrev DkS (w : World) (B D M : Nat) (nb rm : Int) (s : DS) (lv : Value) : Prop := Dk w B D M nb rm s.fz s.dn s.f s.L lv
def LEnds (B D M : Nat) (nb rm : Int) (s : DS) (E : Int) (lv : Value) (w : World) (e : Ending) (w' : World) : Prop :=
 e = .returned (.int .i64 E) ∧ ∃ lv', DkS w' B D M nb rm s lv' ∧ Chg (Foot D M lv) w w' ∧ (∀ k, Foot D M lv' k → Foot D M lv k ∨ w.heap.size ≤ k)
theorem dwrite_any (B D M : Nat) (nb rm n : Int) (s : DS) (lv : Value) (b : List Int) (w : World) (h : DkS w B D M nb rm s lv) (hb : b.length = 256) (hL : s.L.length ≤ 268435456) (fi sz k : Int) (hn : n = fi + k) (hfi : 0 ≤ fi ∧ fi ≤ 4096) (hk : 0 ≤ k ∧ k ≤ 4096) :
  Calls Tryz.prog 67 #[.agg #[.pointer (some ⟨D, 0, none⟩), .int .i64 fi, .int .i64 sz], .int .i64 k, .agg (ArrU8 b)] w (LEnds B D M nb rm (s.wr nb rm n b) (s.we nb rm n) lv w) := by
 subst hn
 exact (lwrite_any B D M nb rm s.fz fi sz k s.dn s.f s.L lv b w h hb hL hfi hk).mono (fun e w' h => h)
theorem dsync_any (B D M : Nat) (nb rm : Int) (s : DS) (lv : Value) (w : World) (h : DkS w B D M nb rm s lv) :
  Calls Tryz.prog 14 #[.pointer (some ⟨D, 0, none⟩)] w (LEnds B D M nb rm s.sy s.se lv w) := by
 refine (sync_dk B D M nb rm s.fz s.dn s.f s.L lv w h).mono ?_
 rintro e w' ⟨rfl, lv', hdk, hch, hlv⟩
 refine ⟨rfl, lv', hdk, hch.mono (fun k hk => .inl hk), fun k hk => .inl ?_⟩
 rcases hlv with rfl | rfl
 ·exact hk
 ·exact hk.elim .inl (fun h => h.elim (fun h => .inr (.inl h)) (fun h => by cases h))
theorem zero102 (w : World) : (zeroValue 103).run Tryz.prog w = .ok (.agg #[.pointer none, .int .i64 0, .int .i64 0]) w := by kernel_rfl
set_option maxRecDepth 100000 in
set_option maxHeartbeats 1000000 in
theorem blocksOf_yes (B D M : Nat) (nb rm fz fi sz : Int) (dn : Bool) (f : Int → List Int) (L : List WR) (lv : Value) (w : World) (h : Dk w B D M nb rm fz dn f L lv) (h1 : 0 ≤ fi) (h2 : 3 ≤ sz) (h3 : fi ≤ nb - sz) (hnb : nb ≤ 4096) :
  Calls Tryz.prog 66 #[.pointer (some ⟨D, 0, none⟩), .int .i64 fi, .int .i64 sz] w fun e w' => e = .returned (.tuple #[.agg #[.pointer (some ⟨D, 0, none⟩), .int .i64 fi, .int .i64 sz], .int .i64 0]) ∧ Below w.heap.size w w' := by
 have hz := zero102
 have hb1 : Below w.heap.size w (w.alloc (.cells #[.pointer none, .int .i64 0, .int .i64 0] 103)) := (Below.refl _ _).alloc (Nat.le_refl _) _
 have HDK := hid (h.chg (Chg.fresh (F := fun _ => False) hb1) (fun _ _ h => h))
 have HB := hid hb1
 clear hb1 h
 have h1n : ¬ fi < 0 := by omega
 have h2n : ¬ sz < 3 := by omega
 have h3n : ¬ fi > nb - sz := by omega
 go_enter Tryz.func66, Tryz.ntmps66
 go_wp2_with (go_at_call 65; refine (blocks_any D _ _ _ _ _ _ _ HDK.out.1).mono ?_; rintro e w' ⟨rfl, rfl⟩)
 refine bodyPost_ret (results_cell_tmp (p := 6) (q := 7) (ty := 103) rfl _ _ w.heap.size 103 #[.pointer (some ⟨D, 0, none⟩), .int .i64 fi, .int .i64 sz] (0, 0) _ rfl (heap_alloc_new _ _) Tryz.underlying103 rfl (by kernel_rfl)) rfl ⟨rfl, (Below.refl _ _).alloc (Nat.le_refl _) _⟩
/-- the newer of two marks -/
def pk (n : Nat) (l : List Int) (m : Nat × Nat × Nat) : Nat × Nat × Nat := if okB l = true ∧ nAt l 0 % 2 = n ∧ m.1 < nAt l 0 then (nAt l 0, nAt l 1, nAt l 2) else m
def nst (f : Int → List Int) (fi : Int) : Nat → Nat × Nat × Nat
 | 0 => (0, 0, 0)
 | n + 1 => pk n (f (fi + n)) (nst f fi n)
theorem nst_lt (f : Int → List Int) (fi : Int) (hr : ∀ n, Rng (f n)) : ∀ n, (nst f fi n).1 < 18446744073709551616
  | 0 => by show (0 : Nat) < 18446744073709551616; decide
  | n + 1 => by
    have := nst_lt f fi hr n
    have h2 := nAt_lt (f (fi + n)) (hr _) 0
    unfold nst pk
    split
    · exact h2
    · exact this
def mval (m : Nat × Nat × Nat) : Array Value := #[.int .u64 (m.1 : Nat), .int .u64 (m.2.1 : Nat), .int .u64 (m.2.2 : Nat)]
def nmRes (m : Nat × Nat × Nat) : Ending := if m.1 = 0 then .returned (.tuple #[.agg #[.int .u64 0, .int .u64 0, .int .u64 0], .int .i64 5]) else .returned (.tuple #[.agg (mval m), .int .i64 0])
set_option maxRecDepth 100000 in
set_option maxHeartbeats 4000000 in
theorem newestMark_any (B D M : Nat) (nb rm fz fi sz : Int) (f : Int → List Int) (L : List WR) (lv : Value) (w : World) (h : Dk w B D M nb rm fz false f L lv) (h1 : 0 ≤ fi) (h2 : fi + 1 < nb) (hnb : nb ≤ 4096) (hr : ∀ n, Rng (f n)) :
  Calls Tryz.prog 69 #[.agg #[.pointer (some ⟨D, 0, none⟩), .int .i64 fi, .int .i64 sz]] w fun e w' => e = nmRes (nst f fi 2) ∧ Below w.heap.size w w' := by
 have hz := zeroMark
 have hz35 := zero35
 have HI35 := hid (show (Tryz.prog.info? 50).map (·.size) = some 256 by kernel_rfl)
 have SZ := hid (show (ArrU8 (zeros 256)).size = 256 by rw [ArrU8_size, zeros, List.length_replicate])
 have HDK := hid h
 have HR := hid hr
 clear h hr
 go_enter Tryz.func69, Tryz.ntmps69
 go_wp2_with fail
 have hb1 : Below w.heap.size w (w.alloc (.cells #[.pointer (some ⟨D, 0, none⟩), .int .i64 fi, .int .i64 sz] 103)) := (Below.refl _ _).alloc (Nat.le_refl _) _
 have hb2 : Below w.heap.size w ((w.alloc (.cells #[.pointer (some ⟨D, 0, none⟩), .int .i64 fi, .int .i64 sz] 103)).alloc (.cells #[.int .u64 0, .int .u64 0, .int .u64 0] 107)) := hb1.alloc (by simp) _
 have hb3 : Below w.heap.size w (((w.alloc (.cells #[.pointer (some ⟨D, 0, none⟩), .int .i64 fi, .int .i64 sz] 103)).alloc (.cells #[.int .u64 0, .int .u64 0, .int .u64 0] 107)).alloc (.cells #[.int .u64 0, .int .u64 0, .int .u64 0] 107)) := hb2.alloc (by simp; omega) _
 have hx0 : (((w.alloc (.cells #[.pointer (some ⟨D, 0, none⟩), .int .i64 fi, .int .i64 sz] 103)).alloc (.cells #[.int .u64 0, .int .u64 0, .int .u64 0] 107)).alloc (.cells #[.int .u64 0, .int .u64 0, .int .u64 0] 107)).heap[w.heap.size]? = some (.cells #[.pointer (some ⟨D, 0, none⟩), .int .i64 fi, .int .i64 sz] 103 (0, 0)) := (heap_alloc_old _ _ (by simp; omega)).trans ((heap_alloc_old _ _ (by simp)).trans (heap_alloc_new _ _))
 have hx1 : (((w.alloc (.cells #[.pointer (some ⟨D, 0, none⟩), .int .i64 fi, .int .i64 sz] 103)).alloc (.cells #[.int .u64 0, .int .u64 0, .int .u64 0] 107)).alloc (.cells #[.int .u64 0, .int .u64 0, .int .u64 0] 107)).heap[w.heap.size + 1]? = some (.cells #[.int .u64 0, .int .u64 0, .int .u64 0] 107 (0, 0)) := (heap_alloc_old _ _ (by simp)).trans (by have h := heap_alloc_new (w.alloc (.cells #[.pointer (some ⟨D, 0, none⟩), .int .i64 fi, .int .i64 sz] 103)) (.cells #[.int .u64 0, .int .u64 0, .int .u64 0] 107); rw [World.size_alloc] at h; exact h)
 have hx2 : (((w.alloc (.cells #[.pointer (some ⟨D, 0, none⟩), .int .i64 fi, .int .i64 sz] 103)).alloc (.cells #[.int .u64 0, .int .u64 0, .int .u64 0] 107)).alloc (.cells #[.int .u64 0, .int .u64 0, .int .u64 0] 107)).heap[w.heap.size + 1 + 1]? = some (.cells (mval (nst f fi 0)) 107 (0, 0)) := by have h := heap_alloc_new ((w.alloc (.cells #[.pointer (some ⟨D, 0, none⟩), .int .i64 fi, .int .i64 sz] 103)).alloc (.cells #[.int .u64 0, .int .u64 0, .int .u64 0] 107)) (.cells #[.int .u64 0, .int .u64 0, .int .u64 0] 107); rw [World.size_alloc, World.size_alloc] at h; exact h
 have HB3 := hid hb3
 have HX0 := hid hx0
 have HX1 := hid hx1
 have HX2 := hid hx2
 have HD3 := hid (HDK.out.chg (Chg.fresh (F := fun _ => False) hb3) (fun _ _ h => h))
 clear hb1 hb2 hb3 hx0 hx1 hx2
 generalize ((w.alloc (.cells #[.pointer (some ⟨D, 0, none⟩), .int .i64 fi, .int .i64 sz] 103)).alloc (.cells #[.int .u64 0, .int .u64 0, .int .u64 0] 107)).alloc (.cells #[.int .u64 0, .int .u64 0, .int .u64 0] 107) = w3 at *
 have HS := hid (show w.heap.size + 1 + 1 < w3.heap.size from (Array.getElem?_eq_some_iff.1 HX2.out).1)
 have HFT := hid (show ∀ k, Foot D M lv k → k < w.heap.size from fun k hk => (HDK.out.foot k hk).2)
 go_loopw [10] (fun iv wr => ∃ n : Nat, n ≤ 2 ∧ iv = .int .i64 (n : Int) ∧ wr.heap[w.heap.size + 1 + 1]? = some (.cells (mval (nst f fi n)) 107 (0, 0)) ∧ Chg (fun g => g = w.heap.size + 1 + 1) w3 wr) (fun iv _ => 2 - (intOf iv).toNat)
 case atStart => exact ⟨0, by omega, rfl, HX2.out, Chg.refl _ _⟩
 case round =>
  obtain ⟨n, hn, rfl, hx, hc⟩ := hrel
  have HX := hid hx
  have HC := hid hc
  clear hx hc
  have HXW := hid (HX.out)
  obtain ⟨m0, m1, m2, hm⟩ : ∃ m0 m1 m2, nst f fi n = (m0, m1, m2) := ⟨_, _, _, rfl⟩
  have HM := hid hm
  have hx2 : wr.heap[w.heap.size + 1 + 1]? = some (.cells #[.int .u64 (m0 : Int), .int .u64 (m1 : Int), .int .u64 (m2 : Int)] 107 (0, 0)) := by have h := HX.out; rw [hm] at h; exact h
  have HX2W := hid hx2
  have HX0W := hid ((HC.out.block _ (by have := HS.out; omega) (by omega)).trans HX0.out)
  have HX1W := hid ((HC.out.block _ (by have := HS.out; omega) (by omega)).trans HX1.out)
  have HDW := hid (HD3.out.chg HC.out (fun k hk e => by have := HFT.out k hk; omega))
  have HLT2 := hid (show w.heap.size + 1 + 1 < wr.heap.size from (Array.getElem?_eq_some_iff.1 hx2).1)
  have d0 := (cell_of_row _ (w.heap.size + 1 + 1) 0 _ _ _ hx2).trans (show (#[Value.int .u64 (m0 : Int), .int .u64 (m1 : Int), .int .u64 (m2 : Int)] : Array Value)[0]? = some (.int .u64 (m0 : Int)) from rfl)
  have d1 := (cell_of_row _ (w.heap.size + 1 + 1) 1 _ _ _ hx2).trans (show (#[Value.int .u64 (m0 : Int), .int .u64 (m1 : Int), .int .u64 (m2 : Int)] : Array Value)[1]? = some (.int .u64 (m1 : Int)) from rfl)
  have d2 := (cell_of_row _ (w.heap.size + 1 + 1) 2 _ _ _ hx2).trans (show (#[Value.int .u64 (m0 : Int), .int .u64 (m1 : Int), .int .u64 (m2 : Int)] : Array Value)[2]? = some (.int .u64 (m2 : Int)) from rfl)
  have D0 := hid d0
  have D1 := hid d1
  have D2 := hid d2
  clear hm
  by_cases hlt : n < 2
  ·have b0 := (cell_of_row _ w.heap.size 0 _ _ _ HX0W.out).trans (show (#[Value.pointer (some ⟨D, 0, none⟩), .int .i64 fi, .int .i64 sz] : Array Value)[0]? = some (.pointer (some ⟨D, 0, none⟩)) from rfl)
   have b1 := (cell_of_row _ w.heap.size 1 _ _ _ HX0W.out).trans (show (#[Value.pointer (some ⟨D, 0, none⟩), .int .i64 fi, .int .i64 sz] : Array Value)[1]? = some (.int .i64 fi) from rfl)
   have b2 := (cell_of_row _ w.heap.size 2 _ _ _ HX0W.out).trans (show (#[Value.pointer (some ⟨D, 0, none⟩), .int .i64 fi, .int .i64 sz] : Array Value)[2]? = some (.int .i64 sz) from rfl)
   have HRL := hid (HR.out (fi + n))
   have HFL := hid (HDW.out.2.2.2.2.2.2.1 (fi + n))
   have HRD := lread_any B D M nb rm fz fi sz n false f L lv wr HDW.out (by omega) (by omega)
   rw [show rdF nb (fi + n) false f = f (fi + n) by rw [rdF, if_neg (by simp), if_pos (by simp [hasB]; omega)], show readErr nb (fi + n) false = 0 by rw [readErr, if_neg (by simp), if_pos (by simp [hasB]; omega)]] at HRD
   have HPK := hid (show nst f fi (n + 1) = pk n (f (fi + n)) (m0, m1, m2) by rw [nst, HM.out])
   have HLT := hid hlt
   have HRD := hid HRD
   generalize f (fi + n) = l at *
   have SL := hid (show (ArrU8 l).size = 256 by rw [ArrU8_size, HFL.out])
   clear d0 d1 d2 hx2
   go_wp2_with fail
   refine HRD.out.mono ?_
   rintro e wa ⟨rfl, hb⟩
   have XA := hid hb
   clear hb b0 b1 b2
   go_wp2_with (first
    | (refine wpList_store_nwL rfl 50 (Operand.tmp 6) (Operand.tmp 17) rfl wa _ 50 rfl wa.heap.size (ArrU8 l) rfl rfl rfl (by rw [HI35.out, SL.out]) (by rw [SZ.out, SL.out]) (ArrU8_one _) ?_; intro wb hd hb hs; have QB := hid hd; have XB := hid hb; have SB := hid hs; clear hd hb hs)
    | (refine wpList_load_row rfl 50 (Operand.tmp 6) rfl wa.heap.size rfl 50 (ArrU8 l) (0, 0) _ QB.out Tryz.underlying50 rfl (by rw [HI35.out, SL.out]) ?_))
   refine (markIn_any l wb HFL.out HRL.out).mono ?_
   rintro e wc ⟨rfl, hb⟩
   have XC := hid hb
   clear hb
   have XWC := hid (show Below wr.heap.size wr wc from (XA.out.trans (XB.out.mono XA.out.size)).trans (XC.out.mono (by have := XA.out.size; have := XB.out.size; omega)))
   have d0 := (XWC.out.cell (p := ⟨w.heap.size + 1 + 1, 0, none⟩) HLT2.out).trans D0.out
   have HA0 := hid (nAt_lt l HRL.out 0)
   cases hok : okB l
   ·have HNO := hid (show pk n l (m0, m1, m2) = (m0, m1, m2) by rw [pk, if_neg (by simp [hok])])
    clear hok
    go_wp2_with fail
    have hbf : Below wr.heap.size wr (wc.alloc (.cells #[Value.int .u64 (nAt l 0 : Nat), .int .u64 (nAt l 1 : Nat), .int .u64 (nAt l 2 : Nat)] 107)) := XWC.out.alloc (by have := XWC.out.size; omega) _
    have HBF := hid hbf
    clear hbf d0
    go_roundw
    case rel =>
     refine ⟨n + 1, by have := HLT.out; omega, by go_num, ?_, HC.out.trans (Chg.fresh (F := fun _ => False) HBF.out) (fun _ h => h.elim)⟩
     rw [HPK.out, HNO.out]
     exact (HBF.out.block _ HLT2.out).trans HX2W.out
    case measure => have := HLT.out; simp [intOf]; omega
   ·have HOK := hid hok
    clear hok
    have hplace := place_any (nAt l 0) (nAt l 1) (nAt l 2) (wc.alloc (.cells #[Value.int .u64 (nAt l 0 : Nat), .int .u64 (nAt l 1 : Nat), .int .u64 (nAt l 2 : Nat)] 107)) HA0.out
    have HPL := hid hplace
    have HX8 := hid (heap_alloc_new wc (.cells #[Value.int .u64 (nAt l 0 : Nat), .int .u64 (nAt l 1 : Nat), .int .u64 (nAt l 2 : Nat)] 107))
    have HB8 := hid (show Below wr.heap.size wr (wc.alloc (.cells #[Value.int .u64 (nAt l 0 : Nat), .int .u64 (nAt l 1 : Nat), .int .u64 (nAt l 2 : Nat)] 107)) from XWC.out.alloc (by have := XWC.out.size; omega) _)
    clear hplace
    by_cases hpl : ((nAt l 0 % 2 : Nat) : Int) = (n : Int)
    ·by_cases hgt : (m0 : Int) < (nAt l 0 : Int)
     ·have HYES := hid (show pk n l (m0, m1, m2) = (nAt l 0, nAt l 1, nAt l 2) by rw [pk, if_pos ⟨HOK.out, by omega, by show m0 < nAt l 0; omega⟩])
      go_wp2_with fail
      refine HPL.out.mono ?_
      rintro e wd ⟨rfl, hbd⟩
      have HBD := hid (show Below wr.heap.size wr wd from HB8.out.trans (hbd.mono HB8.out.size))
      have HXD := hid ((HBD.out.block _ HLT2.out).trans HX2W.out)
      have HX8D := hid ((hbd.block wc.heap.size (by simp)).trans HX8.out)
      have x0 := (cell_of_row _ wc.heap.size 0 _ _ _ HX8D.out).trans (show (#[Value.int .u64 (nAt l 0 : Nat), .int .u64 (nAt l 1 : Nat), .int .u64 (nAt l 2 : Nat)] : Array Value)[0]? = some (.int .u64 (nAt l 0 : Nat)) from rfl)
      have x1 := (cell_of_row _ wc.heap.size 1 _ _ _ HX8D.out).trans (show (#[Value.int .u64 (nAt l 0 : Nat), .int .u64 (nAt l 1 : Nat), .int .u64 (nAt l 2 : Nat)] : Array Value)[1]? = some (.int .u64 (nAt l 1 : Nat)) from rfl)
      have x2 := (cell_of_row _ wc.heap.size 2 _ _ _ HX8D.out).trans (show (#[Value.int .u64 (nAt l 0 : Nat), .int .u64 (nAt l 1 : Nat), .int .u64 (nAt l 2 : Nat)] : Array Value)[2]? = some (.int .u64 (nAt l 2 : Nat)) from rfl)
      have d0 := (HBD.out.cell (p := ⟨w.heap.size + 1 + 1, 0, none⟩) HLT2.out).trans D0.out
      have d1 := (HBD.out.cell (p := ⟨w.heap.size + 1 + 1, 1, none⟩) HLT2.out).trans D1.out
      have d2 := (HBD.out.cell (p := ⟨w.heap.size + 1 + 1, 2, none⟩) HLT2.out).trans D2.out
      clear hbd
      have f0 := frozen_of_row _ (w.heap.size + 1 + 1) 0 _ _ HXD.out
      have f1 := frozen_of_row _ (w.heap.size + 1 + 1) 1 _ _ HXD.out
      have f2 := frozen_of_row _ (w.heap.size + 1 + 1) 2 _ _ HXD.out
      go_wp2_with fail
      have hg := set3_chg wd (w.heap.size + 1 + 1) (.int .u64 (nAt l 0 : Nat)) (.int .u64 (nAt l 1 : Nat)) (.int .u64 (nAt l 2 : Nat))
      have hh := set3_row wd (w.heap.size + 1 + 1) (.int .u64 (nAt l 0 : Nat)) (.int .u64 (nAt l 1 : Nat)) (.int .u64 (nAt l 2 : Nat)) _ _ _ _ HXD.out
      have HG := hid hg
      have HH := hid hh
      clear hg hh
      go_roundw
      case rel =>
       refine ⟨n + 1, by have := HLT.out; omega, by go_num, ?_, (HC.out.trans (Chg.fresh (F := fun _ => False) HBD.out) (fun _ h => h.elim)).trans HG.out (fun _ h => .inl h)⟩
       rw [HPK.out, HYES.out]
       exact HH.out
      case measure => have := HLT.out; simp [intOf]; omega
     ·have HNO := hid (show pk n l (m0, m1, m2) = (m0, m1, m2) by rw [pk, if_neg (fun h => hgt (by have := h.2.2; show (m0 : Int) < _; have h3 : m0 < nAt l 0 := h.2.2; omega))])
      go_wp2_with fail
      refine HPL.out.mono ?_
      rintro e wd ⟨rfl, hbd⟩
      have HBD := hid (show Below wr.heap.size wr wd from HB8.out.trans (hbd.mono HB8.out.size))
      have HXD := hid ((HBD.out.block _ HLT2.out).trans HX2W.out)
      have HX8D := hid ((hbd.block wc.heap.size (by simp)).trans HX8.out)
      have x0 := (cell_of_row _ wc.heap.size 0 _ _ _ HX8D.out).trans (show (#[Value.int .u64 (nAt l 0 : Nat), .int .u64 (nAt l 1 : Nat), .int .u64 (nAt l 2 : Nat)] : Array Value)[0]? = some (.int .u64 (nAt l 0 : Nat)) from rfl)
      have x1 := (cell_of_row _ wc.heap.size 1 _ _ _ HX8D.out).trans (show (#[Value.int .u64 (nAt l 0 : Nat), .int .u64 (nAt l 1 : Nat), .int .u64 (nAt l 2 : Nat)] : Array Value)[1]? = some (.int .u64 (nAt l 1 : Nat)) from rfl)
      have x2 := (cell_of_row _ wc.heap.size 2 _ _ _ HX8D.out).trans (show (#[Value.int .u64 (nAt l 0 : Nat), .int .u64 (nAt l 1 : Nat), .int .u64 (nAt l 2 : Nat)] : Array Value)[2]? = some (.int .u64 (nAt l 2 : Nat)) from rfl)
      have d0 := (HBD.out.cell (p := ⟨w.heap.size + 1 + 1, 0, none⟩) HLT2.out).trans D0.out
      have d1 := (HBD.out.cell (p := ⟨w.heap.size + 1 + 1, 1, none⟩) HLT2.out).trans D1.out
      have d2 := (HBD.out.cell (p := ⟨w.heap.size + 1 + 1, 2, none⟩) HLT2.out).trans D2.out
      clear hbd
      go_wp2_with fail
      go_roundw
      case rel =>
       refine ⟨n + 1, by have := HLT.out; omega, by go_num, ?_, HC.out.trans (Chg.fresh (F := fun _ => False) HBD.out) (fun _ h => h.elim)⟩
       rw [HPK.out, HNO.out]
       exact (HBD.out.block _ HLT2.out).trans HX2W.out
      case measure => have := HLT.out; simp [intOf]; omega
    ·have HNO := hid (show pk n l (m0, m1, m2) = (m0, m1, m2) by rw [pk, if_neg (fun h => hpl (by have h3 : nAt l 0 % 2 = n := h.2.1; omega))])
     go_wp2_with fail
     refine HPL.out.mono ?_
     rintro e wd ⟨rfl, hbd⟩
     have HBD := hid (show Below wr.heap.size wr wd from HB8.out.trans (hbd.mono HB8.out.size))
     have HXD := hid ((HBD.out.block _ HLT2.out).trans HX2W.out)
     have HX8D := hid ((hbd.block wc.heap.size (by simp)).trans HX8.out)
     have x0 := (cell_of_row _ wc.heap.size 0 _ _ _ HX8D.out).trans (show (#[Value.int .u64 (nAt l 0 : Nat), .int .u64 (nAt l 1 : Nat), .int .u64 (nAt l 2 : Nat)] : Array Value)[0]? = some (.int .u64 (nAt l 0 : Nat)) from rfl)
     have x1 := (cell_of_row _ wc.heap.size 1 _ _ _ HX8D.out).trans (show (#[Value.int .u64 (nAt l 0 : Nat), .int .u64 (nAt l 1 : Nat), .int .u64 (nAt l 2 : Nat)] : Array Value)[1]? = some (.int .u64 (nAt l 1 : Nat)) from rfl)
     have x2 := (cell_of_row _ wc.heap.size 2 _ _ _ HX8D.out).trans (show (#[Value.int .u64 (nAt l 0 : Nat), .int .u64 (nAt l 1 : Nat), .int .u64 (nAt l 2 : Nat)] : Array Value)[2]? = some (.int .u64 (nAt l 2 : Nat)) from rfl)
     have d0 := (HBD.out.cell (p := ⟨w.heap.size + 1 + 1, 0, none⟩) HLT2.out).trans D0.out
     have d1 := (HBD.out.cell (p := ⟨w.heap.size + 1 + 1, 1, none⟩) HLT2.out).trans D1.out
     have d2 := (HBD.out.cell (p := ⟨w.heap.size + 1 + 1, 2, none⟩) HLT2.out).trans D2.out
     clear hbd
     go_wp2_with fail
     go_roundw
     case rel =>
      refine ⟨n + 1, by have := HLT.out; omega, by go_num, ?_, HC.out.trans (Chg.fresh (F := fun _ => False) HBD.out) (fun _ h => h.elim)⟩
      rw [HPK.out, HNO.out]
      exact (HBD.out.block _ HLT2.out).trans HX2W.out
     case measure => have := HLT.out; simp [intOf]; omega
  ·obtain rfl : n = 2 := by omega
   have e0 := frozen_of_row _ (w.heap.size + 1) 0 _ _ HX1W.out
   have e1 := frozen_of_row _ (w.heap.size + 1) 1 _ _ HX1W.out
   have e2 := frozen_of_row _ (w.heap.size + 1) 2 _ _ HX1W.out
   have g0 := (cell_of_row _ (w.heap.size + 1) 0 _ _ _ HX1W.out).trans (show (#[Value.int .u64 0, .int .u64 0, .int .u64 0] : Array Value)[0]? = some (.int .u64 0) from rfl)
   have g1 := (cell_of_row _ (w.heap.size + 1) 1 _ _ _ HX1W.out).trans (show (#[Value.int .u64 0, .int .u64 0, .int .u64 0] : Array Value)[1]? = some (.int .u64 0) from rfl)
   have g2 := (cell_of_row _ (w.heap.size + 1) 2 _ _ _ HX1W.out).trans (show (#[Value.int .u64 0, .int .u64 0, .int .u64 0] : Array Value)[2]? = some (.int .u64 0) from rfl)
   have hbl : ∀ u : World, (Instr.build 107 #[]).run Tryz.prog u = .ok (.agg #[.int .u64 0, .int .u64 0, .int .u64 0]) u := fun u => by kernel_rfl
   have hq : Below w.heap.size w wr := HB3.out.trans (HC.out.below (fun k hk => by subst hk; omega) HB3.out.size)
   have HQ := hid hq
   have h64 := hid (show m0 < 18446744073709551616 from by have := nst_lt f fi HR.out 2; rw [HM.out] at this; exact this)
   clear hq hlt hx2
   by_cases h0 : (m0 : Int) = 0
   ·go_wp2_with fail
    have hg := set3_chg wr (w.heap.size + 1) (.int .u64 0) (.int .u64 0) (.int .u64 0)
    have hh := set3_row wr (w.heap.size + 1) (.int .u64 0) (.int .u64 0) (.int .u64 0) _ _ _ _ HX1W.out
    refine bodyPost_ret (results_cell_tmp (p := 2) (q := 3) (ty := 107) rfl _ _ (w.heap.size + 1) 107 #[.int .u64 0, .int .u64 0, .int .u64 0] (0, 0) _ rfl hh Tryz.underlying107 rfl (by kernel_rfl)) rfl ⟨?_, HQ.out.trans (hg.below (fun k hk => by subst hk; omega) HQ.out.size)⟩
    rw [HM.out, nmRes, if_pos (by show m0 = 0; omega)]
    rfl
   ·go_wp2_with fail
    have hg := set3_chg wr (w.heap.size + 1) (.int .u64 m0) (.int .u64 m1) (.int .u64 m2)
    have hh := set3_row wr (w.heap.size + 1) (.int .u64 m0) (.int .u64 m1) (.int .u64 m2) _ _ _ _ HX1W.out
    refine bodyPost_ret (results_cell_tmp (p := 2) (q := 3) (ty := 107) rfl _ _ (w.heap.size + 1) 107 #[.int .u64 m0, .int .u64 m1, .int .u64 m2] (0, 0) _ rfl hh Tryz.underlying107 rfl (by kernel_rfl)) rfl ⟨?_, HQ.out.trans (hg.below (fun k hk => by subst hk; omega) HQ.out.size)⟩
    rw [HM.out, nmRes, if_neg (by show ¬ m0 = 0; omega)]
    rfl
end Go.Proofs.YtdkjkibdncbibaaGreat
namespace Go.Proofs.YtdkjkibdncbibaaGreat
open Go.RowKit
open Go.Lib (hid)
theorem LEnds.seq2 {B D M : Nat} {nb rm : Int} {s' : DS} {E' : Int} {lv lv1 : Value} {w0 w w1 w2 w3 : World} {e' : Ending} (h0 : Below w0.heap.size w0 w) (hc1 : Chg (Foot D M lv) w w1) (hf1 : ∀ k, Foot D M lv1 k → Foot D M lv k ∨ w.heap.size ≤ k) (hb : Below w1.heap.size w1 w2) (k : LEnds B D M nb rm s' E' lv1 w2 e' w3) : LEnds B D M nb rm s' E' lv w0 e' w3 := by
 obtain ⟨he, lv2, hd2, hc2, hf2⟩ := k
 have s0 := h0.size
 have s1 := hc1.size
 have s2 := hb.size
 refine ⟨he, lv2, hd2, ?_, ?_⟩
 ·refine (((Chg.fresh (F := Foot D M lv) h0).trans hc1 (fun _ h => .inl h)).trans (Chg.fresh (F := fun _ => False) hb) (fun _ h => h.elim)).trans hc2 (fun i hi => ?_)
  rcases hf1 i hi with h | h
  ·exact .inl h
  ·exact .inr (by omega)
 ·intro i hi
  rcases hf2 i hi with h | h
  ·rcases hf1 i h with h | h
   ·exact .inl h
   ·exact .inr (by omega)
  ·exact .inr (by omega)
theorem LEnds.pre {B D M : Nat} {nb rm : Int} {s : DS} {E : Int} {lv : Value} {w0 w w1 : World} {e : Ending} (h0 : Below w0.heap.size w0 w) (k : LEnds B D M nb rm s E lv w e w1) : LEnds B D M nb rm s E lv w0 e w1 :=
 LEnds.seq2 h0 (Chg.refl _ _) (fun _ h => .inl h) (Below.refl _ _) k
theorem wsy_one (nb rm : Int) (s : DS) (n : Int) (b : List Int) : s.wsy nb rm [(n, b)] = if s.we nb rm n = 0 then ((s.wr nb rm n b).sy, (s.wr nb rm n b).se) else (s.wr nb rm n b, s.we nb rm n) := by
 unfold DS.wsy DS.ws
 by_cases h : s.we nb rm n = 0
 ·simp only [if_pos h, DS.ws, if_true]
 ·simp only [if_neg h]
set_option maxRecDepth 100000 in
set_option maxHeartbeats 2000000 in
theorem writeMark_any (B D M : Nat) (nb rm fi sz : Int) (s : DS) (lv : Value) (a b c : Nat) (w : World) (h : DkS w B D M nb rm s lv) (hfi : 0 ≤ fi ∧ fi ≤ 4096) (ha : a < 18446744073709551616) (hb : b < 18446744073709551616) (hc : c < 18446744073709551616) (hL : s.L.length ≤ 268435456) :
  Calls Tryz.prog 107 #[.agg #[Value.pointer (some ⟨D, 0, none⟩), .int .i64 fi, .int .i64 sz], .agg #[Value.int .u64 (a : Int), .int .u64 (b : Int), .int .u64 (c : Int)]] w (LEnds B D M nb rm (s.wsy nb rm [(fi + (a % 2 : Nat), mb a b c)]).1 (s.wsy nb rm [(fi + (a % 2 : Nat), mb a b c)]).2 lv w) := by
 have hw := wsy_one nb rm s (fi + (a % 2 : Nat)) (mb a b c)
 have hplc := fun u => place_any a b c u ha
 have hp2 : 0 ≤ ((a % 2 : Nat) : Int) ∧ ((a % 2 : Nat) : Int) ≤ 4096 := by omega
 generalize ((a % 2 : Nat) : Int) = p at *
 have HPLC := hid hplc
 clear hplc
 generalize s.wsy nb rm [(fi + p, mb a b c)] = r at *
 have HW := hid hw
 clear hw
 have hb1 : Below w.heap.size w (w.alloc (.cells #[Value.pointer (some ⟨D, 0, none⟩), .int .i64 fi, .int .i64 sz] 103)) := (Below.refl _ _).alloc (Nat.le_refl _) _
 have hb2 : Below w.heap.size w ((w.alloc (.cells #[Value.pointer (some ⟨D, 0, none⟩), .int .i64 fi, .int .i64 sz] 103)).alloc (.cells #[Value.int .u64 (a : Int), .int .u64 (b : Int), .int .u64 (c : Int)] 107)) := hb1.alloc (by simp) _
 have hx0 : ((w.alloc (.cells #[Value.pointer (some ⟨D, 0, none⟩), .int .i64 fi, .int .i64 sz] 103)).alloc (.cells #[Value.int .u64 (a : Int), .int .u64 (b : Int), .int .u64 (c : Int)] 107)).heap[w.heap.size]? = some (.cells #[Value.pointer (some ⟨D, 0, none⟩), .int .i64 fi, .int .i64 sz] 103 (0, 0)) := (heap_alloc_old _ _ (by simp)).trans (heap_alloc_new _ _)
 have hx1 : ((w.alloc (.cells #[Value.pointer (some ⟨D, 0, none⟩), .int .i64 fi, .int .i64 sz] 103)).alloc (.cells #[Value.int .u64 (a : Int), .int .u64 (b : Int), .int .u64 (c : Int)] 107)).heap[w.heap.size + 1]? = some (.cells #[Value.int .u64 (a : Int), .int .u64 (b : Int), .int .u64 (c : Int)] 107 (0, 0)) := by have h := heap_alloc_new (w.alloc (.cells #[Value.pointer (some ⟨D, 0, none⟩), .int .i64 fi, .int .i64 sz] 103)) (.cells #[Value.int .u64 (a : Int), .int .u64 (b : Int), .int .u64 (c : Int)] 107); rw [World.size_alloc] at h; exact h
 have HB2 := hid hb2
 have HX0 := hid hx0
 have HX1 := hid hx1
 have HD2 := hid (h.chg (Chg.fresh (F := fun _ => False) hb2) (fun _ _ h => h))
 have HFT := hid (show ∀ k, Foot D M lv k → k < w.heap.size from fun k hk => (h.foot k hk).2)
 clear hb1 hb2 hx0 hx1 h
 go_enter Tryz.func107, Tryz.ntmps107
 go_wp2_with fail
 generalize (w.alloc (.cells #[Value.pointer (some ⟨D, 0, none⟩), .int .i64 fi, .int .i64 sz] 103)).alloc (.cells #[Value.int .u64 (a : Int), .int .u64 (b : Int), .int .u64 (c : Int)] 107) = w2 at *
 have HLX := hid (show w.heap.size + 1 < w2.heap.size from (Array.getElem?_eq_some_iff.1 HX1.out).1)
 have HS2 := hid (show w2.drew.heap[w.heap.size]? = some (.cells #[Value.pointer (some ⟨D, 0, none⟩), .int .i64 fi, .int .i64 sz] 103 (0, 0)) ∧ w2.drew.heap[w.heap.size + 1]? = some (.cells #[Value.int .u64 (a : Int), .int .u64 (b : Int), .int .u64 (c : Int)] 107 (0, 0)) from ⟨HX0.out, HX1.out⟩)
 refine wp_region_held_drew (S := fun u => u.heap[w.heap.size]? = some (.cells #[Value.pointer (some ⟨D, 0, none⟩), .int .i64 fi, .int .i64 sz] 103 (0, 0)) ∧ u.heap[w.heap.size + 1]? = some (.cells #[Value.int .u64 (a : Int), .int .u64 (b : Int), .int .u64 (c : Int)] 107 (0, 0))) (by kernel_rfl) (HS2.out) (fun hHeld => ?_)
 refine tk (i := 0) (oi := ⟨some 6, .load 103 (.tmp 2), 103, "blocks.go:64", #[], none⟩) (v := ?_) (Or.inl ⟨by rfl, ?_⟩) ?_
 rotate_left 1
 ·intro u hSw
  have b0 := (cell_of_row u (w.heap.size) 0 _ _ _ hSw.1).trans (show (#[Value.pointer (some ⟨D, 0, none⟩), .int .i64 fi, .int .i64 sz] : Array Value)[0]? = some (.pointer (some ⟨D, 0, none⟩)) from rfl); have b1 := (cell_of_row u (w.heap.size) 1 _ _ _ hSw.1).trans (show (#[Value.pointer (some ⟨D, 0, none⟩), .int .i64 fi, .int .i64 sz] : Array Value)[1]? = some (.int .i64 fi) from rfl); have b2 := (cell_of_row u (w.heap.size) 2 _ _ _ hSw.1).trans (show (#[Value.pointer (some ⟨D, 0, none⟩), .int .i64 fi, .int .i64 sz] : Array Value)[2]? = some (.int .i64 sz) from rfl)
  go_simp
  try with_reducible rfl
 try simp only [Act.put, sA, sB, sC]
 refine tk (i := 1) (oi := ⟨some 7, .load 107 (.tmp 3), 107, "blocks.go:64", #[], none⟩) (v := ?_) (Or.inl ⟨by rfl, ?_⟩) ?_
 rotate_left 1
 ·intro u hSw
  have m0 := (cell_of_row u (w.heap.size + 1) 0 _ _ _ hSw.2).trans (show (#[Value.int .u64 (a : Int), .int .u64 (b : Int), .int .u64 (c : Int)] : Array Value)[0]? = some (.int .u64 (a : Int)) from rfl); have m1 := (cell_of_row u (w.heap.size + 1) 1 _ _ _ hSw.2).trans (show (#[Value.int .u64 (a : Int), .int .u64 (b : Int), .int .u64 (c : Int)] : Array Value)[1]? = some (.int .u64 (b : Int)) from rfl); have m2 := (cell_of_row u (w.heap.size + 1) 2 _ _ _ hSw.2).trans (show (#[Value.int .u64 (a : Int), .int .u64 (b : Int), .int .u64 (c : Int)] : Array Value)[2]? = some (.int .u64 (c : Int)) from rfl)
  go_simp
  try with_reducible rfl
 try simp only [Act.put, sA, sB, sC]
 refine tk (i := 3) (oi := ⟨some 9, .load 107 (.tmp 3), 107, "blocks.go:64", #[], none⟩) (v := ?_) (Or.inl ⟨by rfl, ?_⟩) ?_
 rotate_left 1
 ·intro u hSw
  have m0 := (cell_of_row u (w.heap.size + 1) 0 _ _ _ hSw.2).trans (show (#[Value.int .u64 (a : Int), .int .u64 (b : Int), .int .u64 (c : Int)] : Array Value)[0]? = some (.int .u64 (a : Int)) from rfl); have m1 := (cell_of_row u (w.heap.size + 1) 1 _ _ _ hSw.2).trans (show (#[Value.int .u64 (a : Int), .int .u64 (b : Int), .int .u64 (c : Int)] : Array Value)[1]? = some (.int .u64 (b : Int)) from rfl); have m2 := (cell_of_row u (w.heap.size + 1) 2 _ _ _ hSw.2).trans (show (#[Value.int .u64 (a : Int), .int .u64 (b : Int), .int .u64 (c : Int)] : Array Value)[2]? = some (.int .u64 (c : Int)) from rfl)
  go_simp
  try with_reducible rfl
 try simp only [Act.put, sA, sB, sC]
 refine wpAnyH_ready (rs := [2]) (by kernel_rfl) (by simp) ?_
 refine AllReadyH.cons (o := ⟨some 8, .call ⟨.value (.func 91), #[.tmp 7], #[107]⟩, 3, "blocks.go:64", #[⟨1, .data⟩], none⟩) rfl (fun K hK => ?_) AllReadyH.nil
 go_simp
 go_at_call 91
 refine (HPLC.out _).mono ?_
 rintro e w3 ⟨rfl, hb3⟩
 have X3 := hid (show Below w2.heap.size w2 w3 from ((Below.refl _ _).drew).trans hb3)
 have S3 := hid (And.intro ((X3.out.block _ (by have := HLX.out; omega)).trans HX0.out) ((X3.out.block _ HLX.out).trans HX1.out))
 clear hb3
 go_wp2_with fail
 refine hK.out _ _ S3.out (fun hHeld => ?_)
 clear hK K
 try simp only [Act.put, sA, sB, sC]
 refine wpAnyH_ready (rs := [4]) (by kernel_rfl) (by simp) ?_
 refine AllReadyH.cons (o := ⟨some 10, .call ⟨.value (.func 68), #[.tmp 9], #[107]⟩, 50, "blocks.go:64", #[⟨3, .data⟩, ⟨2, .chain⟩], none⟩) rfl (fun K hK => ?_) AllReadyH.nil
 go_simp
 go_at_call 68
 refine (mblock_any a b c _ ha hb hc).mono ?_
 rintro e w4 ⟨rfl, hb4⟩
 have X4 := hid (X3.out.trans (hb4.mono X3.out.size))
 have S4 := hid (And.intro ((X4.out.block _ (by have := HLX.out; omega)).trans HX0.out) ((X4.out.block _ HLX.out).trans HX1.out))
 clear hb4
 go_wp2_with fail
 refine hK.out _ _ S4.out (fun hHeld => ?_)
 clear hK K
 try simp only [Act.put, sA, sB, sC]
 refine wpAnyH_ready (rs := [5]) (by kernel_rfl) (by simp) ?_
 refine AllReadyH.cons (o := ⟨some 11, .call ⟨.value (.func 67), #[.tmp 6, .tmp 8, .tmp 10], #[103, 3, 50]⟩, 28, "blocks.go:64", #[⟨0, .data⟩, ⟨2, .data⟩, ⟨4, .data⟩, ⟨4, .chain⟩], none⟩) rfl (fun K hK => ?_) AllReadyH.nil
 go_simp
 go_at_call 67
 refine (dwrite_any B D M nb rm (fi + p) s lv (mb a b c) w4 (HD2.out.chg (Chg.fresh (F := fun _ => False) X4.out) (fun _ _ h => h)) (mb_len a b c) hL fi sz _ rfl hfi hp2).mono ?_
 rintro e w5 ⟨rfl, lv5, hdk, hch, hft⟩
 have DK5 := hid hdk
 have CH5 := hid hch
 have FT5 := hid hft
 have S5 := hid (And.intro ((hch.block _ (by have := HLX.out; have := X4.out.size; omega) (fun e => by have := HFT.out _ e; omega)).trans S4.out.1) ((hch.block _ (by have := HLX.out; have := X4.out.size; omega) (fun e => by have := HFT.out _ e; omega)).trans S4.out.2))
 clear hdk hch hft
 go_wp2_with fail
 refine hK.out _ _ S5.out (fun hHeld => ?_)
 clear hK K
 try simp only [Act.put, sA, sB, sC]
 refine tk (i := 6) (oi := ⟨some 5, .assign (.tmp 11), 28, "blocks.go:64", #[⟨5, .data⟩, ⟨5, .chain⟩, ⟨0, .phase⟩, ⟨1, .phase⟩, ⟨2, .phase⟩, ⟨3, .phase⟩, ⟨4, .phase⟩, ⟨5, .phase⟩], none⟩) (v := ?_) (Or.inl ⟨by rfl, ?_⟩) ?_
 rotate_left 1
 ·(intro u hSw; go_simp; try with_reducible rfl)
 try simp only [Act.put, sA, sB, sC]
 refine wpAnyH_done (by kernel_rfl) ?_ _
 have HP := hid (HB2.out.trans (X4.out.mono HB2.out.size))
 obtain ⟨E, hE⟩ : ∃ E, s.we nb rm (fi + p) = E := ⟨_, rfl⟩
 have HE := hid hE
 have HPB := S5.out.1
 have b0 := (cell_of_row _ (w.heap.size) 0 _ _ _ HPB).trans (show (#[Value.pointer (some ⟨D, 0, none⟩), .int .i64 fi, .int .i64 sz] : Array Value)[0]? = some (.pointer (some ⟨D, 0, none⟩)) from rfl)
 have b1 := (cell_of_row _ (w.heap.size) 1 _ _ _ HPB).trans (show (#[Value.pointer (some ⟨D, 0, none⟩), .int .i64 fi, .int .i64 sz] : Array Value)[1]? = some (.int .i64 fi) from rfl)
 have b2 := (cell_of_row _ (w.heap.size) 2 _ _ _ HPB).trans (show (#[Value.pointer (some ⟨D, 0, none⟩), .int .i64 fi, .int .i64 sz] : Array Value)[2]? = some (.int .i64 sz) from rfl)
 clear HPB
 rw [hE]
 clear hE
 by_cases h0 : E = 0
 ·go_wp2_with fail
  refine (dsync_any B D M nb rm (s.wr nb rm (fi + p) (mb a b c)) lv5 w5 DK5.out).mono ?_
  intro e w6 hl
  have HL6 := hid (LEnds.seq2 HP.out CH5.out FT5.out (Below.refl _ _) hl)
  have hl' := hl
  obtain ⟨rfl, _⟩ := hl'
  clear hl
  have HR := hid (show r = ((s.wr nb rm (fi + p) (mb a b c)).sy, (s.wr nb rm (fi + p) (mb a b c)).se) by rw [HW.out, HE.out, if_pos h0])
  generalize (s.wr nb rm (fi + p) (mb a b c)).se = E6 at *
  go_wp2_with fail
  go_ret
  rw [HR.out]
  exact HL6.out
 ·go_wp2_with fail
  go_ret
  have hr : r = (s.wr nb rm (fi + p) (mb a b c), E) := by rw [HW.out, HE.out, if_neg h0]
  rw [hr]
  exact LEnds.pre HP.out ⟨rfl, lv5, DK5.out, CH5.out, FT5.out⟩
end Go.Proofs.YtdkjkibdncbibaaGreat
namespace Go.Proofs.YtdkjkibdncbibaaGreat
open Go.RowKit
open Go.Lib (hid)
/-- k blocks from one on -/
def arB (f : Int → List Int) (b : Int) : Nat → List Int
 | 0 => []
 | k + 1 => arB f b k ++ f (b + k)
theorem arB_len (f : Int → List Int) (b : Int) (hf : ∀ n, (f n).length = 256) : ∀ k, (arB f b k).length = 256 * k
 | 0 => rfl
 | k + 1 => by rw [arB, List.length_append, arB_len f b hf k, hf]; omega
theorem arB_take (f : Int → List Int) (b : Int) (hf : ∀ n, (f n).length = 256) (k : Nat) : ∀ j n, n ≤ 256 * k → (arB f b (k + j)).take n = (arB f b k).take n
 | 0, n, _ => rfl
 | j + 1, n, h => by rw [← Nat.add_assoc, arB, List.take_append_of_le_length (by rw [arB_len f b hf]; omega), arB_take f b hf k j n h]
/-- the first bytes of blocks -/
def areaB (f : Int → List Int) (b : Int) (n : Nat) : List Int := (arB f b n).take n
theorem areaB_eq (f : Int → List Int) (b : Int) (hf : ∀ n, (f n).length = 256) (k n : Nat) (h : n ≤ 256 * k) : (arB f b k).take n = areaB f b n := by
 unfold areaB
 rcases Nat.le_total k n with h1 | h1
 ·obtain ⟨j, rfl⟩ := Nat.exists_eq_add_of_le h1
  exact (arB_take f b hf k j _ (by omega)).symm
 ·obtain ⟨j, rfl⟩ := Nat.exists_eq_add_of_le h1
  exact arB_take f b hf n j _ (by omega)
theorem areaB_len (f : Int → List Int) (b : Int) (hf : ∀ n, (f n).length = 256) (n : Nat) : (areaB f b n).length = n := by
 rw [areaB, List.length_take, arB_len f b hf]; omega
theorem arB_step (f : Int → List Int) (b : Int) (hf : ∀ n, (f n).length = 256) (k n m : Nat) (h : 256 * k < n) (hm : m = min (n - 256 * k) 256) : (arB f b k).take n ++ (f (b + k)).take m = (arB f b (k + 1)).take n := by
 have hl := arB_len f b hf k
 rw [arB, List.take_append, hl, List.take_of_length_le (by rw [hl]; omega)]
 congr 1
 have hl2 := hf (b + k)
 rcases Nat.le_total (n - 256 * k) 256 with h1 | h1
 ·rw [hm, Nat.min_eq_left h1]
 ·rw [hm, Nat.min_eq_right h1, List.take_of_length_le (by omega), List.take_of_length_le (by omega)]
theorem bs_top {w : World} {X : Nat} {l : List Int} {T : TypeId} (hX : w.heap[X]? = some (.cells (ArrU8 l) T (0, 0))) (m : Nat) (c : Nat) (hm : m ≤ l.length) (hc : m ≤ c) : Bs w (.slice (some ⟨X, 0, none⟩) m c) (l.take m) := by
 have hlen : (l.take m).length = m := by rw [List.length_take]; omega
 refine ⟨some ⟨X, 0, none⟩, c, by rw [hlen], ⟨by rw [hlen]; exact hc, fun e => by cases e⟩, fun hl => ⟨X, 0, rfl, (Array.getElem?_eq_some_iff.1 hX).1, fun i hi => ?_⟩⟩
 rw [cell_of_row _ _ _ _ _ _ hX]
 have hi2 : i < l.length := by omega
 have hi3 : i < m := by omega
 unfold ArrU8
 simp [hi2, hi3]
theorem own_lower {w : World} {B B' : Nat} {v : Value} {l : List Int} (h : Own w B' v l) (hB : B ≤ B') : Own w B v l :=
 ⟨h.1, h.2.imp id (fun ⟨g, cap, cur, a, b, c⟩ => ⟨g, cap, cur, a, Nat.le_trans hB b, c⟩)⟩
set_option maxRecDepth 100000 in
set_option maxHeartbeats 4000000 in
theorem readArea_any (B D M : Nat) (nb rm fz fi sz : Int) (f : Int → List Int) (L : List WR) (lv : Value) (en : Nat) (w : World) (h : Dk w B D M nb rm fz false f L lv) (h1 : 0 ≤ fi) (h2 : fi + sz ≤ nb) (h3 : 3 ≤ sz) (hnb : nb ≤ 4096) (hen : (en : Int) ≤ (sz - 2) * 256) :
  Calls Tryz.prog 71 #[.agg #[Value.pointer (some ⟨D, 0, none⟩), .int .i64 fi, .int .i64 sz], .int .i64 (en : Int)] w fun e w' => ∃ v, e = .returned (.tuple #[v, .int .i64 0]) ∧ Own w' w.heap.size v (areaB f (fi + 2) en) ∧ Below w.heap.size w w' := by
 have hz35 := zero35
 have HI35 := hid (show (Tryz.prog.info? 50).map (·.size) = some 256 by kernel_rfl)
 have SZ := hid (show (ArrU8 (zeros 256)).size = 256 by rw [ArrU8_size, zeros, List.length_replicate])
 have HFL := hid h.2.2.2.2.2.2.1
 have hb1 : Below w.heap.size w (w.alloc (.cells #[Value.pointer (some ⟨D, 0, none⟩), .int .i64 fi, .int .i64 sz] 103)) := (Below.refl _ _).alloc (Nat.le_refl _) _
 have HB1 := hid hb1
 have HX0 := hid (heap_alloc_new w (.cells #[Value.pointer (some ⟨D, 0, none⟩), .int .i64 fi, .int .i64 sz] 103))
 have HD1 := hid (h.chg (Chg.fresh (F := fun _ => False) hb1) (fun _ _ h => h))
 have HFT := hid (show ∀ k, Foot D M lv k → k < w.heap.size from fun k hk => (h.foot k hk).2)
 have HS1 := hid (show (w.alloc (.cells #[Value.pointer (some ⟨D, 0, none⟩), .int .i64 fi, .int .i64 sz] 103)).heap.size = w.heap.size + 1 by simp)
 have HL1 := hid (show w.heap.size < (w.alloc (.cells #[Value.pointer (some ⟨D, 0, none⟩), .int .i64 fi, .int .i64 sz] 103)).heap.size by simp)
 have HGB := hid (show 1 ≤ sz - 2 ∧ (en : Int) ≤ 1048576 by omega)
 clear hb1 h
 go_enter Tryz.func71, Tryz.ntmps71
 go_wp2_with fail
 generalize w.alloc (.cells #[Value.pointer (some ⟨D, 0, none⟩), .int .i64 fi, .int .i64 sz] 103) = w1 at *
 go_loopw [6, 7] (fun rv iv wr => ∃ k : Nat, iv = .int .i64 ((k : Int) + 2) ∧ (0 < k → 256 * (k - 1) < en) ∧ Own wr (w.heap.size + 1) rv ((arB f (fi + 2) k).take en) ∧ Below (w.heap.size + 1) w1 wr) (fun _ iv _ => (en + 3 - (intOf iv).toNat))
 case atStart => exact ⟨0, rfl, fun h => by omega, by rw [show (arB f (fi + 2) 0).take en = [] from by simp [arB]]; exact Own.nil _ _, Below.refl _ _⟩
 case round =>
  obtain ⟨k, rfl, hk, ho, hb⟩ := hrel
  have HK := hid hk
  have HO := hid ho
  have HB := hid hb
  have hlen : ((arB f (fi + 2) k).take en).length = min en (256 * k) := by rw [List.length_take, arB_len _ _ HFL.out]
  obtain ⟨ra, rc, hrv⟩ : ∃ ra rc, u6 = .slice ra (min en (256 * k)) rc := by
   obtain ⟨a, c, h, _⟩ := ho.bs
   exact ⟨a, c, by rw [← hlen]; exact h⟩
  subst hrv
  clear hk ho hb
  by_cases hlt : 256 * k < en
  ·have hmn : min en (256 * k) = 256 * k := by omega
   rw [hmn] at HO ⊢
   have HLEN := hid (show ((arB f (fi + 2) k).take en).length = 256 * k by rw [hlen, hmn])
   clear hlen hmn
   have HXW := hid ((HB.out.block _ (by omega)).trans HX0.out)
   have HDW := hid (HD1.out.chg (F := fun k => w.heap.size + 1 ≤ k) ⟨HB.out.os, HB.out.tape, HB.out.output, HB.out.size, fun k hk hn => HB.out.block k (by omega)⟩ (fun k hk e => by have := HFT.out k hk; omega))
   have b0 := (cell_of_row _ (w.heap.size) 0 _ _ _ HXW.out).trans (show (#[Value.pointer (some ⟨D, 0, none⟩), .int .i64 fi, .int .i64 sz] : Array Value)[0]? = some (.pointer (some ⟨D, 0, none⟩)) from rfl)
   have b1 := (cell_of_row _ (w.heap.size) 1 _ _ _ HXW.out).trans (show (#[Value.pointer (some ⟨D, 0, none⟩), .int .i64 fi, .int .i64 sz] : Array Value)[1]? = some (.int .i64 fi) from rfl)
   have b2 := (cell_of_row _ (w.heap.size) 2 _ _ _ HXW.out).trans (show (#[Value.pointer (some ⟨D, 0, none⟩), .int .i64 fi, .int .i64 sz] : Array Value)[2]? = some (.int .i64 sz) from rfl)
   have hki : ((k : Int) + 2) < sz := by have := HGB.out; omega
   have HRD := lread_any B D M nb rm fz fi sz ((k : Int) + 2) false f L lv wr HDW.out (by omega) (by omega)
   rw [show rdF nb (fi + ((k : Int) + 2)) false f = f (fi + 2 + k) by rw [rdF, if_neg (by simp), if_pos (by simp [hasB]; omega)]; congr 1; omega, show readErr nb (fi + ((k : Int) + 2)) false = 0 by rw [readErr, if_neg (by simp), if_pos (by simp [hasB]; omega)]] at HRD
   have HRD := hid HRD
   have HFK := hid (HFL.out (fi + 2 + k))
   have HLT := hid hlt
   have HKI := hid hki
   have HST := fun m hm => arB_step f (fi + 2) HFL.out k en m hlt hm
   have HST := hid HST
   generalize hl : f (fi + 2 + k) = l at *
   have SL := hid (show (ArrU8 l).size = 256 by rw [ArrU8_size, HFK.out])
   have hlt2 : ((256 * k : Nat) : Int) < (en : Int) := by omega
   clear hl hki hlt
   go_wp2_with fail
   refine HRD.out.mono ?_
   rintro e wa ⟨rfl, hb⟩
   have XA := hid hb
   clear hb b0 b1 b2
   by_cases hm3 : (en : Int) - 256 * (k : Int) ≤ 256
   ·have hm4 := hm3
    have hsl := fun u => slice35_h u wa.heap.size ((en : Int) - 256 * (k : Int)) (en - 256 * k) (by omega) (by omega)
    have HMM := hid (show (en - 256 * k) = min (en - 256 * k) 256 by omega)
    have HOA := hid (HO.out.below XA.out (Nat.le_refl _))
    go_wp2_with (first
     | (refine wpList_store_nwL rfl 50 (Operand.tmp 8) (Operand.tmp 20) rfl wa _ 50 rfl wa.heap.size (ArrU8 l) rfl rfl rfl (by rw [HI35.out, SL.out]) (by rw [SZ.out, SL.out]) (ArrU8_one _) ?_; intro wb hd hb hs; have QB := hid hd; have XB := hid hb; have SB := hid hs; have HOB := hid (HOA.out.below hb (Nat.le_refl _)); clear hd hb hs)
     | (at_builtin; refine wpList_append_OwnT rfl (Operand.tmp 25) (Operand.tmp 31) rfl (w.heap.size + 1) _ _ rfl HOB.out _ (l.take (en - 256 * k)) rfl (bs_top QB.out (en - 256 * k) 256 (by rw [HFK.out]; omega) (by omega)) (by rw [HLEN.out, List.length_take, HFK.out]; have := HGB.out; have := HLT.out; omega) (by have := HS1.out; have := HB.out.size; have := XA.out.size; have := SB.out; omega) ?_; intro v' w2 hown' hgrow hto; have HO2 := hid hown'; have HC2 := hid hgrow; clear hown' hgrow hto))
    go_roundw
    case rel =>
     refine ⟨k + 1, by go_num, fun _ => by rw [Nat.add_sub_cancel]; exact HLT.out, by rw [← HST.out _ HMM.out]; exact HO2.out, ?_⟩
     have qs := HS1.out
     have q0 := HB.out.size
     have q1 := XA.out.size
     have q2 := SB.out
     have hq : Below (w.heap.size + 1) w1 wb := (HB.out.trans (XA.out.mono (by omega))).trans (XB.out.mono (by omega))
     exact hq.trans (HC2.out.below (fun g hg => (HOB.out.lt g hg).1) (by omega))
    case measure => have := HLT.out; have := HK.out; simp [intOf]; omega
   ·have hm4 := hm3
    have hmn : min ((en : Int) - 256 * (k : Int)) 256 = 256 := by omega
    have hsl := fun u => slice35_h u wa.heap.size 256 (256) (by omega) (by omega)
    have HMM := hid (show (256) = min (en - 256 * k) 256 by omega)
    have HOA := hid (HO.out.below XA.out (Nat.le_refl _))
    go_wp2_with (first
     | (refine wpList_store_nwL rfl 50 (Operand.tmp 8) (Operand.tmp 20) rfl wa _ 50 rfl wa.heap.size (ArrU8 l) rfl rfl rfl (by rw [HI35.out, SL.out]) (by rw [SZ.out, SL.out]) (ArrU8_one _) ?_; intro wb hd hb hs; have QB := hid hd; have XB := hid hb; have SB := hid hs; have HOB := hid (HOA.out.below hb (Nat.le_refl _)); clear hd hb hs)
     | (at_builtin; refine wpList_append_OwnT rfl (Operand.tmp 25) (Operand.tmp 31) rfl (w.heap.size + 1) _ _ rfl HOB.out _ (l.take (256)) rfl (bs_top QB.out (256) 256 (by rw [HFK.out]; omega) (by omega)) (by rw [HLEN.out, List.length_take, HFK.out]; have := HGB.out; have := HLT.out; omega) (by have := HS1.out; have := HB.out.size; have := XA.out.size; have := SB.out; omega) ?_; intro v' w2 hown' hgrow hto; have HO2 := hid hown'; have HC2 := hid hgrow; clear hown' hgrow hto))
    go_roundw
    case rel =>
     refine ⟨k + 1, by go_num, fun _ => by rw [Nat.add_sub_cancel]; exact HLT.out, by rw [← HST.out _ HMM.out]; exact HO2.out, ?_⟩
     have qs := HS1.out
     have q0 := HB.out.size
     have q1 := XA.out.size
     have q2 := SB.out
     have hq : Below (w.heap.size + 1) w1 wb := (HB.out.trans (XA.out.mono (by omega))).trans (XB.out.mono (by omega))
     exact hq.trans (HC2.out.below (fun g hg => (HOB.out.lt g hg).1) (by omega))
    case measure => have := HLT.out; have := HK.out; simp [intOf]; omega
  ·have hmn : min en (256 * k) = en := by omega
   rw [hmn] at HO ⊢
   have hge : ¬ ((en : Int) < (en : Int)) := by omega
   have HEQ := hid (areaB_eq f (fi + 2) HFL.out k en (by omega))
   clear hlen hmn hlt
   go_wp2_with fail
   go_ret2
   exact ⟨_, rfl, by rw [← HEQ.out]; exact own_lower HO.out (by omega), HB1.out.trans (HB.out.mono (by omega))⟩
end Go.Proofs.YtdkjkibdncbibaaGreat
