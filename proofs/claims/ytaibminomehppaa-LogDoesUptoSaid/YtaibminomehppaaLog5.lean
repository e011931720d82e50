import Derived.Test.YtaibminomehppaaLog4
import Derived.WalkKit
import Derived.ProofKit
import Derived.BigQuiet
import Derived.Deep.QuietTactic
import Derived.WalkSpells
import Derived.WalkLawsBesides
import Derived.Lib.Hide
import Derived.Deep.MidRow
import Derived.Deep.RegionLaw
import Derived.BigRegion
import Derived.Laws.AppendOwnNone
import Derived.Deep.DeepMust
import Derived.Deep.AppendLies
import Derived.RegionTactic
import Derived.Deep.WholeRow
import Derived.BigFrame
import Derived.Deep.RegionWith
import Derived.Deep.RegionHeld3
import Derived.Maps.RangeWalk
import Derived.Laws.CopyOwn
import Derived.StillTailTactics

namespace Go.Proofs.Ytaibminomehppaa
open Go.RowKit
theorem wpList_store_nwL {P : Program} {ops : Array Oper} {rest : List Oper} {o : Oper} {a : Act} {w : World} {Q : Exit → Act → World → Prop} (hgd : o.guard = none) (ty : TypeId) (x y : Operand) (ho : o.op = .store ty x y) (w0 : World) (old : Array Value) (T : TypeId) (hw : w = w0.alloc (.cells old T))
    (H : Nat) (cells : Array Value) (hx : a.eval x = .pointer (some ⟨H, 0, none⟩)) (hy : a.eval y = .agg cells) (hH : w0.heap.size = H) (hi : (P.info? ty).map (·.size) = some cells.size) (hold : old.size = cells.size) (h1 : cells.all (·.oneCell') = true)
    (h : ∀ w', w'.heap[H]? = some (.cells cells T (0, 0)) → Below H w0 w' → w'.heap.size = H + 1 → wpList P ops Q rest (a.put o.dst undef) w') : wpList P ops Q (o :: rest) a w := by
  subst hw
  exact wpList_store_new hgd ty x y ho H cells hx hy hH old T hi hold h1 h
/-- what a failing disk is -/
structure DS where
  fz : Int
  dn : Bool
  f : Int → List Int
  L : List WR
def DS.we (nb rm : Int) (s : DS) (n : Int) : Int := wErr nb rm s.fz n s.dn
def DS.wr (nb rm : Int) (s : DS) (n : Int) (b : List Int) : DS := ⟨opFz s.fz s.dn, opDn s.fz s.dn, if s.we nb rm n = 0 then fput s.f n b else s.f, if s.we nb rm n = 0 then s.L ++ [(n, s.f n, b)] else s.L⟩
def DS.sy (s : DS) : DS := ⟨opFz s.fz s.dn, opDn s.fz s.dn, s.f, if opOk s.fz s.dn = true then [] else s.L⟩
def DS.se (s : DS) : Int := if opOk s.fz s.dn = true then 0 else 44
def DS.ws (nb rm : Int) : DS → List (Int × List Int) → DS × Int
  | s, [] => (s, 0)
  | s, x :: r => if s.we nb rm x.1 = 0 then DS.ws nb rm (s.wr nb rm x.1 x.2) r else (s.wr nb rm x.1 x.2, s.we nb rm x.1)
def DS.wsy (nb rm : Int) (s : DS) (l : List (Int × List Int)) : DS × Int := if (s.ws nb rm l).2 = 0 then ((s.ws nb rm l).1.sy, (s.ws nb rm l).1.se) else s.ws nb rm l
abbrev DkS (w : World) (B D M : Nat) (nb rm : Int) (s : DS) (lv : Value) : Prop := Dk w B D M nb rm s.fz s.dn s.f s.L lv
def LEnds (B D M : Nat) (nb rm : Int) (s : DS) (E : Int) (lv : Value) (w : World) (e : Ending) (w' : World) : Prop :=
  e = .returned (.int .i64 E) ∧ ∃ lv', DkS w' B D M nb rm s lv' ∧ Chg (Foot D M lv) w w' ∧ (∀ k, Foot D M lv' k → Foot D M lv k ∨ w.heap.size ≤ k)
theorem dwrite_any (B D M : Nat) (nb rm n : Int) (s : DS) (lv : Value) (b : List Int) (w : World) (h : DkS w B D M nb rm s lv) (hb : b.length = 256) (hL : s.L.length ≤ 268435456) (fi sz k : Int) (hn : n = fi + k) (hfi : 0 ≤ fi ∧ fi ≤ 4096) (hk : 0 ≤ k ∧ k ≤ 4096) :
    Calls Try.prog 35 #[.agg #[.pointer (some ⟨D, 0, none⟩), .int .i64 fi, .int .i64 sz], .int .i64 k, .agg (ArrU8 b)] w (LEnds B D M nb rm (s.wr nb rm n b) (s.we nb rm n) lv w) := by
  subst hn
  exact (lwrite_any B D M nb rm s.fz fi sz k s.dn s.f s.L lv b w h hb hL hfi hk).mono (fun e w' h => h)
theorem dsync_any (B D M : Nat) (nb rm : Int) (s : DS) (lv : Value) (w : World) (h : DkS w B D M nb rm s lv) :
    Calls Try.prog 37 #[.pointer (some ⟨D, 0, none⟩)] w (LEnds B D M nb rm s.sy s.se lv w) := by
  refine (sync_dk B D M nb rm s.fz s.dn s.f s.L lv w h).mono ?_
  rintro e w' ⟨rfl, lv', hdk, hch, hlv⟩
  refine ⟨rfl, lv', hdk, hch.mono (fun k hk => .inl hk), fun k hk => .inl ?_⟩
  rcases hlv with rfl | rfl
  · exact hk
  · exact hk.elim .inl (fun h => h.elim (fun h => .inr (.inl h)) (fun h => by cases h))
/-- one behind the other -/
theorem LEnds.seq {B D M : Nat} {nb rm : Int} {s s' : DS} {E E' : Int} {lv : Value} {w w1 w2 w3 w0 : World} {e e' : Ending} (h0 : Below w0.heap.size w0 w) (h : LEnds B D M nb rm s E lv w e w1) (_hf : ∀ k, Foot D M lv k → k < w0.heap.size)
    (hb : Below w1.heap.size w1 w2) (k : ∀ lv', DkS w2 B D M nb rm s lv' → LEnds B D M nb rm s' E' lv' w2 e' w3) : LEnds B D M nb rm s' E' lv w0 e' w3 := by
  obtain ⟨_, lv1, hd1, hc1, hf1⟩ := h
  obtain ⟨he, lv2, hd2, hc2, hf2⟩ := k lv1 (hd1.chg (Chg.fresh (F := fun _ => False) hb) (fun _ _ h => h))
  have s0 := h0.size
  have s1 := hc1.size
  have s2 := hb.size
  refine ⟨he, lv2, hd2, ?_, ?_⟩
  · refine (((Chg.fresh (F := Foot D M lv) h0).trans hc1 (fun _ h => .inl h)).trans (Chg.fresh (F := fun _ => False) hb) (fun _ h => h.elim)).trans hc2 (fun i hi => ?_)
    rcases hf1 i hi with h | h
    · exact .inl h
    · exact .inr (by omega)
  · intro i hi
    rcases hf2 i hi with h | h
    · rcases hf1 i h with h | h
      · exact .inl h
      · exact .inr (by omega)
    · exact .inr (by omega)
theorem zero102 (w : World) : (zeroValue 79).run Try.prog w = .ok (.agg #[.pointer none, .int .i64 0, .int .i64 0]) w := by kernel_rfl
set_option maxRecDepth 100000 in
set_option maxHeartbeats 1000000 in
theorem blocksOf_yes (B D M : Nat) (nb rm fz fi sz : Int) (dn : Bool) (f : Int → List Int) (L : List WR) (lv : Value) (w : World) (h : Dk w B D M nb rm fz dn f L lv) (h1 : 0 ≤ fi) (h2 : 3 ≤ sz) (h3 : fi ≤ nb - sz) (hnb : nb ≤ 4096) :
    Calls Try.prog 34 #[.pointer (some ⟨D, 0, none⟩), .int .i64 fi, .int .i64 sz] w fun e w' => e = .returned (.tuple #[.agg #[.pointer (some ⟨D, 0, none⟩), .int .i64 fi, .int .i64 sz], .int .i64 0]) ∧ Below w.heap.size w w' := by
  have hz := zero102
  have hb1 : Below w.heap.size w (w.alloc (.cells #[.pointer none, .int .i64 0, .int .i64 0] 79)) := (Below.refl _ _).alloc (Nat.le_refl _) _
  have HDK := Lib.hid (h.chg (Chg.fresh (F := fun _ => False) hb1) (fun _ _ h => h))
  have HB := Lib.hid hb1
  clear hb1 h
  have h1n : ¬ fi < 0 := by omega
  have h2n : ¬ sz < 3 := by omega
  have h3n : ¬ fi > nb - sz := by omega
  go_enter Try.func34, Try.ntmps34
  go_wp2_with (go_at_call 84; refine (blocks_any D _ _ _ _ _ _ _ HDK.out.1).mono ?_; rintro e w' ⟨rfl, rfl⟩)
  refine bodyPost_ret (results_cell_tmp (p := 6) (q := 7) (ty := 79) rfl _ _ w.heap.size 79 #[.pointer (some ⟨D, 0, none⟩), .int .i64 fi, .int .i64 sz] (0, 0) _ rfl (heap_alloc_new _ _) Try.underlying79 rfl (by kernel_rfl)) rfl ⟨rfl, (Below.refl _ _).alloc (Nat.le_refl _) _⟩
theorem blocksOf_no (B D M : Nat) (nb rm fz fi sz : Int) (dn : Bool) (f : Int → List Int) (L : List WR) (lv : Value) (w : World) (h : Dk w B D M nb rm fz dn f L lv) (h1 : fi < 0 ∨ sz < 3 ∨ nb - sz < fi) (hnb : nb ≤ 4096) (h0 : 0 ≤ nb) (hs : sz ≤ 9223372036854775807) :
    Calls Try.prog 34 #[.pointer (some ⟨D, 0, none⟩), .int .i64 fi, .int .i64 sz] w fun e w' => e = .returned (.tuple #[.agg #[.pointer none, .int .i64 0, .int .i64 0], .int .i64 1]) ∧ Below w.heap.size w w' := by
  have hz := zero102
  have hb1 : Below w.heap.size w (w.alloc (.cells #[.pointer none, .int .i64 0, .int .i64 0] 79)) := (Below.refl _ _).alloc (Nat.le_refl _) _
  have HDK := Lib.hid (h.chg (Chg.fresh (F := fun _ => False) hb1) (fun _ _ h => h))
  have hbl : ∀ u : World, (Instr.build 79 #[]).run Try.prog u = .ok (.agg #[.pointer none, .int .i64 0, .int .i64 0]) u := fun u => by kernel_rfl
  clear hb1 h
  by_cases h1n : fi < 0
  · go_enter Try.func34, Try.ntmps34
    go_wp2_with fail
    refine bodyPost_ret (results_cell_tmp (p := 6) (q := 7) (ty := 79) rfl _ _ w.heap.size 79 #[.pointer none, .int .i64 0, .int .i64 0] (0, 0) _ rfl (heap_alloc_new _ _) Try.underlying79 rfl (by kernel_rfl)) rfl ⟨rfl, (Below.refl _ _).alloc (Nat.le_refl _) _⟩
  · by_cases h2n : sz < 3
    · go_enter Try.func34, Try.ntmps34
      go_wp2_with fail
      refine bodyPost_ret (results_cell_tmp (p := 6) (q := 7) (ty := 79) rfl _ _ w.heap.size 79 #[.pointer none, .int .i64 0, .int .i64 0] (0, 0) _ rfl (heap_alloc_new _ _) Try.underlying79 rfl (by kernel_rfl)) rfl ⟨rfl, (Below.refl _ _).alloc (Nat.le_refl _) _⟩
    · have h3n : nb - sz < fi := by omega
      go_enter Try.func34, Try.ntmps34
      go_wp2_with (go_at_call 84; refine (blocks_any D _ _ _ _ _ _ _ HDK.out.1).mono ?_; rintro e w' ⟨rfl, rfl⟩)
      refine bodyPost_ret (results_cell_tmp (p := 6) (q := 7) (ty := 79) rfl _ _ w.heap.size 79 #[.pointer none, .int .i64 0, .int .i64 0] (0, 0) _ rfl (heap_alloc_new _ _) Try.underlying79 rfl (by kernel_rfl)) rfl ⟨rfl, (Below.refl _ _).alloc (Nat.le_refl _) _⟩
/-- the newer of two marks -/
def pk (n : Nat) (l : List Int) (m : Nat × Nat × Nat) : Nat × Nat × Nat := if okB l = true ∧ nAt l 0 % 2 = n ∧ m.1 < nAt l 0 then (nAt l 0, nAt l 1, nAt l 2) else m
def nst (f : Int → List Int) (fi : Int) : Nat → Nat × Nat × Nat
  | 0 => (0, 0, 0)
  | n + 1 => pk n (f (fi + n)) (nst f fi n)
theorem nst_lt (f : Int → List Int) (fi : Int) (hr : ∀ n, Rng (f n)) : ∀ n, (nst f fi n).1 < 18446744073709551616
  | 0 => by show (0 : Nat) < 18446744073709551616; decide
  | n + 1 => by
    have := nst_lt f fi hr n
    have h2 := nAt_lt (f (fi + n)) (hr _) 0
    unfold nst pk
    split
    · exact h2
    · exact this
def mval (m : Nat × Nat × Nat) : Array Value := #[.int .u64 (m.1 : Nat), .int .u64 (m.2.1 : Nat), .int .u64 (m.2.2 : Nat)]
def nmRes (m : Nat × Nat × Nat) : Ending := if m.1 = 0 then .returned (.tuple #[.agg #[.int .u64 0, .int .u64 0, .int .u64 0], .int .i64 5]) else .returned (.tuple #[.agg (mval m), .int .i64 0])
set_option maxRecDepth 100000 in
set_option maxHeartbeats 4000000 in
theorem newestMark_any (B D M : Nat) (nb rm fz fi sz : Int) (f : Int → List Int) (L : List WR) (lv : Value) (w : World) (h : Dk w B D M nb rm fz false f L lv) (h1 : 0 ≤ fi) (h2 : fi + 1 < nb) (hnb : nb ≤ 4096) (hr : ∀ n, Rng (f n)) :
    Calls Try.prog 76 #[.agg #[.pointer (some ⟨D, 0, none⟩), .int .i64 fi, .int .i64 sz]] w fun e w' => e = nmRes (nst f fi 2) ∧ Below w.heap.size w w' := by
  have hz := zeroMark
  have hz35 := zero35
  have HI35 := Lib.hid (show (Try.prog.info? 52).map (·.size) = some 256 by kernel_rfl)
  have SZ := Lib.hid (show (ArrU8 (zeros 256)).size = 256 by rw [ArrU8_size, zeros, List.length_replicate])
  have HDK := Lib.hid h
  have HR := Lib.hid hr
  clear h hr
  go_enter Try.func76, Try.ntmps76
  go_wp2_with fail
  have hb1 : Below w.heap.size w (w.alloc (.cells #[.pointer (some ⟨D, 0, none⟩), .int .i64 fi, .int .i64 sz] 79)) := (Below.refl _ _).alloc (Nat.le_refl _) _
  have hb2 : Below w.heap.size w ((w.alloc (.cells #[.pointer (some ⟨D, 0, none⟩), .int .i64 fi, .int .i64 sz] 79)).alloc (.cells #[.int .u64 0, .int .u64 0, .int .u64 0] 83)) := hb1.alloc (by simp) _
  have hb3 : Below w.heap.size w (((w.alloc (.cells #[.pointer (some ⟨D, 0, none⟩), .int .i64 fi, .int .i64 sz] 79)).alloc (.cells #[.int .u64 0, .int .u64 0, .int .u64 0] 83)).alloc (.cells #[.int .u64 0, .int .u64 0, .int .u64 0] 83)) := hb2.alloc (by simp; omega) _
  have hx0 : (((w.alloc (.cells #[.pointer (some ⟨D, 0, none⟩), .int .i64 fi, .int .i64 sz] 79)).alloc (.cells #[.int .u64 0, .int .u64 0, .int .u64 0] 83)).alloc (.cells #[.int .u64 0, .int .u64 0, .int .u64 0] 83)).heap[w.heap.size]? = some (.cells #[.pointer (some ⟨D, 0, none⟩), .int .i64 fi, .int .i64 sz] 79 (0, 0)) := (heap_alloc_old _ _ (by simp; omega)).trans ((heap_alloc_old _ _ (by simp)).trans (heap_alloc_new _ _))
  have hx1 : (((w.alloc (.cells #[.pointer (some ⟨D, 0, none⟩), .int .i64 fi, .int .i64 sz] 79)).alloc (.cells #[.int .u64 0, .int .u64 0, .int .u64 0] 83)).alloc (.cells #[.int .u64 0, .int .u64 0, .int .u64 0] 83)).heap[w.heap.size + 1]? = some (.cells #[.int .u64 0, .int .u64 0, .int .u64 0] 83 (0, 0)) := (heap_alloc_old _ _ (by simp)).trans (by have h := heap_alloc_new (w.alloc (.cells #[.pointer (some ⟨D, 0, none⟩), .int .i64 fi, .int .i64 sz] 79)) (.cells #[.int .u64 0, .int .u64 0, .int .u64 0] 83); rw [World.size_alloc] at h; exact h)
  have hx2 : (((w.alloc (.cells #[.pointer (some ⟨D, 0, none⟩), .int .i64 fi, .int .i64 sz] 79)).alloc (.cells #[.int .u64 0, .int .u64 0, .int .u64 0] 83)).alloc (.cells #[.int .u64 0, .int .u64 0, .int .u64 0] 83)).heap[w.heap.size + 1 + 1]? = some (.cells (mval (nst f fi 0)) 83 (0, 0)) := by have h := heap_alloc_new ((w.alloc (.cells #[.pointer (some ⟨D, 0, none⟩), .int .i64 fi, .int .i64 sz] 79)).alloc (.cells #[.int .u64 0, .int .u64 0, .int .u64 0] 83)) (.cells #[.int .u64 0, .int .u64 0, .int .u64 0] 83); rw [World.size_alloc, World.size_alloc] at h; exact h
  have HB3 := Lib.hid hb3
  have HX0 := Lib.hid hx0
  have HX1 := Lib.hid hx1
  have HX2 := Lib.hid hx2
  have HD3 := Lib.hid (HDK.out.chg (Chg.fresh (F := fun _ => False) hb3) (fun _ _ h => h))
  clear hb1 hb2 hb3 hx0 hx1 hx2
  generalize ((w.alloc (.cells #[.pointer (some ⟨D, 0, none⟩), .int .i64 fi, .int .i64 sz] 79)).alloc (.cells #[.int .u64 0, .int .u64 0, .int .u64 0] 83)).alloc (.cells #[.int .u64 0, .int .u64 0, .int .u64 0] 83) = w3 at *
  have HS := Lib.hid (show w.heap.size + 1 + 1 < w3.heap.size from (Array.getElem?_eq_some_iff.1 HX2.out).1)
  have HFT := Lib.hid (show ∀ k, Foot D M lv k → k < w.heap.size from fun k hk => (HDK.out.foot k hk).2)
  go_loopw [10] (fun iv wr => ∃ n : Nat, n ≤ 2 ∧ iv = .int .i64 (n : Int) ∧ wr.heap[w.heap.size + 1 + 1]? = some (.cells (mval (nst f fi n)) 83 (0, 0)) ∧ Chg (fun g => g = w.heap.size + 1 + 1) w3 wr) (fun iv _ => 2 - (intOf iv).toNat)
  case atStart => exact ⟨0, by omega, rfl, HX2.out, Chg.refl _ _⟩
  case round =>
    obtain ⟨n, hn, rfl, hx, hc⟩ := hrel
    have HX := Lib.hid hx
    have HC := Lib.hid hc
    clear hx hc
    have HXW := Lib.hid (HX.out)
    obtain ⟨m0, m1, m2, hm⟩ : ∃ m0 m1 m2, nst f fi n = (m0, m1, m2) := ⟨_, _, _, rfl⟩
    have HM := Lib.hid hm
    have hx2 : wr.heap[w.heap.size + 1 + 1]? = some (.cells #[.int .u64 (m0 : Int), .int .u64 (m1 : Int), .int .u64 (m2 : Int)] 83 (0, 0)) := by have h := HX.out; rw [hm] at h; exact h
    have HX2W := Lib.hid hx2
    have HX0W := Lib.hid ((HC.out.block _ (by have := HS.out; omega) (by omega)).trans HX0.out)
    have HX1W := Lib.hid ((HC.out.block _ (by have := HS.out; omega) (by omega)).trans HX1.out)
    have HDW := Lib.hid (HD3.out.chg HC.out (fun k hk e => by have := HFT.out k hk; omega))
    have HLT2 := Lib.hid (show w.heap.size + 1 + 1 < wr.heap.size from (Array.getElem?_eq_some_iff.1 hx2).1)
    have d0 := (cell_of_row _ (w.heap.size + 1 + 1) 0 _ _ _ hx2).trans (show (#[Value.int .u64 (m0 : Int), .int .u64 (m1 : Int), .int .u64 (m2 : Int)] : Array Value)[0]? = some (.int .u64 (m0 : Int)) from rfl)
    have d1 := (cell_of_row _ (w.heap.size + 1 + 1) 1 _ _ _ hx2).trans (show (#[Value.int .u64 (m0 : Int), .int .u64 (m1 : Int), .int .u64 (m2 : Int)] : Array Value)[1]? = some (.int .u64 (m1 : Int)) from rfl)
    have d2 := (cell_of_row _ (w.heap.size + 1 + 1) 2 _ _ _ hx2).trans (show (#[Value.int .u64 (m0 : Int), .int .u64 (m1 : Int), .int .u64 (m2 : Int)] : Array Value)[2]? = some (.int .u64 (m2 : Int)) from rfl)
    have D0 := Lib.hid d0
    have D1 := Lib.hid d1
    have D2 := Lib.hid d2
    clear hm
    by_cases hlt : n < 2
    · have b0 := (cell_of_row _ w.heap.size 0 _ _ _ HX0W.out).trans (show (#[Value.pointer (some ⟨D, 0, none⟩), .int .i64 fi, .int .i64 sz] : Array Value)[0]? = some (.pointer (some ⟨D, 0, none⟩)) from rfl)
      have b1 := (cell_of_row _ w.heap.size 1 _ _ _ HX0W.out).trans (show (#[Value.pointer (some ⟨D, 0, none⟩), .int .i64 fi, .int .i64 sz] : Array Value)[1]? = some (.int .i64 fi) from rfl)
      have b2 := (cell_of_row _ w.heap.size 2 _ _ _ HX0W.out).trans (show (#[Value.pointer (some ⟨D, 0, none⟩), .int .i64 fi, .int .i64 sz] : Array Value)[2]? = some (.int .i64 sz) from rfl)
      have HRL := Lib.hid (HR.out (fi + n))
      have HFL := Lib.hid (HDW.out.2.2.2.2.2.2.1 (fi + n))
      have HRD := lread_any B D M nb rm fz fi sz n false f L lv wr HDW.out (by omega) (by omega)
      rw [show rdF nb (fi + n) false f = f (fi + n) by rw [rdF, if_neg (by simp), if_pos (by simp [hasB]; omega)], show readErr nb (fi + n) false = 0 by rw [readErr, if_neg (by simp), if_pos (by simp [hasB]; omega)]] at HRD
      have HPK := Lib.hid (show nst f fi (n + 1) = pk n (f (fi + n)) (m0, m1, m2) by rw [nst, HM.out])
      have HLT := Lib.hid hlt
      have HRD := Lib.hid HRD
      generalize f (fi + n) = l at *
      have SL := Lib.hid (show (ArrU8 l).size = 256 by rw [ArrU8_size, HFL.out])
      clear d0 d1 d2 hx2
      go_wp2_with fail
      refine HRD.out.mono ?_
      rintro e wa ⟨rfl, hb⟩
      have XA := Lib.hid hb
      clear hb b0 b1 b2
      go_wp2_with (first
        | (refine wpList_store_nwL rfl 52 (Operand.tmp 6) (Operand.tmp 17) rfl wa _ 52 rfl wa.heap.size (ArrU8 l) rfl rfl rfl (by rw [HI35.out, SL.out]) (by rw [SZ.out, SL.out]) (ArrU8_one _) ?_; intro wb hd hb hs; have QB := Lib.hid hd; have XB := Lib.hid hb; have SB := Lib.hid hs; clear hd hb hs)
        | (refine wpList_load_row rfl 52 (Operand.tmp 6) rfl wa.heap.size rfl 52 (ArrU8 l) (0, 0) _ QB.out Try.underlying52 rfl (by rw [HI35.out, SL.out]) ?_))
      refine (markIn_any l wb HFL.out HRL.out).mono ?_
      rintro e wc ⟨rfl, hb⟩
      have XC := Lib.hid hb
      clear hb
      have XWC := Lib.hid (show Below wr.heap.size wr wc from (XA.out.trans (XB.out.mono XA.out.size)).trans (XC.out.mono (by have := XA.out.size; have := XB.out.size; omega)))
      have d0 := (XWC.out.cell (p := ⟨w.heap.size + 1 + 1, 0, none⟩) HLT2.out).trans D0.out
      have HA0 := Lib.hid (nAt_lt l HRL.out 0)
      cases hok : okB l
      · have HNO := Lib.hid (show pk n l (m0, m1, m2) = (m0, m1, m2) by rw [pk, if_neg (by simp [hok])])
        clear hok
        go_wp2_with fail
        have hbf : Below wr.heap.size wr (wc.alloc (.cells #[Value.int .u64 (nAt l 0 : Nat), .int .u64 (nAt l 1 : Nat), .int .u64 (nAt l 2 : Nat)] 83)) := XWC.out.alloc (by have := XWC.out.size; omega) _
        have HBF := Lib.hid hbf
        clear hbf d0
        go_roundw
        case rel =>
          refine ⟨n + 1, by have := HLT.out; omega, by go_num, ?_, HC.out.trans (Chg.fresh (F := fun _ => False) HBF.out) (fun _ h => h.elim)⟩
          rw [HPK.out, HNO.out]
          exact (HBF.out.block _ HLT2.out).trans HX2W.out
        case measure => have := HLT.out; simp [intOf]; omega
      · have HOK := Lib.hid hok
        clear hok
        have hplace := place_any (nAt l 0) (nAt l 1) (nAt l 2) (wc.alloc (.cells #[Value.int .u64 (nAt l 0 : Nat), .int .u64 (nAt l 1 : Nat), .int .u64 (nAt l 2 : Nat)] 83)) HA0.out
        have HPL := Lib.hid hplace
        have HX8 := Lib.hid (heap_alloc_new wc (.cells #[Value.int .u64 (nAt l 0 : Nat), .int .u64 (nAt l 1 : Nat), .int .u64 (nAt l 2 : Nat)] 83))
        have HB8 := Lib.hid (show Below wr.heap.size wr (wc.alloc (.cells #[Value.int .u64 (nAt l 0 : Nat), .int .u64 (nAt l 1 : Nat), .int .u64 (nAt l 2 : Nat)] 83)) from XWC.out.alloc (by have := XWC.out.size; omega) _)
        clear hplace
        by_cases hpl : ((nAt l 0 % 2 : Nat) : Int) = (n : Int)
        · by_cases hgt : (m0 : Int) < (nAt l 0 : Int)
          · have HYES := Lib.hid (show pk n l (m0, m1, m2) = (nAt l 0, nAt l 1, nAt l 2) by rw [pk, if_pos ⟨HOK.out, by omega, by show m0 < nAt l 0; omega⟩])
            go_wp2_with fail
            refine HPL.out.mono ?_
            rintro e wd ⟨rfl, hbd⟩
            have HBD := Lib.hid (show Below wr.heap.size wr wd from HB8.out.trans (hbd.mono HB8.out.size))
            have HXD := Lib.hid ((HBD.out.block _ HLT2.out).trans HX2W.out)
            have HX8D := Lib.hid ((hbd.block wc.heap.size (by simp)).trans HX8.out)
            have x0 := (cell_of_row _ wc.heap.size 0 _ _ _ HX8D.out).trans (show (#[Value.int .u64 (nAt l 0 : Nat), .int .u64 (nAt l 1 : Nat), .int .u64 (nAt l 2 : Nat)] : Array Value)[0]? = some (.int .u64 (nAt l 0 : Nat)) from rfl)
            have x1 := (cell_of_row _ wc.heap.size 1 _ _ _ HX8D.out).trans (show (#[Value.int .u64 (nAt l 0 : Nat), .int .u64 (nAt l 1 : Nat), .int .u64 (nAt l 2 : Nat)] : Array Value)[1]? = some (.int .u64 (nAt l 1 : Nat)) from rfl)
            have x2 := (cell_of_row _ wc.heap.size 2 _ _ _ HX8D.out).trans (show (#[Value.int .u64 (nAt l 0 : Nat), .int .u64 (nAt l 1 : Nat), .int .u64 (nAt l 2 : Nat)] : Array Value)[2]? = some (.int .u64 (nAt l 2 : Nat)) from rfl)
            have d0 := (HBD.out.cell (p := ⟨w.heap.size + 1 + 1, 0, none⟩) HLT2.out).trans D0.out
            have d1 := (HBD.out.cell (p := ⟨w.heap.size + 1 + 1, 1, none⟩) HLT2.out).trans D1.out
            have d2 := (HBD.out.cell (p := ⟨w.heap.size + 1 + 1, 2, none⟩) HLT2.out).trans D2.out
            clear hbd
            have f0 := frozen_of_row _ (w.heap.size + 1 + 1) 0 _ _ HXD.out
            have f1 := frozen_of_row _ (w.heap.size + 1 + 1) 1 _ _ HXD.out
            have f2 := frozen_of_row _ (w.heap.size + 1 + 1) 2 _ _ HXD.out
            go_wp2_with fail
            have hg := set3_chg wd (w.heap.size + 1 + 1) (.int .u64 (nAt l 0 : Nat)) (.int .u64 (nAt l 1 : Nat)) (.int .u64 (nAt l 2 : Nat))
            have hh := set3_row wd (w.heap.size + 1 + 1) (.int .u64 (nAt l 0 : Nat)) (.int .u64 (nAt l 1 : Nat)) (.int .u64 (nAt l 2 : Nat)) _ _ _ _ HXD.out
            have HG := Lib.hid hg
            have HH := Lib.hid hh
            clear hg hh
            go_roundw
            case rel =>
              refine ⟨n + 1, by have := HLT.out; omega, by go_num, ?_, (HC.out.trans (Chg.fresh (F := fun _ => False) HBD.out) (fun _ h => h.elim)).trans HG.out (fun _ h => .inl h)⟩
              rw [HPK.out, HYES.out]
              exact HH.out
            case measure => have := HLT.out; simp [intOf]; omega
          · have HNO := Lib.hid (show pk n l (m0, m1, m2) = (m0, m1, m2) by rw [pk, if_neg (fun h => hgt (by have := h.2.2; show (m0 : Int) < _; have h3 : m0 < nAt l 0 := h.2.2; omega))])
            go_wp2_with fail
            refine HPL.out.mono ?_
            rintro e wd ⟨rfl, hbd⟩
            have HBD := Lib.hid (show Below wr.heap.size wr wd from HB8.out.trans (hbd.mono HB8.out.size))
            have HXD := Lib.hid ((HBD.out.block _ HLT2.out).trans HX2W.out)
            have HX8D := Lib.hid ((hbd.block wc.heap.size (by simp)).trans HX8.out)
            have x0 := (cell_of_row _ wc.heap.size 0 _ _ _ HX8D.out).trans (show (#[Value.int .u64 (nAt l 0 : Nat), .int .u64 (nAt l 1 : Nat), .int .u64 (nAt l 2 : Nat)] : Array Value)[0]? = some (.int .u64 (nAt l 0 : Nat)) from rfl)
            have x1 := (cell_of_row _ wc.heap.size 1 _ _ _ HX8D.out).trans (show (#[Value.int .u64 (nAt l 0 : Nat), .int .u64 (nAt l 1 : Nat), .int .u64 (nAt l 2 : Nat)] : Array Value)[1]? = some (.int .u64 (nAt l 1 : Nat)) from rfl)
            have x2 := (cell_of_row _ wc.heap.size 2 _ _ _ HX8D.out).trans (show (#[Value.int .u64 (nAt l 0 : Nat), .int .u64 (nAt l 1 : Nat), .int .u64 (nAt l 2 : Nat)] : Array Value)[2]? = some (.int .u64 (nAt l 2 : Nat)) from rfl)
            have d0 := (HBD.out.cell (p := ⟨w.heap.size + 1 + 1, 0, none⟩) HLT2.out).trans D0.out
            have d1 := (HBD.out.cell (p := ⟨w.heap.size + 1 + 1, 1, none⟩) HLT2.out).trans D1.out
            have d2 := (HBD.out.cell (p := ⟨w.heap.size + 1 + 1, 2, none⟩) HLT2.out).trans D2.out
            clear hbd
            go_wp2_with fail
            go_roundw
            case rel =>
              refine ⟨n + 1, by have := HLT.out; omega, by go_num, ?_, HC.out.trans (Chg.fresh (F := fun _ => False) HBD.out) (fun _ h => h.elim)⟩
              rw [HPK.out, HNO.out]
              exact (HBD.out.block _ HLT2.out).trans HX2W.out
            case measure => have := HLT.out; simp [intOf]; omega
        · have HNO := Lib.hid (show pk n l (m0, m1, m2) = (m0, m1, m2) by rw [pk, if_neg (fun h => hpl (by have h3 : nAt l 0 % 2 = n := h.2.1; omega))])
          go_wp2_with fail
          refine HPL.out.mono ?_
          rintro e wd ⟨rfl, hbd⟩
          have HBD := Lib.hid (show Below wr.heap.size wr wd from HB8.out.trans (hbd.mono HB8.out.size))
          have HXD := Lib.hid ((HBD.out.block _ HLT2.out).trans HX2W.out)
          have HX8D := Lib.hid ((hbd.block wc.heap.size (by simp)).trans HX8.out)
          have x0 := (cell_of_row _ wc.heap.size 0 _ _ _ HX8D.out).trans (show (#[Value.int .u64 (nAt l 0 : Nat), .int .u64 (nAt l 1 : Nat), .int .u64 (nAt l 2 : Nat)] : Array Value)[0]? = some (.int .u64 (nAt l 0 : Nat)) from rfl)
          have x1 := (cell_of_row _ wc.heap.size 1 _ _ _ HX8D.out).trans (show (#[Value.int .u64 (nAt l 0 : Nat), .int .u64 (nAt l 1 : Nat), .int .u64 (nAt l 2 : Nat)] : Array Value)[1]? = some (.int .u64 (nAt l 1 : Nat)) from rfl)
          have x2 := (cell_of_row _ wc.heap.size 2 _ _ _ HX8D.out).trans (show (#[Value.int .u64 (nAt l 0 : Nat), .int .u64 (nAt l 1 : Nat), .int .u64 (nAt l 2 : Nat)] : Array Value)[2]? = some (.int .u64 (nAt l 2 : Nat)) from rfl)
          have d0 := (HBD.out.cell (p := ⟨w.heap.size + 1 + 1, 0, none⟩) HLT2.out).trans D0.out
          have d1 := (HBD.out.cell (p := ⟨w.heap.size + 1 + 1, 1, none⟩) HLT2.out).trans D1.out
          have d2 := (HBD.out.cell (p := ⟨w.heap.size + 1 + 1, 2, none⟩) HLT2.out).trans D2.out
          clear hbd
          go_wp2_with fail
          go_roundw
          case rel =>
            refine ⟨n + 1, by have := HLT.out; omega, by go_num, ?_, HC.out.trans (Chg.fresh (F := fun _ => False) HBD.out) (fun _ h => h.elim)⟩
            rw [HPK.out, HNO.out]
            exact (HBD.out.block _ HLT2.out).trans HX2W.out
          case measure => have := HLT.out; simp [intOf]; omega
    · obtain rfl : n = 2 := by omega
      have e0 := frozen_of_row _ (w.heap.size + 1) 0 _ _ HX1W.out
      have e1 := frozen_of_row _ (w.heap.size + 1) 1 _ _ HX1W.out
      have e2 := frozen_of_row _ (w.heap.size + 1) 2 _ _ HX1W.out
      have g0 := (cell_of_row _ (w.heap.size + 1) 0 _ _ _ HX1W.out).trans (show (#[Value.int .u64 0, .int .u64 0, .int .u64 0] : Array Value)[0]? = some (.int .u64 0) from rfl)
      have g1 := (cell_of_row _ (w.heap.size + 1) 1 _ _ _ HX1W.out).trans (show (#[Value.int .u64 0, .int .u64 0, .int .u64 0] : Array Value)[1]? = some (.int .u64 0) from rfl)
      have g2 := (cell_of_row _ (w.heap.size + 1) 2 _ _ _ HX1W.out).trans (show (#[Value.int .u64 0, .int .u64 0, .int .u64 0] : Array Value)[2]? = some (.int .u64 0) from rfl)
      have hbl : ∀ u : World, (Instr.build 83 #[]).run Try.prog u = .ok (.agg #[.int .u64 0, .int .u64 0, .int .u64 0]) u := fun u => by kernel_rfl
      have hq : Below w.heap.size w wr := HB3.out.trans (HC.out.below (fun k hk => by subst hk; omega) HB3.out.size)
      have HQ := Lib.hid hq
      have h64 := Lib.hid (show m0 < 18446744073709551616 from by have := nst_lt f fi HR.out 2; rw [HM.out] at this; exact this)
      clear hq hlt hx2
      by_cases h0 : (m0 : Int) = 0
      · go_wp2_with fail
        have hg := set3_chg wr (w.heap.size + 1) (.int .u64 0) (.int .u64 0) (.int .u64 0)
        have hh := set3_row wr (w.heap.size + 1) (.int .u64 0) (.int .u64 0) (.int .u64 0) _ _ _ _ HX1W.out
        refine bodyPost_ret (results_cell_tmp (p := 2) (q := 3) (ty := 83) rfl _ _ (w.heap.size + 1) 83 #[.int .u64 0, .int .u64 0, .int .u64 0] (0, 0) _ rfl hh Try.underlying83 rfl (by kernel_rfl)) rfl ⟨?_, HQ.out.trans (hg.below (fun k hk => by subst hk; omega) HQ.out.size)⟩
        rw [HM.out, nmRes, if_pos (by show m0 = 0; omega)]
        rfl
      · go_wp2_with fail
        have hg := set3_chg wr (w.heap.size + 1) (.int .u64 m0) (.int .u64 m1) (.int .u64 m2)
        have hh := set3_row wr (w.heap.size + 1) (.int .u64 m0) (.int .u64 m1) (.int .u64 m2) _ _ _ _ HX1W.out
        refine bodyPost_ret (results_cell_tmp (p := 2) (q := 3) (ty := 83) rfl _ _ (w.heap.size + 1) 83 #[.int .u64 m0, .int .u64 m1, .int .u64 m2] (0, 0) _ rfl hh Try.underlying83 rfl (by kernel_rfl)) rfl ⟨?_, HQ.out.trans (hg.below (fun k hk => by subst hk; omega) HQ.out.size)⟩
        rw [HM.out, nmRes, if_neg (by show ¬ m0 = 0; omega)]
        rfl
end Go.Proofs.Ytaibminomehppaa
