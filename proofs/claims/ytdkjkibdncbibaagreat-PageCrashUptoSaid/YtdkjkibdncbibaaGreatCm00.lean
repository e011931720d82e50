import Derived.Test.YtdkjkibdncbibaaGreatProg
import Derived.WalkKit
import Derived.ProofKit
import Derived.BigQuiet
import Derived.Deep.QuietTactic
import Derived.WalkSpells
import Derived.WalkLawsBesides
import Derived.Lib.Hide
import Derived.Deep.MidRow
import Derived.Deep.RegionLaw
import Derived.BigRegion
import Derived.Laws.AppendOwnNone
import Derived.Deep.DeepMust
import Derived.Deep.AppendLies
import Derived.RegionTactic
import Derived.Deep.WholeRow
import Derived.BigFrame
import Derived.Deep.RegionWith
import Derived.Deep.RegionHeld3
import Derived.Maps.RangeWalk
import Derived.Laws.CopyOwn
import Derived.StillTailTactics
import Derived.Maps.Keyed
import Derived.MapKept
import Derived.Deep.Cut
import Derived.Great.BuildSlice
import Derived.OrdersHeld
namespace Go.Proofs.YtdkjkibdncbibaaGreat
open Go.RowKit
open Go.Lib (hid)
theorem sA {α : Type _} (l : List α) (i : Nat) (a : α) : l.toArray.setIfInBounds i a = (l.set i a).toArray := List.setIfInBounds_toArray ..
theorem sB {α : Type _} {x : α} {xs : List α} {a : α} : (x :: xs).set 0 a = a :: xs := List.set_cons_zero ..
theorem sC {α : Type _} {x : α} {xs : List α} {n : Nat} {a : α} : (x :: xs).set (n + 1) a = x :: xs.set n a := List.set_cons_succ ..
theorem tk {P : Program} {ops : Array Oper} {Q : Exit → Act → World → Prop} {md : Region.Mode} {S : World → Prop} {i : Nat} {oi : Oper} {v : Value} {fuel : Nat} {listed : Array Bool} {a : Act} {w : World} (hy : YieldsIf P ops S oi v a)
  (h : wpAnyH P md ops Q S fuel (listed.setIfInBounds i true) (a.put oi.dst v) w) (hi : ops[i]? = some oi := by rfl) (hs : Region.noSelect ops = true := by kernel_rfl) (hf : Region.free md ops listed i = true := by kernel_rfl) (hr : (Region.ready md ops listed).contains i = true := by kernel_rfl)
  (hQ : ∀ c a w, Q (.panic c) (a.put oi.dst v) w → Q (.panic c) a w := by exact fun _ _ _ h => h) (hS : S w := by assumption) : wpAnyH P md ops Q S (fuel + 1) listed a w := wpAnyH_take hi hs hf hr hQ hy hS h
/-- the six cells of a disk -/
def DC (nb rm fz : Int) (dn : Bool) (m lv : Value) : Array Value := #[.int .i64 nb, .int .i64 rm, .int .i64 fz, .bool dn, m, lv]
def DiskIs (w : World) (D : Nat) (c : Array Value) : Prop := w.heap[D]? = some (.cells c 93 (0, 0))
theorem DiskIs.cell {w : World} {D : Nat} {c : Array Value} (h : DiskIs w D c) (i : Nat) : w.cell? ⟨D, i, none⟩ = c[i]? := cell_of_row w D i c 93 (0, 0) h
theorem DiskIs.frozen {w : World} {D : Nat} {c : Array Value} (h : DiskIs w D c) (i : Nat) : w.frozen? ⟨D, i, none⟩ = false := frozen_of_row w D i c 93 h
theorem DiskIs.set {w : World} {D : Nat} {c : Array Value} (h : DiskIs w D c) (i : Nat) (v : Value) : DiskIs (w.setCell ⟨D, i, none⟩ v) D (c.setIfInBounds i v) := heap_setCell_same w D i c 93 v h
theorem grownBy_setCell (w : World) (a : Addr) (v : Value) : w.grownBy (w.setCell a v) (some a.block) :=
 ⟨rfl, rfl, rfl, by simp, fun k _ hk => heap_setCell_other w a k v (fun e => hk (by rw [e]))⟩
theorem grownBy_trans {a b c : World} {row : Option Nat} (h : a.grownBy b row) (k : b.grownBy c row) : a.grownBy c row :=
 ⟨k.os.trans h.os, k.tape.trans h.tape, k.output.trans h.output, Nat.le_trans h.size k.size, fun i hi hr => (k.block i (Nat.lt_of_lt_of_le hi h.size) hr).trans (h.block i hi hr)⟩
theorem ret_b {a b : Bool} (h : a = b) : Ending.returned (.bool a) = Ending.returned (.bool b) := by rw [h]
/-- what an operation does to the fuse and to whether the disk is down -/
def opOk (fz : Int) (dn : Bool) : Bool := !dn && !decide (fz = 0)
def opFz (fz : Int) (dn : Bool) : Int := if dn then fz else if fz = 0 then -1 else if 0 < fz then fz - 1 else fz
def opDn (fz : Int) (dn : Bool) : Bool := dn || decide (fz = 0)
theorem operates_any (D : Nat) (nb rm fz : Int) (dn : Bool) (m lv : Value) (w : World) (hd : DiskIs w D (DC nb rm fz dn m lv)) (hf : -1 ≤ fz) (hf2 : fz ≤ 9223372036854775807) :
    Calls Tryz.prog 53 #[.pointer (some ⟨D, 0, none⟩)] w fun e w' => e = .returned (.bool (opOk fz dn)) ∧ DiskIs w' D (DC nb rm (opFz fz dn) (opDn fz dn) m lv) ∧ w.grownBy w' (some D) ∧ w'.heap.size = w.heap.size := by
  have HD := hid hd
  have c2 : w.cell? ⟨D, 2, none⟩ = some (.int .i64 fz) := hd.cell 2
  have c3 : w.cell? ⟨D, 3, none⟩ = some (.bool dn) := hd.cell 3
  have f2 := hd.frozen 2
  have f3 := hd.frozen 3
  clear hd
  cases dn
  · by_cases h0 : fz = 0
    · subst h0
      go_enter Tryz.func53, Tryz.ntmps53
      go_wp2
      go_ret
      exact ⟨rfl, (HD.out.set 3 (.bool true)).set 2 (.int .i64 (-1)), grownBy_trans (grownBy_setCell _ _ _) (grownBy_setCell _ _ _), by simp⟩
    · by_cases h1 : 0 < fz
      · go_enter Tryz.func53, Tryz.ntmps53
        go_wp2
        go_ret
        refine ⟨ret_b (by simp [opOk, h0]), ?_, grownBy_setCell _ _ _, by simp⟩
        have := HD.out.set 2 (.int .i64 (fz - 1))
        simpa [opFz, opDn, h0, h1, DC] using this
      · go_enter Tryz.func53, Tryz.ntmps53
        go_wp2
        go_ret
        refine ⟨ret_b (by simp [opOk, h0]), ?_, World.grownBy.refl _ _, rfl⟩
        have e1 : opFz fz false = fz := by unfold opFz; rw [if_neg (by simp), if_neg h0, if_neg (by omega)]
        have e2 : opDn fz false = false := by simp [opDn, h0]
        rw [e1, e2]; exact HD.out
  · go_enter Tryz.func53, Tryz.ntmps53
    go_wp2
    go_ret
    exact ⟨rfl, HD.out, World.grownBy.refl _ _, rfl⟩
def hasB (nb n : Int) : Bool := decide (0 ≤ n) && decide (n < nb)
theorem has_any (D : Nat) (nb n : Int) (c : Array Value) (w : World) (hd : DiskIs w D c) (h0 : c[0]? = some (.int .i64 nb)) :
  Calls Tryz.prog 64 #[.pointer (some ⟨D, 0, none⟩), .int .i64 n] w fun e w' => w = w' ∧ e = .returned (.bool (hasB nb n)) := by
 have c0 : w.cell? ⟨D, 0, none⟩ = some (.int .i64 nb) := (hd.cell 0).trans h0
 clear hd h0
 by_cases hn : 0 ≤ n
 ·go_enter Tryz.func64, Tryz.ntmps64
  go_wp2
  go_ret
  exact ⟨rfl, ret_b (by simp [hasB, hn])⟩
 ·have hn' : n < 0 := by omega
  go_enter Tryz.func64, Tryz.ntmps64
  go_wp2
  go_ret
  exact ⟨rfl, ret_b (by simp [hasB]; omega)⟩
theorem sync_any (D : Nat) (nb rm fz : Int) (dn : Bool) (m lv : Value) (w : World) (hd : DiskIs w D (DC nb rm fz dn m lv)) (hf : -1 ≤ fz) (hf2 : fz ≤ 9223372036854775807) :
  Calls Tryz.prog 14 #[.pointer (some ⟨D, 0, none⟩)] w fun e w' => e = .returned (.int .i64 (if opOk fz dn = true then 0 else 44)) ∧ DiskIs w' D (DC nb rm (opFz fz dn) (opDn fz dn) m (if opOk fz dn = true then .slice none 0 0 else lv)) ∧ w.grownBy w' (some D) ∧ w'.heap.size = w.heap.size := by
 go_enter Tryz.func14, Tryz.ntmps14
 go_wp2_with fail
 refine (operates_any D nb rm fz dn m lv w hd hf hf2).mono ?_
 rintro e w1 ⟨rfl, hd1, hg1, hs1⟩
 have HD1 := hid hd1
 have HG1 := hid hg1
 have HS1 := hid hs1
 have c5 : w1.cell? ⟨D, 5, none⟩ = some lv := hd1.cell 5
 have f5 := hd1.frozen 5
 clear hd hd1 hg1 hs1
 cases hop : opOk fz dn
 ·go_wp2
  all_goals go_ret
  all_goals exact ⟨rfl, HD1.out, HG1.out, HS1.out⟩
 ·go_wp2
  all_goals go_ret
  all_goals exact ⟨rfl, HD1.out.set 5 (.slice none 0 0), grownBy_trans HG1.out (grownBy_setCell _ _ _), by simp [HS1.out]⟩
end Go.Proofs.YtdkjkibdncbibaaGreat
namespace Go.Proofs.YtdkjkibdncbibaaGreat
open Go.RowKit
open Go.Lib (hid)
def zeros (n : Nat) : List Int := List.replicate n 0
def ArrU8 (bs : List Int) : Array Value := (bs.map (Value.int .u8)).toArray
/-- the entries of a map of blocks, in their order -/
def KV (es : List MapEntry) (kvs : List (Int × List Int)) : Prop := es.map (fun e => (e.key, e.val)) = kvs.map fun p => (Value.int .i64 p.1, Value.agg (ArrU8 p.2))
def kidx : List (Int × List Int) → Int → Option (Nat × List Int)
 | [], _ => none
 | p :: r, n => if n = p.1 then some (0, p.2) else (kidx r n).map fun q => (q.1 + 1, q.2)
theorem findNow_kv (n : Int) : ∀ (es : List MapEntry) (kvs : List (Int × List Int)) (i : Nat), KV es kvs → Instr.findNow (.int .i64) (.int .i64 n) es i = some ((kidx kvs n).map fun q => (i + q.1, Value.agg (ArrU8 q.2)))
 | [], [], i, _ => rfl
 | [], _ :: _, _, h => by simp [KV] at h
 | _ :: _, [], _, h => by simp [KV] at h
 | e :: es, p :: r, i, h => by
  simp only [KV, List.map_cons, List.cons.injEq, Prod.mk.injEq] at h
  obtain ⟨⟨h1, h2⟩, h3⟩ := h
  have ih := findNow_kv n es r (i + 1) h3
  unfold Instr.findNow
  rw [h1]
  by_cases hn : n = p.1
  ·subst hn
   simp [Instr.sameNow, kidx, h2]
  ·have hb : (n == p.1) = false := by simpa using hn
   simp only [Instr.sameNow, if_true, hb, ih, kidx, if_neg hn]
   congr 1
   cases kidx r n with
   | none => rfl
   | some q => simp; omega
def kget (kvs : List (Int × List Int)) (n : Int) : List Int := ((kidx kvs n).map (·.2)).getD (zeros 256)
def kput (kvs : List (Int × List Int)) (n : Int) (l : List Int) : List (Int × List Int) :=
 match kidx kvs n with
 | some q => kvs.set q.1 (n, l)
 | none => kvs ++ [(n, l)]
def MapIs (w : World) (M : Nat) (kvs : List (Int × List Int)) : Prop := ∃ es clock, w.heap[M]? = some (.map es clock) ∧ KV es.toList kvs ∧ MapKept.Stamped es clock
/-- (a seat that is loaded in parts names this block's noughts) -/
@[simp] theorem zeroCells_blk : Tryz.zeroCells50 = ArrU8 (zeros 256) := by kernel_rfl
theorem zero35 (w : World) : (zeroValue 50).run Tryz.prog w = .ok (.agg (ArrU8 (zeros 256))) w := by kernel_rfl
theorem run_findKey_kv (w : World) (n : Int) (es : List MapEntry) (kvs : List (Int × List Int)) (h : KV es kvs) :
  (Instr.findKey 3 (.int .i64 n) es).run Tryz.prog w = .ok ((kidx kvs n).map fun q => (q.1, Value.agg (ArrU8 q.2))) w := by
 unfold Instr.findKey
 simp only [Sem.run_bind, run_underlying Tryz.underlying3, Result.andThen_ok, findNow_kv n es kvs 0 h, Nat.zero_add, Sem.run_pure]
theorem run_checkKey3 (w : World) (em : Bool) (n : Int) : (Instr.checkKey em 10000 3 (.int .i64 n)).run Tryz.prog w = .ok () w := by
 show (Instr.checkKey em (9999 + 1) 3 (.int .i64 n)).run Tryz.prog w = _
 unfold Instr.checkKey
 simp only [Sem.run_bind, run_underlying Tryz.underlying3, Result.andThen_ok]
 rfl
theorem run_lookup_kv (w : World) (M : Nat) (n : Int) (kvs : List (Int × List Int)) (h : MapIs w M kvs) :
  (Instr.lookup 76 (.map (some M)) (.int .i64 n) false).run Tryz.prog w = .ok (.agg (ArrU8 (kget kvs n))) w := by
 obtain ⟨es, clock, hM, hkv, _⟩ := h
 have hg : (getObj M).run Tryz.prog w = .ok (.map es clock) w := by simp [getObj, Sem.run, hM]
 unfold Instr.lookup
 simp only [Sem.run_bind, run_underlying Tryz.underlying76, Result.andThen_ok, hg, Sem.run_pure, run_checkKey3, run_findKey_kv w n es.toList kvs hkv, kget]
 cases hk : kidx kvs n with
 | none => simp
 | some q => simp [Sem.run_pure]
theorem kidx_get (n : Int) : ∀ (kvs : List (Int × List Int)) (q : Nat × List Int), kidx kvs n = some q → kvs[q.1]? = some (n, q.2)
 | [], q, h => by simp [kidx] at h
 | p :: r, q, h => by
  unfold kidx at h
  by_cases hn : n = p.1
  ·rw [if_pos hn] at h
   injection h with h
   subst h
   simp [hn]
  ·rw [if_neg hn, Option.map_eq_some_iff] at h
   obtain ⟨q', h1, rfl⟩ := h
   simpa using kidx_get n r q' h1
theorem kv_set {es : List MapEntry} {kvs : List (Int × List Int)} (h : KV es kvs) (j : Nat) (k : Int) (l : List Int) (f : MapEntry → MapEntry) (hf : ∀ e, (f e).key = .int .i64 k ∧ (f e).val = .agg (ArrU8 l)) : KV (es.modify j f) (kvs.set j (k, l)) := by
  unfold KV at *
  apply List.ext_getElem?
  intro i
  have hi := congrArg (fun x => x[i]?) h
  simp only [List.getElem?_map] at hi ⊢
  rw [List.getElem?_modify, List.getElem?_set]
  by_cases hj : j = i
  · subst hj
    rw [if_pos rfl]
    cases he : es[j]? with
    | none =>
      rw [he] at hi
      cases hk : kvs[j]? with
      | none => have := List.getElem?_eq_none_iff.1 hk; rw [if_neg (by omega)]; rfl
      | some p => rw [hk] at hi; cases hi
    | some e =>
      rw [he] at hi
      cases hk : kvs[j]? with
      | none => rw [hk] at hi; cases hi
      | some p =>
        have := (List.getElem?_eq_some_iff.1 hk).1
        rw [if_pos this]
        simp [(hf e).1, (hf e).2]
  · rw [if_neg hj]
    simpa [hj] using hi
def putM (w : World) (M : Nat) (o : Obj) : World := { w with heap := w.heap.setIfInBounds M o }
theorem kidx_miss (n : Int) : ∀ (es : List MapEntry) (kvs : List (Int × List Int)), KV es kvs → kidx kvs n = none → ∀ x ∈ es, x.key ≠ .int .i64 n
 | [], _, _, _ => fun x hx => by cases hx
 | _ :: _, [], h, _ => by simp [KV] at h
 | e :: es, p :: r, h, hk => by
  simp only [KV, List.map_cons, List.cons.injEq, Prod.mk.injEq] at h
  obtain ⟨⟨h1, _⟩, h3⟩ := h
  unfold kidx at hk
  by_cases hn : n = p.1
  ·rw [if_pos hn] at hk; cases hk
  ·rw [if_neg hn, Option.map_eq_none_iff] at hk
   intro x hx
   rcases List.mem_cons.1 hx with rfl | hx
   ·rw [h1]; intro e; injection e with _ e; exact hn e.symm
   ·exact kidx_miss n es r h3 hk x hx
theorem run_update_kv (w : World) (M : Nat) (n : Int) (l : List Int) (kvs : List (Int × List Int)) (h : MapIs w M kvs) :
  ∃ w', (Instr.mapUpdate 76 (.map (some M)) (.int .i64 n) (.agg (ArrU8 l))).run Tryz.prog w = .ok () w' ∧ MapIs w' M (kput kvs n l) ∧ w.grownBy w' (some M) ∧ w'.heap.size = w.heap.size := by
 obtain ⟨es, clock, hM, hkv, hst0⟩ := h
 have hlt : M < w.heap.size := by rcases Nat.lt_or_ge M w.heap.size with h | h; exact h; rw [Array.getElem?_eq_none h] at hM; cases hM
 have hg : (getObj M).run Tryz.prog w = .ok (.map es clock) w := by simp [getObj, Sem.run, hM]
 have hset : ∀ o : Obj, (setObj M o).run Tryz.prog w = .ok () (putM w M o) := fun o => by simp [setObj, Sem.run, hM, putM]
 have hst : ∀ v : Value, (Instr.keyThatStays (.int .i64 n) (.int .i64 n)).run Tryz.prog w = .ok (.int .i64 n) w := fun _ => by simp [Instr.keyThatStays, Instr.sameBits]
 have hgr : ∀ o : Obj, w.grownBy (putM w M o) (some M) := fun o => ⟨rfl, rfl, rfl, by simp [putM], fun k _ hk => by
  have : M ≠ k := fun e => hk (by rw [e])
  simp [putM, this]⟩
 have hat : ∀ o : Obj, (putM w M o).heap[M]? = some o := fun o => by simp [putM, hlt]
 have hsz : ∀ o : Obj, (putM w M o).heap.size = w.heap.size := fun o => by simp [putM]
 unfold Instr.mapUpdate
 simp only [Sem.run_bind, run_underlying Tryz.underlying76, Result.andThen_ok, hg, run_checkKey3, run_findKey_kv w n es.toList kvs hkv, kput]
 cases hk : kidx kvs n with
 | none =>
  refine ⟨_, hset _, ⟨_, _, hat _, ?_, MapKept.stamped_push hst0 (fun x hx e => kidx_miss n es.toList kvs hkv hk x hx e)⟩, hgr _, hsz _⟩
  simp only [KV, Array.toList_push, List.map_append, List.map_cons, List.map_nil] at hkv ⊢
  rw [hkv]
 | some q =>
  have h1 := kidx_get n kvs q hk
  have h2 := congrArg (fun x => x[q.1]?) hkv
  simp only [List.getElem?_map, h1, Option.map_some] at h2
  have h3 : (es[q.1]?).map (·.key) = some (.int .i64 n) := by
   cases he : es[q.1]? with
   | none => simp [he] at h2
   | some e => simp [he] at h2; simp [h2.1]
  simp only [Option.map_some, h3, Option.getD_some, Sem.run_bind, hst undef, Result.andThen_ok]
  refine ⟨_, hset _, ⟨_, _, hat _, ?_, MapKept.stamped_modify hst0 q.1 _ (fun e _ => rfl) (fun e _ he => ?_)⟩, hgr _, hsz _⟩
  case refine_2 => simp [he] at h3; exact h3.symm
  rw [Array.toList_modify]
  exact kv_set hkv q.1 n l _ (fun e => ⟨rfl, rfl⟩)
end Go.Proofs.YtdkjkibdncbibaaGreat
namespace Go.Proofs.YtdkjkibdncbibaaGreat
open Go.RowKit
open Go.Lib (hid)
theorem down_any (D : Nat) (nb rm fz : Int) (dn : Bool) (m lv : Value) (w : World) (hd : DiskIs w D (DC nb rm fz dn m lv)) :
  Calls Tryz.prog 54 #[.pointer (some ⟨D, 0, none⟩)] w fun e w' => w = w' ∧ e = .returned (.bool dn) := by
 have c3 : w.cell? ⟨D, 3, none⟩ = some (.bool dn) := hd.cell 3
 clear hd
 go_enter Tryz.func54, Tryz.ntmps54
 go_wp2
 go_ret
 exact ⟨rfl, rfl⟩
theorem blocks_any (D : Nat) (nb rm fz : Int) (dn : Bool) (m lv : Value) (w : World) (hd : DiskIs w D (DC nb rm fz dn m lv)) :
  Calls Tryz.prog 65 #[.pointer (some ⟨D, 0, none⟩)] w fun e w' => w = w' ∧ e = .returned (.int .i64 nb) := by
 have c0 : w.cell? ⟨D, 0, none⟩ = some (.int .i64 nb) := hd.cell 0
 clear hd
 go_enter Tryz.func65, Tryz.ntmps65
 go_wp2
 go_ret
 exact ⟨rfl, rfl⟩
theorem arm_any (D : Nat) (nb rm fz n : Int) (dn : Bool) (m lv : Value) (w : World) (hd : DiskIs w D (DC nb rm fz dn m lv)) :
  Calls Tryz.prog 15 #[.pointer (some ⟨D, 0, none⟩), .int .i64 n] w fun e w' => e = .returned (.tuple #[]) ∧ DiskIs w' D (DC nb rm (if 0 ≤ n then n else -1) dn m lv) ∧ w.grownBy w' (some D) ∧ w'.heap.size = w.heap.size := by
 have HD := hid hd
 have c2 : w.cell? ⟨D, 2, none⟩ = some (.int .i64 fz) := hd.cell 2
 have f2 := hd.frozen 2
 clear hd
 by_cases h0 : 0 ≤ n
 ·rw [if_pos h0]
  have h1 : -1 < n := by omega
  go_enter Tryz.func15, Tryz.ntmps15
  go_wp2
  all_goals go_end0
  all_goals exact ⟨rfl, HD.out.set 2 _, grownBy_setCell _ _ _, by simp⟩
 ·rw [if_neg h0]
  by_cases h2 : n = -1
  ·subst h2
   go_enter Tryz.func15, Tryz.ntmps15
   go_wp2
   all_goals go_end0
   all_goals exact ⟨rfl, HD.out.set 2 _, grownBy_setCell _ _ _, by simp⟩
  ·have h1 : n < -1 := by omega
   go_enter Tryz.func15, Tryz.ntmps15
   go_wp2
   all_goals go_end0
   all_goals exact ⟨rfl, HD.out.set 2 _, grownBy_setCell _ _ _, by simp⟩
theorem new_any (n : Int) (w : World) (h1 : 1 ≤ n) (h2 : n ≤ 4096) :
  Calls Tryz.prog 26 #[.int .i64 n] w fun e w' => e = .returned (.pointer (some ⟨w.heap.size + 1, 0, none⟩)) ∧ w' = (w.alloc (.map #[] 0)).alloc (.cells (DC n n (-1) false (.map (some w.heap.size)) (.slice none 0 0)) 93) := by
 have hmm : ∀ u : World, (Instr.makeMap 76 none).run Tryz.prog u = .ok (.map (some u.heap.size)) (u.alloc (.map #[] 0)) := fun _ => rfl
 have hbd : ∀ u : World, (Instr.build 93 #[(0, .int .i64 n), (1, .int .i64 n), (2, .int .i64 (-1)), (4, .map (some w.heap.size))]).run Tryz.prog u = .ok (.agg (DC n n (-1) false (.map (some w.heap.size)) (.slice none 0 0))) u := fun _ => by kernel_rfl
 go_enter Tryz.func26, Tryz.ntmps26
 go_wp2
 go_ret
 exact ⟨rfl, rfl⟩
/-- block(b): bytes that go on from b by threes -/
def blkOf (b : Int) : List Int := (List.range 256).map fun i : Nat => (b + (i : Int) * 3) % 256
theorem blkOf_len (b : Int) : (blkOf b).length = 256 := by simp [blkOf]
theorem blkOf_get (b : Int) (i : Nat) (h : i < 256) : (blkOf b)[i]? = some ((b + (i : Int) * 3) % 256) := by
 simp [blkOf, h]
def DR (l : List Int) (i : Nat) : Array Value := ArrU8 (l.take i ++ zeros (256 - i))
theorem DR_size (l : List Int) (i : Nat) (hl : l.length = 256) (hi : i ≤ 256) : (DR l i).size = 256 := by
 simp [DR, ArrU8, zeros, hl]; omega
theorem DR_get (l : List Int) (i j : Nat) (hl : l.length = 256) (hi : i ≤ 256) (hj : j < 256) : ∃ x, (DR l i)[j]? = some (.int .u8 x) := by
 have : j < (DR l i).size := by rw [DR_size l i hl hi]; exact hj
 rw [Array.getElem?_eq_getElem this]
 simp only [DR, ArrU8, List.getElem_toArray, List.getElem_map]
 exact ⟨_, rfl⟩
theorem DR_set (l : List Int) (i : Nat) (hl : l.length = 256) (hi : i < 256) (x : Int) (hx : l[i]? = some x) : (DR l i).setIfInBounds i (.int .u8 x) = DR l (i + 1) := by
 have hx2 : l[i]'(by omega) = x := by have := hx; rw [List.getElem?_eq_getElem (by omega)] at this; exact Option.some.inj this
 simp only [DR, ArrU8, sA]
 congr 1
 rw [List.take_succ_eq_append_getElem (by omega), hx2, show 256 - i = (256 - (i + 1)) + 1 by omega]
 simp only [zeros, List.replicate_succ, List.map_append, List.map_cons]
 rw [List.set_append_right _ _ (by simp; omega)]
 simp [List.length_take, hl, Nat.min_eq_left (Nat.le_of_lt hi)]
theorem DR_end (l : List Int) (hl : l.length = 256) : DR l 256 = ArrU8 l := by
 simp only [DR, zeros]
 rw [List.take_of_length_le (by omega)]
 simp
theorem ArrU8_one (l : List Int) : (ArrU8 l).all (·.oneCell') = true := by simp [ArrU8, Value.oneCell']
theorem ArrU8_size (l : List Int) : (ArrU8 l).size = l.length := by simp [ArrU8]
end Go.Proofs.YtdkjkibdncbibaaGreat
namespace Go.Proofs.YtdkjkibdncbibaaGreat
open Go.RowKit
open Go.Lib (hid)
theorem results_cell_tmp {P : Program} {fn : Func} {p q : Tmp} {ty : TypeId} (h : fn.results = #[.cell p ty, .tmp q]) (tmps : Array Value) (w : World) (g : Nat) (t : TypeId) (cs : Array Value) (fr : Nat × Nat) (d : TypeDesc)
  (hp : tmps.getD p undef = .pointer (some ⟨g, 0, none⟩)) (hg : w.heap[g]? = some (.cells cs t fr))
  (hu : P.underlying ty = some d) (hd : (match d with | .struct _ | .array _ _ => true | _ => false) = true) (hi : (P.info? ty).map (·.size) = some cs.size) :
  (results fn tmps).run P w = .ok (.tuple #[.agg cs, tmps.getD q undef]) w := by
 have hp' : tmps[p]?.getD undef = .pointer (some ⟨g, 0, none⟩) := by simpa using hp
 simp [results, h, hp', asAddr, run_loadVar_row w g t ty cs fr d hg hu hd hi]
def readErr (nb n : Int) (dn : Bool) : Int := if dn then 44 else if hasB nb n then 0 else 2
def readBlk (nb n : Int) (dn : Bool) (kvs : List (Int × List Int)) : List Int := if dn then zeros 256 else if hasB nb n then kget kvs n else zeros 256
theorem wpList_store_new {P : Program} {ops : Array Oper} {rest : List Oper} {o : Oper} {a : Act} {w0 : World} {Q : Exit → Act → World → Prop} (hgd : o.guard = none) (ty : TypeId) (x y : Operand) (ho : o.op = .store ty x y)
  (H : Nat) (cells : Array Value) (hx : a.eval x = .pointer (some ⟨H, 0, none⟩)) (hy : a.eval y = .agg cells) (hH : w0.heap.size = H)
  (old : Array Value) (T : TypeId) (hi : (P.info? ty).map (·.size) = some cells.size) (hold : old.size = cells.size) (h1 : cells.all (·.oneCell') = true)
  (h : ∀ w', w'.heap[H]? = some (.cells cells T (0, 0)) → Below H w0 w' → w'.heap.size = H + 1 → wpList P ops Q rest (a.put o.dst undef) w') : wpList P ops Q (o :: rest) a (w0.alloc (.cells old T)) := by
 subst hH
 refine wpList_store_row hgd ty x y ho w0.heap.size cells hx hy T old (heap_alloc_new _ _) hi hold h1 (h _ (setRow_heap _ _ _ _ _ _ (heap_alloc_new _ _)) ?_ ?_)
 ·exact below_setRow ((Below.refl _ _).alloc (Nat.le_refl _) _) (Nat.le_refl _) _
 ·simp [World.setRow]
set_option maxRecDepth 100000 in
set_option maxHeartbeats 1000000 in
theorem read_any (D M : Nat) (nb rm fz n : Int) (dn : Bool) (lv : Value) (kvs : List (Int × List Int)) (w : World) (hd : DiskIs w D (DC nb rm fz dn (.map (some M)) lv)) (hm : MapIs w M kvs) (hl : (kget kvs n).length = 256) :
  Calls Tryz.prog 93 #[.pointer (some ⟨D, 0, none⟩), .int .i64 n] w fun e w' => e = .returned (.tuple #[.agg (ArrU8 (readBlk nb n dn kvs)), .int .i64 (readErr nb n dn)]) ∧ Below w.heap.size w w' := by
 have hz := zero35
 have hbl : ∀ u : World, (Instr.build 50 #[]).run Tryz.prog u = .ok (.agg (ArrU8 (zeros 256))) u := fun u => by kernel_rfl
 have hlt : D < w.heap.size := (Array.getElem?_eq_some_iff.1 hd).1
 have c3 : w.cell? ⟨D, 3, none⟩ = some (.bool dn) := hd.cell 3
 have c4 : w.cell? ⟨D, 4, none⟩ = some (.map (some M)) := hd.cell 4
 have SZ := hid (show (ArrU8 (zeros 256)).size = 256 by rw [ArrU8_size, zeros, List.length_replicate])
 have HI := hid (show (Tryz.prog.info? 50).map (·.size) = some 256 by kernel_rfl)
 cases dn with
 | true =>
  go_enter Tryz.func93, Tryz.ntmps93
  go_wp2_with (refine wpList_store_new rfl 50 (Operand.tmp 4) (Operand.tmp 10) rfl w.heap.size (ArrU8 (zeros 256)) rfl rfl rfl _ 50 (by rw [HI.out, SZ.out]) rfl (ArrU8_one _) ?_; intro w2 hd2 hb2 hs2; have HD2 := hid hd2; have HB2 := hid hb2; clear hd2 hb2 hs2)
  refine bodyPost_ret (results_cell_tmp (p := 4) (q := 5) (ty := 50) rfl _ w2 w.heap.size 50 (ArrU8 (zeros 256)) (0, 0) _ rfl HD2.out Tryz.underlying50 rfl (by rw [HI.out, SZ.out])) rfl ⟨?_, HB2.out⟩
  rfl
 | false =>
  have hd1 : DiskIs (w.alloc (.cells (ArrU8 (zeros 256)) 50)) D (DC nb rm fz false (.map (some M)) lv) := (heap_alloc_old _ _ hlt).trans hd
  have hm1 : MapIs (w.alloc (.cells (ArrU8 (zeros 256)) 50)) M kvs := by
   obtain ⟨es, c, h1, h2⟩ := hm
   exact ⟨es, c, (heap_alloc_old _ _ (Array.getElem?_eq_some_iff.1 h1).1).trans h1, h2⟩
  have hlk := run_lookup_kv _ M n kvs hm1
  have SK := hid (show (ArrU8 (kget kvs n)).size = 256 by rw [ArrU8_size, hl])
  have hh := has_any D nb n _ _ hd1 rfl
  have HH := hid hh
  have HM := hid hlk
  clear hh hd1 hm1 hlk hm hd
  cases hb : hasB nb n with
  | false =>
   rw [hb] at HH
   have HE := hid hb
   clear hb
   go_enter Tryz.func93, Tryz.ntmps93
   go_wp2_with (first
    | (go_at_call 64; refine HH.out.mono ?_; rintro e w' ⟨rfl, rfl⟩)
    | (refine wpList_store_new rfl 50 (Operand.tmp 4) (Operand.tmp 15) rfl w.heap.size (ArrU8 (zeros 256)) rfl rfl rfl _ 50 (by rw [HI.out, SZ.out]) rfl (ArrU8_one _) ?_; intro w2 hd2 hb2 hs2; have HD2 := hid hd2; have HB2 := hid hb2; clear hd2 hb2 hs2))
   refine bodyPost_ret (results_cell_tmp (p := 4) (q := 5) (ty := 50) rfl _ w2 w.heap.size 50 (ArrU8 (zeros 256)) (0, 0) _ rfl HD2.out Tryz.underlying50 rfl (by rw [HI.out, SZ.out])) rfl ⟨?_, HB2.out⟩
   simp only [readErr, readBlk, HE.out]; rfl
  | true =>
   rw [hb] at HH
   have HE := hid hb
   have hlk := HM.out
   clear hb
   go_enter Tryz.func93, Tryz.ntmps93
   go_wp2_with (first
    | (go_at_call 64; refine HH.out.mono ?_; rintro e w' ⟨rfl, rfl⟩)
    | (refine wpList_store_new rfl 50 (Operand.tmp 4) (Operand.tmp 21) rfl w.heap.size (ArrU8 (kget kvs n)) rfl rfl rfl _ 50 (by rw [HI.out, SK.out]) (by rw [SZ.out, SK.out]) (ArrU8_one _) ?_; intro w2 hd2 hb2 hs2; have HD2 := hid hd2; have HB2 := hid hb2; clear hd2 hb2 hs2))
   refine bodyPost_ret (results_cell_tmp (p := 4) (q := 5) (ty := 50) rfl _ w2 w.heap.size 50 (ArrU8 (kget kvs n)) (0, 0) _ rfl HD2.out Tryz.underlying50 rfl (by rw [HI.out, SK.out])) rfl ⟨?_, HB2.out⟩
   simp only [readErr, readBlk, HE.out]; rfl
end Go.Proofs.YtdkjkibdncbibaaGreat
namespace Go.Proofs.YtdkjkibdncbibaaGreat
open Go.RowKit
open Go.Lib (hid)
theorem step_copy_row {P : Program} {ops : Array Oper} {w : World} {o : Oper} {a : Act} {K : Act → World → Prop} {Q : Exit → Act → World → Prop} {E : Prop} (hgd : o.guard = none) (d s : Operand) (dT sT : TypeId)
  (ho : o.op = .call { callee := .builtin .copy, args := #[d, s], argTypes := #[dT, sT] }) (elem : TypeId) (hu : P.underlying dT = some (.slice elem)) (hsz : (P.info? elem).map (·.size) = some 1)
  (g off dLen dCap sLen sCap : Nat) (ad : Addr) (hd : a.eval d = .slice (some ⟨g, off, none⟩) dLen dCap) (hs : a.eval s = .slice (some ad) sLen sCap)
  (cur res : List Value) (t : TypeId) (hg : w.heap[g]? = some (.cells cur.toArray t (0, 0))) (cs : List Value) (hn : cs.length = Nat.min sLen dLen)
  (hsrc : ∀ j v, cs[j]? = some v → w.cell? (ad.add j) = some v) (hfit : off + cs.length ≤ cur.length) (h1 : ∀ v ∈ cs, v.oneCell' = true)
  (hres : cur.take off ++ cs ++ cur.drop (off + cs.length) = res)
  (h : ∀ w', w'.heap[g]? = some (.cells res.toArray t (0, 0)) → w.grownBy w' (some g) → K (a.put o.dst (goInt cs.length)) w') :
  if Region.wanted o (yielded ops a.tmps) = true then Oper.wp P o a w K Q else E := by
 have hw : Region.wanted o (yielded ops a.tmps) = true := by simp [Region.wanted, hgd]
 rw [if_pos hw]
 have hrun := run_copy_row (P := P) w dT sT o.type elem g off dLen dCap ad sLen sCap cur.toArray t cs hu hsz hg hn hsrc (by simpa using hfit) h1
 simp only [hres] at hrun
 unfold Oper.wp
 simp [execOp, ho, resolve, invoke, builtin, hd, hs, hrun, Result.andThen]
 exact h _ (setRow_heap _ _ _ _ _ _ hg) ⟨rfl, rfl, rfl, by simp [World.setRow], fun k _ hne => setRow_other _ _ _ _ (fun e => hne (by rw [e]))⟩
theorem results_cell {P : Program} {fn : Func} {p : Tmp} {ty : TypeId} (h : fn.results = #[.cell p ty]) (tmps : Array Value) (w : World) (g : Nat) (t : TypeId) (cs : Array Value) (fr : Nat × Nat) (d : TypeDesc)
  (hp : tmps.getD p undef = .pointer (some ⟨g, 0, none⟩)) (hg : w.heap[g]? = some (.cells cs t fr))
  (hu : P.underlying ty = some d) (hd : (match d with | .struct _ | .array _ _ => true | _ => false) = true) (hi : (P.info? ty).map (·.size) = some cs.size) :
  (results fn tmps).run P w = .ok (.agg cs) w := by
 have hp' : tmps[p]?.getD undef = .pointer (some ⟨g, 0, none⟩) := by simpa using hp
 simp [results, h, hp', asAddr, run_loadVar_row w g t ty cs fr d hg hu hd hi]
def tearL (b a : List Int) (t : Int) : List Int := if t < 0 ∨ 256 ≤ t then a else a.take t.toNat ++ b.drop t.toNat
set_option maxRecDepth 100000 in
set_option maxHeartbeats 1000000 in
theorem tear_any (b a : List Int) (t : Int) (w : World) (hb : b.length = 256) (ha : a.length = 256) :
    Calls Tryz.prog 57 #[.agg (ArrU8 b), .agg (ArrU8 a), .int .i64 t] w fun e w' => e = .returned (.agg (ArrU8 (tearL b a t))) ∧ Below w.heap.size w w' := by
  have hz := zero35
  have SZ := hid (show (ArrU8 (zeros 256)).size = 256 by rw [ArrU8_size, zeros, List.length_replicate])
  have SA := hid (show (ArrU8 a).size = 256 by rw [ArrU8_size, ha])
  have SB := hid (show (ArrU8 b).size = 256 by rw [ArrU8_size, hb])
  have HI := hid (show (Tryz.prog.info? 50).map (·.size) = some 256 by kernel_rfl)
  have RA := hid (show (((w.alloc (.cells (ArrU8 b) 50)).alloc (.cells (ArrU8 a) 50)).alloc (.cells (ArrU8 (zeros 256)) 50)).heap[w.heap.size + 1]? = some (.cells (ArrU8 a) 50 (0, 0)) from by
    refine (heap_alloc_old _ _ (by simp)).trans ?_
    have := heap_alloc_new (w.alloc (.cells (ArrU8 b) 50)) (.cells (ArrU8 a) 50)
    simpa using this)
  by_cases hr : t < 0 ∨ 256 ≤ t
  · have HT := hid (show tearL b a t = a from by rw [tearL, if_pos hr])
    rcases hr with h | h
    all_goals
      go_enter Tryz.func57, Tryz.ntmps57
      go_wp2_with (first
        | (refine wpList_load_row rfl 50 (Operand.tmp 4) rfl (w.heap.size + 1) rfl 50 (ArrU8 a) (0, 0) _ RA.out Tryz.underlying50 rfl (by rw [HI.out, SA.out]) ?_)
        | (refine wpList_store_new rfl 50 (Operand.tmp 6) (Operand.tmp 13) rfl (w.heap.size + 2) (ArrU8 a) rfl rfl (by simp) _ 50 (by rw [HI.out, SA.out]) (by rw [SZ.out, SA.out]) (ArrU8_one _) ?_; intro w2 hd2 hb2 hs2; have HD2 := hid hd2; have HB2 := hid hb2; clear hd2 hb2 hs2))
      refine bodyPost_ret (results_cell (p := 6) (ty := 50) rfl _ w2 (w.heap.size + 2) 50 (ArrU8 a) (0, 0) _ rfl HD2.out Tryz.underlying50 rfl (by rw [HI.out, SA.out])) rfl ⟨?_, ?_⟩
      · rw [HT.out]
      · exact (((Below.refl _ _).alloc (Nat.le_refl _) _).alloc (by simp) _).trans (HB2.out.mono (by omega))
  · obtain ⟨k, rfl⟩ : ∃ k : Nat, t = (k : Int) := ⟨t.toNat, by omega⟩
    have hk : k < 256 := by omega
    have hk1 : (k : Int) < 256 := by omega
    have hk2 : (k : Int) ≤ 256 := by omega
    have HT := hid (show tearL b a (k : Int) = a.take k ++ b.drop k from by rw [tearL, if_neg hr, Int.toNat_natCast])
    have RB := hid (show (((w.alloc (.cells (ArrU8 b) 50)).alloc (.cells (ArrU8 a) 50)).alloc (.cells (ArrU8 (zeros 256)) 50)).heap[w.heap.size]? = some (.cells (b.map (Value.int .u8)).toArray 50 (0, 0)) from by
      refine (heap_alloc_old _ _ (by simp; omega)).trans ((heap_alloc_old _ _ (by simp)).trans ?_)
      exact heap_alloc_new w (.cells (ArrU8 b) 50))
    have RZ := hid (show (((w.alloc (.cells (ArrU8 b) 50)).alloc (.cells (ArrU8 a) 50)).alloc (.cells (ArrU8 (zeros 256)) 50)).heap[w.heap.size + 2]? = some (.cells (ArrU8 (zeros 256)) 50 (0, 0)) from by
      have := heap_alloc_new ((w.alloc (.cells (ArrU8 b) 50)).alloc (.cells (ArrU8 a) 50)) (.cells (ArrU8 (zeros 256)) 50)
      simpa using this)
    have BW := hid ((((Below.refl w.heap.size w).alloc (Nat.le_refl _) (.cells (ArrU8 b) 50)).alloc (by simp) (.cells (ArrU8 a) 50)).alloc (by simp; omega) (.cells (ArrU8 (zeros 256)) 50))
    have hws : (((w.alloc (.cells (ArrU8 b) 50)).alloc (.cells (ArrU8 a) 50)).alloc (.cells (ArrU8 (zeros 256)) 50)).heap.size = w.heap.size + 3 := by simp
    have HWS := hid hws
    clear hr hws
    go_enter Tryz.func57, Tryz.ntmps57
    go_wp2_with fail
    generalize (((w.alloc (.cells (ArrU8 b) 50)).alloc (.cells (ArrU8 a) 50)).alloc (.cells (ArrU8 (zeros 256)) 50)) = w1 at *
    have hlk : (a.take k).length = k := by rw [List.length_take]; omega
    have HLK := hid hlk
    have hsrc : ∀ j v, ((a.take k).map (Value.int .u8))[j]? = some v → w1.cell? ((⟨w.heap.size + 1, 0, none⟩ : Addr).add j) = some v := by
      intro j v hv
      rw [Addr.add_mid, Nat.zero_add, cell_of_row w1 _ j _ _ _ RA.out]
      rw [List.getElem?_map, Option.map_eq_some_iff] at hv
      obtain ⟨y, hy, rfl⟩ := hv
      have hj : j < k := by have := (List.getElem?_eq_some_iff.1 hy).1; omega
      rw [List.getElem?_take_of_lt hj] at hy
      simp [ArrU8, hy]
    have HSRC := hid hsrc
    have hres : (b.map (Value.int .u8)).take 0 ++ (a.take k).map (Value.int .u8) ++ (b.map (Value.int .u8)).drop (0 + ((a.take k).map (Value.int .u8)).length) = (a.take k ++ b.drop k).map (Value.int .u8) := by
      rw [List.length_map, hlk, Nat.zero_add, List.take_zero, List.nil_append, List.map_append, List.map_drop]
    have HRES := hid hres
    have huu : (Tryz.prog.info? 5).map (·.size) = some 1 := by kernel_rfl
    have HUU := hid huu
    clear hlk hsrc hres huu
    have hut := Tryz.underlying50
    go_region_held3 (fun _ => True) (trivial)
      ((refine step_copy_row (by rfl) (Operand.tmp 15) (Operand.tmp 17) 83 83 (by rfl) 5 Tryz.underlying83 HUU.out w.heap.size 0 k 256 k 256 ⟨w.heap.size + 1, 0, none⟩ (by rfl) (by rfl) (b.map (Value.int .u8)) _ 50 RB.out ((a.take k).map (Value.int .u8)) (by rw [List.length_map, HLK.out]; exact (Nat.min_self k).symm) HSRC.out (by rw [List.length_map, List.length_map, HLK.out, hb]; omega) (by intro v hv; obtain ⟨x, _, rfl⟩ := List.mem_map.1 hv; rfl) HRES.out ?_; intro w3 hd3 hg3; have HD3 := hid hd3; have HG3 := hid hg3; clear hd3 hg3))
    have HR3 := hid ((HG3.out.block (w.heap.size + 2) (by show _ < w1.heap.size; rw [HWS.out]; omega) (by simp)).trans RZ.out)
    have HX3 := hid (show w3.heap[w.heap.size]? = some (.cells (ArrU8 (a.take k ++ b.drop k)) 50 (0, 0)) from HD3.out)
    have SX := hid (show (ArrU8 (a.take k ++ b.drop k)).size = 256 by rw [ArrU8_size, List.length_append, HLK.out, List.length_drop, hb]; omega)
    have B3 := hid (show Below w.heap.size w w3 from BW.out.drew.grown HG3.out (by show _ ≤ w1.heap.size; rw [HWS.out]; omega) (fun g hg => by injection hg with hg; omega))
    go_wp2_with (first
      | (refine wpList_load_row rfl 50 (Operand.tmp 3) rfl w.heap.size rfl 50 (ArrU8 (a.take k ++ b.drop k)) (0, 0) _ HX3.out Tryz.underlying50 rfl (by rw [HI.out, SX.out]) ?_)
      | (refine wpList_store_row rfl 50 (Operand.tmp 6) (Operand.tmp 19) rfl (w.heap.size + 2) (ArrU8 (a.take k ++ b.drop k)) rfl rfl 50 _ HR3.out (by rw [HI.out, SX.out]) (by rw [SZ.out, SX.out]) (ArrU8_one _) ?_))
    refine bodyPost_ret (results_cell (p := 6) (ty := 50) rfl _ (w3.setRow (w.heap.size + 2) (ArrU8 (a.take k ++ b.drop k))) (w.heap.size + 2) 50 (ArrU8 (a.take k ++ b.drop k)) (0, 0) _ rfl (setRow_heap _ _ _ _ _ _ HR3.out) Tryz.underlying50 rfl (by rw [HI.out, SX.out])) rfl ⟨?_, ?_⟩
    · rw [HT.out]
    · exact below_setRow B3.out (by omega) _
end Go.Proofs.YtdkjkibdncbibaaGreat
namespace Go.Proofs.YtdkjkibdncbibaaGreat
open Go.RowKit
open Go.Lib (hid)
/-- the cells of an unsynced write -/
def wrL (n : Int) (a b : List Int) : List Value := Value.int .i64 n :: (a.map (Value.int .u8) ++ b.map (Value.int .u8))
theorem wrL_len (n : Int) (a b : List Int) (ha : a.length = 256) (hb : b.length = 256) : (wrL n a b).length = 513 := by simp [wrL, ha, hb]
theorem wrL_one (n : Int) (a b : List Int) : ∀ v ∈ wrL n a b, v.oneCell' = true := by
 intro v hv
 simp only [wrL, List.mem_cons, List.mem_append, List.mem_map] at hv
 rcases hv with rfl | ⟨x, _, rfl⟩ | ⟨x, _, rfl⟩ <;> rfl
theorem setAt_list (off : Nat) (cs : List Value) (A : Array Value) (h : off + cs.length ≤ A.size) :
  ((cs.zipIdx 0).foldl (fun a (x : Value × Nat) => a.setIfInBounds (off + x.2) x.1) A) = (A.toList.take off ++ cs ++ A.toList.drop (off + cs.length)).toArray := by
 obtain ⟨h1, h2⟩ := Great.foldl_set off cs 0 A
 apply Array.ext_getElem?
 intro k
 rw [h2 k]
 simp only [Nat.add_zero, List.getElem?_toArray]
 have hl : (A.toList.take off ++ cs).length = off + cs.length := by simp; omega
 by_cases hin : off ≤ k ∧ k < off + cs.length ∧ k < A.size
 ·rw [if_pos hin, List.getElem?_append_left (by omega), List.getElem?_append_right (by simp; omega)]
  congr 1
  simp; omega
 ·rw [if_neg hin]
  by_cases hk : k < off
  ·rw [List.getElem?_append_left (by omega), List.getElem?_append_left (by simp; omega), List.getElem?_take_of_lt hk]
   simp
  ·by_cases hk2 : k < off + cs.length
   ·exfalso; exact hin ⟨by omega, hk2, by omega⟩
   ·rw [List.getElem?_append_right (by omega), hl, List.getElem?_drop, show off + cs.length + (k - (off + cs.length)) = k by omega]
    simp
theorem fill_cons {place : Nat → Option (Nat × Nat)} {cells : Array Value} {i : Nat} {v : Value} {rest : List (Nat × Value)} (off : Nat) (cs : List Value) (hv : v.cells = cs.toArray) (hp : place i = some (off, cs.length)) (hfit : off + cs.length ≤ cells.size) :
  Instr.fill place cells ((i, v) :: rest) = Instr.fill place (cells.toList.take off ++ cs ++ cells.toList.drop (off + cs.length)).toArray rest := by
 rw [Instr.fill, hp]
 simp only [hv, List.size_toArray]
 rw [if_neg (by simp; omega), ← setAt_list off cs cells hfit, ← Array.foldl_toList]
 simp
theorem agg_cells (c : Array Value) : (Value.agg c).cells = c := rfl
theorem zeros_len (n : Nat) : (zeros n).length = n := List.length_replicate
theorem fill_wr (n : Int) (a b z1 z2 : List Int) (ha : a.length = 256) (hb : b.length = 256) (h1 : z1.length = 256) (h2 : z2.length = 256) :
  Instr.fill (fun x => (#[(0, 1), (1, 256), (257, 256)] : Array (Nat × Nat))[x]?) (wrL 0 z1 z2).toArray [(0, Value.int .i64 n), (1, .agg (ArrU8 a)), (2, .agg (ArrU8 b))] = some (wrL n a b).toArray := by
 have hl := wrL_len 0 z1 z2 h1 h2
 rw [fill_cons 0 [Value.int .i64 n] rfl rfl (by rw [List.size_toArray, hl]; simp)]
 rw [fill_cons 1 (a.map (Value.int .u8)) rfl (by simp [ha]) (by simp [ha, hl])]
 rw [fill_cons 257 (b.map (Value.int .u8)) rfl (by simp [hb]) (by simp [ha, hb, hl])]
 rw [Instr.fill]
 congr 2
 simp [wrL, ha, hb, h1, h2]
set_option maxRecDepth 100000 in
theorem run_build_wr (u : World) (n : Int) (a b : List Int) (ha : a.length = 256) (hb : b.length = 256) :
  (Instr.build 96 #[(0, .int .i64 n), (1, .agg (ArrU8 a)), (2, .agg (ArrU8 b))]).run Tryz.prog u = .ok (.agg (wrL n a b).toArray) u := by
 have hz : (zeroValue 96).run Tryz.prog u = .ok (.agg (wrL 0 (zeros 256) (zeros 256)).toArray) u := by kernel_rfl
 have hpl : ∀ fs, Tryz.prog.underlying 96 = some (.struct fs) → (fs.mapM fun f => do pure (f.offset, ← sizeOf f.type) : Sem (Array (Nat × Nat))).run Tryz.prog u = .ok #[(0, 1), (1, 256), (257, 256)] u := by
  intro fs h
  rw [Tryz.underlying96] at h
  injection h with h
  injection h with h
  subst h
  kernel_rfl
 have hp2 := hpl _ Tryz.underlying96
 have hf := fill_wr n a b (zeros 256) (zeros 256) ha hb (zeros_len _) (zeros_len _)
 generalize (wrL 0 (zeros 256) (zeros 256)).toArray = Z at *
 unfold Instr.build
 simp only [Sem.run_bind, hz, run_underlying Tryz.underlying96, Result.andThen_ok, agg_cells, hp2, hf]
 rfl
theorem run_bslice_wr (u : World) (n : Int) (a b : List Int) (ha : a.length = 256) (hb : b.length = 256) :
  (Instr.buildSlice 91 1 #[(0, .agg (wrL n a b).toArray)]).run Tryz.prog u = .ok (.slice (some ⟨u.heap.size, 0, none⟩) 1 1) (u.alloc (.cells (wrL n a b).toArray 96)) := by
 obtain ⟨ie, hie, hsz, z, hz, hzs⟩ : ∃ ie, Tryz.prog.info? 96 = some ie ∧ ie.size = 513 ∧ ∃ z, ie.zero = some z ∧ z.cells.size = 513 := by
  have h1 : (Tryz.prog.info? 96).map (fun ie => (ie.size, (ie.zero.map fun z => z.cells.size))) = some (513, some 513) := by kernel_rfl
  cases hie : Tryz.prog.info? 96 with
  | none => rw [hie] at h1; cases h1
  | some ie =>
   rw [hie] at h1
   simp only [Option.map_some, Option.some.injEq, Prod.mk.injEq] at h1
   cases hz : ie.zero with
   | none => rw [hz] at h1; exact absurd h1.2 (by simp)
   | some z => rw [hz] at h1; exact ⟨ie, rfl, h1.1, z, hz, by simpa using h1.2⟩
 refine run_buildSlice u 91 96 1 _ _ ie z Tryz.underlying91 hie hz (by rw [hsz]; decide) (by rw [hsz]; decide) ?_
 have hl := wrL_len n a b ha hb
 show Instr.fill _ _ [(0, Value.agg (wrL n a b).toArray)] = _
 rw [fill_cons 0 (wrL n a b) rfl (by rw [hsz, hl]) (by simp [hsz, hl]), Instr.fill]
 simp [hsz, hl]
end Go.Proofs.YtdkjkibdncbibaaGreat
namespace Go.Proofs.YtdkjkibdncbibaaGreat
open Go.RowKit
open Go.Lib (hid)
/-- only blocks of F, and new ones, have changed -/
structure Chg (F : Nat → Prop) (w w' : World) : Prop where
 os : w'.os = w.os
 tape : w'.tape = w.tape
 output : w'.output = w.output
 size : w.heap.size ≤ w'.heap.size
 block : ∀ k, k < w.heap.size → ¬ F k → w'.heap[k]? = w.heap[k]?
theorem Chg.refl (F : Nat → Prop) (w : World) : Chg F w w := ⟨rfl, rfl, rfl, Nat.le_refl _, fun _ _ _ => rfl⟩
theorem Chg.trans {F G : Nat → Prop} {a b c : World} (h : Chg F a b) (k : Chg G b c) (hg : ∀ i, G i → F i ∨ a.heap.size ≤ i) : Chg F a c :=
 ⟨k.os.trans h.os, k.tape.trans h.tape, k.output.trans h.output, Nat.le_trans h.size k.size, fun i hi hr => (k.block i (Nat.lt_of_lt_of_le hi h.size) (fun e => (hg i e).elim hr (fun h => by omega))).trans (h.block i hi hr)⟩
theorem Chg.mono {F G : Nat → Prop} {a b : World} (h : Chg F a b) (hg : ∀ i, F i → G i) : Chg G a b := ⟨h.os, h.tape, h.output, h.size, fun k hk hn => h.block k hk (fun e => hn (hg k e))⟩
theorem Chg.grown {F : Nat → Prop} {a b : World} {row : Option Nat} (h : a.grownBy b row) (hr : ∀ k, row = some k → F k) : Chg F a b :=
 ⟨h.os, h.tape, h.output, h.size, fun k hk hn => h.block k hk (fun e => hn (hr k e.symm))⟩
theorem Chg.fresh {F : Nat → Prop} {a b : World} (h : Below a.heap.size a b) : Chg F a b := ⟨h.os, h.tape, h.output, h.size, fun k hk _ => h.block k hk⟩
theorem Chg.below {F : Nat → Prop} {B : Nat} {a b : World} (h : Chg F a b) (hB : ∀ k, F k → B ≤ k) (hs : B ≤ a.heap.size) : Below B a b :=
 ⟨h.os, h.tape, h.output, h.size, fun k hk => h.block k (by omega) (fun e => by have := hB k e; omega)⟩
theorem Chg.drew {F : Nat → Prop} {a b : World} (h : Chg F a b) : Chg F a b.drew := ⟨h.os, h.tape, h.output, h.size, h.block⟩
theorem Chg.alloc {F : Nat → Prop} {a b : World} (h : Chg F a b) (o : Obj) : Chg F a (b.alloc o) :=
 ⟨h.os, h.tape, h.output, by have := h.size; simp; omega, fun k hk hn => (Below.heap_alloc b o k (Nat.lt_of_lt_of_le hk h.size)).trans (h.block k hk hn)⟩
theorem Chg.setCell {F : Nat → Prop} {a b : World} (h : Chg F a b) (p : Addr) (v : Value) (hp : F p.block ∨ a.heap.size ≤ p.block) : Chg F a (b.setCell p v) :=
 h.trans (G := fun k => k = p.block) (Chg.grown (grownBy_setCell b p v) (fun k hk => by injection hk with hk; exact hk.symm)) (fun i hi => by subst hi; exact hp)
/-- blocks of a disk -/
def Foot (D M : Nat) (lv : Value) (k : Nat) : Prop := k = D ∨ k = M ∨ lv.ownBlock = some k
abbrev WR := Int × List Int × List Int
def flatL (L : List WR) : List Value := L.flatMap fun x => wrL x.1 x.2.1 x.2.2
def LooseIs (w : World) (B : Nat) (lv : Value) (L : List WR) : Prop := w.ownsRow B 96 513 lv L.length (flatL L)
theorem flatL_snoc (L : List WR) (x : WR) : flatL (L ++ [x]) = flatL L ++ wrL x.1 x.2.1 x.2.2 := by simp [flatL]
theorem info_wr : (Tryz.prog.info? 96).map (fun i => (i.zero.map (fun z => z.cells.size), i.size, i.bytes)) = some (some 513, 513, 520) := by kernel_rfl
theorem info_wr_parts : ∃ i z, Tryz.prog.info? 96 = some i ∧ i.zero = some z ∧ z.cells.size = 513 ∧ i.size = 513 ∧ i.bytes = 520 := by
 have h := info_wr
 cases hi : Tryz.prog.info? 96 with
 | none => rw [hi] at h; cases h
 | some i =>
  rw [hi] at h
  simp only [Option.map_some, Option.some.injEq, Prod.mk.injEq] at h
  obtain ⟨h1, h2, h3⟩ := h
  cases hz : i.zero with
  | none => rw [hz] at h1; cases h1
  | some z => rw [hz] at h1; exact ⟨i, z, rfl, hz, by simpa using h1, h2, h3⟩
theorem run_append_wr (w : World) (ty : TypeId) (B : Nat) (v : Value) (L : List WR) (hown : LooseIs w B v L) (ad : Addr) (y : WR) (hy1 : y.2.1.length = 256) (hy2 : y.2.2.length = 256)
  (hc : ∀ j u, (wrL y.1 y.2.1 y.2.2)[j]? = some u → w.cell? (ad.add j) = some u) (hL : L.length ≤ 268435456) (hbase : B ≤ w.heap.size) :
  ∃ v' w', (Builtin.append_ #[91, 91] ty #[v, .slice (some ad) 1 1]).run Tryz.prog w = .ok v' w' ∧ LooseIs w' B v' (L ++ [y]) ∧ w.grownBy w' v.ownBlock ∧ (v'.ownBlock = v.ownBlock ∨ ∃ k, v'.ownBlock = some k ∧ w.heap.size ≤ k) := by
 obtain ⟨i, z, hi, hz, hzs, hsz, hby⟩ := info_wr_parts
 have hl := wrL_len y.1 y.2.1 y.2.2 hy1 hy2
 have h1 := wrL_one y.1 y.2.1 y.2.2
 have hlen : (L ++ [y]).length = L.length + 1 := by simp
 have gen : ∀ B', B' ≤ w.heap.size → w.ownsRow B' 96 513 v L.length (flatL L) → ∃ v' w', (Builtin.append_ #[91, 91] ty #[v, .slice (some ad) 1 1]).run Tryz.prog w = .ok v' w' ∧ w'.ownsRow B' 96 513 v' (L ++ [y]).length (flatL (L ++ [y])) ∧ w.grownBy w' v.ownBlock := by
  intro B' hB' hB
  obtain ⟨v', w', hr, h2, h3, _⟩ := run_append_own (P := Tryz.prog) w B' 91 ty 96 i z 513 520 Tryz.underlying91 hi hz hsz hby hzs (by decide) v L.length (flatL L) hB ad 1 1 (wrL y.1 y.2.1 y.2.2) (by rw [hl]) hc h1 (by unfold maxLen; omega) (by omega) hB'
  exact ⟨v', w', hr, by rw [hlen, flatL_snoc]; exact h2, h3⟩
 obtain ⟨v', w', hr, h2, h3⟩ := gen B hbase hown
 refine ⟨v', w', hr, h2, h3, ?_⟩
 rcases hown.2 with ⟨rfl, h0⟩ | ⟨g, cap, cur, rfl, hbg, hg, hnc, hcm, hcs, htake⟩
 ·have hx : flatL L = [] := List.eq_nil_of_length_eq_zero (by rw [hown.1, h0])
  obtain ⟨v2, w2, hr2, h22, _⟩ := gen w.heap.size (Nat.le_refl _) (by rw [hx, h0]; exact World.ownsRow_nil _ _ _ _)
  rw [hr] at hr2
  injection hr2 with e1 e2
  subst e1 e2
  cases hv : v'.ownBlock with
  | none => exact .inl rfl
  | some k => exact .inr ⟨k, rfl, (h22.lt k hv).1⟩
 ·by_cases hroom : L.length + 1 ≤ cap
  ·have hr2 := run_append_room (P := Tryz.prog) w 91 ty 96 i Tryz.underlying91 hi g L.length cap cur hg ad 1 1 (wrL y.1 y.2.1 y.2.2) (by rw [hl, hsz]) hc h1 hroom (by rw [hl, hsz, hcs]; omega)
   rw [hr] at hr2
   injection hr2 with e1 _
   subst e1
   exact .inl rfl
  ·have holds : ∀ j u, (flatL L)[j]? = some u → w.cell? ((⟨g, 0, none⟩ : Addr).add j) = some u := hown.cells (g := g) rfl
   have hr2 := run_append_grow (P := Tryz.prog) w 91 ty 96 i z Tryz.underlying91 hi hz ⟨g, 0, none⟩ L.length cap (flatL L) (by rw [hsz]; exact hown.1) holds ad 1 1 (wrL y.1 y.2.1 y.2.2) (by rw [hl, hsz]) hc (by omega) (by omega) (growslice_fits (by omega) (by rw [hby]; omega))
   rw [hr] at hr2
   injection hr2 with e1 _
   subst e1
   exact .inr ⟨_, rfl, Nat.le_refl _⟩
theorem step_append_wr {ops : Array Oper} {o : Oper} {a : Act} {w : World} {K : Act → World → Prop} {Q : Exit → Act → World → Prop} {E : Prop}
  (hg : o.guard = none) (s x : Operand) (hop : o.op = Op.call { callee := Callee.builtin Builtin.append, args := #[s, x], argTypes := #[91, 91] }) (B : Nat)
  (v : Value) (L : List WR) (hs : a.eval s = v) (hown : LooseIs w B v L) (ad : Addr) (y : WR) (hy1 : y.2.1.length = 256) (hy2 : y.2.2.length = 256) (hx : a.eval x = .slice (some ad) 1 1)
  (hc : ∀ j u, (wrL y.1 y.2.1 y.2.2)[j]? = some u → w.cell? (ad.add j) = some u) (hL : L.length ≤ 268435456) (hbase : B ≤ w.heap.size)
  (hK : ∀ v' w', LooseIs w' B v' (L ++ [y]) → w.grownBy w' v.ownBlock → (v'.ownBlock = v.ownBlock ∨ ∃ k, v'.ownBlock = some k ∧ w.heap.size ≤ k) → K (a.put o.dst v') w') :
  if Region.wanted o (yielded ops a.tmps) = true then Oper.wp Tryz.prog o a w K Q else E := by
 have hw : Region.wanted o (yielded ops a.tmps) = true := by simp [Region.wanted, hg]
 rw [if_pos hw]
 obtain ⟨v', w', hrun, r1, r2, r3⟩ := run_append_wr w o.type B v L hown ad y hy1 hy2 hc hL hbase
 unfold Oper.wp
 simp [execOp, hop, resolve, invoke, builtin, hs, hx, hrun, Result.andThen]
 exact hK v' w' r1 r2 r3
theorem exec_load_row {P : Program} {ρ : Operand → Value} {o : Oper} (ty : TypeId) (x : Operand) (ho : o.op = .load ty x) (w : World) (g : Nat) (hx : ρ x = .pointer (some ⟨g, 0, none⟩)) (cs : Array Value) (t : TypeId) (fr : Nat × Nat) (d : TypeDesc)
  (hg : w.heap[g]? = some (.cells cs t fr)) (hu : P.underlying ty = some d) (hd : (match d with | .struct _ | .array _ _ => true | _ => false) = true) (hi : (P.info? ty).map (·.size) = some cs.size) :
  (execOp ρ o).run P w = .ok (.value (.agg cs)) w := by
 unfold execOp
 simp only [ho, hx, Instr.loadAt, Instr.sureAddr, Sem.run_bind, Sem.run_pure, Result.andThen_ok, run_loadVar_row w g t ty cs fr d hg hu hd hi]
end Go.Proofs.YtdkjkibdncbibaaGreat
namespace Go.Proofs.YtdkjkibdncbibaaGreat
open Go.RowKit
open Go.Lib (hid)
theorem kidx_set (n m : Int) (b : List Int) : ∀ (kvs : List (Int × List Int)) (q : Nat × List Int), kidx kvs n = some q → kidx (kvs.set q.1 (n, b)) m = if m = n then some (q.1, b) else kidx kvs m
 | [], q, h => by simp [kidx] at h
 | p :: r, q, h => by
  unfold kidx at h
  by_cases hn : n = p.1
  ·rw [if_pos hn] at h
   injection h with h
   subst h
   simp only [sB, kidx]
   by_cases hm : m = n
   ·rw [if_pos hm, if_pos hm]
   ·rw [if_neg hm, if_neg hm, if_neg (by rw [← hn]; exact hm)]
  ·rw [if_neg hn, Option.map_eq_some_iff] at h
   obtain ⟨q', h1, rfl⟩ := h
   have ih := kidx_set n m b r q' h1
   simp only [sC, kidx, ih]
   by_cases hm : m = n
   ·subst hm
    rw [if_neg hn, if_pos rfl, if_pos rfl]
    rfl
   ·rw [if_neg hm, if_neg hm]
theorem kidx_app (n m : Int) (b : List Int) : ∀ (kvs : List (Int × List Int)), kidx kvs n = none → (kidx (kvs ++ [(n, b)]) m).map (·.2) = if m = n then some b else (kidx kvs m).map (·.2)
 | [], _ => by simp only [List.nil_append, kidx]; by_cases hm : m = n <;> simp [hm]
 | p :: r, h => by
  unfold kidx at h
  by_cases hn : n = p.1
  ·rw [if_pos hn] at h; cases h
  ·rw [if_neg hn, Option.map_eq_none_iff] at h
   have ih := kidx_app n m b r h
   simp only [List.cons_append, kidx]
   by_cases hp : m = p.1
   ·rw [if_pos hp, if_pos hp, if_neg (by rw [hp]; exact fun e => hn e.symm)]
   ·rw [if_neg hp, if_neg hp]
    simp only [Option.map_map]
    have e : (kidx (r ++ [(n, b)]) m).map ((fun x => x.2) ∘ fun q => (q.1 + 1, q.2)) = (kidx (r ++ [(n, b)]) m).map (·.2) := by congr 1
    have e2 : (kidx r m).map ((fun x => x.2) ∘ fun q => (q.1 + 1, q.2)) = (kidx r m).map (·.2) := by congr 1
    rw [e, e2, ih]
theorem kget_kput (kvs : List (Int × List Int)) (n m : Int) (b : List Int) : kget (kput kvs n b) m = if m = n then b else kget kvs m := by
 unfold kget kput
 cases h : kidx kvs n with
 | none =>
  simp only [kidx_app n m b kvs h]
  by_cases hm : m = n
  ·rw [if_pos hm, if_pos hm]; rfl
  ·rw [if_neg hm, if_neg hm]
 | some q =>
  simp only [kidx_set n m b kvs q h]
  by_cases hm : m = n
  ·rw [if_pos hm, if_pos hm]; rfl
  ·rw [if_neg hm, if_neg hm]
def KN (kvs : List (Int × List Int)) : Prop := (kvs.map (·.1)).Nodup
theorem kidx_none (n : Int) : ∀ (kvs : List (Int × List Int)), kidx kvs n = none → n ∉ kvs.map (·.1)
 | [], _ => by simp
 | p :: r, h => by
  unfold kidx at h
  by_cases hn : n = p.1
  ·rw [if_pos hn] at h; cases h
  ·rw [if_neg hn, Option.map_eq_none_iff] at h
   simp only [List.map_cons, List.mem_cons]
   exact fun e => e.elim hn (kidx_none n r h)
theorem KN.put {kvs : List (Int × List Int)} (h : KN kvs) (n : Int) (b : List Int) : KN (kput kvs n b) := by
  unfold KN kput at *
  cases hk : kidx kvs n with
  | none =>
    simp only [List.map_append, List.map_cons, List.map_nil]
    rw [List.nodup_append]
    refine ⟨h, by simp, ?_⟩
    intro a ha c hc e
    simp only [List.mem_singleton] at hc
    subst hc e
    exact kidx_none _ _ hk ha
  | some q =>
    have := kidx_get n kvs q hk
    simp only [List.map_set]
    have e : (kvs.map (·.1)).set q.1 n = kvs.map (·.1) := by
      apply List.ext_getElem?
      intro i
      rw [List.getElem?_set]
      by_cases hi : q.1 = i
      · subst hi
        have hlt := (List.getElem?_eq_some_iff.1 this).1
        rw [if_pos rfl, if_pos (by simpa using hlt)]
        simp [this]
      · rw [if_neg hi]
    rw [e]
    exact h
/-- a block put among blocks -/
def fput (f : Int → List Int) (n : Int) (b : List Int) (m : Int) : List Int := if m = n then b else f m
/-- THE STATE OF A DISK: D, its cells; M, its map; lv, its unsynced writes -/
def Dk (w : World) (B D M : Nat) (nb rm fz : Int) (dn : Bool) (f : Int → List Int) (L : List WR) (lv : Value) : Prop :=
 DiskIs w D (DC nb rm fz dn (.map (some M)) lv) ∧ (∃ kvs, MapIs w M kvs ∧ KN kvs ∧ ∀ n, kget kvs n = f n) ∧ LooseIs w B lv L ∧ B ≤ D ∧ B ≤ M ∧ (-1 ≤ fz ∧ fz ≤ 9223372036854775807) ∧ (∀ n, (f n).length = 256) ∧ (∀ x ∈ L, x.2.1.length = 256 ∧ x.2.2.length = 256)
theorem MapIs.lt {w : World} {M : Nat} {kvs : List (Int × List Int)} (h : MapIs w M kvs) : M < w.heap.size := by
 obtain ⟨es, c, h, _⟩ := h
 exact (Array.getElem?_eq_some_iff.1 h).1
theorem DiskIs.lt {w : World} {D : Nat} {c : Array Value} (h : DiskIs w D c) : D < w.heap.size := (Array.getElem?_eq_some_iff.1 h).1
theorem MapIs.of {w w' : World} {M : Nat} {kvs : List (Int × List Int)} (h : MapIs w M kvs) (he : w'.heap[M]? = w.heap[M]?) : MapIs w' M kvs := by
 obtain ⟨es, c, h, h2⟩ := h
 exact ⟨es, c, he.trans h, h2⟩
theorem LooseIs.kept {w w' : World} {B : Nat} {lv : Value} {L : List WR} (h : LooseIs w B lv L) (he : ∀ k, lv.ownBlock = some k → w'.heap[k]? = w.heap[k]?) : LooseIs w' B lv L := by
 refine ⟨h.1, ?_⟩
 rcases h.2 with hn | ⟨g, cap, cur, rfl, hb, hgg, rest⟩
 ·exact .inl hn
 ·exact .inr ⟨g, cap, cur, rfl, hb, (he g rfl).trans hgg, rest⟩
theorem Dk.foot {w : World} {B D M : Nat} {nb rm fz : Int} {dn : Bool} {f : Int → List Int} {L : List WR} {lv : Value} (h : Dk w B D M nb rm fz dn f L lv) : ∀ k, Foot D M lv k → B ≤ k ∧ k < w.heap.size := by
 obtain ⟨h1, ⟨kvs, h2, _, _⟩, h3, h4, h5, _⟩ := h
 intro k hk
 rcases hk with rfl | rfl | hk
 ·exact ⟨h4, h1.lt⟩
 ·exact ⟨h5, h2.lt⟩
 ·exact h3.lt k hk
theorem Dk.kept {w w' : World} {B D M : Nat} {nb rm fz : Int} {dn : Bool} {f : Int → List Int} {L : List WR} {lv : Value} (h : Dk w B D M nb rm fz dn f L lv) (he : ∀ k, Foot D M lv k → w'.heap[k]? = w.heap[k]?) : Dk w' B D M nb rm fz dn f L lv := by
 obtain ⟨h1, ⟨kvs, h2, h2b, h2c⟩, h3, h4⟩ := h
 exact ⟨(he D (.inl rfl)).trans h1, ⟨kvs, h2.of (he M (.inr (.inl rfl))), h2b, h2c⟩, h3.kept (fun k hk => he k (.inr (.inr hk))), h4⟩
theorem Dk.chg {w w' : World} {B D M : Nat} {nb rm fz : Int} {dn : Bool} {f : Int → List Int} {L : List WR} {lv : Value} {F : Nat → Prop} (h : Dk w B D M nb rm fz dn f L lv) (hc : Chg F w w') (hF : ∀ k, Foot D M lv k → ¬ F k) : Dk w' B D M nb rm fz dn f L lv :=
 h.kept fun k hk => hc.block k (h.foot k hk).2 (hF k hk)
end Go.Proofs.YtdkjkibdncbibaaGreat
namespace Go.Proofs.YtdkjkibdncbibaaGreat
open Go.RowKit
open Go.Lib (hid)
theorem Dk.apart {w : World} {B D M : Nat} {nb rm fz : Int} {dn : Bool} {f : Int → List Int} {L : List WR} {lv : Value} (h : Dk w B D M nb rm fz dn f L lv) : D ≠ M ∧ lv.ownBlock ≠ some D ∧ lv.ownBlock ≠ some M := by
 obtain ⟨h1, ⟨kvs, ⟨es, c, h2, _⟩, _, _⟩, h3, _⟩ := h
 refine ⟨fun e => ?_, fun e => ?_, fun e => ?_⟩
 ·subst e; rw [DiskIs] at h1; rw [h1] at h2; cases h2
 ·rcases h3.2 with ⟨rfl, _⟩ | ⟨g, cap, cur, rfl, hb, hg, _⟩
  ·cases e
  ·injection e with e
   have e : g = D := e
   subst e
   rw [DiskIs] at h1; rw [h1] at hg; injection hg with hg; injection hg with _ hg _; exact absurd hg (by decide)
 ·rcases h3.2 with ⟨rfl, _⟩ | ⟨g, cap, cur, rfl, hb, hg, _⟩
  ·cases e
  ·injection e with e
   have e : g = M := e
   subst e
   rw [h2] at hg; cases hg
/-- another disk cell, all else as it was -/
theorem Dk.turned {w w1 : World} {B D M : Nat} {nb rm fz : Int} {dn : Bool} {f : Int → List Int} {L : List WR} {lv : Value} (h : Dk w B D M nb rm fz dn f L lv) {rm1 fz1 : Int} {dn1 : Bool} (hd : DiskIs w1 D (DC nb rm1 fz1 dn1 (.map (some M)) lv)) (hf : -1 ≤ fz1 ∧ fz1 ≤ 9223372036854775807)
  (hc : Chg (fun k => k = D) w w1) : Dk w1 B D M nb rm1 fz1 dn1 f L lv := by
 obtain ⟨a1, a2, a3⟩ := h.apart
 obtain ⟨h1, ⟨kvs, h2, h2b, h2c⟩, h3, h4, h5, h6, h7⟩ := h
 refine ⟨hd, ⟨kvs, h2.of (hc.block M h2.lt (fun e => a1 e.symm)), h2b, h2c⟩, h3.kept (fun k hk => hc.block k (h3.lt k hk).2 (fun e => a2 (by rw [hk, e]))), h4, h5, hf, h7⟩
theorem exec_build {P : Program} {ρ : Operand → Value} {o : Oper} {w : World} (T : TypeId) (parts : Array (Nat × Operand)) (ho : o.op = .build T parts) (vs : Array (Nat × Value)) (hv : (parts.map fun (i, x) => (i, ρ x)) = vs) (r : Value) (h : (Instr.build T vs).run P w = .ok r w) :
  (execOp ρ o).run P w = .ok (.value r) w := by
 unfold execOp
 simp only [ho, hv, Sem.run_bind, h, Result.andThen_ok]
 rfl
theorem exec_bslice {P : Program} {ρ : Operand → Value} {o : Oper} {w w' : World} (T : TypeId) (len : Nat) (parts : Array (Nat × Operand)) (ho : o.op = .buildSlice T len parts) (vs : Array (Nat × Value)) (hv : (parts.map fun (i, x) => (i, ρ x)) = vs) (r : Value) (h : (Instr.buildSlice T len vs).run P w = .ok r w') :
  (execOp ρ o).run P w = .ok (.value r) w' := by
 unfold execOp
 simp only [ho, hv, Sem.run_bind, h, Result.andThen_ok]
 rfl
theorem step_of_run {P : Program} {ops : Array Oper} {o : Oper} {a : Act} {w w' : World} {v : Value} {K : Act → World → Prop} {Q : Exit → Act → World → Prop} {E : Prop} (hg : o.guard = none) (hr : (execOp a.eval o).run P w = .ok (.value v) w') (hK : K (a.put o.dst v) w') :
  if Region.wanted o (yielded ops a.tmps) = true then Oper.wp P o a w K Q else E := by
 have hw : Region.wanted o (yielded ops a.tmps) = true := by simp [Region.wanted, hg]
 rw [if_pos hw]
 unfold Oper.wp
 simp [hr]
 exact hK
theorem exec_load_loose {ρ : Operand → Value} {o : Oper} {w : World} (x : Operand) (ho : o.op = .load 91 x) (b k : Nat) (hx : ρ x = .pointer (some ⟨b, k, none⟩)) (v : Value) (hc : w.cell? ⟨b, k, none⟩ = some v) :
  (execOp ρ o).run Tryz.prog w = .ok (.value v) w := by
 unfold execOp
 rw [ho]
 simp only [hx]
 go_simp
theorem LooseIs.shape {w : World} {B : Nat} {lv : Value} {L : List WR} (h : LooseIs w B lv L) : ∃ a c, lv = .slice a L.length c := by
 rcases h.2 with ⟨rfl, h0⟩ | ⟨g, cap, cur, rfl, _⟩
 ·exact ⟨none, 0, by rw [h0]⟩
 ·exact ⟨_, _, rfl⟩
theorem exec_update {ρ : Operand → Value} {o : Oper} {w w' : World} (x y z : Operand) (ho : o.op = .mapUpdate 76 x y z) (m k v : Value) (hx : ρ x = m) (hy : ρ y = k) (hz : ρ z = v) (h : (Instr.mapUpdate 76 m k v).run Tryz.prog w = .ok () w') :
  (execOp ρ o).run Tryz.prog w = .ok .skip w' := by
 unfold execOp
 simp only [ho, hx, hy, hz, Sem.run_bind, h, Result.andThen_ok]
 rfl
theorem step_of_skip {P : Program} {ops : Array Oper} {o : Oper} {a : Act} {w w' : World} {K : Act → World → Prop} {Q : Exit → Act → World → Prop} {E : Prop} (hg : o.guard = none) (hr : (execOp a.eval o).run P w = .ok .skip w') (hK : K (a.put o.dst undef) w') :
  if Region.wanted o (yielded ops a.tmps) = true then Oper.wp P o a w K Q else E := by
 have hw : Region.wanted o (yielded ops a.tmps) = true := by simp [Region.wanted, hg]
 rw [if_pos hw]
 unfold Oper.wp
 simp [hr]
 exact hK
def wErr (nb rm fz n : Int) (dn : Bool) : Int := if opOk fz dn = true then (if hasB nb n = true then (if rm ≤ n then 42 else 0) else 2) else 44
def WriteEnds (B D M : Nat) (nb rm fz : Int) (dn : Bool) (f : Int → List Int) (L : List WR) (lv : Value) (n : Int) (b : List Int) (w : World) (e : Ending) (w' : World) : Prop :=
 e = .returned (.int .i64 (wErr nb rm fz n dn)) ∧ ∃ lv', Dk w' B D M nb rm (opFz fz dn) (opDn fz dn) (if wErr nb rm fz n dn = 0 then fput f n b else f) (if wErr nb rm fz n dn = 0 then L ++ [(n, f n, b)] else L) lv' ∧
  Chg (Foot D M lv) w w' ∧ (∀ k, Foot D M lv' k → Foot D M lv k ∨ w.heap.size ≤ k)
theorem opFz_rng {fz : Int} {dn : Bool} (h : -1 ≤ fz ∧ fz ≤ 9223372036854775807) : -1 ≤ opFz fz dn ∧ opFz fz dn ≤ 9223372036854775807 := by
 unfold opFz; split <;> (try split) <;> (try split) <;> omega
set_option maxRecDepth 100000 in
set_option maxHeartbeats 1000000 in
theorem write_any (B D M : Nat) (nb rm fz n : Int) (dn : Bool) (f : Int → List Int) (L : List WR) (lv : Value) (b : List Int) (w : World) (h : Dk w B D M nb rm fz dn f L lv) (hb : b.length = 256) (hL : L.length ≤ 268435456) :
  Calls Tryz.prog 29 #[.pointer (some ⟨D, 0, none⟩), .int .i64 n, .agg (ArrU8 b)] w (WriteEnds B D M nb rm fz dn f L lv n b w) := by
 have HDK := hid h
 obtain ⟨hd, ⟨kvs, hm, hkn, hkf⟩, hlo, hBD, hBM, hfz, hfl, hLl⟩ := h
 have HFZ := hid hfz
 have hd0 : DiskIs (w.alloc (.cells (ArrU8 b) 50)) D (DC nb rm fz dn (.map (some M)) lv) := (heap_alloc_old _ _ hd.lt).trans hd
 have HD := hid hd
 have HM := hid hm
 have HLO := hid hlo
 have HKF := hid hkf
 have HOP := hid (operates_any D nb rm fz dn (.map (some M)) lv _ hd0 hfz.1 hfz.2)
 have hbx : (w.alloc (.cells (ArrU8 b) 50)).heap[w.heap.size]? = some (.cells (ArrU8 b) 50 (0, 0)) := heap_alloc_new _ _
 have HBX := hid hbx
 have HFL := hid hfl
 have HLL := hid hLl
 have hDlt := hd.lt
 have hMlt := hm.lt
 clear hd hd0 hm hlo hbx hkf hfl hLl
 go_enter Tryz.func29, Tryz.ntmps29
 go_wp2_with fail
 refine HOP.out.mono ?_
 rintro e w1 ⟨rfl, hd1, hg1, hs1⟩
 have HD1 := hid hd1
 have HG1 := hid hg1
 have HS1 := hid hs1
 clear hd1 hg1 hs1
 have hc1 : Chg (fun k => k = D) w w1 := ((Chg.refl (fun k => k = D) w).alloc _).trans (G := fun k => k = D) (Chg.grown HG1.out (fun k hk => by injection hk with hk; exact hk.symm)) (fun i hi => .inl hi)
 have HC1 := hid hc1
 clear hc1
 cases hop : opOk fz dn
 ·have HE := hid (show wErr nb rm fz n dn = 44 from by simp [wErr, hop])
  clear hop
  go_wp2
  all_goals go_ret
  all_goals
   refine ⟨congrArg (fun z => Ending.returned (.int .i64 z)) HE.out.symm, lv, ?_, HC1.out.mono (fun i hi => .inl hi), fun k hk => .inl hk⟩
   rw [HE.out]
   exact HDK.out.turned HD1.out (opFz_rng HFZ.out) HC1.out
 have hd1 := HD1.out
 have HAS := hid (has_any D nb n _ w1 hd1 rfl)
 have c1 : w1.cell? ⟨D, 1, none⟩ = some (.int .i64 rm) := hd1.cell 1
 clear hd1
 cases hb : hasB nb n
 ·have HE := hid (show wErr nb rm fz n dn = 2 from by simp [wErr, hop, hb])
  rw [hb] at HAS
  clear hop hb
  go_wp2_with (go_at_call 64; refine HAS.out.mono ?_; rintro e w' ⟨rfl, rfl⟩)
  all_goals go_ret
  all_goals
   refine ⟨congrArg (fun z => Ending.returned (.int .i64 z)) HE.out.symm, lv, ?_, HC1.out.mono (fun i hi => .inl hi), fun k hk => .inl hk⟩
   rw [HE.out]
   exact HDK.out.turned HD1.out (opFz_rng HFZ.out) HC1.out
 rw [hb] at HAS
 by_cases hrm : rm ≤ n
 ·have HE := hid (show wErr nb rm fz n dn = 42 from by simp [wErr, hop, hb, hrm])
  clear hop hb
  go_wp2_with (go_at_call 64; refine HAS.out.mono ?_; rintro e w' ⟨rfl, rfl⟩)
  all_goals go_ret
  all_goals
   refine ⟨congrArg (fun z => Ending.returned (.int .i64 z)) HE.out.symm, lv, ?_, HC1.out.mono (fun i hi => .inl hi), fun k hk => .inl hk⟩
   rw [HE.out]
   exact HDK.out.turned HD1.out (opFz_rng HFZ.out) HC1.out
 have HE := hid (show wErr nb rm fz n dn = 0 from by simp [wErr, hop, hb, hrm])
 have hrm2 : n < rm := by omega
 clear hop hb
 go_wp2_with (go_at_call 64; refine HAS.out.mono ?_; rintro e w' ⟨rfl, rfl⟩)
 have hM1 : MapIs w1 M kvs := HM.out.of (HC1.out.block M hMlt (fun e => HDK.out.apart.1 e.symm))
 have hB1 : w1.heap[w.heap.size]? = some (.cells (ArrU8 b) 50 (0, 0)) := (HG1.out.block w.heap.size (by simp) (by intro e; injection e with e; omega)).trans HBX.out
 have hL1 : LooseIs w1 B lv L := HLO.out.kept (fun k hk => HC1.out.block k (HLO.out.lt k hk).2 (fun e => HDK.out.apart.2.1 (by rw [hk, e])))
 have hD4 : w1.cell? ⟨D, 4, none⟩ = some (.map (some M)) := HD1.out.cell 4
 have hs1 : w1.heap.size = w.heap.size + 1 := by rw [HS1.out]; simp
 have HM1 := hid hM1
 have HB1 := hid hB1
 have HL1 := hid hL1
 have HD4 := hid hD4
 have HSS := hid hs1
 have hk := HFL.out n
 rw [← HKF.out n] at hk
 have HKG := hid hk
 have HI35 := hid (show (Tryz.prog.info? 50).map (·.size) = some (ArrU8 b).size by rw [ArrU8_size, hb]; kernel_rfl)
 clear hM1 hB1 hL1 hD4 hs1 hk c1 hrm hrm2
 have C5a := hid (show w1.drew.cell? ⟨D, 5, none⟩ = some lv from HD1.out.cell 5)
 have C5b := hid (show (w1.drew.alloc (.cells (wrL n (kget kvs n) b).toArray 96)).cell? ⟨D, 5, none⟩ = some lv from (World.cell?_alloc_lt _ _ _ (by show D < w1.heap.size; exact HD1.out.lt)).trans C5a.out)
 have HB2 := hid (show (w1.drew.alloc (.cells (wrL n (kget kvs n) b).toArray 96)).cell? ⟨D, 4, none⟩ = some (.map (some M)) ∧ MapIs (w1.drew.alloc (.cells (wrL n (kget kvs n) b).toArray 96)) M kvs ∧ (w1.drew.alloc (.cells (wrL n (kget kvs n) b).toArray 96)).heap[w.heap.size]? = some (.cells (ArrU8 b) 50 (0, 0)) from
  ⟨(World.cell?_alloc_lt _ _ _ (by show D < w1.heap.size; exact HD1.out.lt)).trans HD4.out, HM1.out.of (Below.heap_alloc w1.drew _ _ (show M < w1.drew.heap.size from HM1.out.lt)), (Below.heap_alloc w1.drew _ _ (by show w.heap.size < w1.heap.size; rw [HSS.out]; omega)).trans HB1.out⟩)
 have HL2 := hid (show LooseIs (w1.drew.alloc (.cells (wrL n (kget kvs n) b).toArray 96)) B lv L from HL1.out.kept (fun k hk => Below.heap_alloc w1.drew _ _ (show k < w1.drew.heap.size from (HL1.out.lt k hk).2)))
 have HC2 := hid (show ∀ j u, (wrL n (kget kvs n) b)[j]? = some u → (w1.drew.alloc (.cells (wrL n (kget kvs n) b).toArray 96)).cell? ((⟨w1.drew.heap.size, 0, none⟩ : Addr).add j) = some u from fun j u hu => by
  rw [Addr.add_mid, Nat.zero_add, cell_of_row _ _ j _ _ _ (heap_alloc_new w1.drew _)]
  simpa using hu)
 have hBs : B ≤ (w1.drew.alloc (.cells (wrL n (kget kvs n) b).toArray 96)).heap.size := by simp; have := HSS.out; omega
 have HBS := hid hBs
 clear hBs
 refine wp_region_held_drew (S := fun u => u.cell? ⟨D, 4, none⟩ = some (.map (some M)) ∧ MapIs u M kvs ∧ u.heap[w.heap.size]? = some (.cells (ArrU8 b) 50 (0, 0))) (by kernel_rfl) (⟨HD4.out, HM1.out, HB1.out⟩) (fun hHeld => ?_)
 refine tk (i := 0) (oi := ⟨some 20, .move (.tmp 0), 24, "disk.go:63", #[], none⟩) (v := ?_) (Or.inl ⟨by rfl, ?_⟩) ?_
 rotate_left 1
 ·(intro u hSw; go_simp; try with_reducible rfl)
 try simp only [Act.put, sA, sB, sC]
 refine tk (i := 1) (oi := ⟨some 21, .move (.tmp 0), 24, "disk.go:63", #[], none⟩) (v := ?_) (Or.inl ⟨by rfl, ?_⟩) ?_
 rotate_left 1
 ·(intro u hSw; go_simp; try with_reducible rfl)
 try simp only [Act.put, sA, sB, sC]
 refine tk (i := 2) (oi := ⟨some 22, .nilCheck (.tmp 21), 0, "disk.go:63", #[⟨1, .data⟩], none⟩) (v := ?_) (Or.inl ⟨by rfl, ?_⟩) ?_
 rotate_left 1
 ·(intro u hSw; go_simp; try with_reducible rfl)
 try simp only [Act.put, sA, sB, sC]
 refine tk (i := 3) (oi := ⟨some 23, .fieldAddr 93 (.tmp 22) 5, 0, "disk.go:63", #[⟨2, .data⟩], none⟩) (v := ?_) (Or.inl ⟨by rfl, ?_⟩) ?_
 rotate_left 1
 ·(intro u hSw; go_simp; try with_reducible rfl)
 try simp only [Act.put, sA, sB, sC]
 refine tk (i := 5) (oi := ⟨some 25, .move (.tmp 1), 3, "disk.go:63", #[], none⟩) (v := ?_) (Or.inl ⟨by rfl, ?_⟩) ?_
 rotate_left 1
 ·(intro u hSw; go_simp; try with_reducible rfl)
 try simp only [Act.put, sA, sB, sC]
 refine tk (i := 6) (oi := ⟨some 26, .move (.tmp 0), 24, "disk.go:63", #[], none⟩) (v := ?_) (Or.inl ⟨by rfl, ?_⟩) ?_
 rotate_left 1
 ·(intro u hSw; go_simp; try with_reducible rfl)
 try simp only [Act.put, sA, sB, sC]
 refine tk (i := 7) (oi := ⟨some 27, .nilCheck (.tmp 26), 0, "disk.go:63", #[⟨6, .data⟩], none⟩) (v := ?_) (Or.inl ⟨by rfl, ?_⟩) ?_
 rotate_left 1
 ·(intro u hSw; go_simp; try with_reducible rfl)
 try simp only [Act.put, sA, sB, sC]
 refine tk (i := 8) (oi := ⟨some 28, .fieldAddr 93 (.tmp 27) 4, 0, "disk.go:63", #[⟨7, .data⟩], none⟩) (v := ?_) (Or.inl ⟨by rfl, ?_⟩) ?_
 rotate_left 1
 ·(intro u hSw; go_simp; try with_reducible rfl)
 try simp only [Act.put, sA, sB, sC]
 refine tk (i := 9) (oi := ⟨some 29, .load 76 (.tmp 28), 76, "disk.go:63", #[⟨8, .data⟩], none⟩) (v := ?_) (Or.inl ⟨by rfl, ?_⟩) ?_
 rotate_left 1
 ·intro u hSw
  have h4 := hSw.1
  go_simp
  try with_reducible rfl
 try simp only [Act.put, sA, sB, sC]
 refine tk (i := 10) (oi := ⟨some 30, .move (.tmp 1), 3, "disk.go:63", #[], none⟩) (v := ?_) (Or.inl ⟨by rfl, ?_⟩) ?_
 rotate_left 1
 ·(intro u hSw; go_simp; try with_reducible rfl)
 try simp only [Act.put, sA, sB, sC]
 refine tk (i := 11) (oi := ⟨some 31, .lookup 76 (.tmp 29) (.tmp 30) false, 50, "disk.go:63", #[⟨9, .data⟩, ⟨10, .data⟩], none⟩) (v := ?_) (Or.inl ⟨by rfl, ?_⟩) ?_
 rotate_left 1
 ·intro u hSw
  have hlk := run_lookup_kv u M n kvs hSw.2.1
  go_simp
  try with_reducible rfl
 try simp only [Act.put, sA, sB, sC]
 refine tk (i := 12) (oi := ⟨some 32, .load 50 (.tmp 5), 50, "disk.go:63", #[], none⟩) (v := ?_) (Or.inl ⟨by rfl, ?_⟩) ?_
 rotate_left 1
 ·intro u hSw
  refine exec_load_row 50 (Operand.tmp 5) ?_ u w.heap.size ?_ (ArrU8 b) 50 (0, 0) _ hSw.2.2 Tryz.underlying50 rfl HI35.out <;> rfl
 try simp only [Act.put, sA, sB, sC]
 refine tk (i := 13) (oi := ⟨some 33, .build 96 #[(0, .tmp 25), (1, .tmp 31), (2, .tmp 32)], 96, "disk.go:63", #[⟨5, .data⟩, ⟨11, .data⟩, ⟨12, .data⟩], none⟩) (v := .agg (wrL n (kget kvs n) b).toArray) (Or.inl ⟨by rfl, ?_⟩) ?_
 ·intro u hSw
  exact exec_build 96 #[(0, Operand.tmp 25), (1, Operand.tmp 31), (2, Operand.tmp 32)] rfl #[(0, .int .i64 n), (1, .agg (ArrU8 (kget kvs n))), (2, .agg (ArrU8 b))] (by simp only [List.map_toArray, List.map_cons, List.map_nil]; rfl) _ (run_build_wr u n (kget kvs n) b HKG.out hb)
 try simp only [Act.put, sA, sB, sC]
 refine wpAnyH_ready (rs := [4, 14]) (by kernel_rfl) (by simp) ?_
 refine AllReadyH.cons (o := ⟨some 24, .load 91 (.tmp 23), 91, "disk.go:63", #[⟨3, .data⟩], none⟩) rfl (fun K hK => ?_) (AllReadyH.cons (o := ⟨some 34, .buildSlice 91 1 #[(0, .tmp 33)], 91, "disk.go:63", #[⟨13, .data⟩], none⟩) rfl (fun K hK => ?_) AllReadyH.nil)
 refine step_of_run ?_ (exec_load_loose (Operand.tmp 23) ?_ D 5 ?_ lv (by first | exact C5a.out | exact C5b.out)) ?_
 rfl
 rfl
 rfl
 refine hK.out _ _ (by assumption) (fun hHeld => ?_)
 clear hK K
 try simp only [Act.put, sA, sB, sC]
 refine wpAnyH_ready (rs := [14]) (by kernel_rfl) (by simp) ?_
 refine AllReadyH.cons (o := ⟨some 34, .buildSlice 91 1 #[(0, .tmp 33)], 91, "disk.go:63", #[⟨13, .data⟩], none⟩) rfl (fun K hK => ?_) AllReadyH.nil
 refine step_of_run ?_ (exec_bslice 91 1 #[(0, Operand.tmp 33)] ?_ #[(0, .agg (wrL n (kget kvs n) b).toArray)] ?_ _ (run_bslice_wr _ n (kget kvs n) b HKG.out hb)) ?_
 rfl
 rfl
 (simp only [List.map_toArray, List.map_cons, List.map_nil]; rfl)
 refine hK.out _ _ HB2.out (fun hHeld => ?_)
 clear hK K
 try simp only [Act.put, sA, sB, sC]
 rotate_left 1
 refine step_of_run ?_ (exec_bslice 91 1 #[(0, Operand.tmp 33)] ?_ #[(0, .agg (wrL n (kget kvs n) b).toArray)] ?_ _ (run_bslice_wr _ n (kget kvs n) b HKG.out hb)) ?_
 rfl
 rfl
 (simp only [List.map_toArray, List.map_cons, List.map_nil]; rfl)
 refine hK.out _ _ HB2.out (fun hHeld => ?_)
 clear hK K
 try simp only [Act.put, sA, sB, sC]
 refine wpAnyH_ready (rs := [4]) (by kernel_rfl) (by simp) ?_
 refine AllReadyH.cons (o := ⟨some 24, .load 91 (.tmp 23), 91, "disk.go:63", #[⟨3, .data⟩], none⟩) rfl (fun K hK => ?_) AllReadyH.nil
 refine step_of_run ?_ (exec_load_loose (Operand.tmp 23) ?_ D 5 ?_ lv (by first | exact C5a.out | exact C5b.out)) ?_
 rfl
 rfl
 rfl
 refine hK.out _ _ (by assumption) (fun hHeld => ?_)
 clear hK K
 try simp only [Act.put, sA, sB, sC]
 rotate_left 1
 all_goals
  refine wpAnyH_ready (rs := [15]) (by kernel_rfl) (by simp) ?_
  refine AllReadyH.cons (o := ⟨some 35, .call ⟨.builtin .append, #[.tmp 24, .tmp 34], #[91, 91]⟩, 91, "disk.go:63", #[⟨4, .data⟩, ⟨14, .data⟩], none⟩) rfl (fun K hK => ?_) AllReadyH.nil
  refine step_append_wr ?_ (Operand.tmp 24) (Operand.tmp 34) ?_ B lv L ?_ HL2.out ⟨w1.drew.heap.size, 0, none⟩ (n, kget kvs n, b) HKG.out hb ?_ HC2.out hL HBS.out ?_
  rfl
  rfl
  rfl
  rfl
  intro v' w2 hlo2 hgr2 hblk
  obtain ⟨sa, sc, hv'⟩ := hlo2.shape
  generalize (L ++ [(n, kget kvs n, b)]).length = sn at hv'
  subst hv'
  have HLO2 := hid hlo2
  have HGR2 := hid hgr2
  have HBLK := hid hblk
  clear hlo2 hgr2 hblk
  have HD2 := hid (show DiskIs w2 D (DC nb rm (opFz fz dn) (opDn fz dn) (.map (some M)) lv) from (HGR2.out.block D (by simp; have := HD1.out.lt; omega) (fun e => HDK.out.apart.2.1 e.symm)).trans ((Below.heap_alloc w1.drew _ _ (show D < w1.drew.heap.size from HD1.out.lt)).trans HD1.out))
  have HM2 := hid (show MapIs w2 M kvs from hHeld.2.1.of (HGR2.out.block M hHeld.2.1.lt (fun e => HDK.out.apart.2.2 e.symm)))
  have HX2 := hid (show w2.heap[w.heap.size]? = some (.cells (ArrU8 b) 50 (0, 0)) from (HGR2.out.block w.heap.size (by simp; have := HSS.out; omega) (fun e => by have := (HLO.out.lt _ e.symm).2; omega)).trans hHeld.2.2)
  refine hK.out _ _ ⟨HD2.out.cell 4, HM2.out, HX2.out⟩ (fun hHeld => ?_)
  clear hK K
  try simp only [Act.put, sA, sB, sC]
  refine tk (i := 16) (oi := ⟨some 36, .nilCheck (.tmp 20), 0, "disk.go:63", #[⟨0, .data⟩, ⟨0, .phase⟩, ⟨1, .phase⟩, ⟨2, .phase⟩, ⟨3, .phase⟩, ⟨4, .phase⟩, ⟨5, .phase⟩, ⟨6, .phase⟩, ⟨7, .phase⟩, ⟨8, .phase⟩, ⟨9, .phase⟩, ⟨10, .phase⟩, ⟨11, .phase⟩, ⟨12, .phase⟩, ⟨13, .phase⟩, ⟨14, .phase⟩, ⟨15, .phase⟩], none⟩) (v := ?_) (Or.inl ⟨by rfl, ?_⟩) ?_
  rotate_left 1
  ·(intro u hSw; go_simp; try with_reducible rfl)
  try simp only [Act.put, sA, sB, sC]
  refine tk (i := 17) (oi := ⟨some 37, .fieldAddr 93 (.tmp 36) 5, 0, "disk.go:63", #[⟨16, .data⟩, ⟨0, .phase⟩, ⟨1, .phase⟩, ⟨2, .phase⟩, ⟨3, .phase⟩, ⟨4, .phase⟩, ⟨5, .phase⟩, ⟨6, .phase⟩, ⟨7, .phase⟩, ⟨8, .phase⟩, ⟨9, .phase⟩, ⟨10, .phase⟩, ⟨11, .phase⟩, ⟨12, .phase⟩, ⟨13, .phase⟩, ⟨14, .phase⟩, ⟨15, .phase⟩], none⟩) (v := ?_) (Or.inl ⟨by rfl, ?_⟩) ?_
  rotate_left 1
  ·(intro u hSw; go_simp; try with_reducible rfl)
  try simp only [Act.put, sA, sB, sC]
  refine wpAnyH_ready (rs := [18]) (by kernel_rfl) (by simp) ?_
  refine AllReadyH.cons (o := ⟨none, .store 91 (.tmp 37) (.tmp 35), 0, "disk.go:63", #[⟨17, .data⟩, ⟨15, .data⟩, ⟨15, .chain⟩, ⟨0, .phase⟩, ⟨1, .phase⟩, ⟨2, .phase⟩, ⟨3, .phase⟩, ⟨4, .phase⟩, ⟨5, .phase⟩, ⟨6, .phase⟩, ⟨7, .phase⟩, ⟨8, .phase⟩, ⟨9, .phase⟩, ⟨10, .phase⟩, ⟨11, .phase⟩, ⟨12, .phase⟩, ⟨13, .phase⟩, ⟨14, .phase⟩, ⟨15, .phase⟩], none⟩) rfl (fun K hK => ?_) AllReadyH.nil
  have c5 : w2.cell? ⟨D, 5, none⟩ = some lv := HD2.out.cell 5
  have f5 := HD2.out.frozen 5
  have HS3 := hid (show (w2.setCell ⟨D, 5, none⟩ (.slice sa sn sc)).cell? ⟨D, 4, none⟩ = some (.map (some M)) ∧ MapIs (w2.setCell ⟨D, 5, none⟩ (.slice sa sn sc)) M kvs ∧ (w2.setCell ⟨D, 5, none⟩ (.slice sa sn sc)).heap[w.heap.size]? = some (.cells (ArrU8 b) 50 (0, 0)) from
  ⟨(HD2.out.set 5 (.slice sa sn sc)).cell 4, HM2.out.of (Below.heap_setCell _ _ _ _ (fun e => HDK.out.apart.1 e.symm)), (Below.heap_setCell _ _ _ _ (show w.heap.size ≠ D by omega)).trans HX2.out⟩)
  go_simp
  refine hK.out _ _ HS3.out (fun hHeld => ?_)
  clear c5 f5
  clear hK K
  try simp only [Act.put]
  refine wpAnyH_done (by kernel_rfl) ?_ _
  have HD3 := hid (show DiskIs (w2.setCell ⟨D, 5, none⟩ (.slice sa sn sc)) D (DC nb rm (opFz fz dn) (opDn fz dn) (.map (some M)) (.slice sa sn sc)) from HD2.out.set 5 (.slice sa sn sc))
  have hown : ∀ k, (Value.slice sa sn sc).ownBlock = some k → lv.ownBlock = some k ∨ w.heap.size + 2 ≤ k := fun k hk => HBLK.out.elim (fun e => .inl (e.symm.trans hk)) (fun ⟨k', e, h⟩ => .inr (by rw [e] at hk; injection hk with hk; subst hk; simp at h; have := HSS.out; omega))
  have HOWN := hid hown
  have HLO3 := hid (show LooseIs (w2.setCell ⟨D, 5, none⟩ (.slice sa sn sc)) B (.slice sa sn sc) (L ++ [(n, kget kvs n, b)]) from HLO2.out.kept (fun k hk => Below.heap_setCell _ _ _ _ (fun e => by
   have e : k = D := e
   subst e
   exact (hown _ hk).elim HDK.out.apart.2.1 (fun h => by omega))))
  have HC3 := hid (show Chg (Foot D M lv) w (w2.setCell ⟨D, 5, none⟩ (.slice sa sn sc)) from
   (((HC1.out.mono (fun i hi => .inl hi)).drew.alloc _).trans (Chg.grown (F := fun k => lv.ownBlock = some k) HGR2.out (fun k hk => hk)) (fun i hi => .inl (.inr (.inr hi)))).setCell ⟨D, 5, none⟩ _ (.inl (.inl rfl)))
  have HM3 := hid hHeld.2.1
  have HX3 := hid hHeld.2.2
  clear hHeld hown
  generalize w2.setCell ⟨D, 5, none⟩ (.slice sa sn sc) = w3 at *
  go_wp2_with fail
  obtain ⟨w4, hrun, hm4, hg4, hs4⟩ := run_update_kv w3.drew M n b kvs (HM3.out.of rfl)
  have HRUN := hid hrun
  have HM4 := hid hm4
  have HG4 := hid hg4
  have HC4 := hid (show Chg (Foot D M lv) w w4 from HC3.out.drew.trans (Chg.grown (F := fun k => k = M) hg4 (fun k hk => by injection hk with hk; exact hk.symm)) (fun i hi => .inl (.inr (.inl hi))))
  have HD4' := hid (show DiskIs w4 D (DC nb rm (opFz fz dn) (opDn fz dn) (.map (some M)) (.slice sa sn sc)) from (hg4.block D (show D < w3.heap.size from HD3.out.lt) (fun e => HDK.out.apart.1 (by injection e))).trans HD3.out)
  have HX4 := hid ((hg4.block w.heap.size (show w.heap.size < w3.heap.size from (Array.getElem?_eq_some_iff.1 HX3.out).1) (by intro e; injection e with e; omega)).trans HX3.out)
  have HLO4 := hid (show LooseIs w4 B (.slice sa sn sc) (L ++ [(n, kget kvs n, b)]) from HLO3.out.kept (fun k hk => hg4.block k (HLO3.out.lt k hk).2 (fun e => by
   injection e with e
   subst e
   exact (HOWN.out _ hk).elim HDK.out.apart.2.2 (fun h => by omega))))
  clear hrun hm4 hg4 hs4
  refine wp_region_held_drew (S := fun u => u.cell? ⟨D, 4, none⟩ = some (.map (some M)) ∧ u.heap[w.heap.size]? = some (.cells (ArrU8 b) 50 (0, 0))) (by kernel_rfl) (⟨HD3.out.cell 4, HX3.out⟩) (fun hHeld => ?_)
  refine tk (i := 0) (oi := ⟨some 38, .move (.tmp 0), 24, "disk.go:64", #[], none⟩) (v := ?_) (Or.inl ⟨by rfl, ?_⟩) ?_
  rotate_left 1
  ·(intro u hSw; go_simp; try with_reducible rfl)
  try simp only [Act.put, sA, sB, sC]
  refine tk (i := 1) (oi := ⟨some 39, .nilCheck (.tmp 38), 0, "disk.go:64", #[⟨0, .data⟩], none⟩) (v := ?_) (Or.inl ⟨by rfl, ?_⟩) ?_
  rotate_left 1
  ·(intro u hSw; go_simp; try with_reducible rfl)
  try simp only [Act.put, sA, sB, sC]
  refine tk (i := 2) (oi := ⟨some 40, .fieldAddr 93 (.tmp 39) 4, 0, "disk.go:64", #[⟨1, .data⟩], none⟩) (v := ?_) (Or.inl ⟨by rfl, ?_⟩) ?_
  rotate_left 1
  ·(intro u hSw; go_simp; try with_reducible rfl)
  try simp only [Act.put, sA, sB, sC]
  refine tk (i := 3) (oi := ⟨some 41, .load 76 (.tmp 40), 76, "disk.go:64", #[⟨2, .data⟩], none⟩) (v := ?_) (Or.inl ⟨by rfl, ?_⟩) ?_
  rotate_left 1
  ·intro u hSw
   have h4 := hSw.1
   go_simp
   try with_reducible rfl
  try simp only [Act.put, sA, sB, sC]
  refine tk (i := 4) (oi := ⟨some 42, .move (.tmp 1), 3, "disk.go:64", #[], none⟩) (v := ?_) (Or.inl ⟨by rfl, ?_⟩) ?_
  rotate_left 1
  ·(intro u hSw; go_simp; try with_reducible rfl)
  try simp only [Act.put, sA, sB, sC]
  refine tk (i := 5) (oi := ⟨some 43, .load 50 (.tmp 5), 50, "disk.go:64", #[], none⟩) (v := ?_) (Or.inl ⟨by rfl, ?_⟩) ?_
  rotate_left 1
  ·intro u hSw
   refine exec_load_row 50 (Operand.tmp 5) ?_ u w.heap.size ?_ (ArrU8 b) 50 (0, 0) _ hSw.2 Tryz.underlying50 rfl HI35.out <;> rfl
  try simp only [Act.put, sA, sB, sC]
  refine wpAnyH_ready (rs := [6]) (by kernel_rfl) (by simp) ?_
  refine AllReadyH.cons (o := ⟨none, .mapUpdate 76 (.tmp 41) (.tmp 42) (.tmp 43), 0, "disk.go:64", #[⟨3, .data⟩, ⟨4, .data⟩, ⟨5, .data⟩, ⟨0, .phase⟩, ⟨1, .phase⟩, ⟨2, .phase⟩, ⟨3, .phase⟩, ⟨4, .phase⟩, ⟨5, .phase⟩], none⟩) rfl (fun K hK => ?_) AllReadyH.nil
  refine step_of_skip ?_ (exec_update (Operand.tmp 41) (Operand.tmp 42) (Operand.tmp 43) ?_ _ _ _ ?_ ?_ ?_ HRUN.out) ?_
  rfl
  rfl
  rfl
  rfl
  rfl
  refine hK.out _ _ ⟨HD4'.out.cell 4, HX4.out⟩ (fun hHeld => ?_)
  clear hK K
  try simp only [Act.put]
  refine wpAnyH_done (by kernel_rfl) ?_ _
  go_wp2_with fail
  go_ret
  refine ⟨congrArg (fun z => Ending.returned (.int .i64 z)) HE.out.symm, .slice sa sn sc, ?_, HC4.out, fun k hk => ?_⟩
  ·rw [HE.out, if_pos rfl, if_pos rfl]
   rw [HKF.out n] at HLO4
   refine ⟨HD4'.out, ⟨_, HM4.out, hkn.put n b, fun m => ?_⟩, HLO4.out, hBD, hBM, opFz_rng HFZ.out, fun m => ?_, fun x hx => ?_⟩
   ·rw [kget_kput, fput, HKF.out m]
   ·unfold fput; split
    ·exact hb
    ·exact HFL.out m
   ·rcases List.mem_append.1 hx with hx | hx
    ·exact HLL.out x hx
    ·rw [List.mem_singleton] at hx; subst hx; exact ⟨HFL.out n, hb⟩
  ·rcases hk with hk | hk | hk
   ·exact .inl (.inl hk)
   ·exact .inl (.inr (.inl hk))
   ·exact (HOWN.out k hk).elim (fun h => .inl (.inr (.inr h))) (fun h => .inr (by omega))
end Go.Proofs.YtdkjkibdncbibaaGreat
