import Derived.Test.YtaibminomehppaaDiskE
import Derived.Lib.SlBytesConst
import Derived.WalkKit
import Derived.ProofKit
import Derived.BigQuiet
import Derived.Deep.QuietTactic
import Derived.WalkSpells
import Derived.WalkLawsBesides
import Derived.Lib.Hide
import Derived.Deep.MidRow
import Derived.Deep.RegionLaw
import Derived.BigRegion
import Derived.Laws.AppendOwnNone
import Derived.Deep.DeepMust
import Derived.Deep.AppendLies
import Derived.RegionTactic
import Derived.Deep.WholeRow
import Derived.BigFrame
import Derived.Deep.RegionWith
import Derived.Deep.RegionHeld3
import Derived.Maps.RangeWalk
import Derived.Laws.CopyOwn
import Derived.StillTailTactics
namespace Go.Proofs.Ytaibminomehppaa
open Go.RowKit
theorem ret_bool {a b : Bool} (h : a = b) : Ending.returned (.bool a) = Ending.returned (.bool b) := by rw [h]
theorem ArrU8_at (l : List Int) (i : Nat) (h : i < l.length) : (ArrU8 l)[i]? = some (.int .u8 l[i]) := by
  simp [ArrU8, h]
theorem run_eqItems_bytes {P : Program} (w : World) (d : Nat) (e : TypeId) (he : P.underlying e = some (.int .u8)) (hk : P.plainKey e = true) (hc : P.cellsOf e = 1) (xs ys : List Int) (hl : xs.length = ys.length) :
    ∀ is : List Nat, (∀ i ∈ is, i < xs.length) → (Op.eqItems (d + 1) e (P.cellsOf e) (ArrU8 xs) (ArrU8 ys) is).run P w = .ok (decide (∀ i ∈ is, xs[i]? = ys[i]?)) w
  | [], _ => by simp [Op.eqItems]
  | i :: is, h => by
    have hi : i < xs.length := h i (by simp)
    have hi2 : i < ys.length := by omega
    have ih := run_eqItems_bytes w d e he hk hc xs ys hl is (fun j hj => h j (by simp [hj]))
    have p1 := run_part_plain (P := P) (w := w) hk (ArrU8_at xs i hi)
    have p2 := run_part_plain (P := P) (w := w) hk (ArrU8_at ys i hi2)
    rw [hc] at ih ⊢
    simp only [Op.eqItems, Sem.run_bind, Nat.mul_one, p1, p2, Result.andThen_ok, run_equalIn_int w d e .u8 .u8 _ _ he]
    by_cases hx : xs[i] = ys[i]
    · rw [hx, if_neg (by simp), ih]
      congr 1
      simp [hi, hi2, hx]
    · rw [if_pos (by simp [hx])]
      simp [hi, hi2, hx, Sem.run_pure]
theorem run_eql_bytes {P : Program} (w : World) (t e n : Nat) (i : TypeInfo) (ht : P.underlying t = some (.array n e)) (hi : P.info? e = some i) (he : P.underlying e = some (.int .u8)) (hk : P.plainKey e = true) (hc : P.cellsOf e = 1)
    (xs ys : List Int) (hx : xs.length = n) (hy : ys.length = n) : (binOp .eql t (.agg (ArrU8 xs)) (.agg (ArrU8 ys))).run P w = .ok (.bool (decide (xs = ys))) w := by
  have h := run_equalIn_array (P := P) (w := w) 9999 (ArrU8 xs) (ArrU8 ys) ht hi
  have h2 := run_eqItems_bytes (P := P) w 9998 e he hk hc xs ys (by omega) (List.range n) (fun j hj => by rw [List.mem_range] at hj; omega)
  have e1 : decide (∀ i ∈ List.range n, xs[i]? = ys[i]?) = decide (xs = ys) := by
    rw [Bool.eq_iff_iff, decide_eq_true_eq, decide_eq_true_eq]
    constructor
    · intro h
      apply List.ext_getElem?
      intro j
      by_cases hj : j < n
      · exact h j (List.mem_range.2 hj)
      · rw [List.getElem?_eq_none (by omega), List.getElem?_eq_none (by omega)]
    · intro h j _; rw [h]
  rw [e1] at h2
  show (do pure (Value.bool (← Op.equal t (.agg (ArrU8 xs)) (.agg (ArrU8 ys)))) : Sem Value).run P w = _
  simp only [Op.equal, Op.maxDepth, Sem.run_bind, h, h2, Result.andThen_ok, Sem.run_pure]
theorem run_neq_bytes {P : Program} (w : World) (t e n : Nat) (i : TypeInfo) (ht : P.underlying t = some (.array n e)) (hi : P.info? e = some i) (he : P.underlying e = some (.int .u8)) (hk : P.plainKey e = true) (hc : P.cellsOf e = 1)
    (xs ys : List Int) (hx : xs.length = n) (hy : ys.length = n) : (binOp .neq t (.agg (ArrU8 xs)) (.agg (ArrU8 ys))).run P w = .ok (.bool (!decide (xs = ys))) w := by
  have h := run_eql_bytes w t e n i ht hi he hk hc xs ys hx hy
  have h1 : (do pure (Value.bool (← Op.equal t (.agg (ArrU8 xs)) (.agg (ArrU8 ys)))) : Sem Value).run P w = .ok (.bool (decide (xs = ys))) w := h
  show (do pure (Value.bool (!(← Op.equal t (.agg (ArrU8 xs)) (.agg (ArrU8 ys))))) : Sem Value).run P w = _
  simp only [Sem.run_bind, Sem.run_pure] at h1 ⊢
  cases hr : (Op.equal t (.agg (ArrU8 xs)) (.agg (ArrU8 ys))).run P w with
  | ok b w' => rw [hr] at h1; simp only [Result.andThen_ok] at h1 ⊢; injection h1 with h2 h3; injection h2 with h2; rw [h2, h3]
  | halt x w' => rw [hr] at h1; cases h1
theorem info_u8 : ∃ i, Try.prog.info? 5 = some i := by
  have h : (Try.prog.info? 5).isSome = true := by kernel_rfl
  exact Option.isSome_iff_exists.1 h
set_option maxRecDepth 100000 in
theorem run_eql_blk (w : World) (xs ys : List Int) (hx : xs.length = 256) (hy : ys.length = 256) : (binOp .eql 52 (.agg (ArrU8 xs)) (.agg (ArrU8 ys))).run Try.prog w = .ok (.bool (decide (xs = ys))) w := by
  obtain ⟨i, hi⟩ := info_u8
  exact run_eql_bytes w 52 5 256 i Try.underlying52 hi Try.underlying5 (by kernel_rfl) (by kernel_rfl) xs ys hx hy
set_option maxRecDepth 100000 in
theorem run_neq_blk (w : World) (xs ys : List Int) (hx : xs.length = 256) (hy : ys.length = 256) : (binOp .neq 52 (.agg (ArrU8 xs)) (.agg (ArrU8 ys))).run Try.prog w = .ok (.bool (!decide (xs = ys))) w := by
  obtain ⟨i, hi⟩ := info_u8
  exact run_neq_bytes w 52 5 256 i Try.underlying52 hi Try.underlying5 (by kernel_rfl) (by kernel_rfl) xs ys hx hy
set_option maxRecDepth 100000 in
theorem exec_eql_blk {ρ : Operand → Value} {o : Oper} {w : World} (x y : Operand) (U : TypeId) (ho : o.op = .binOp .eql 52 x y U) (xs ys : List Int) (hx : ρ x = .agg (ArrU8 xs)) (hy : ρ y = .agg (ArrU8 ys)) (lx : xs.length = 256) (ly : ys.length = 256) (b : Bool) (hb : decide (xs = ys) = b) :
    (execOp ρ o).run Try.prog w = .ok (.value (.bool b)) w := by
  unfold execOp
  rw [ho]
  simp only [hx, hy]
  show ((binOp .eql 52 (.agg (ArrU8 xs)) (.agg (ArrU8 ys))) >>= fun v => pure (Next.value v) : Sem Next).run Try.prog w = _
  simp only [Sem.run_bind, run_eql_blk w xs ys lx ly, Result.andThen_ok, hb, Sem.run_pure]
set_option maxRecDepth 100000 in
theorem exec_neq_blk {ρ : Operand → Value} {o : Oper} {w : World} (x y : Operand) (U : TypeId) (ho : o.op = .binOp .neq 52 x y U) (xs ys : List Int) (hx : ρ x = .agg (ArrU8 xs)) (hy : ρ y = .agg (ArrU8 ys)) (lx : xs.length = 256) (ly : ys.length = 256) (b : Bool) (hb : (!decide (xs = ys)) = b) :
    (execOp ρ o).run Try.prog w = .ok (.value (.bool b)) w := by
  unfold execOp
  rw [ho]
  simp only [hx, hy]
  show ((binOp .neq 52 (.agg (ArrU8 xs)) (.agg (ArrU8 ys))) >>= fun v => pure (Next.value v) : Sem Next).run Try.prog w = _
  simp only [Sem.run_bind, run_neq_blk w xs ys lx ly, Result.andThen_ok, hb, Sem.run_pure]
/-! ### the calls, by the state of a disk -/
theorem new_dk (n : Int) (w : World) (h1 : 1 ≤ n) (h2 : n ≤ 4096) :
    Calls Try.prog 6 #[.int .i64 n] w fun e w' => e = .returned (.pointer (some ⟨w.heap.size + 1, 0, none⟩)) ∧ Dk w' w.heap.size (w.heap.size + 1) w.heap.size n n (-1) false (fun _ => zeros 256) [] (.slice none 0 0) ∧ Below w.heap.size w w' := by
  refine (new_any n w h1 h2).mono ?_
  rintro e w' ⟨rfl, rfl⟩
  refine ⟨rfl, ⟨?_, ⟨[], ⟨#[], 0, ?_, rfl, MapKept.stamped_empty 0⟩, List.nodup_nil, fun _ => rfl⟩, World.ownsRow_nil _ _ _ _, by omega, Nat.le_refl _, ⟨by omega, by omega⟩, fun _ => zeros_len _, fun x hx => by cases hx⟩, ((Below.refl _ _).alloc (Nat.le_refl _) _).alloc (by simp) _⟩
  · have := heap_alloc_new (w.alloc (.map #[] 0)) (.cells (DC n n (-1) false (.map (some w.heap.size)) (.slice none 0 0)) 73)
    rwa [World.size_alloc] at this
  · exact (Below.heap_alloc _ _ _ (by simp)).trans (heap_alloc_new w _)
def SyncEnds (B D M : Nat) (nb rm fz : Int) (dn : Bool) (f : Int → List Int) (L : List WR) (lv : Value) (w : World) (e : Ending) (w' : World) : Prop :=
  e = .returned (.int .i64 (if opOk fz dn = true then 0 else 44)) ∧ ∃ lv', Dk w' B D M nb rm (opFz fz dn) (opDn fz dn) f (if opOk fz dn = true then [] else L) lv' ∧ Chg (fun k => k = D) w w' ∧ (lv' = lv ∨ lv' = .slice none 0 0)
theorem sync_dk (B D M : Nat) (nb rm fz : Int) (dn : Bool) (f : Int → List Int) (L : List WR) (lv : Value) (w : World) (h : Dk w B D M nb rm fz dn f L lv) :
    Calls Try.prog 37 #[.pointer (some ⟨D, 0, none⟩)] w (SyncEnds B D M nb rm fz dn f L lv w) := by
  refine (sync_any D nb rm fz dn (.map (some M)) lv w h.1 h.2.2.2.2.2.1.1 h.2.2.2.2.2.1.2).mono ?_
  rintro e w' ⟨rfl, hd, hg, hs⟩
  have hc : Chg (fun k => k = D) w w' := Chg.grown hg (fun k hk => by injection hk with hk; exact hk.symm)
  cases hop : opOk fz dn
  · rw [hop, if_neg (by simp)] at hd
    refine ⟨by rw [hop], lv, ?_, hc, .inl rfl⟩
    rw [hop, if_neg (by simp)]
    exact h.turned hd (opFz_rng h.2.2.2.2.2.1) hc
  · rw [hop, if_pos rfl] at hd
    refine ⟨by rw [hop], .slice none 0 0, ?_, hc, .inr rfl⟩
    rw [hop, if_pos rfl]
    obtain ⟨a1, a2, a3⟩ := h.apart
    obtain ⟨h1, ⟨kvs, h2, h2b, h2c⟩, h3, h4, h5, h6, h7, h8⟩ := h
    exact ⟨hd, ⟨kvs, h2.of (hc.block M h2.lt (fun e => a1 e.symm)), h2b, h2c⟩, World.ownsRow_nil _ _ _ _, h4, h5, opFz_rng h6, h7, fun x hx => by cases hx⟩
theorem room_dk (B D M : Nat) (nb rm fz n : Int) (dn : Bool) (f : Int → List Int) (L : List WR) (lv : Value) (w : World) (h : Dk w B D M nb rm fz dn f L lv) :
    Calls Try.prog 52 #[.pointer (some ⟨D, 0, none⟩), .int .i64 n] w fun e w' => e = .returned (.tuple #[]) ∧ Dk w' B D M nb (if 0 ≤ n then n else 0) fz dn f L lv ∧ Chg (fun k => k = D) w w' := by
  refine (room_any D nb rm fz n dn (.map (some M)) lv w h.1).mono ?_
  rintro e w' ⟨rfl, hd, hg, hs⟩
  have hc : Chg (fun k => k = D) w w' := Chg.grown hg (fun k hk => by injection hk with hk; exact hk.symm)
  exact ⟨rfl, h.turned hd h.2.2.2.2.2.1 hc, hc⟩
theorem arm_dk (B D M : Nat) (nb rm fz n : Int) (dn : Bool) (f : Int → List Int) (L : List WR) (lv : Value) (w : World) (h : Dk w B D M nb rm fz dn f L lv) (hn : n ≤ 9223372036854775807) :
    Calls Try.prog 54 #[.pointer (some ⟨D, 0, none⟩), .int .i64 n] w fun e w' => e = .returned (.tuple #[]) ∧ Dk w' B D M nb rm (if 0 ≤ n then n else -1) dn f L lv ∧ Chg (fun k => k = D) w w' := by
  refine (arm_any D nb rm fz n dn (.map (some M)) lv w h.1).mono ?_
  rintro e w' ⟨rfl, hd, hg, hs⟩
  have hc : Chg (fun k => k = D) w w' := Chg.grown hg (fun k hk => by injection hk with hk; exact hk.symm)
  exact ⟨rfl, h.turned hd (by split <;> omega) hc, hc⟩
def rdF (nb n : Int) (dn : Bool) (f : Int → List Int) : List Int := if dn then zeros 256 else if hasB nb n then f n else zeros 256
theorem rdF_len (nb n : Int) (dn : Bool) (f : Int → List Int) (h : ∀ n, (f n).length = 256) : (rdF nb n dn f).length = 256 := by
  unfold rdF; split
  · exact zeros_len _
  · split
    · exact h n
    · exact zeros_len _
theorem read_dk (B D M : Nat) (nb rm fz n : Int) (dn : Bool) (f : Int → List Int) (L : List WR) (lv : Value) (w : World) (h : Dk w B D M nb rm fz dn f L lv) :
    Calls Try.prog 42 #[.pointer (some ⟨D, 0, none⟩), .int .i64 n] w fun e w' => e = .returned (.tuple #[.agg (ArrU8 (rdF nb n dn f)), .int .i64 (readErr nb n dn)]) ∧ Below w.heap.size w w' := by
  obtain ⟨h1, ⟨kvs, h2, h2b, h2c⟩, h3, h4, h5, h6, h7, h8⟩ := h
  have := read_any D M nb rm fz n dn lv kvs w h1 h2 (by rw [h2c]; exact h7 n)
  unfold readBlk at this
  rw [h2c] at this
  exact this
theorem loose_dk (B D M : Nat) (nb rm fz : Int) (dn : Bool) (f : Int → List Int) (L : List WR) (lv : Value) (w : World) (h : Dk w B D M nb rm fz dn f L lv) :
    Calls Try.prog 44 #[.pointer (some ⟨D, 0, none⟩)] w fun e w' => w = w' ∧ e = .returned (.int .i64 L.length) := by
  obtain ⟨sa, sc, rfl⟩ := h.2.2.1.shape
  exact loose_any D nb rm fz dn _ sa L.length sc w h.1
end Go.Proofs.Ytaibminomehppaa
