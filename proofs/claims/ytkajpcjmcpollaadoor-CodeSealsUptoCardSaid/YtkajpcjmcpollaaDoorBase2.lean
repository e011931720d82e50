import Derived.Test.YtkajpcjmcpollaaDoorBase1
import Derived.WalkKit
import Derived.ProofKit
import Derived.BigQuiet
import Derived.Deep.QuietTactic
import Derived.WalkSpells
import Derived.WalkLawsBesides
import Derived.Lib.Hide
import Derived.Deep.MidRow
import Derived.Deep.RegionLaw
import Derived.BigRegion
import Derived.Lib.SlBytesConst
import Derived.Laws.AppendOwnNone
import Derived.Deep.DeepMust
import Derived.Deep.AppendLies
import Derived.RegionTactic
import Derived.Deep.WholeRow
import Derived.BigFrame
import Derived.Deep.RegionWith
import Derived.Deep.RegionHeld3
import Derived.Maps.RangeWalk
import Derived.Laws.CopyOwn
import Derived.StillTailTactics
namespace Go.Proofs.YtkajpcjmcpollaaDoor
open Go.RowKit
/-- the string of a slice of bytes -/
def strOf (w : World) : Value → ByteArray
  | .slice (some a) n _ => ⟨((List.range n).map fun j => match w.cell? (a.add j) with | some (.int _ x) => UInt8.ofNat x.toNat | _ => 0).toArray⟩
  | _ => ByteArray.empty
def HasBytes (w : World) : Value → Prop
  | .slice (some a) n _ => ∀ j, j < n → ∃ x, w.cell? (a.add j) = some (.int .u8 x)
  | .slice none n _ => n = 0
  | _ => False
def str (l : List Int) : ByteArray := ⟨(l.map fun x => UInt8.ofNat x.toNat).toArray⟩
theorem strOf_drew (w : World) (v : Value) : strOf w.drew v = strOf w v := rfl
theorem strOf_drewN (w : World) (n : Nat) (v : Value) : strOf (w.drewN n) v = strOf w v := rfl
theorem hasBytes_drew (w : World) (v : Value) : HasBytes w.drew v = HasBytes w v := rfl
theorem hasBytes_drewN (w : World) (n : Nat) (v : Value) : HasBytes (w.drewN n) v = HasBytes w v := rfl
def convB (x : Value) : Sem Value := Conv.bytesToString x
theorem foldl_push (ns : List Int) : ∀ r : ByteArray, ns.foldl (fun r n => r.push (UInt8.ofNat n.toNat)) r = ⟨r.data ++ (ns.map fun x => UInt8.ofNat x.toNat).toArray⟩ := by
  induction ns with
  | nil => intro r; simp
  | cons n ns ih => intro r; rw [List.foldl_cons, ih]; simp [ByteArray.push]
theorem run_convB (P : Program) (w : World) (v : Value) (h : HasBytes w v) : (convB v).run P w = .ok (.string (strOf w v)) w := by
  cases v with
  | slice a n c =>
    cases a with
    | none =>
      have h0 : n = 0 := h
      subst h0
      simp [convB, Conv.bytesToString, strOf]
    | some a =>
      have h1 : ∀ j, j < n → ∃ x, w.cell? (a.add j) = some (.int .u8 x) := h
      obtain ⟨f, hf⟩ : ∃ f : Nat → Int, ∀ j, j < n → w.cell? (a.add j) = some (.int .u8 (f j)) := by
        refine ⟨fun j => match w.cell? (a.add j) with | some (.int _ x) => x | _ => 0, fun j hj => ?_⟩
        obtain ⟨x, hx⟩ := h1 j hj
        simp only [hx]
      have hl := run_loadCells_list (P := P) w a (((List.range n).map f).map (Value.int .u8)) (fun j v hj => by
        have hj' : j < n := by have := (List.getElem?_eq_some_iff.1 hj).1; simpa using this
        rw [hf j hj']
        simp [List.getElem?_range hj'] at hj
        rw [← hj])
      simp only [List.length_map, List.length_range] at hl
      show (Conv.bytesToString _).run P w = _
      rw [run_bytesToString w a n c _ hl, foldl_push]
      congr 1
      simp only [strOf, Value.string.injEq]
      have e0 : (ByteArray.empty).data = #[] := rfl
      rw [e0]
      simp only [Array.empty_append, List.map_map, ByteArray.mk.injEq]
      congr 1
      apply List.map_congr_left
      intro j hj
      rw [List.mem_range] at hj
      simp only [Function.comp, hf j hj]
  | _ => exact absurd h (by simp [HasBytes])
theorem Bs.hasBytes {w : World} {v : Value} {l : List Int} (h : Bs w v l) : HasBytes w v := by
  obtain ⟨a, cap, rfl, hc, h⟩ := h
  cases a with
  | none =>
    show l.length = 0
    have := hc.2 rfl
    omega
  | some ad =>
    intro j hj
    obtain ⟨b, off, e, _, hcell⟩ := h (by omega)
    injection e with e
    rw [e, Addr.add_mid]
    exact ⟨_, hcell j hj⟩
theorem Bs.str {w : World} {v : Value} {l : List Int} (h : Bs w v l) : strOf w v = str l := by
  obtain ⟨a, cap, rfl, hc, h⟩ := h
  cases a with
  | none =>
    have h0 := hc.2 rfl
    have h1 : l = [] := List.eq_nil_of_length_eq_zero (by omega)
    subst h1
    rfl
  | some ad =>
    simp only [strOf, _root_.Go.Proofs.YtkajpcjmcpollaaDoor.str, ByteArray.mk.injEq]
    congr 1
    apply List.ext_getElem?
    intro j
    by_cases hj : j < l.length
    · obtain ⟨b, off, e, _, hcell⟩ := h (by omega)
      injection e with e
      have h2 := hcell j hj
      rw [List.getElem?_map, List.getElem?_range hj, List.getElem?_map, List.getElem?_eq_getElem hj]
      rw [List.getElem?_eq_getElem hj] at h2
      simp only [Option.map_some, e, Addr.add_mid, h2, Option.getD_some]
    · rw [List.getElem?_eq_none (by simp; omega), List.getElem?_eq_none (by simp; omega)]
theorem str_inj {l m : List Int} (hl : Rng l) (hm : Rng m) (h : str l = str m) : l = m := by
  simp only [str, ByteArray.mk.injEq] at h
  have h2 : (l.map fun x => UInt8.ofNat x.toNat) = (m.map fun x => UInt8.ofNat x.toNat) := by simpa using congrArg Array.toList h
  have key : ∀ l : List Int, Rng l → (l.map fun x => UInt8.ofNat x.toNat).map (fun u => (u.toNat : Int)) = l := by
    intro l hl
    rw [List.map_map]
    conv => rhs; rw [← List.map_id l]
    apply List.map_congr_left
    intro x hx
    have := hl x hx
    simp only [Function.comp, id, UInt8.toNat_ofNat']
    omega
  rw [← key l hl, ← key m hm, h2]
def convC (x : Value) : Sem Value := convert 25 9 x
theorem convC_eq (x : Value) : convert 25 9 x = convC x := rfl
theorem run_convC (w : World) (a : Option Addr) (n c : Nat) (h : HasBytes w (.slice a n c)) : (convC (.slice a n c)).run Tryd.prog w = .ok (.string (strOf w (.slice a n c))) w :=
  (run_convert_bytes_string w 25 9 5 a n c Tryd.underlying25 Tryd.underlying5 Tryd.underlying9).trans (run_convB Tryd.prog w _ h)
theorem take_eq_succ {ps qs : List (List Int)} {k : Nat} (h : ps.take k = qs.take k) (h1 : k < ps.length) (h2 : k < qs.length) : ps.take (k + 1) = qs.take (k + 1) ↔ ps[k]?.getD [] = qs[k]?.getD [] := by
  rw [take_succ_ps ps k h1, take_succ_ps qs k h2, h]
  simp
theorem str_beq {l m : List Int} (hl : Rng l) (hm : Rng m) : ((str l).toList == (str m).toList) = decide (l = m) := by
  rw [Bool.eq_iff_iff, beq_iff_eq, decide_eq_true_eq]
  constructor
  · intro h
    refine str_inj hl hm ?_
    rw [ByteArray.toList_eq, ByteArray.toList_eq] at h
    have h2 : (str l).data = (str m).data := Array.toList_inj.1 h
    cases h3 : str l with
    | mk d1 => cases h4 : str m with
      | mk d2 => rw [h3, h4] at h2; exact congrArg ByteArray.mk h2
  · intro h; rw [h]
theorem ret_bool {a b : Bool} (h : a = b) : Ending.returned (.bool a) = Ending.returned (.bool b) := by rw [h]
theorem ArrU8_at (l : List Int) (i : Nat) (h : i < l.length) : (ArrU8 l)[i]? = some (.int .u8 l[i]) := by
  simp [ArrU8, h]
theorem run_eqItems_bytes {P : Program} (w : World) (d : Nat) (e : TypeId) (he : P.underlying e = some (.int .u8)) (hk : P.plainKey e = true) (hc : P.cellsOf e = 1) (xs ys : List Int) (hl : xs.length = ys.length) :
    ∀ is : List Nat, (∀ i ∈ is, i < xs.length) → (Op.eqItems (d + 1) e (P.cellsOf e) (ArrU8 xs) (ArrU8 ys) is).run P w = .ok (decide (∀ i ∈ is, xs[i]? = ys[i]?)) w
  | [], _ => by simp [Op.eqItems]
  | i :: is, h => by
    have hi : i < xs.length := h i (by simp)
    have hi2 : i < ys.length := by omega
    have ih := run_eqItems_bytes w d e he hk hc xs ys hl is (fun j hj => h j (by simp [hj]))
    have p1 := run_part_plain (P := P) (w := w) hk (ArrU8_at xs i hi)
    have p2 := run_part_plain (P := P) (w := w) hk (ArrU8_at ys i hi2)
    rw [hc] at ih ⊢
    simp only [Op.eqItems, Sem.run_bind, Nat.mul_one, p1, p2, Result.andThen_ok, run_equalIn_int w d e .u8 .u8 _ _ he]
    by_cases hx : xs[i] = ys[i]
    · rw [hx, if_neg (by simp), ih]
      congr 1
      simp [hi, hi2, hx]
    · rw [if_pos (by simp [hx])]
      simp [hi, hi2, hx, Sem.run_pure]
theorem run_eql_bytes {P : Program} (w : World) (t e n : Nat) (i : TypeInfo) (ht : P.underlying t = some (.array n e)) (hi : P.info? e = some i) (he : P.underlying e = some (.int .u8)) (hk : P.plainKey e = true) (hc : P.cellsOf e = 1)
    (xs ys : List Int) (hx : xs.length = n) (hy : ys.length = n) : (binOp .eql t (.agg (ArrU8 xs)) (.agg (ArrU8 ys))).run P w = .ok (.bool (decide (xs = ys))) w := by
  have h := run_equalIn_array (P := P) (w := w) 9999 (ArrU8 xs) (ArrU8 ys) ht hi
  have h2 := run_eqItems_bytes (P := P) w 9998 e he hk hc xs ys (by omega) (List.range n) (fun j hj => by rw [List.mem_range] at hj; omega)
  have e1 : decide (∀ i ∈ List.range n, xs[i]? = ys[i]?) = decide (xs = ys) := by
    rw [Bool.eq_iff_iff, decide_eq_true_eq, decide_eq_true_eq]
    constructor
    · intro h
      apply List.ext_getElem?
      intro j
      by_cases hj : j < n
      · exact h j (List.mem_range.2 hj)
      · rw [List.getElem?_eq_none (by omega), List.getElem?_eq_none (by omega)]
    · intro h j _; rw [h]
  rw [e1] at h2
  show (do pure (Value.bool (← Op.equal t (.agg (ArrU8 xs)) (.agg (ArrU8 ys)))) : Sem Value).run P w = _
  simp only [Op.equal, Op.maxDepth, Sem.run_bind, h, h2, Result.andThen_ok, Sem.run_pure]
def eql25 (x y : Value) : Sem Value := binOp .eql 55 x y
theorem eql25_eq (x y : Value) : binOp .eql 55 x y = eql25 x y := rfl
theorem run_eql25 (w : World) (xs ys : List Int) (hx : xs.length = 32) (hy : ys.length = 32) : (eql25 (.agg (ArrU8 xs)) (.agg (ArrU8 ys))).run Tryd.prog w = .ok (.bool (decide (xs = ys))) w := by
  obtain ⟨i0, hi, _⟩ := info_parts info5
  exact run_eql_bytes w 55 5 32 i0 Tryd.underlying55 hi Tryd.underlying5 (by kernel_rfl) (by kernel_rfl) xs ys hx hy
theorem hasCells_drew (w : World) (b o n : Nat) : hasCells w.drew b o n = hasCells w b o n := rfl
theorem cellsAt_drew (w : World) (b o n : Nat) : cellsAt w.drew b o n = cellsAt w b o n := rfl
theorem Bs_of_own {w : World} {B n : Nat} {v : Value} {l : List Int} {T : TypeId} (h : w.ownsRow B T 1 v n (l.map (Value.int .u8))) : Bs w v l := by
  have hn : n = l.length := by have := h.1; simp at this; omega
  subst hn
  rcases h.2 with ⟨rfl, h0⟩ | ⟨g, cap, cur, rfl, hg, hh, hle, _, _, _⟩
  · have h1 : l = [] := List.eq_nil_of_length_eq_zero h0
    subst h1
    exact Bs.nil w
  · refine ⟨some ⟨g, 0, none⟩, cap, rfl, ⟨hle, fun e => by cases e⟩, fun hl => ⟨g, 0, rfl, (h.lt g rfl).2, fun i hi => ?_⟩⟩
    have := h.cells (g := g) rfl i (.int .u8 (l[i]?.getD 0)) (by simp [hi])
    rw [Addr.add_mid] at this
    exact this
theorem joined_len (ps : List (List Int)) : (joined ps).length = 8 + jlen ps := by
  rw [joined, List.length_append, be8_len, joinB_len]
set_option maxRecDepth 100000 in
set_option maxHeartbeats 800000 in
theorem of_any (v : Value) (ps : List (List Int)) (w : World) (hv : Pss w v ps) (hK : KC w) (hj : jlen ps ≤ 549755813888) :
    Calls Tryd.prog 30 #[v] w fun e w' => e = .returned (.agg (ArrU8 (sha (joined ps)))) ∧ Below w.heap.size w w' := by
  have HV := Lib.hid hv
  have HK := Lib.hid hK
  clear hv hK
  go_enter Tryd.func30, Tryd.ntmps30
  go_wp2_with fail
  obtain ⟨w1, hw1⟩ : ∃ w1 : World, w1 = w.alloc (.cells ((List.replicate 32 (Value.int .u8 0)).toArray) 55) := ⟨_, rfl⟩
  change Calls _ _ _ (w.alloc (.cells ((List.replicate 32 (Value.int .u8 0)).toArray) 55)) _
  rw [← hw1]
  have hsz : w1.heap.size = w.heap.size + 1 := by rw [hw1]; simp
  have b1 : Below w.heap.size w w1 := by rw [hw1]; exact (Below.refl _ _).alloc (Nat.le_refl _) _
  have r1 : w1.heap[w.heap.size]? = some (.cells ((List.replicate 32 (Value.int .u8 0)).toArray) 55 (0,0)) := by rw [hw1]; exact heap_alloc_new _ _
  have hv1 := HV.out.below b1
  refine (join_any v ps w1 hv1 hj).mono ?_
  rintro e w2 ⟨v2, rfl, hown, hb2⟩
  have b2 : Below w.heap.size w w2 := b1.trans (hb2.mono (by omega))
  have r2 := (hb2.block w.heap.size (by omega)).trans r1
  have k2 := HK.out.below b2 HK.out.1
  have hbs := Bs_of_own hown
  have R2 := Lib.hid r2
  have B2 := Lib.hid b2
  have K2 := Lib.hid k2
  have BS := Lib.hid hbs
  have hs2 : w.heap.size < w2.heap.size := by have := hb2.size; omega
  clear hw1 b1 r1 hv1 hown hb2 b2 r2 k2 hbs hsz
  go_wp2_with fail
  refine (sum_any v2 (joined ps) w2 BS.out K2.out (by rw [joined_len]; omega)).mono ?_
  rintro e w4 ⟨rfl, b4⟩
  have g3 := (b4.block w.heap.size (by omega)).trans R2.out
  have b5 := B2.out.trans (b4.mono (by omega))
  have G3 := Lib.hid g3
  have B4 := Lib.hid b5
  have HI25 := Lib.hid (show (Tryd.prog.info? 55).map (·.size) = some (ArrU8 (sha (joined ps))).size by rw [show (ArrU8 (sha (joined ps))).size = 32 by simp [ArrU8, sha, dig, S8.list]]; kernel_rfl)
  have HS32 := Lib.hid (show (ArrU8 (sha (joined ps))).size = 32 by simp [ArrU8, sha, dig, S8.list])
  clear g3 b4 b5
  go_wp2_with (first | (refine wpList_store_row rfl 55 (Operand.tmp 2) (Operand.tmp 5) rfl w.heap.size (ArrU8 (sha (joined ps))) rfl rfl 55 _ G3.out HI25.out HS32.out.symm (ArrU8_one _) ?_) | fail)
  refine bodyPost_ret (results_cell_row rfl _ _ w.heap.size 55 (ArrU8 (sha (joined ps))) (0,0) _ rfl (setRow_heap _ _ _ _ _ _ G3.out) Tryd.underlying55 rfl HI25.out) rfl ⟨rfl, ?_⟩
  exact below_setRow B4.out (by omega) _
end Go.Proofs.YtkajpcjmcpollaaDoor
