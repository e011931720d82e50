import Derived.Test.YtboadlhpanpljaaDoorLaw1
import Derived.Test.YtboadlhpanpljaaDoorHash0
import Derived.WalkKit
import Derived.ProofKit
import Derived.BigQuiet
import Derived.Deep.QuietTactic
import Derived.WalkSpells
import Derived.WalkLawsBesides
import Derived.Lib.Hide
import Derived.Deep.MidRow
import Derived.Deep.RegionLaw
import Derived.BigRegion
import Derived.Lib.SlBytesConst
import Derived.Laws.AppendOwnNone
import Derived.Deep.DeepMust
import Derived.Deep.AppendLies
import Derived.RegionTactic
import Derived.Deep.WholeRow
import Derived.BigFrame
import Derived.Deep.RegionWith
import Derived.Deep.RegionHeld3
import Derived.Maps.RangeWalk
import Derived.Laws.CopyOwn
import Derived.StillTailTactics
namespace Go.Proofs.YtboadlhpanpljaaDoor
open Go.RowKit
theorem sha_abc : (sha [97, 98, 99])[0]? = some 186 ∧ (sha [97, 98, 99])[31]? = some 173 := by decide +kernel
theorem sha_nil : (sha [])[0]? = some 227 ∧ (sha [])[31]? = some 85 := by decide +kernel
theorem joined_nil : joined [] = zeros 8 := by decide +kernel
theorem split_fixed : splitL (joined [[97], []]) = some [[97], []] := by decide +kernel
instance : DecidablePred Rng := fun l => by unfold Rng; infer_instance
theorem split_nine : splitL (zeros 9) = none := by decide +kernel
theorem ArrU8_at (l : List Int) (i : Nat) (h : i < l.length) : (ArrU8 l)[i]? = some (.int .u8 l[i]) := by
  simp [ArrU8, h]
theorem run_eqItems_bytes {P : Program} (w : World) (d : Nat) (e : TypeId) (he : P.underlying e = some (.int .u8)) (hk : P.plainKey e = true) (hc : P.cellsOf e = 1) (xs ys : List Int) (hl : xs.length = ys.length) :
    ∀ is : List Nat, (∀ i ∈ is, i < xs.length) → (Op.eqItems (d + 1) e (P.cellsOf e) (ArrU8 xs) (ArrU8 ys) is).run P w = .ok (decide (∀ i ∈ is, xs[i]? = ys[i]?)) w
  | [], _ => by simp [Op.eqItems]
  | i :: is, h => by
    have hi : i < xs.length := h i (by simp)
    have hi2 : i < ys.length := by omega
    have ih := run_eqItems_bytes w d e he hk hc xs ys hl is (fun j hj => h j (by simp [hj]))
    have p1 := run_part_plain (P := P) (w := w) hk (ArrU8_at xs i hi)
    have p2 := run_part_plain (P := P) (w := w) hk (ArrU8_at ys i hi2)
    rw [hc] at ih ⊢
    simp only [Op.eqItems, Sem.run_bind, Nat.mul_one, p1, p2, Result.andThen_ok, run_equalIn_int w d e .u8 .u8 _ _ he]
    by_cases hx : xs[i] = ys[i]
    · rw [hx, if_neg (by simp), ih]
      congr 1
      simp [hi, hi2, hx]
    · rw [if_pos (by simp [hx])]
      simp [hi, hi2, hx, Sem.run_pure]
theorem run_eql_bytes {P : Program} (w : World) (t e n : Nat) (i : TypeInfo) (ht : P.underlying t = some (.array n e)) (hi : P.info? e = some i) (he : P.underlying e = some (.int .u8)) (hk : P.plainKey e = true) (hc : P.cellsOf e = 1)
    (xs ys : List Int) (hx : xs.length = n) (hy : ys.length = n) : (binOp .eql t (.agg (ArrU8 xs)) (.agg (ArrU8 ys))).run P w = .ok (.bool (decide (xs = ys))) w := by
  have h := run_equalIn_array (P := P) (w := w) 9999 (ArrU8 xs) (ArrU8 ys) ht hi
  have h2 := run_eqItems_bytes (P := P) w 9998 e he hk hc xs ys (by omega) (List.range n) (fun j hj => by rw [List.mem_range] at hj; omega)
  have e1 : decide (∀ i ∈ List.range n, xs[i]? = ys[i]?) = decide (xs = ys) := by
    rw [Bool.eq_iff_iff, decide_eq_true_eq, decide_eq_true_eq]
    constructor
    · intro h
      apply List.ext_getElem?
      intro j
      by_cases hj : j < n
      · exact h j (List.mem_range.2 hj)
      · rw [List.getElem?_eq_none (by omega), List.getElem?_eq_none (by omega)]
    · intro h j _; rw [h]
  rw [e1] at h2
  show (do pure (Value.bool (← Op.equal t (.agg (ArrU8 xs)) (.agg (ArrU8 ys)))) : Sem Value).run P w = _
  simp only [Op.equal, Op.maxDepth, Sem.run_bind, h, h2, Result.andThen_ok, Sem.run_pure]
def eql25 (x y : Value) : Sem Value := binOp .eql 25 x y
theorem eql25_eq (x y : Value) : binOp .eql 25 x y = eql25 x y := rfl
theorem run_eql25 (w : World) (xs ys : List Int) (hx : xs.length = 32) (hy : ys.length = 32) : (eql25 (.agg (ArrU8 xs)) (.agg (ArrU8 ys))).run Tryd.prog w = .ok (.bool (decide (xs = ys))) w := by
  obtain ⟨i0, hi, _⟩ := info_parts info5
  exact run_eql_bytes w 25 5 32 i0 Tryd.underlying25 hi Tryd.underlying5 (by kernel_rfl) (by kernel_rfl) xs ys hx hy
attribute [local go_sem ↓] convC_eq eql25_eq
theorem hasCells_drew (w : World) (b o n : Nat) : hasCells w.drew b o n = hasCells w b o n := rfl
theorem cellsAt_drew (w : World) (b o n : Nat) : cellsAt w.drew b o n = cellsAt w b o n := rfl
/-- what the last test reads -/
structure Fx (D1 D2 g : Nat) (S S0 : List Int) (v : Value) (u : World) : Prop where
  d1 : u.heap[D1]? = some (.cells (ArrU8 S) 25 (0, 0))
  d2 : u.heap[D2]? = some (.cells (ArrU8 S0) 25 (0, 0))
  c0 : u.cell? ⟨g, 0, none⟩ = some v
  bs : Bs u v [97]
  lt : D1 < u.heap.size ∧ D2 < u.heap.size ∧ g < u.heap.size
theorem Fx.below {D1 D2 g : Nat} {S S0 : List Int} {v : Value} {u u' : World} (h : Fx D1 D2 g S S0 v u) (hb : Below u.heap.size u u') : Fx D1 D2 g S S0 v u' :=
  ⟨(hb.block D1 h.lt.1).trans h.d1, (hb.block D2 h.lt.2.1).trans h.d2, (hb.cell (p := ⟨g, 0, none⟩) h.lt.2.2).trans h.c0, h.bs.below hb,
    Nat.lt_of_lt_of_le h.lt.1 hb.size, Nat.lt_of_lt_of_le h.lt.2.1 hb.size, Nat.lt_of_lt_of_le h.lt.2.2 hb.size⟩
theorem Fx.facts {D1 D2 g : Nat} {xa : Option Addr} {xc : Nat} {u : World} (h : Fx D1 D2 g (sha [97, 98, 99]) (sha []) (.slice xa 1 xc) u) :
    u.cell? ⟨D1, 0, none⟩ = some (.int .u8 186) ∧ u.cell? ⟨D1, 31, none⟩ = some (.int .u8 173) ∧ u.cell? ⟨D2, 0, none⟩ = some (.int .u8 227) ∧ u.cell? ⟨D2, 31, none⟩ = some (.int .u8 85) ∧
    u.cell? ⟨g, 0, none⟩ = some (.slice xa 1 xc) ∧ hasCells u D1 0 32 ∧ cellsAt u D1 0 32 = ArrU8 (sha [97, 98, 99]) ∧ (convC (.slice xa 1 xc)).run Tryd.prog u = .ok (.string (str [97])) u := by
  have g1 : ∀ (D : Nat) (l : List Int) (i : Nat) (x : Int), u.heap[D]? = some (.cells (ArrU8 l) 25 (0, 0)) → l[i]? = some x → u.cell? ⟨D, i, none⟩ = some (.int .u8 x) := by
    intro D l i x hd hx
    rw [cell_of_row u D i _ _ _ hd]
    simp [ArrU8, hx]
  have hr : u.rangeAt D1 0 (ArrU8 (sha [97, 98, 99])).toList := by
    intro j v hv
    rw [Nat.zero_add, cell_of_row u D1 j _ _ _ h.d1]
    simpa using hv
  have hl : (ArrU8 (sha [97, 98, 99])).toList.length = 32 := by simp [ArrU8, sha, dig, S8.list]
  exact ⟨g1 D1 _ 0 _ h.d1 sha_abc.1, g1 D1 _ 31 _ h.d1 sha_abc.2, g1 D2 _ 0 _ h.d2 sha_nil.1, g1 D2 _ 31 _ h.d2 sha_nil.2, h.c0, hasCells_of_range hr hl, (cellsAt_of_range hr hl).trans (by simp),
    (run_convC u _ _ _ h.bs.hasBytes).trans (by rw [h.bs.str])⟩
theorem Bs_of_own {w : World} {B n : Nat} {v : Value} {l : List Int} {T : TypeId} (h : w.ownsRow B T 1 v n (l.map (Value.int .u8))) : Bs w v l := by
  have hn : n = l.length := by have := h.1; simp at this; omega
  subst hn
  rcases h.2 with ⟨rfl, h0⟩ | ⟨g, cap, cur, rfl, hg, hh, hle, _, _, _⟩
  · have h1 : l = [] := List.eq_nil_of_length_eq_zero h0
    subst h1
    exact Bs.nil w
  · refine ⟨some ⟨g, 0, none⟩, cap, rfl, ⟨hle, fun e => by cases e⟩, fun hl => ⟨g, 0, rfl, (h.lt g rfl).2, fun i hi => ?_⟩⟩
    have := h.cells (g := g) rfl i (.int .u8 (l[i]?.getD 0)) (by simp [hi])
    rw [Addr.add_mid] at this
    exact this
theorem joined_len (ps : List (List Int)) : (joined ps).length = 8 + jlen ps := by
  rw [joined, List.length_append, be8_len, joinB_len]
set_option maxRecDepth 100000 in
set_option maxHeartbeats 800000 in
theorem of_any (v : Value) (ps : List (List Int)) (w : World) (hv : Pss w v ps) (hK : KC w) (hj : jlen ps ≤ 549755813888) :
    Calls Tryd.prog 15 #[v] w fun e w' => e = .returned (.agg (ArrU8 (sha (joined ps)))) ∧ Below w.heap.size w w' := by
  have HV := Lib.hid hv
  have HK := Lib.hid hK
  clear hv hK
  go_enter Tryd.func15, Tryd.ntmps15
  go_wp2_with fail
  obtain ⟨w1, hw1⟩ : ∃ w1 : World, w1 = w.alloc (.cells ((List.replicate 32 (Value.int .u8 0)).toArray) 25) := ⟨_, rfl⟩
  change Calls _ _ _ (w.alloc (.cells ((List.replicate 32 (Value.int .u8 0)).toArray) 25)) _
  rw [← hw1]
  have hsz : w1.heap.size = w.heap.size + 1 := by rw [hw1]; simp
  have b1 : Below w.heap.size w w1 := by rw [hw1]; exact (Below.refl _ _).alloc (Nat.le_refl _) _
  have r1 : w1.heap[w.heap.size]? = some (.cells ((List.replicate 32 (Value.int .u8 0)).toArray) 25 (0,0)) := by rw [hw1]; exact heap_alloc_new _ _
  have hv1 := HV.out.below b1
  refine (join_any v ps w1 hv1 hj).mono ?_
  rintro e w2 ⟨v2, rfl, hown, hb2⟩
  have b2 : Below w.heap.size w w2 := b1.trans (hb2.mono (by omega))
  have r2 := (hb2.block w.heap.size (by omega)).trans r1
  have k2 := HK.out.below b2 HK.out.1
  have hbs := Bs_of_own hown
  have R2 := Lib.hid r2
  have B2 := Lib.hid b2
  have K2 := Lib.hid k2
  have BS := Lib.hid hbs
  have hs2 : w.heap.size < w2.heap.size := by have := hb2.size; omega
  clear hw1 b1 r1 hv1 hown hb2 b2 r2 k2 hbs hsz
  go_wp2_with fail
  refine (sum_any v2 (joined ps) w2 BS.out K2.out (by rw [joined_len]; omega)).mono ?_
  rintro e w4 ⟨rfl, b4⟩
  have g3 := (b4.block w.heap.size (by omega)).trans R2.out
  have b5 := B2.out.trans (b4.mono (by omega))
  have G3 := Lib.hid g3
  have B4 := Lib.hid b5
  have HI25 := Lib.hid (show (Tryd.prog.info? 25).map (·.size) = some (ArrU8 (sha (joined ps))).size by rw [show (ArrU8 (sha (joined ps))).size = 32 by simp [ArrU8, sha, dig, S8.list]]; kernel_rfl)
  have HS32 := Lib.hid (show (ArrU8 (sha (joined ps))).size = 32 by simp [ArrU8, sha, dig, S8.list])
  clear g3 b4 b5
  go_wp2_with (first | (refine wpList_store_row rfl 25 (Operand.tmp 2) (Operand.tmp 5) rfl w.heap.size (ArrU8 (sha (joined ps))) rfl rfl 25 _ G3.out HI25.out HS32.out.symm (ArrU8_one _) ?_) | fail)
  refine bodyPost_ret (results_cell_row rfl _ _ w.heap.size 25 (ArrU8 (sha (joined ps))) (0,0) _ rfl (setRow_heap _ _ _ _ _ _ G3.out) Tryd.underlying25 rfl HI25.out) rfl ⟨rfl, ?_⟩
  exact below_setRow B4.out (by omega) _
end Go.Proofs.YtboadlhpanpljaaDoor
