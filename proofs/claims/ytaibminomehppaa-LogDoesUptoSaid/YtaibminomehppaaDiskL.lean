import Derived.Test.YtaibminomehppaaDiskKa
import Derived.WalkKit
import Derived.ProofKit
import Derived.BigQuiet
import Derived.Deep.QuietTactic
import Derived.WalkSpells
import Derived.WalkLawsBesides
import Derived.Lib.Hide
import Derived.Deep.MidRow
import Derived.Deep.RegionLaw
import Derived.BigRegion
import Derived.Laws.AppendOwnNone
import Derived.Deep.DeepMust
import Derived.Deep.AppendLies
import Derived.RegionTactic
import Derived.Deep.WholeRow
import Derived.BigFrame
import Derived.Deep.RegionWith
import Derived.Deep.RegionHeld3
import Derived.Maps.RangeWalk
import Derived.Laws.CopyOwn
import Derived.StillTailTactics
namespace Go.Proofs.Ytaibminomehppaa
open Go.RowKit
def putsF (g : Int → List Int) (L : List WR) : Int → List Int := L.foldl (fun g x => fput g x.1 x.2.2) g
theorem fput_fput (f : Int → List Int) (n : Int) (a b : List Int) : fput (fput f n a) n b = fput f n b := by funext m; unfold fput; split <;> rfl
theorem fput_same (f : Int → List Int) (n : Int) : fput f n (f n) = f := by
  funext m
  unfold fput
  by_cases h : m = n
  · rw [if_pos h, h]
  · rw [if_neg h]
theorem undoF_snoc (f : Int → List Int) (L : List WR) (x : WR) : undoF f (L ++ [x]) = undoF (fput f x.1 x.2.1) L := by simp [undoF]
theorem undoF_write (f : Int → List Int) (L : List WR) (n : Int) (b : List Int) : undoF (fput f n b) (L ++ [(n, f n, b)]) = undoF f L := by
  rw [undoF_snoc, fput_fput, fput_same]
theorem putsF_snoc (g : Int → List Int) (L : List WR) (x : WR) : putsF g (L ++ [x]) = fput (putsF g L) x.1 x.2.2 := by simp [putsF]
/-- with a tear at no place inside a block all is written again whole -/
theorem redoF_puts (g : Int → List Int) (K : List WR) (t : Int) (ht : t < 0) : ∀ j, j ≤ K.length → redoF g K t j = putsF g (K.take j)
  | 0, _ => rfl
  | j + 1, h => by
    have hx : K[j]? = some (K[j]'(by omega)) := List.getElem?_eq_getElem (by omega)
    rw [redoF, hx, take_snoc K j _ hx, putsF_snoc, ← redoF_puts g K t ht j (by omega)]
    simp only
    congr 1
    split
    · rw [tearL, if_pos (Or.inl ht)]
    · rfl
theorem survL_all : ∀ (L : List WR), survL L (List.replicate L.length true) = L
  | [] => rfl
  | x :: L => by rw [List.length_cons, List.replicate_succ, survL, if_pos rfl, survL_all L]
theorem upF_all (f : Int → List Int) (L : List WR) : upF f L (List.replicate L.length true) (-1) = putsF (undoF f L) L := by
  rw [upF, survL_all, redoF_puts _ _ _ (by omega) _ (Nat.le_refl _), List.take_length]
theorem survL_none : ∀ (L : List WR) (ks : List Bool), (∀ i, i < ks.length → i < L.length → ks[i]?.getD false = false) → survL L ks = []
  | [], _, _ => rfl
  | _ :: _, [], _ => rfl
  | x :: L, b :: ks, h => by
    have h0 := h 0 (by simp) (by simp)
    simp only [List.getElem?_cons_zero, Option.getD_some] at h0
    subst h0
    simp only [survL, Bool.false_eq_true, if_false]
    refine survL_none L ks (fun i h1 h2 => ?_)
    have := h (i + 1) (by simpa using h1) (by simpa using h2)
    simpa using this
theorem undoF_off (f : Int → List Int) (n : Int) : ∀ (L : List WR), (∀ x ∈ L, x.1 ≠ n) → undoF f L n = f n
  | [], _ => rfl
  | x :: L, h => by
    show fput (undoF f L) x.1 x.2.1 n = f n
    unfold fput
    rw [if_neg (fun e => h x List.mem_cons_self e.symm)]
    exact undoF_off f n L (fun y hy => h y (List.mem_cons_of_mem _ hy))
theorem redoF_off (g : Int → List Int) (K : List WR) (t n : Int) (h : ∀ x ∈ K, x.1 ≠ n) : ∀ j, redoF g K t j n = g n
  | 0 => rfl
  | j + 1 => by
    rw [redoF]
    cases hx : K[j]? with
    | none => exact redoF_off g K t n h j
    | some x =>
      simp only [fput]
      rw [if_neg (fun e => h x (List.mem_of_getElem? hx) e.symm)]
      exact redoF_off g K t n h j
theorem upF_off (f : Int → List Int) (L : List WR) (ks : List Bool) (t n : Int) (h : ∀ x ∈ L, x.1 ≠ n) : upF f L ks t n = undoF f L n := by
  rw [upF, redoF_off _ _ _ _ (fun x hx => h x (survL_mem x L ks hx))]
@[irreducible] def Z8 : Array Value := (flatB (List.replicate 8 (zeros 256))).toArray
theorem Z8_eq : Z8 = (flatB (List.replicate 8 (zeros 256))).toArray := by unfold Z8; rfl
theorem madeBlocks : (Array.range 2048).map (fun i => (ArrU8 (zeros 256))[i % (ArrU8 (zeros 256)).size]!) = (flatB (List.replicate 8 (zeros 256))).toArray := by
  have hs : (ArrU8 (zeros 256)).size = 256 := by rw [ArrU8_size, zeros_len]
  have hb : ∀ l ∈ List.replicate 8 (zeros 256), l.length = 256 := fun l hl => by rw [(List.mem_replicate.1 hl).2, zeros_len]
  have hl := flatB_len _ hb
  rw [List.length_replicate] at hl
  apply Array.ext_getElem?
  intro i
  have hR : (flatB (List.replicate 8 (zeros 256))).toArray[i]? = (flatB (List.replicate 8 (zeros 256)))[i]? := List.getElem?_toArray ..
  rw [Array.getElem?_map, hR]
  by_cases hi : i < 2048
  · have h1 : (Array.range 2048)[i]? = some i := by simp [hi]
    rw [h1, hs]
    have hj : i % 256 < ((zeros 256).map (Value.int .u8)).length := by rw [List.length_map, zeros_len]; omega
    have h2 := flatB_get _ hb (i / 256) (zeros 256) (by rw [List.getElem?_replicate, if_pos (by omega)]) (i % 256) _ (List.getElem?_eq_getElem hj)
    rw [show i / 256 * 256 + i % 256 = i by omega] at h2
    rw [h2]
    simp only [Option.map_some, ArrU8, Option.some.injEq]
    have : i % 256 < ((zeros 256).map (Value.int .u8)).toArray.size := by simpa using hj
    rw [getElem!_pos ((zeros 256).map (Value.int .u8)).toArray (i % 256) this]
    simp only [List.getElem_toArray]
  · have : (Array.range 2048)[i]? = none := by simp; omega
    rw [this, List.getElem?_eq_none (by omega)]; rfl
theorem run_make8 (u : World) : (Instr.makeSlice 74 (.int .i64 8) (.int .i64 8)).run Try.prog u = .ok (.slice (some ⟨u.heap.size, 0, none⟩) 8 8) (u.alloc (.cells Z8 52)) := by
  rw [Z8_eq]
  obtain ⟨i, hi, hz, hs, hby⟩ : ∃ i, Try.prog.info? 52 = some i ∧ i.zero = some (.agg (ArrU8 (zeros 256))) ∧ i.size = 256 ∧ i.bytes = 256 := by
    have h1 : (Try.prog.info? 52).map (fun ie => (ie.zero, ie.size, ie.bytes)) = some (some (.agg (ArrU8 (zeros 256))), 256, 256) := by kernel_rfl
    cases hie : Try.prog.info? 52 with
    | none => rw [hie] at h1; cases h1
    | some ie =>
      rw [hie] at h1
      simp only [Option.map_some, Option.some.injEq, Prod.mk.injEq] at h1
      exact ⟨ie, rfl, h1.1, h1.2.1, h1.2.2⟩
  have h := run_make (P := Try.prog) u 74 52 i _ Try.underlying74 hi hz .i64 .i64 8 8 (by decide) (by decide) (by rw [hby]; decide) (by decide)
  rw [hs] at h
  have e : madeCells (Value.agg (ArrU8 (zeros 256))).cells (Int.toNat 8 * 256) = (flatB (List.replicate 8 (zeros 256))).toArray := madeBlocks
  rw [e] at h
  exact h
theorem bk_made (u : World) (B : Nat) (hB : B ≤ u.heap.size) : BkC (u.alloc (.cells Z8 52)) B u.heap.size (.slice (some ⟨u.heap.size, 0, none⟩) 8 8) (List.replicate 8 (zeros 256)) := by
  rw [Z8_eq]
  have hb : ∀ l ∈ List.replicate 8 (zeros 256), l.length = 256 := fun l hl => by rw [(List.mem_replicate.1 hl).2, zeros_len]
  have hl := flatB_len _ hb
  have hh := heap_alloc_new u (.cells (flatB (List.replicate 8 (zeros 256))).toArray 52)
  refine ⟨⟨8, by rw [List.length_replicate]⟩, hB, by simp, fun i l hi => ⟨hb l (List.mem_of_getElem? hi), fun j v hv => ?_⟩, fun j hj => ?_⟩
  · rw [cell_of_row _ _ _ _ _ _ hh, List.getElem?_toArray]
    exact flatB_get _ hb i l hi j v hv
  · refine ⟨?_, frozen_of_row _ _ _ _ _ hh⟩
    rw [cell_of_row _ _ _ _ _ _ hh, List.getElem?_toArray, List.getElem?_eq_getElem (by omega)]
    rfl
theorem run_empty_blocks (u : World) : (Instr.buildSlice 74 0 #[]).run Try.prog u = .ok (.slice (some ⟨u.heap.size, 0, none⟩) 0 0) (u.alloc (.cells #[] 52)) := by kernel_rfl
theorem run_append_blocks (u : World) (ty : TypeId) (B g : Nat) (v : Value) (bs : List (List Int)) (h : BkC u B g v bs) (h0 : 0 < bs.length) (hl : bs.length ≤ 4096) (e : Nat) (he : u.heap[e]? = some (.cells #[] 52 (0, 0))) (B' : Nat) (hB : B' ≤ e) :
    ∃ v' g' w', (Builtin.append_ #[74, 74] ty #[.slice (some ⟨e, 0, none⟩) 0 0, v]).run Try.prog u = .ok v' w' ∧ BkC w' B' g' v' bs ∧ u.grownBy w' (some e) ∧ e ≤ g' := by
  obtain ⟨i, z, hi, hz, hs, hby, hzs⟩ : ∃ i z, Try.prog.info? 52 = some i ∧ i.zero = some z ∧ i.size = 256 ∧ i.bytes = 256 ∧ z.cells.size = 256 := by
    have h1 : (Try.prog.info? 52).map (fun ie => (ie.zero.map fun z => z.cells.size, ie.size, ie.bytes)) = some (some 256, 256, 256) := by kernel_rfl
    cases hie : Try.prog.info? 52 with
    | none => rw [hie] at h1; cases h1
    | some ie =>
      rw [hie] at h1
      simp only [Option.map_some, Option.some.injEq, Prod.mk.injEq] at h1
      cases hz : ie.zero with
      | none => rw [hz] at h1; exact absurd h1.1 (by simp)
      | some z => rw [hz] at h1; exact ⟨ie, z, rfl, hz, h1.2.1, h1.2.2, by simpa using h1.1⟩
  have hc := h.cells
  have hb : ∀ l ∈ bs, l.length = 256 := fun l hl => by obtain ⟨i, hi⟩ := List.mem_iff_getElem?.1 hl; exact (h.2.2.2.1 i l hi).1
  obtain ⟨⟨cap, rfl⟩, _⟩ := h
  have how : u.ownsRow e 52 256 (.slice (some ⟨e, 0, none⟩) 0 0) 0 [] := ⟨rfl, .inr ⟨e, 0, #[], rfl, Nat.le_refl _, he, Nat.le_refl _, Nat.zero_le _, rfl, rfl⟩⟩
  have h1 : ∀ v ∈ flatB bs, v.oneCell' = true := fun v hv => by
    obtain ⟨l, _, hv⟩ := List.mem_flatMap.1 hv
    obtain ⟨x, _, rfl⟩ := List.mem_map.1 hv
    rfl
  obtain ⟨v', w', hr, h2, h3, _⟩ := run_append_own (P := Try.prog) u e 74 ty 52 i z 256 256 Try.underlying74 hi hz hs hby hzs (by decide) _ 0 [] how ⟨g, 0, none⟩ bs.length cap (flatB bs) (flatB_len bs hb) hc h1 (by unfold maxLen; omega) (by omega) (Nat.le_of_lt (Array.getElem?_eq_some_iff.1 he).1)
  rw [Nat.zero_add, List.nil_append] at h2
  obtain ⟨g', hg'⟩ := BkC.owned hb h0 h2
  obtain ⟨a1, a2, a3⟩ := hg'
  exact ⟨v', g', w', hr, ⟨a1, by omega, a3⟩, h3, a2⟩
end Go.Proofs.Ytaibminomehppaa
