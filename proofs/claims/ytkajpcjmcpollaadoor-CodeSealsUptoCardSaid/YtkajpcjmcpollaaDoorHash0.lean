import Derived.Test.YtkajpcjmcpollaaDoorSha0
import Derived.WalkKit
import Derived.ProofKit
import Derived.BigQuiet
import Derived.Deep.QuietTactic
import Derived.WalkSpells
import Derived.WalkLawsBesides
import Derived.Lib.Hide
import Derived.Deep.MidRow
import Derived.Deep.WholeRow
import Derived.BigFrame
import Derived.Maps.RangeWalk
import Derived.Laws.CopyOwn
import Derived.StillTailTactics
namespace Go.Proofs.YtkajpcjmcpollaaDoor
open Go.RowKit
def iv : S8 := ⟨1779033703, 3144134277, 1013904242, 2773480762, 1359893119, 2600822924, 528734635, 1541459225⟩
def blk (l : List Int) : Nat → S8
  | 0 => iv
  | k + 1 => compress (blk l k) ((l.drop (64 * k)).take 64)
theorem blk_append (l x : List Int) (k : Nat) (h : 64 * k ≤ l.length) : blk (l ++ x) k = blk l k := by
  induction k with
  | zero => rfl
  | succ k ih =>
    simp only [blk]
    rw [ih (by omega), List.drop_append_of_le_length (by omega), List.take_append_of_le_length (by simp; omega)]
theorem splice_len {α : Type} (L : List α) (off : Nat) (cs : List α) (h : off + cs.length ≤ L.length) : (splice L off cs).length = L.length := by
  simp only [splice, List.length_append, List.length_take, List.length_drop]; omega
theorem splice_take {α : Type} (L : List α) (off : Nat) (cs : List α) (h : off + cs.length ≤ L.length) : (splice L off cs).take (off + cs.length) = L.take off ++ cs := by
  have h1 : (L.take off).length = off := by simp; omega
  unfold splice
  rw [← List.append_assoc, List.take_append_of_le_length (by simp; omega), List.take_of_length_le (by simp; omega)]
theorem hash_step (L bl x : List Int) (hl : bl.length = 64) (hbl : bl.take (L.length % 64) = L.drop (64 * (L.length / 64))) (hc : L.length % 64 + x.length ≤ 64) :
    (splice bl (L.length % 64) x).length = 64 ∧
    (L.length % 64 + x.length = 64 → compress (blk L (L.length / 64)) (splice bl (L.length % 64) x) = blk (L ++ x) ((L ++ x).length / 64) ∧
      (splice bl (L.length % 64) x).take ((L ++ x).length % 64) = (L ++ x).drop (64 * ((L ++ x).length / 64))) ∧
    (L.length % 64 + x.length < 64 → blk L (L.length / 64) = blk (L ++ x) ((L ++ x).length / 64) ∧
      (splice bl (L.length % 64) x).take ((L ++ x).length % 64) = (L ++ x).drop (64 * ((L ++ x).length / 64))) := by
  have h64 : (splice bl (L.length % 64) x).length = 64 := by rw [splice_len _ _ _ (by omega), hl]
  have ht := splice_take bl (L.length % 64) x (by omega)
  have hq : L.length = 64 * (L.length / 64) + L.length % 64 := by omega
  have hd : (L ++ x).drop (64 * (L.length / 64)) = (splice bl (L.length % 64) x).take (L.length % 64 + x.length) := by
    rw [ht, hbl, List.drop_append_of_le_length (by omega)]
  refine ⟨h64, fun h => ?_, fun h => ?_⟩
  · have hn : (L ++ x).length / 64 = L.length / 64 + 1 := by simp only [List.length_append]; omega
    have hm : (L ++ x).length % 64 = 0 := by simp only [List.length_append]; omega
    rw [hn, hm]
    refine ⟨?_, ?_⟩
    · simp only [blk]
      rw [blk_append L x _ (by omega), hd, h, List.take_take, Nat.min_self, List.take_of_length_le (by omega)]
    · rw [List.take_zero, List.drop_of_length_le (by simp only [List.length_append]; omega)]
  · have hn : (L ++ x).length / 64 = L.length / 64 := by simp only [List.length_append]; omega
    have hm : (L ++ x).length % 64 = L.length % 64 + x.length := by simp only [List.length_append]; omega
    rw [hn, hm]
    exact ⟨(blk_append L x _ (by omega)).symm, hd.symm⟩
/-- the cells of a hash -/
def hcells (s : S8) (bl : List Int) (n : Nat) : List Value := (s.list.map (Value.int .u32)) ++ (bl.map (Value.int .u8) ++ [.int .u64 n])
theorem hcells_len (s : S8) (bl : List Int) (n : Nat) (h : bl.length = 64) : (hcells s bl n).length = 73 := by simp [hcells, S8.list, h]
theorem hcells_n (s : S8) (bl : List Int) (n : Nat) (h : bl.length = 64) : (hcells s bl n).toArray[72]? = some (.int .u64 n) := by
  simp [hcells, S8.list, h]
theorem hcells_setn (s : S8) (bl : List Int) (n m : Nat) (h : bl.length = 64) : (hcells s bl n).toArray.setIfInBounds 72 (.int .u64 m) = (hcells s bl m).toArray := by
  simp [hcells, S8.list, h]
theorem hcells_splice (s : S8) (bl : List Int) (n : Nat) (h : bl.length = 64) (o : Nat) (x : List Int) (hx : o + x.length ≤ 64) :
    ((hcells s bl n).take (8 + o) ++ x.map (Value.int .u8) ++ (hcells s bl n).drop (8 + o + (x.map (Value.int .u8)).length)) = hcells s (splice bl o x) n := by
  have h8 : (s.list.map (Value.int .u32)).length = 8 := by simp [S8.list]
  unfold hcells splice
  generalize s.list.map (Value.int .u32) = A at h8
  rw [List.take_append, List.drop_append, List.take_append, List.drop_append]
  rw [List.take_of_length_le (by omega), List.drop_of_length_le (by omega)]
  simp only [h8, List.length_map, h, List.nil_append, List.map_append, List.map_take, List.map_drop, List.append_assoc]
  rw [show 8 + o - 8 = o by omega, show 8 + o + x.length - 8 = o + x.length by omega, show o - 64 = 0 by omega, show o + x.length - 64 = 0 by omega]
  simp
def HashAt (T : TypeId) (w : World) (H : Nat) (l : List Int) : Prop :=
  ∃ bl, w.heap[H]? = some (.cells (hcells (blk l (l.length / 64)) bl l.length).toArray T (0, 0)) ∧ bl.length = 64 ∧ bl.take (l.length % 64) = l.drop (64 * (l.length / 64))
theorem grownBy_setRow (w : World) (g : Nat) (cs : Array Value) : w.grownBy (w.setRow g cs) (some g) :=
  ⟨rfl, rfl, rfl, by simp, fun k _ hne => setRow_other _ _ _ _ (fun e => hne (by rw [e]))⟩
theorem grownBy_trans {a b c : World} {row : Option Nat} (h : a.grownBy b row) (k : b.grownBy c row) : a.grownBy c row :=
  ⟨k.os.trans h.os, k.tape.trans h.tape, k.output.trans h.output, Nat.le_trans h.size k.size, fun i hi hne => (k.block i (Nat.lt_of_lt_of_le hi h.size) hne).trans (h.block i hi hne)⟩
theorem grownBy_setCell (w : World) (a : Addr) (v : Value) : w.grownBy (w.setCell a v) (some a.block) :=
  ⟨rfl, rfl, rfl, by simp [World.setCell], fun k _ hne => heap_setCell_other _ _ _ _ (fun e => hne (by rw [e]))⟩
theorem grownBy_drewN (w : World) (n : Nat) (row : Option Nat) : w.grownBy (w.drewN n) row := ⟨rfl, rfl, rfl, Nat.le_refl _, fun _ _ _ => rfl⟩
theorem grownBy_of_below {w w' : World} (h : Below w.heap.size w w') (row : Option Nat) : w.grownBy w' row := ⟨h.os, h.tape, h.output, h.size, fun k hk _ => h.block k hk⟩
theorem wpList_copy_row {P : Program} {w : World} {ops : Array Oper} {rest : List Oper} {o : Oper} {a : Act} {Q : Exit → Act → World → Prop} (hgd : o.guard = none) (d s : Operand) (dT sT : TypeId)
    (ho : o.op = .call { callee := .builtin .copy, args := #[d, s], argTypes := #[dT, sT] }) (elem : TypeId) (hu : P.underlying dT = some (.slice elem)) (hsz : (P.info? elem).map (·.size) = some 1)
    (g off dLen dCap sLen sCap : Nat) (ad : Addr) (hd : a.eval d = .slice (some ⟨g, off, none⟩) dLen dCap) (hs : a.eval s = .slice (some ad) sLen sCap)
    (cur res : List Value) (t : TypeId) (hg : w.heap[g]? = some (.cells cur.toArray t (0, 0))) (cs : List Value) (hn : cs.length = Nat.min sLen dLen)
    (hsrc : ∀ j v, cs[j]? = some v → w.cell? (ad.add j) = some v) (hfit : off + cs.length ≤ cur.length) (h1 : ∀ v ∈ cs, v.oneCell' = true)
    (hres : cur.take off ++ cs ++ cur.drop (off + cs.length) = res)
    (h : ∀ w', w'.heap[g]? = some (.cells res.toArray t (0, 0)) → w.grownBy w' (some g) → wpList P ops Q rest (a.put o.dst (goInt cs.length)) w') :
    wpList P ops Q (o :: rest) a w := by
  refine wpList_plain hgd fun K hK => ?_
  have hrun := run_copy_row (P := P) w dT sT o.type elem g off dLen dCap ad sLen sCap cur.toArray t cs hu hsz hg hn hsrc (by simpa using hfit) h1
  simp only [hres] at hrun
  unfold Oper.wp
  simp [execOp, ho, resolve, invoke, builtin, hd, hs, hrun, Result.andThen]
  exact hK _ _ (h _ (setRow_heap _ _ _ _ _ _ hg) (grownBy_setRow _ _ _))
def lenV : Value → Nat | .slice _ n _ => n | _ => 0
theorem range_of_hcells {T : TypeId} {w : World} {H : Nat} {s : S8} {bl : List Int} {n : Nat} (h : w.heap[H]? = some (.cells (hcells s bl n).toArray T (0, 0))) (hl : bl.length = 64) :
    w.rangeAt H 0 (s.list.map (Value.int .u32)) ∧ w.rangeAt H 8 (bl.map (Value.int .u8)) ∧ w.there H 0 8 := by
  have h8 : (s.list.map (Value.int .u32)).length = 8 := by simp [S8.list]
  refine ⟨fun j v hv => ?_, fun j v hv => ?_, fun j hj => ⟨?_, frozen_of_row w H _ _ _ h⟩⟩
  · have hj : j < 8 := by have := (List.getElem?_eq_some_iff.1 hv).1; omega
    rw [cell_of_row w H _ _ _ _ h, List.getElem?_toArray, hcells, List.getElem?_append_left (by omega), Nat.zero_add]; exact hv
  · have hj : j < 64 := by have := (List.getElem?_eq_some_iff.1 hv).1; simp at this; omega
    rw [cell_of_row w H _ _ _ _ h, List.getElem?_toArray, hcells, List.getElem?_append_right (by omega), h8, List.getElem?_append_left (by simp; omega), show 8 + j - 8 = j by omega]; exact hv
  · have hs : (hcells s bl n).length = 73 := hcells_len s bl n hl
    rw [cell_of_row w H _ _ _ _ h, List.getElem?_toArray, List.getElem?_eq_getElem (by omega)]; rfl
theorem hcells_set_state {T : TypeId} {w : World} {H : Nat} {s : S8} {bl : List Int} {n : Nat} (h : w.heap[H]? = some (.cells (hcells s bl n).toArray T (0, 0))) (s' : S8) :
    (w.setCells H 0 (s'.list.map (Value.int .u32))).heap[H]? = some (.cells (hcells s' bl n).toArray T (0, 0)) := by
  have h1 := heap_setCell_same w H 0 _ _ (.int .u32 s'.a) h
  have h2 := heap_setCell_same _ H 1 _ _ (.int .u32 s'.b) h1
  have h3 := heap_setCell_same _ H 2 _ _ (.int .u32 s'.c) h2
  have h4 := heap_setCell_same _ H 3 _ _ (.int .u32 s'.d) h3
  have h5 := heap_setCell_same _ H 4 _ _ (.int .u32 s'.e) h4
  have h6 := heap_setCell_same _ H 5 _ _ (.int .u32 s'.f) h5
  have h7 := heap_setCell_same _ H 6 _ _ (.int .u32 s'.g) h6
  have h8 := heap_setCell_same _ H 7 _ _ (.int .u32 s'.h) h7
  refine h8.trans ?_
  simp [hcells, S8.list]
theorem grownBy_setCells (b : Nat) : ∀ (vs : List Value) (o : Nat) (w : World), w.grownBy (w.setCells b o vs) (some b)
  | [], _, w => World.grownBy.refl w _
  | v :: r, o, w => by
    rw [World.setCells]
    exact grownBy_trans (grownBy_setCell w ⟨b, o, none⟩ v) (grownBy_setCells b r (o + 1) _)
theorem take_len_take {α : Type} (l : List α) (k : Nat) : l.take (l.take k).length = l.take k := by
  by_cases h : k ≤ l.length
  · rw [List.length_take, Nat.min_eq_left h]
  · rw [List.length_take, Nat.min_eq_right (by omega), List.take_length, List.take_of_length_le (by omega)]
theorem take_add_piece {α : Type} (l m L X : List α) (p k : Nat) (hL : l ++ m.take p = L) (hX : X = (m.drop p).take k) : l ++ m.take (p + X.length) = L ++ X := by
  rw [List.take_add, ← List.append_assoc, hL]
  congr 1
  rw [hX]; exact take_len_take _ _
def hasCells (w : World) (b o n : Nat) : Prop := ∀ j, j < n → (w.cell? ⟨b, o + j, none⟩).isSome = true
def cellsAt (w : World) (b o n : Nat) : Array Value := ((List.range n).map fun j => (w.cell? ⟨b, o + j, none⟩).getD undef).toArray
theorem hasCells_of_range {w : World} {b o n : Nat} {cs : List Value} (h : w.rangeAt b o cs) (hl : cs.length = n) : hasCells w b o n := fun j hj => h.isSome j (by omega)
theorem cellsAt_of_range {w : World} {b o n : Nat} {cs : List Value} (h : w.rangeAt b o cs) (hl : cs.length = n) : cellsAt w b o n = cs.toArray := by
  unfold cellsAt
  congr 1
  apply List.ext_getElem?
  intro j
  by_cases hj : j < cs.length
  · rw [List.getElem?_map, List.getElem?_range (by omega), List.getElem?_eq_getElem hj]
    simp [h j _ (List.getElem?_eq_getElem hj)]
  · rw [List.getElem?_eq_none (by simp; omega), List.getElem?_eq_none (by omega)]
theorem range_cellsAt {w : World} {b o n : Nat} (h : hasCells w b o n) : w.rangeAt b o (cellsAt w b o n).toList := by
  intro j v hv
  simp only [cellsAt] at hv
  have hj : j < n := by have := (List.getElem?_eq_some_iff.1 hv).1; simpa using this
  rw [List.getElem?_map, List.getElem?_range hj] at hv
  obtain ⟨x, hx⟩ := Option.isSome_iff_exists.1 (h j hj)
  simp only [Option.map_some, hx, Option.getD_some] at hv
  rw [hx, hv]
theorem cellsAt_size (w : World) (b o n : Nat) : (cellsAt w b o n).size = n := by simp [cellsAt]
def beAt (k : Nat) (j : Nat) : Int := (k : Int) / 2 ^ (56 - 8 * j) % 256
/-- a number's eight bytes -/
def be8 (k : Nat) : List Int := (List.range 8).map (beAt k)
theorem be8_take_succ (k j : Nat) (h : j < 8) : (be8 k).take (j + 1) = (be8 k).take j ++ [beAt k j] := by
  rw [List.take_succ_eq_append_getElem (by simpa [be8] using h)]; simp [be8]
theorem be8_len (k : Nat) : (be8 k).length = 8 := by simp [be8]
end Go.Proofs.YtkajpcjmcpollaaDoor
