/- stage 7: Root of the reference -/
import Derived.Test.YtbmlkocpjboodaaDoorMv19
import Derived.Test.YtbmlkocpjboodaaDoorMv20
import Derived.Test.YtbmlkocpjboodaaDoorMv21
namespace Go.Proofs.YtbmlkocpjboodaaDoor
open Go.RowKit
open Go.Lib (hid)
/-- a slice of the reference's entries that may be cut again -/
def RfC (w : World) (v : Value) (l : List (List Int × Nat)) : Prop :=
 ∃ a c, v = .slice a l.length c ∧ l.length ≤ c ∧ ∀ (i : Nat) (x : List Int × Nat), l[i]? = some x → ∃ g o, a = some ⟨g, o, none⟩ ∧ g < w.heap.size ∧ w.cell? ⟨g, o + i * 2, none⟩ = some (.string (str x.1)) ∧ w.cell? ⟨g, o + (i * 2 + 1), none⟩ = some (.int .i64 (x.2 : Int))
theorem RfC.rfs {w : World} {v : Value} {l : List (List Int × Nat)} (h : RfC w v l) : RfS w v (l.map toI) := by
 obtain ⟨a, c, rfl, -, h⟩ := h
 refine ⟨a, c, by rw [List.length_map], fun i x hx => ?_⟩
 rw [List.getElem?_map, Option.map_eq_some_iff] at hx
 obtain ⟨y, hy, rfl⟩ := hx
 exact h i y hy
theorem RfC.below {w w' : World} {v : Value} {l : List (List Int × Nat)} (h : RfC w v l) (hb : Below w.heap.size w w') : RfC w' v l := by
 obtain ⟨a, c, e, hc, h⟩ := h
 refine ⟨a, c, e, hc, fun i x hx => ?_⟩
 obtain ⟨g, o, rfl, hg, h0, h1⟩ := h i x hx
 exact ⟨g, o, rfl, Nat.lt_of_lt_of_le hg hb.size, (World.cell?_of_block (a := ⟨g, o + i * 2, none⟩) (hb.block g hg)).trans h0, (World.cell?_of_block (a := ⟨g, o + (i * 2 + 1), none⟩) (hb.block g hg)).trans h1⟩
theorem RfC.take {w : World} {a : Option Addr} {n c : Nat} {l : List (List Int × Nat)} (h : RfC w (.slice a n c) l) (i : Nat) (hi : i ≤ n) : RfC w (.slice a i c) (l.take i) := by
 obtain ⟨a', c', e, hc, h⟩ := h
 injection e with e1 e2 e3
 subst e1 e2 e3
 have hl : (l.take i).length = i := by rw [List.length_take]; omega
 refine ⟨a, c, by rw [hl], by omega, fun j x hx => ?_⟩
 rw [List.getElem?_take] at hx
 split at hx
 ·exact h j x hx
 ·cases hx
theorem RfC.drop {w : World} {a : Option Addr} {n c : Nat} {l : List (List Int × Nat)} (h : RfC w (.slice a n c) l) (i : Nat) (hi : i ≤ n) : ∃ a2, sliced a i n c 2 = .slice a2 (n - i) (c - i) ∧ RfC w (.slice a2 (n - i) (c - i)) (l.drop i) := by
 obtain ⟨a', c', e, hc, h⟩ := h
 injection e with e1 e2 e3
 subst e1 e2 e3
 refine ⟨_, rfl, _, _, by rw [List.length_drop], by rw [List.length_drop]; omega, fun j x hx => ?_⟩
 rw [List.getElem?_drop] at hx
 have hj := (List.getElem?_eq_some_iff.1 hx).1
 obtain ⟨g, o, rfl, hg, h0, h1⟩ := h (i + j) x hx
 rw [if_neg (by omega), Option.map_some, Addr.add_mid]
 exact ⟨g, o + i * 2, rfl, hg, by rw [show o + i * 2 + j * 2 = o + (i + j) * 2 by omega]; exact h0, by rw [show o + i * 2 + (j * 2 + 1) = o + ((i + j) * 2 + 1) by omega]; exact h1⟩
end Go.Proofs.YtbmlkocpjboodaaDoor
/- stage 7: valid of a rising list -/
namespace Go.Proofs.YtbmlkocpjboodaaDoor
open Go.RowKit
open Go.Lib (hid)
end Go.Proofs.YtbmlkocpjboodaaDoor
/- stage 7: the law's list -/
namespace Go.Proofs.YtbmlkocpjboodaaDoor
open Go.RowKit
open Go.Lib (hid)
theorem EnR.lt {w : World} {B : Nat} {K : Nat → Prop} {v : Value} {es : List (List Int × Nat)} (h : EnR w B K v es) : ∀ g, v.ownBlock = some g → B ≤ g ∧ g < w.heap.size ∧ ¬ K g := by
 obtain ⟨xs, e1, e2, e3, e4⟩ := h
 exact fun g hg => ⟨(World.ownsRow.lt e2 g hg).1, (World.ownsRow.lt e2 g hg).2, e3 g hg⟩
theorem EnR.slc {w : World} {B : Nat} {K : Nat → Prop} {v : Value} {es : List (List Int × Nat)} (h : EnR w B K v es) : ∃ a c, v = .slice a es.length c := by
 obtain ⟨xs, e1, e2, e3, e4⟩ := h
 exact ownsRow_slc e2
/-- a new key beside the list -/
theorem EnR.key {w w1 : World} {B : Nat} {K : Nat → Prop} {v kv : Value} {k : List Int} {es : List (List Int × Nat)} (h : EnR w B K v es) (hb : Below w.heap.size w w1) (hk : KIs w1 (fun q => w.heap.size ≤ q) kv k) (hB : B ≤ w.heap.size) (hK : ∀ q, K q → B ≤ q ∧ q < w.heap.size) : ∃ K2 : Nat → Prop, EnR w1 B K2 v es ∧ KIs w1 K2 kv k ∧ ∀ q, K2 q → B ≤ q ∧ q < w1.heap.size := by
 have hs := hb.size
 refine ⟨fun q => K q ∨ (w.heap.size ≤ q ∧ q < w1.heap.size), (h.keep hb).mono (fun q h => .inl h) (fun g hg hc => ?_), hk.bound.mono (fun q h => .inr h), fun q hq => ?_⟩
 ·have := h.lt g hg
  rcases hc with hc | hc
  ·exact this.2.2 hc
  ·omega
 ·rcases hq with hq | hq
  ·have := hK q hq; omega
  ·omega
end Go.Proofs.YtbmlkocpjboodaaDoor
/- stage 7: the tree made anew is the tree that was set; Set beside any other memory -/
namespace Go.Proofs.YtbmlkocpjboodaaDoor
open Go.RowKit
open Go.Lib (hid)
end Go.Proofs.YtbmlkocpjboodaaDoor
/- stage 7: Misses of the reference -/
namespace Go.Proofs.YtbmlkocpjboodaaDoor
open Go.RowKit
open Go.Lib (hid)
/-- does what lies between two keys miss a range? -/
def missQ (lo hi : List Int) (low up : Bool) (fr to : List Int) (e : Bool) : Bool := (e && decide (cmpI to fr ≤ 0)) || (up && decide (cmpI hi fr ≤ 0)) || (low && e && decide (0 ≤ cmpI lo to))
theorem cmp_three {a b : List Int} (ha : Rng a) (hb : Rng b) : (Op.bytesLess (str a).toList (str b).toList = true ∧ cmpI a b ≤ 0) ∨ (Op.bytesLess (str a).toList (str b).toList = false ∧ ((str a).toList == (str b).toList) = true ∧ cmpI a b ≤ 0) ∨ (Op.bytesLess (str a).toList (str b).toList = false ∧ ((str a).toList == (str b).toList) = false ∧ ¬ cmpI a b ≤ 0) := by
 rw [bl ha hb, str_beq ha hb]
 have hf := cmp_flip a b
 rcases cmp_tri a b with h | h | h
 ·exact .inl ⟨decide_eq_true h, by omega⟩
 ·subst h
  have hz : cmpI a a = 0 := (cmpI_zero _ _).2 rfl
  exact .inr (.inl ⟨decide_eq_false (by omega), decide_eq_true rfl, by omega⟩)
 ·refine .inr (.inr ⟨decide_eq_false (by omega), decide_eq_false (fun e => ?_), by omega⟩)
  subst e
  exact cmp_irr _ h
set_option maxRecDepth 100000 in
set_option maxHeartbeats 8000000 in
theorem refMisses_any (w : World) (lo hi fr to : List Int) (low up e : Bool) (g1 : Rng lo) (g2 : Rng hi) (g3 : Rng fr) (g4 : Rng to) :
  Calls Tryd.prog 38 #[.string (str lo), .string (str hi), .bool low, .bool up, .string (str fr), .string (str to), .bool e] w fun d w' => d = .returned (.bool (missQ lo hi low up fr to e)) ∧ w' = w := by
 rcases Bool.eq_false_or_eq_true e with he | he
 ·rcases cmp_three g4 g3 with ⟨l1, c1⟩ | ⟨l1, m1, c1⟩ | ⟨l1, m1, c1⟩
  ·rcases Bool.eq_false_or_eq_true up with hup | hup <;> rcases Bool.eq_false_or_eq_true low with hlow | hlow
   all_goals
    have HA := hid (show missQ lo hi low up fr to e = true from by subst low up e; unfold missQ; simp [c1])
    rw [HA.out]
    subst low up e
    clear HA c1
    go_enter Tryd.func38, Tryd.ntmps38
    go_wp2_with fail
    go_ret
    exact ⟨rfl, rfl⟩
  ·rcases Bool.eq_false_or_eq_true up with hup | hup <;> rcases Bool.eq_false_or_eq_true low with hlow | hlow
   all_goals
    have HA := hid (show missQ lo hi low up fr to e = true from by subst low up e; unfold missQ; simp [c1])
    rw [HA.out]
    subst low up e
    clear HA c1
    go_enter Tryd.func38, Tryd.ntmps38
    go_wp2_with fail
    go_ret
    exact ⟨rfl, rfl⟩
  ·rcases Bool.eq_false_or_eq_true up with hup | hup
   ·rcases cmp_three g2 g3 with ⟨l2, c2⟩ | ⟨l2, m2, c2⟩ | ⟨l2, m2, c2⟩
    ·rcases Bool.eq_false_or_eq_true low with hlow | hlow
     ·have HA := hid (show missQ lo hi low up fr to e = true from by subst low up e; unfold missQ; simp [c1, c2])
      rw [HA.out]
      subst low up e
      clear HA c1 c2
      go_enter Tryd.func38, Tryd.ntmps38
      go_wp2_with fail
      go_ret
      exact ⟨rfl, rfl⟩
     ·have HA := hid (show missQ lo hi low up fr to e = true from by subst low up e; unfold missQ; simp [c1, c2])
      rw [HA.out]
      subst low up e
      clear HA c1 c2
      go_enter Tryd.func38, Tryd.ntmps38
      go_wp2_with fail
      go_ret
      exact ⟨rfl, rfl⟩
    ·rcases Bool.eq_false_or_eq_true low with hlow | hlow
     ·have HA := hid (show missQ lo hi low up fr to e = true from by subst low up e; unfold missQ; simp [c1, c2])
      rw [HA.out]
      subst low up e
      clear HA c1 c2
      go_enter Tryd.func38, Tryd.ntmps38
      go_wp2_with fail
      go_ret
      exact ⟨rfl, rfl⟩
     ·have HA := hid (show missQ lo hi low up fr to e = true from by subst low up e; unfold missQ; simp [c1, c2])
      rw [HA.out]
      subst low up e
      clear HA c1 c2
      go_enter Tryd.func38, Tryd.ntmps38
      go_wp2_with fail
      go_ret
      exact ⟨rfl, rfl⟩
    ·rcases Bool.eq_false_or_eq_true low with hlow | hlow
     ·have l3 := bl g1 g4
      by_cases c3 : cmpI lo to < 0
      ·rw [decide_eq_true c3] at l3
       have d3 : ¬ 0 ≤ cmpI lo to := by omega
       clear c3
       have HA := hid (show missQ lo hi low up fr to e = false from by subst low up e; unfold missQ; simp [c1, c2, d3])
       rw [HA.out]
       subst low up e
       clear HA c1 c2 d3
       go_enter Tryd.func38, Tryd.ntmps38
       go_wp2_with fail
       go_ret
       exact ⟨rfl, rfl⟩
      ·rw [decide_eq_false c3] at l3
       have d3 : 0 ≤ cmpI lo to := by omega
       clear c3
       have HA := hid (show missQ lo hi low up fr to e = true from by subst low up e; unfold missQ; simp [c1, c2, d3])
       rw [HA.out]
       subst low up e
       clear HA c1 c2 d3
       go_enter Tryd.func38, Tryd.ntmps38
       go_wp2_with fail
       go_ret
       exact ⟨rfl, rfl⟩
     ·have HA := hid (show missQ lo hi low up fr to e = false from by subst low up e; unfold missQ; simp [c1, c2])
      rw [HA.out]
      subst low up e
      clear HA c1 c2
      go_enter Tryd.func38, Tryd.ntmps38
      go_wp2_with fail
      go_ret
      exact ⟨rfl, rfl⟩
   ·rcases Bool.eq_false_or_eq_true low with hlow | hlow
    ·have l3 := bl g1 g4
     by_cases c3 : cmpI lo to < 0
     ·rw [decide_eq_true c3] at l3
      have d3 : ¬ 0 ≤ cmpI lo to := by omega
      clear c3
      have HA := hid (show missQ lo hi low up fr to e = false from by subst low up e; unfold missQ; simp [c1, d3])
      rw [HA.out]
      subst low up e
      clear HA c1 d3
      go_enter Tryd.func38, Tryd.ntmps38
      go_wp2_with fail
      go_ret
      exact ⟨rfl, rfl⟩
     ·rw [decide_eq_false c3] at l3
      have d3 : 0 ≤ cmpI lo to := by omega
      clear c3
      have HA := hid (show missQ lo hi low up fr to e = true from by subst low up e; unfold missQ; simp [c1, d3])
      rw [HA.out]
      subst low up e
      clear HA c1 d3
      go_enter Tryd.func38, Tryd.ntmps38
      go_wp2_with fail
      go_ret
      exact ⟨rfl, rfl⟩
    ·have HA := hid (show missQ lo hi low up fr to e = false from by subst low up e; unfold missQ; simp [c1])
     rw [HA.out]
     subst low up e
     clear HA c1
     go_enter Tryd.func38, Tryd.ntmps38
     go_wp2_with fail
     go_ret
     exact ⟨rfl, rfl⟩
 ·rcases Bool.eq_false_or_eq_true up with hup | hup
  ·rcases cmp_three g2 g3 with ⟨l2, c2⟩ | ⟨l2, m2, c2⟩ | ⟨l2, m2, c2⟩
   ·rcases Bool.eq_false_or_eq_true low with hlow | hlow
    ·have HA := hid (show missQ lo hi low up fr to e = true from by subst low up e; unfold missQ; simp [c2])
     rw [HA.out]
     subst low up e
     clear HA c2
     go_enter Tryd.func38, Tryd.ntmps38
     go_wp2_with fail
     go_ret
     exact ⟨rfl, rfl⟩
    ·have HA := hid (show missQ lo hi low up fr to e = true from by subst low up e; unfold missQ; simp [c2])
     rw [HA.out]
     subst low up e
     clear HA c2
     go_enter Tryd.func38, Tryd.ntmps38
     go_wp2_with fail
     go_ret
     exact ⟨rfl, rfl⟩
   ·rcases Bool.eq_false_or_eq_true low with hlow | hlow
    ·have HA := hid (show missQ lo hi low up fr to e = true from by subst low up e; unfold missQ; simp [c2])
     rw [HA.out]
     subst low up e
     clear HA c2
     go_enter Tryd.func38, Tryd.ntmps38
     go_wp2_with fail
     go_ret
     exact ⟨rfl, rfl⟩
    ·have HA := hid (show missQ lo hi low up fr to e = true from by subst low up e; unfold missQ; simp [c2])
     rw [HA.out]
     subst low up e
     clear HA c2
     go_enter Tryd.func38, Tryd.ntmps38
     go_wp2_with fail
     go_ret
     exact ⟨rfl, rfl⟩
   ·rcases Bool.eq_false_or_eq_true low with hlow | hlow
    ·have HA := hid (show missQ lo hi low up fr to e = false from by subst low up e; unfold missQ; simp [c2])
     rw [HA.out]
     subst low up e
     clear HA c2
     go_enter Tryd.func38, Tryd.ntmps38
     go_wp2_with fail
     go_ret
     exact ⟨rfl, rfl⟩
    ·have HA := hid (show missQ lo hi low up fr to e = false from by subst low up e; unfold missQ; simp [c2])
     rw [HA.out]
     subst low up e
     clear HA c2
     go_enter Tryd.func38, Tryd.ntmps38
     go_wp2_with fail
     go_ret
     exact ⟨rfl, rfl⟩
  ·rcases Bool.eq_false_or_eq_true low with hlow | hlow
   ·have HA := hid (show missQ lo hi low up fr to e = false from by subst low up e; unfold missQ; simp [])
    rw [HA.out]
    subst low up e
    clear HA 
    go_enter Tryd.func38, Tryd.ntmps38
    go_wp2_with fail
    go_ret
    exact ⟨rfl, rfl⟩
   ·have HA := hid (show missQ lo hi low up fr to e = false from by subst low up e; unfold missQ; simp [])
    rw [HA.out]
    subst low up e
    clear HA 
    go_enter Tryd.func38, Tryd.ntmps38
    go_wp2_with fail
    go_ret
    exact ⟨rfl, rfl⟩
end Go.Proofs.YtbmlkocpjboodaaDoor
/- stage 7: May of the reference -/
namespace Go.Proofs.YtbmlkocpjboodaaDoor
open Go.RowKit
open Go.Lib (hid)
end Go.Proofs.YtbmlkocpjboodaaDoor
/- stage 7: MerkleSound -/
namespace Go.Proofs.YtbmlkocpjboodaaDoor
open Go.RowKit
open Go.Lib (hid)
end Go.Proofs.YtbmlkocpjboodaaDoor
/- stage 7: an own row of the reference's entries may be cut; a key's bytes are spoilt -/
namespace Go.Proofs.YtbmlkocpjboodaaDoor
open Go.RowKit
open Go.Lib (hid)
end Go.Proofs.YtbmlkocpjboodaaDoor
/- stage 7: MerkleSets, the walk -/
namespace Go.Proofs.YtbmlkocpjboodaaDoor
open Go.RowKit
open Go.Lib (hid)
theorem RfO.cg {w w' : World} {B : Nat} {F : Nat → Prop} {v : Value} {l : List (List Int × Nat)} (h : RfO w B v l) (hc : Chg F w w') (hn : ∀ g, v.ownBlock = some g → ¬ F g) : RfO w' B v l := by
 have hlt := h.lt
 refine ⟨h.1, h.2.imp id ?_⟩
 rintro ⟨g, cap, cur, rfl, q1, q2, q3⟩
 exact ⟨g, cap, cur, rfl, q1, (hc.block g (hlt g rfl).2 (hn g rfl)).trans q2, q3⟩
theorem spoil_get {D : Array Value} {L n : Nat} {v : Int} (h : ∀ i, i < L → ∃ v : Int, D[i]? = some (.int .u8 v)) (i : Nat) (hi : i < L) : ∃ u : Int, (D.setIfInBounds n (.int .u8 v))[i]? = some (.int .u8 u) := by
 obtain ⟨u, hu⟩ := h i hi
 by_cases e : n = i
 ·subst e
  exact ⟨v, by rw [Array.getElem?_setIfInBounds, if_pos rfl, if_pos (Array.getElem?_eq_some_iff.1 hu).1]⟩
 ·exact ⟨u, by rw [Array.getElem?_setIfInBounds, if_neg e]; exact hu⟩
end Go.Proofs.YtbmlkocpjboodaaDoor
/- stage 7: keys that may be written -/
namespace Go.Proofs.YtbmlkocpjboodaaDoor
open Go.RowKit
open Go.Lib (hid)
/-- a block of bytes that may be written below n -/
def Soft (w : World) (b n : Nat) : Prop := ∃ (C : Array Value) (f : Nat × Nat), w.heap[b]? = some (.cells C 5 f) ∧ (f.2 = 0 ∨ n ≤ f.1) ∧ ∀ i, i < n → ∃ v : Int, C[i]? = some (.int .u8 v)
theorem Soft.of {w w' : World} {b n : Nat} (h : Soft w b n) (e : w'.heap[b]? = w.heap[b]?) : Soft w' b n := by
 obtain ⟨C, f, h1, h2, h3⟩ := h
 exact ⟨C, f, e.trans h1, h2, h3⟩
theorem Soft.lt {w : World} {b n : Nat} (h : Soft w b n) : b < w.heap.size := by
 obtain ⟨C, f, h1, -⟩ := h
 exact blk_lt h1
theorem Soft.frozen {w : World} {b n i : Nat} (h : Soft w b n) (hi : i < n) : w.frozen? ⟨b, i, none⟩ = false := by
 obtain ⟨C, ⟨f1, f2⟩, h1, h2, -⟩ := h
 unfold World.frozen?
 simp only [h1]
 rcases h2 with h2 | h2
 ·have h2 : f2 = 0 := h2
  subst h2
  simp
 ·have h2 : n ≤ f1 := h2
  simp
  omega
theorem Soft.get {w : World} {b n i : Nat} (h : Soft w b n) (hi : i < n) : ∃ v : Int, w.cell? ⟨b, i, none⟩ = some (.int .u8 v) := by
 obtain ⟨C, f, h1, -, h3⟩ := h
 obtain ⟨v, hv⟩ := h3 i hi
 exact ⟨v, (cell_of_row _ b i _ _ _ h1).trans hv⟩
theorem Soft.set {w : World} {b n : Nat} (h : Soft w b n) (j : Nat) (v : Int) : Soft (w.setCell ⟨b, j, none⟩ (.int .u8 v)) b n := by
 obtain ⟨C, f, h1, h2, h3⟩ := h
 exact ⟨C.setIfInBounds j (.int .u8 v), f, by rw [setCell_eq_setRow w b j C 5 f _ h1]; exact setRow_heap _ _ _ _ _ _ h1, h2, fun i hi => spoil_get h3 i hi⟩
/-- a slice of bytes of its own, in a block of S, that may be written -/
def KWs (w : World) (S : Nat → Prop) (v : Value) (l : List Int) : Prop := KIs w S v l ∧ (l.length = 0 ∨ ∃ b c, v = .slice (some ⟨b, 0, none⟩) l.length c ∧ S b ∧ Soft w b l.length)
theorem KWs.chg {w w' : World} {S : Nat → Prop} {v : Value} {l : List Int} (h : KWs w S v l) (hc : w.heap.size ≤ w'.heap.size) (hb : ∀ b, b < w.heap.size → S b → w'.heap[b]? = w.heap[b]?) : KWs w' S v l :=
 ⟨h.1.chg hc hb, h.2.imp id (fun ⟨b, c, e, hs, hf⟩ => ⟨b, c, e, hs, hf.of (hb b hf.lt hs)⟩)⟩
theorem KWs.below {w w' : World} {S : Nat → Prop} {v : Value} {l : List Int} (h : KWs w S v l) (hb : Below w.heap.size w w') : KWs w' S v l := h.chg hb.size (fun b hl _ => hb.block b hl)
theorem KWs.mono {w : World} {S S' : Nat → Prop} {v : Value} {l : List Int} (h : KWs w S v l) (hs : ∀ b, S b → S' b) : KWs w S' v l := ⟨h.1.mono hs, h.2.imp id (fun ⟨b, c, e, q, hf⟩ => ⟨b, c, e, hs b q, hf⟩)⟩
theorem KWs.bound {w : World} {S : Nat → Prop} {v : Value} {l : List Int} (h : KWs w S v l) : KWs w (fun b => S b ∧ b < w.heap.size) v l := ⟨h.1.bound, h.2.imp id (fun ⟨b, c, e, q, hf⟩ => ⟨b, c, e, ⟨q, hf.lt⟩, hf⟩)⟩
theorem KWs.cg {w w' : World} {S F : Nat → Prop} {v : Value} {l : List Int} (h : KWs w S v l) (hc : Chg F w w') (hn : ∀ b, b < w.heap.size → S b → ¬ F b) : KWs w' S v l := h.chg hc.size (fun b hl hs => hc.block b hl (hn b hl hs))
theorem KWs.form {w : World} {S : Nat → Prop} {v : Value} {l : List Int} (h : KWs w S v l) : ∃ a c, v = .slice a l.length c := h.1.form
theorem KWs.nil (w : World) (S : Nat → Prop) : KWs w S (.slice none 0 0) [] := ⟨KIs.nil w S, .inl rfl⟩
theorem own_kws {w : World} {B : Nat} {v : Value} {l : List Int} (h : w.ownsRow B 5 1 v l.length (l.map (Value.int .u8))) : KWs w (fun b => B ≤ b) v l := by
 refine ⟨own_kis h, ?_⟩
 obtain ⟨-, ⟨rfl, hn⟩ | ⟨g, cap, cur, rfl, hg, hx, hcap, -, hsz, htk⟩⟩ := h
 ·exact .inl hn
 ·refine .inr ⟨g, cap, rfl, hg, cur, (0, 0), hx, .inl rfl, fun i hi => ⟨l[i]'hi, ?_⟩⟩
  rw [Nat.mul_one] at htk
  have e := congrArg (fun (q : List Value) => q[i]?) htk
  simp only [List.getElem?_take, if_pos hi, List.getElem?_map, List.getElem?_eq_getElem hi, Option.map_some] at e
  rw [← e]
  simp
set_option maxRecDepth 100000 in
theorem cloneW_any (v : Value) (l : List Int) (w : World) (hv : Bs w v l) (hl : l.length ≤ 549755813888) :
  Calls Tryd.prog 92 #[v] w fun e w' => ∃ v', e = .returned v' ∧ KWs w' (fun b => w.heap.size ≤ b) v' l ∧ Below w.heap.size w w' := by
 obtain ⟨i0, hi, hz0, hz1, hz2⟩ := info_parts info5
 obtain ⟨a, cap, rfl, h1, h2⟩ := id hv
 have HV := hid hv
 have q22 : ∀ (u : World) (a : Option Addr) (n c n' c' : Nat), (binOp .eql 31 (.slice a n c) (.slice none n' c')).run Tryd.prog u = .ok (.bool a.isNone) u := fun u a n c n' c' => Lib.run_eql_slice_nil u _ _ a n c n' c' Tryd.underlying31
 cases a with
 | none =>
  have h0 : cap = 0 := h1.2 rfl
  have hl0 : l.length = 0 := by omega
  have hl1 : l = [] := List.eq_nil_of_length_eq_zero hl0
  subst h0 hl1
  clear hv h1 h2
  go_enter Tryd.func92, Tryd.ntmps92
  go_wp2_with fail
  go_ret
  exact ⟨_, rfl, KWs.nil _ _, Below.refl _ _⟩
 | some a =>
  clear hv h1 h2
  go_enter Tryd.func92, Tryd.ntmps92
  go_wp2_with (first
   | (refine wpList_build_empty (o := ⟨some 5, _, _, _, _, _⟩) rfl 31 5 1 rfl (fun u => by kernel_rfl) ?_; intro v5 w5 hown5 hb5 ho5 hs5; have HO5 := hid hown5; have HB5 := hid hb5; have HS5 := hid hs5; have HQ5 := hid ho5; clear hown5 hb5 ho5 hs5)
   | (at_builtin; refine wpList_append_bs (o := ⟨some 7, _, _, _, _, _⟩) rfl (Operand.tmp 5) (Operand.tmp 6) 31 rfl w.heap.size 5 i0 Tryd.underlying31 hi hz0 hz1 hz2 v5 0 [] rfl HO5.out (.slice (some a) l.length cap) l rfl (HV.out.below HB5.out) (by omega) (by rw [HS5.out]; omega) ?_; intro v7 w7 hown7 hg7; have HO7 := hid hown7; have HG7 := hid hg7; clear hown7 hg7))
  refine bodyPost_ret (v := v7) (by simp [results, Tryd.results92, go_sem]) rfl ?_
  have ho := HO7.out
  rw [Nat.zero_add, List.nil_append] at ho
  have hg := HG7.out
  rw [HQ5.out] at hg
  exact ⟨_, rfl, own_kws ho, HB5.out.trans (below_of_grownBy hg (by rw [HS5.out]; omega) (Nat.le_refl _))⟩
set_option maxRecDepth 100000 in
set_option maxHeartbeats 4000000 in
theorem copiedW_any (w : World) (kv : Value) (n : Nat) (k : List Int) (hk : Bs w kv k) (hl : k.length ≤ 65535) :
  Calls Tryd.prog 57 #[.agg (enC kv n)] w fun e w' => ∃ kv', e = .returned (.agg (enC kv' n)) ∧ KWs w' (fun b => w.heap.size ≤ b) kv' k ∧ Below w.heap.size w w' := by
 have HK := hid (And.intro hk hl)
 obtain ⟨ak, ck, rfl, -, -⟩ := hk
 have hI : (Tryd.prog.info? 33).map (·.size) = some 2 := by kernel_rfl
 clear hl
 unfold enC
 go_enter Tryd.func57, Tryd.ntmps57
 go_wp2_with fail
 have hx2 : ((w.alloc (.cells #[.slice ak k.length ck, .int .i64 n] 33)).alloc (.cells #[.slice none 0 0, .int .i64 0] 33)).heap[w.heap.size]? = some (.cells #[.slice ak k.length ck, .int .i64 n] 33 (0, 0)) := (heap_alloc_old _ _ (by simp)).trans (heap_alloc_new _ _)
 have hy2 : ((w.alloc (.cells #[.slice ak k.length ck, .int .i64 n] 33)).alloc (.cells #[.slice none 0 0, .int .i64 0] 33)).heap[w.heap.size + 1]? = some (.cells #[.slice none 0 0, .int .i64 0] 33 (0, 0)) := by
  have e := heap_alloc_new (w.alloc (.cells #[.slice ak k.length ck, .int .i64 n] 33)) (.cells #[.slice none 0 0, .int .i64 0] 33)
  rwa [World.size_alloc] at e
 have hb2 : Below w.heap.size w ((w.alloc (.cells #[.slice ak k.length ck, .int .i64 n] 33)).alloc (.cells #[.slice none 0 0, .int .i64 0] 33)) := ((Below.refl _ _).alloc (Nat.le_refl _) _).alloc (by simp) _
 generalize ((w.alloc (.cells #[.slice ak k.length ck, .int .i64 n] 33)).alloc (.cells #[.slice none 0 0, .int .i64 0] 33)) = w2 at *
 have c0 := cell_of_row w2 w.heap.size 0 _ _ _ hx2
 have c1 := cell_of_row w2 w.heap.size 1 _ _ _ hx2
 have hlx := blk_lt hx2
 have HC := hid (cloneW_any _ k w2.drew ((HK.out.1.below hb2).below (Below.refl _ _).drew) (by have := HK.out.2; omega))
 have HY := hid (show w2.drew.heap[w.heap.size + 1]? = _ from hy2)
 have HB2 := hid hb2.drew
 have HCC := hid (show w2.drew.cell? ⟨w.heap.size, 0, none⟩ = some (.slice ak k.length ck) ∧ w2.drew.cell? ⟨w.heap.size, 1, none⟩ = some (.int .i64 n) from ⟨c0, c1⟩)
 have hbd : Below w2.drew.heap.size w2.drew w2.drew := Below.refl _ _
 replace hlx : w.heap.size < w2.drew.heap.size := hlx
 clear hx2 hy2 hb2 c0 c1
 refine wp_region_held_drew (S := fun u => u.cell? ⟨w.heap.size, 0, none⟩ = some (.slice ak k.length ck) ∧ u.cell? ⟨w.heap.size, 1, none⟩ = some (.int .i64 n)) (by kernel_rfl) (HCC.out) (fun hHeld => ?_)
 refine tk (i := 0) (oi := ⟨some 3, .fieldAddr 33 (.tmp 1) 0, 0, "node.go:30", #[], none⟩) (v := ?_) (Or.inl ⟨by rfl, ?_⟩) ?_
 rotate_left 1
 ·(intro u hSw; go_simp; try with_reducible rfl)
 try simp only [Act.put, sA, sB, sC]
 refine tk (i := 1) (oi := ⟨some 4, .load 31 (.tmp 3), 31, "node.go:30", #[⟨0, .data⟩], none⟩) (v := ?_) (Or.inl ⟨by rfl, ?_⟩) ?_
 rotate_left 1
 ·(intro u hSw; have c0 := hSw.1; have c1 := hSw.2; go_simp; try with_reducible rfl)
 try simp only [Act.put, sA, sB, sC]
 refine tk (i := 3) (oi := ⟨some 6, .fieldAddr 33 (.tmp 1) 1, 0, "node.go:30", #[], none⟩) (v := ?_) (Or.inl ⟨by rfl, ?_⟩) ?_
 rotate_left 1
 ·(intro u hSw; go_simp; try with_reducible rfl)
 try simp only [Act.put, sA, sB, sC]
 refine tk (i := 4) (oi := ⟨some 7, .load 2 (.tmp 6), 2, "node.go:30", #[⟨3, .data⟩], none⟩) (v := ?_) (Or.inl ⟨by rfl, ?_⟩) ?_
 rotate_left 1
 ·(intro u hSw; have c0 := hSw.1; have c1 := hSw.2; go_simp; try with_reducible rfl)
 try simp only [Act.put, sA, sB, sC]
 refine wpAnyH_ready (rs := [2]) (by kernel_rfl) (by simp) ?_
 refine AllReadyH.cons (o := ⟨some 5, .call ⟨.value (.func 92), #[.tmp 4], #[31]⟩, 31, "node.go:30", #[⟨1, .data⟩], none⟩) rfl (fun K hK => ?_) AllReadyH.nil
 go_simp
 refine HC.out.mono ?_
 rintro e w3 ⟨v3, rfl, hk3, hb3⟩
 obtain ⟨a3, c3, rfl⟩ := hk3.form
 have HK3 := hid hk3
 have HY3 := hid ((hb3.block _ (blk_lt HY.out)).trans HY.out)
 have HB3 := hid (HB2.out.trans (hb3.mono HB2.out.size))
 go_wp2_with fail
 refine hK.out _ _ ⟨(hb3.cell (p := ⟨w.heap.size, 0, none⟩) hlx).trans HCC.out.1, (hb3.cell (p := ⟨w.heap.size, 1, none⟩) hlx).trans HCC.out.2⟩ (fun hHeld => ?_)
 clear hK K
 try simp only [Act.put, sA, sB, sC]
 refine tk (i := 5) (oi := ⟨some 8, .build 33 #[(0, .tmp 5), (1, .tmp 7)], 33, "node.go:30", #[⟨2, .data⟩, ⟨4, .data⟩], none⟩) (v := ?_) (Or.inl ⟨by rfl, ?_⟩) ?_
 rotate_left 1
 ·(intro u hSw; go_simp; try with_reducible rfl)
 try simp only [Act.put, sA, sB, sC]
 refine wpAnyH_ready (rs := [6]) (by kernel_rfl) (by simp) ?_
 refine AllReadyH.cons (o := ⟨none, .store 33 (.tmp 2) (.tmp 8), 0, "node.go:30", #[⟨5, .data⟩, ⟨2, .chain⟩, ⟨0, .phase⟩, ⟨1, .phase⟩, ⟨2, .phase⟩, ⟨3, .phase⟩, ⟨4, .phase⟩, ⟨5, .phase⟩], none⟩) rfl (fun K hK => ?_) AllReadyH.nil
 rw [if_pos (by rfl)]
 refine wp_store_row 33 (Operand.tmp 2) (Operand.tmp 8) rfl (w.heap.size + 1) #[.slice a3 k.length c3, .int .i64 n] rfl rfl 33 _ HY3.out hI rfl (all_oneCell_toArray (cs := [.slice a3 k.length c3, .int .i64 n]) (fun v hv => by simp at hv; rcases hv with rfl | rfl <;> rfl)) ?_
 have HY4 := hid (setRow_heap w3 (w.heap.size + 1) _ #[.slice a3 k.length c3, .int .i64 n] 33 (0, 0) HY3.out)
 have HB4 := hid (below_setRow HB3.out (Nat.le_succ _) (g := w.heap.size + 1) #[.slice a3 k.length c3, .int .i64 n])
 have HC4 := hid (show Chg (fun q => q = w.heap.size + 1) w3 (w3.setRow (w.heap.size + 1) #[.slice a3 k.length c3, .int .i64 n]) from Chg.grown (grownBy_setRow _ _ _) (fun k hk => by injection hk with hk; exact hk.symm))
 generalize World.setRow _ _ _ = w4 at *
 refine hK.out _ _ ?_ (fun hHeld => ?_)
 ·have e := HC4.out.block w.heap.size (by have := hb3.size; omega) (by omega); exact ⟨(World.cell?_of_block e).trans ((hb3.cell (p := ⟨w.heap.size, 0, none⟩) hlx).trans HCC.out.1), (World.cell?_of_block e).trans ((hb3.cell (p := ⟨w.heap.size, 1, none⟩) hlx).trans HCC.out.2)⟩
 clear hK K
 try simp only [Act.put]
 refine wpAnyH_done (by kernel_rfl) ?_ _
 go_wp2_with fail
 refine bodyPost_ret (results_cell_row rfl _ _ (w.heap.size + 1) 33 #[.slice a3 k.length c3, .int .i64 n] (0,0) _ rfl HY4.out Tryd.underlying33 rfl hI) rfl ?_
 exact ⟨_, rfl, (HK3.out.bound.cg HC4.out (fun q _ hs e => by have hs2 : _ ∧ _ := hs; have := blk_lt HY.out; omega)).mono (fun q hq => by have := HB2.out.size; have h2 : _ ∧ _ := hq; omega), HB4.out⟩
/-- an own row of entries, whose keys lie in blocks K -/
def EnRW (w : World) (B : Nat) (K : Nat → Prop) (v : Value) (es : List (List Int × Nat)) : Prop :=
 ∃ xs : List (Value × Nat), xs.length = es.length ∧ w.ownsRow B 33 2 v es.length (enL xs) ∧ (∀ g, v.ownBlock = some g → ¬ K g) ∧ ∀ (i : Nat) (x : Value × Nat) (y : List Int × Nat), xs[i]? = some x → es[i]? = some y → x.2 = y.2 ∧ KWs w K x.1 y.1
theorem EnRW.nil (w : World) (B : Nat) (K : Nat → Prop) : EnRW w B K (.slice none 0 0) [] := ⟨[], rfl, World.ownsRow_nil _ _ _ _, (fun g h => by cases h), (fun i x y h => by simp at h)⟩
theorem EnRW.keep {w w' : World} {B : Nat} {K : Nat → Prop} {v : Value} {es : List (List Int × Nat)} (h : EnRW w B K v es) (hb : Below w.heap.size w w') : EnRW w' B K v es := by
 obtain ⟨xs, h1, h2, h3, h4⟩ := h
 have hg : w.grownBy w' none := ⟨hb.os, hb.tape, hb.output, hb.size, fun k hk _ => hb.block k hk⟩
 refine ⟨xs, h1, World.ownsRow.kept h2 hg ?_, h3, fun i x y hx hy => ⟨(h4 i x y hx hy).1, (h4 i x y hx hy).2.below hb⟩⟩
 cases hv : v.ownBlock with
 | none => exact .inl rfl
 | some g => exact .inr (by simp)
/-- an entry is appended -/
theorem EnRW.app {w : World} {B : Nat} {K K' : Nat → Prop} {v : Value} {es : List (List Int × Nat)} (h : EnRW w B K v es) (hb : B ≤ w.heap.size) (b : Nat) (kv : Value) (k : List Int) (n : Nat) (hx : w.heap[b]? = some (.cells #[kv, .int .i64 (n : Int)] 33 (0, 0))) (hk : KWs w K kv k) (hn : es.length ≤ 1099511627776) (ty : TypeId) (h1 : kv.oneCell' = true)
    (hK : ∀ q, K q → q < w.heap.size → K' q) (hK0 : ∀ g, v.ownBlock = some g → ¬ K' g) (hK1 : ¬ K' w.heap.size) :
    ∃ v' w', (Builtin.append_ #[26, 26] ty #[v, .slice (some ⟨b, 0, none⟩) 1 1]).run Tryd.prog w = .ok v' w' ∧ EnRW w' B K' v' (es ++ [(k, n)]) ∧ Chg (fun g => v.ownBlock = some g) w w' ∧ OwnTo w v v' := by
  obtain ⟨i, hi, hz, hs, hby⟩ := info33
  obtain ⟨xs, e1, e2, e3, e4⟩ := h
  obtain ⟨v', w', r1, r2, r3, -, r5⟩ := run_append_own_at (P := Tryd.prog) w B 26 ty 33 i _ 2 i.bytes Tryd.underlying26 hi hz hs rfl rfl (by decide) v es.length (enL xs) e2 ⟨b, 0, none⟩ 1 1 [kv, .int .i64 (n : Int)] rfl (by
    intro j u hj
    rw [Addr.add_mid, cell_of_row _ b _ _ _ _ hx]
    rw [Nat.zero_add]
    simpa using hj) (by intro u hu; simp only [List.mem_cons, List.not_mem_nil, or_false] at hu; rcases hu with rfl | rfl; exact h1; rfl) (by unfold maxLen; omega) (by
    have : (es.length + 1) * i.bytes ≤ (es.length + 1) * 64 := Nat.mul_le_mul_left _ hby
    omega) hb
  have hc : Chg (fun g => v.ownBlock = some g) w w' := Chg.grown r3 (fun k hk => hk)
  have ho : OwnTo w v v' := fun g hg => by
    rcases r5 with h5 | h5
    · exact .inl (by rw [← h5]; exact hg)
    · rw [h5] at hg; injection hg with hg; exact .inr (by omega)
  have hkeep : ∀ {u : Value} {l : List Int}, KWs w K u l → KWs w' K' u l := fun hk => ((hk.bound).cg hc (fun q _ hq hj => e3 q hj hq.1)).mono (fun q hq => hK q hq.1 hq.2)
  refine ⟨v', w', r1, ⟨xs ++ [(kv, n)], by simp [e1], by rw [List.length_append, enL_snoc]; exact r2, fun g hg => ?_, fun j x y hx hy => ?_⟩, hc, ho⟩
  · rcases r5 with h5 | h5
    · exact hK0 g (by rw [← h5]; exact hg)
    · rw [h5] at hg
      injection hg with hg
      subst hg
      exact hK1
  · by_cases hj : j < es.length
    · rw [List.getElem?_append_left (by omega)] at hx
      rw [List.getElem?_append_left hj] at hy
      exact ⟨(e4 j x y hx hy).1, hkeep (e4 j x y hx hy).2⟩
    · have hj2 : j = es.length := by
        have := (List.getElem?_eq_some_iff.1 hy).1
        simp at this
        omega
      subst hj2
      rw [List.getElem?_append_right (by omega), e1, Nat.sub_self] at hx
      rw [List.getElem?_append_right (by omega), Nat.sub_self] at hy
      injection hx with hx
      injection hy with hy
      subst hx hy
      exact ⟨rfl, hkeep hk⟩
theorem EnRW.mono {w : World} {B : Nat} {K K' : Nat → Prop} {v : Value} {es : List (List Int × Nat)} (h : EnRW w B K v es) (hs : ∀ q, K q → K' q) (h3 : ∀ g, v.ownBlock = some g → ¬ K' g) : EnRW w B K' v es := by
 obtain ⟨xs, e1, e2, e3, e4⟩ := h
 exact ⟨xs, e1, e2, h3, fun i x y hx hy => ⟨(e4 i x y hx hy).1, (e4 i x y hx hy).2.mono hs⟩⟩
theorem EnRW.set {w : World} {B : Nat} {K : Nat → Prop} {v : Value} {es : List (List Int × Nat)} (h : EnRW w B K v es) (L : Nat) (u : Value) (h0 : ∀ g, v.ownBlock = some g → g ≠ L) (hK : ∀ q, K q → q ≠ L) (hx : ∃ o, w.heap[L]? = some o) : EnRW (w.setCell ⟨L, 0, none⟩ u) B K v es := by
 obtain ⟨xs, e1, e2, e3, e4⟩ := h
 obtain ⟨o, hx⟩ := hx
 have hc : Chg (fun q => q = L) w (w.setCell ⟨L, 0, none⟩ u) := cell_chg _ hx
 refine ⟨xs, e1, World.ownsRow.kept e2 (grownBy_setCell w ⟨L, 0, none⟩ u) ?_, e3, fun i x y hx hy => ⟨(e4 i x y hx hy).1, (e4 i x y hx hy).2.cg hc (fun q _ hq => hK q hq)⟩⟩
 cases hv : v.ownBlock with
 | none => exact .inl rfl
 | some g => exact .inr (fun hh => h0 g hv (by injection hh))
/-- entries under way: the list's box Lb, the range's box Sb -/
structure NIW (B Lb Sb : Nat) (S : Nat → Prop) (fv tv : Value) (fr to : List Int) (e : Bool) (w : World) (s : List (List Int × Nat)) (J : Nat → Prop) : Prop where
 box : ∃ v, w.heap[Lb]? = some (.cells #[v] 26 (0, 0)) ∧ EnRW w B (KK B Lb Sb v) v s ∧ (∀ g, v.ownBlock = some g → g ≠ Lb ∧ g ≠ Sb ∧ B ≤ g ∧ g < w.heap.size) ∧ ∀ q, J q ↔ q = Lb ∨ v.ownBlock = some q
 span : w.heap[Sb]? = some (.cells #[fv, tv, .bool e] 74 (0, 0))
 fr' : KIs w S fv fr
 to' : KIs w S tv to
 ne : Lb ≠ Sb
 lo : B ≤ Lb ∧ B ≤ Sb
 s : ∀ q, S q → q < B
theorem NIW.keep {B Lb Sb : Nat} {S : Nat → Prop} {fv tv : Value} {fr to : List Int} {e : Bool} {w w' : World} {s : List (List Int × Nat)} {J : Nat → Prop} (h : NIW B Lb Sb S fv tv fr to e w s J) (hb : Below w.heap.size w w') : NIW B Lb Sb S fv tv fr to e w' s J := by
 obtain ⟨⟨v, h1, h2, h3, h4⟩, h5, h6, h7, h8, h9, h10⟩ := h
 exact ⟨⟨v, (hb.block _ (blk_lt h1)).trans h1, h2.keep hb, fun g hg => ⟨(h3 g hg).1, (h3 g hg).2.1, (h3 g hg).2.2.1, Nat.lt_of_lt_of_le (h3 g hg).2.2.2 hb.size⟩, h4⟩, (hb.block _ (blk_lt h5)).trans h5, h6.below hb, h7.below hb, h8, h9, h10⟩
theorem NIW.low {B Lb Sb : Nat} {S : Nat → Prop} {fv tv : Value} {fr to : List Int} {e : Bool} {w : World} {s : List (List Int × Nat)} {J : Nat → Prop} (h : NIW B Lb Sb S fv tv fr to e w s J) : ∀ b, J b → b < w.heap.size ∧ ¬ S b := by
 obtain ⟨⟨v, h1, h2, h3, h4⟩, h5, h6, h7, h8, h9, h10⟩ := h
 intro b hb
 rcases (h4 b).1 hb with rfl | hb
 ·exact ⟨blk_lt h1, fun hs => by have := h10 _ hs; omega⟩
 ·have := h3 b hb
  exact ⟨this.2.2.2, fun hs => by have := h10 _ hs; omega⟩
/-- an entry is appended and the slice is stored -/
theorem NIW.app {B Lb Sb : Nat} {S : Nat → Prop} {fv tv : Value} {fr to : List Int} {e : Bool} {w w1 : World} {s : List (List Int × Nat)} {J : Nat → Prop} {v : Value} (h : NIW B Lb Sb S fv tv fr to e w s J) (hx : w.heap[Lb]? = some (.cells #[v] 26 (0, 0)))
  (hb : Below w.heap.size w w1) (b : Nat) (kv : Value) (k : List Int) (n : Nat) (hbk : w1.heap[b]? = some (.cells #[kv, .int .i64 (n : Int)] 33 (0, 0))) (hk : KWs w1 (fun q => w.heap.size ≤ q) kv k) (hn : s.length ≤ 1099511627776) (ty : TypeId) (hone : kv.oneCell' = true) :
  ∃ v' w2, (Builtin.append_ #[26, 26] ty #[v, .slice (some ⟨b, 0, none⟩) 1 1]).run Tryd.prog w1 = .ok v' w2 ∧ (∃ a m c, v' = .slice a m c) ∧ w2.heap[Lb]? = some (.cells #[v] 26 (0, 0)) ∧ Chg J w w2 ∧ Stp (NIW B Lb Sb S fv tv fr to e) J w (w2.setCell ⟨Lb, 0, none⟩ v') (s ++ [(k, n)]) := by
 obtain ⟨⟨v0, h1, h2, h3, h4⟩, h5, h6, h7, h8, h9, h10⟩ := id h
 obtain rfl : v = v0 := by rw [hx] at h1; injection h1 with h1; injection h1 with h1; injection h1 with h1; injection h1 with h1
 have hP1 : w1.heap[Lb]? = some (.cells #[v] 26 (0, 0)) := (hb.block _ (blk_lt hx)).trans hx
 have hS1 : w1.heap[Sb]? = _ := (hb.block _ (blk_lt h5)).trans h5
 have hLs := blk_lt hP1
 have hSs := blk_lt hS1
 have hws := hb.size
 have hLw := blk_lt hx
 have hSw := blk_lt h5
 obtain ⟨v', w2, r1, r2, hc, ht⟩ := (h2.keep hb).app (K' := fun q => B ≤ q ∧ q ≠ Lb ∧ q ≠ Sb ∧ v.ownBlock ≠ some q ∧ q ≠ w1.heap.size) (by have := h9.1; omega) b kv k n hbk ((hk.bound).mono (fun q hq => ⟨by have := hq.1; have := h9.1; omega, by have := hq.1; omega, by have := hq.1; omega, fun hh => by have := (h3 q hh).2.2.2; have := hq.1; omega⟩)) hn ty hone
  (fun q hq hlt => ⟨hq.1, hq.2.1, hq.2.2.1, hq.2.2.2, by omega⟩) (fun g hg hk => hk.2.2.2.1 hg) (fun hk => hk.2.2.2.2 rfl)
 have r3 : ∀ g, v'.ownBlock = some g → ¬ (B ≤ g ∧ g ≠ Lb ∧ g ≠ Sb ∧ v.ownBlock ≠ some g ∧ g ≠ w1.heap.size) := by
  obtain ⟨_, _, _, q, _⟩ := r2
  exact q
 have hsl : ∃ a m c, v' = .slice a m c := by
  obtain ⟨_, _, q, _, _⟩ := id r2
  obtain ⟨a, c, q⟩ := ownsRow_slc q
  exact ⟨a, _, c, q⟩
 have hP2 : w2.heap[Lb]? = some (.cells #[v] 26 (0, 0)) := (hc.block _ hLs (fun hh => (h3 Lb hh).1 rfl)).trans hP1
 have hS2 : w2.heap[Sb]? = _ := (hc.block _ hSs (fun hh => (h3 Sb hh).2.1 rfl)).trans hS1
 have hcs : Chg (fun q => q = Lb) w2 (w2.setCell ⟨Lb, 0, none⟩ v') := cell_chg _ hP2
 have hJ2 : Chg J w w2 := (Chg.fresh (F := J) hb).trans hc (fun i hi => .inl ((h4 i).2 (.inr hi)))
 have hall : Chg J w (w2.setCell ⟨Lb, 0, none⟩ v') := hJ2.trans hcs (fun i hi => .inl ((h4 i).2 (.inl hi)))
 have hnJ : ∀ q, S q → ¬ J q := fun q hq hj => (h.low q hj).2 hq
 have hown : ∀ g, v'.ownBlock = some g → g ≠ Lb ∧ g ≠ Sb ∧ B ≤ g ∧ g < (w2.setCell ⟨Lb, 0, none⟩ v').heap.size := fun g hg => by
  have hlt : g < w2.heap.size := by
   obtain ⟨_, _, q, _, _⟩ := id r2
   exact (q.lt g hg).2
  have hlt2 := Nat.lt_of_lt_of_le hlt hcs.size
  rcases ht g hg with hh | hh
  ·exact ⟨(h3 g hh).1, (h3 g hh).2.1, (h3 g hh).2.2.1, hlt2⟩
  ·exact ⟨by omega, by omega, by have := h9.1; omega, hlt2⟩
 refine ⟨v', w2, r1, hsl, hP2, hJ2, fun q => q = Lb ∨ v'.ownBlock = some q, ⟨⟨v', one_setCell hP2, ?_, hown, fun q => Iff.rfl⟩, (hcs.block _ (blk_lt hS2) (fun hh => h8 hh.symm)).trans hS2, h6.cg hall (fun q _ hq => hnJ q hq), h7.cg hall (fun q _ hq => hnJ q hq), h8, h9, h10⟩, hall, fun q hq => ?_⟩
 ·refine EnRW.set (r2.mono (K' := KK B Lb Sb v') (fun q hq => ⟨hq.1, hq.2.1, hq.2.2.1, fun hh => r3 q hh hq⟩) (fun g hg hk => hk.2.2.2 hg)) Lb v' (fun g hg => (hown g hg).1) (fun q hq => hq.2.1) ⟨_, hP2⟩
 ·rcases hq with rfl | hq
  ·exact .inl ((h4 _).2 (.inl rfl))
  ·rcases ht q hq with hh | hh
   ·exact .inl ((h4 q).2 (.inr hh))
   ·exact .inr (Nat.le_trans hb.size hh)
end Go.Proofs.YtbmlkocpjboodaaDoor
