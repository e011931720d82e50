import Derived.Test.YtbmlkocpjboodaaDoorMb17
import Derived.Test.YtbmlkocpjboodaaDoorMb18
import Derived.Test.YtbmlkocpjboodaaDoorCards
import Derived.Test.YtbmlkocpjboodaaDoorTie
import Derived.OpenShut
import Derived.Deep.DeepHandedRow
import Derived.Deep.DeepWitnessRowRef
import Derived.Deep.Matrix
import Derived.Deep.Slices
import Derived.Deep.Fields
import Derived.ChangeSame
import Derived.ChangeMaps5
import Derived.Lib.LaidTab
namespace Go.Proofs.YtbmlkocpjboodaaDoor
open Go.ChangeShapes Go.WideShapes Go.ChangeAt Go.RowKit Go.Deep
open Go.Lib (hid)
/-- arguments read again behind a call that has only made memory -/
theorem trodAll_below {H : Type} {enc : TypeId × Value → H} {P : Program} (hl : laidOutB P = true) {W W' : World} (hb : Below W.heap.size W W') :
  ∀ {ts : List TypeId} {vs : List Value} {ds : List (DataW H)} {ps : List MemPlace}, (∀ t ∈ ts, P.readableRec t = true ∧ t < P.types.size) →
   DataW.TrodAll enc P W 0 (fun _ => true) true ts vs ds ps → (∀ x ∈ ps, x.block < W.heap.size) → DataW.TrodAll enc P W' 0 (fun b => decide (b < W.heap.size)) true ts vs ds ps := by
 intro ts
 induction ts with
 | nil =>
  intro vs ds ps _ h _
  obtain ⟨rfl, rfl, rfl⟩ := trodAll_nil h
  exact trodAll_mk0
 | cons t ts ih =>
  intro vs ds ps hr h hlt
  obtain ⟨v, vs', d, ds', p, q, rfl, rfl, rfl, h1, h2⟩ := trodAll_cons h
  have ht := hr t (by simp)
  exact trodAll_cons_mk (Below.trod hl ht.1 ht.2 h1 hb (fun x hx => hlt x (by simp [hx]))) (ih (fun t ht => hr t (by simp [ht])) h2 (fun x hx => hlt x (by simp [hx])))
/-- the post of a law: true, and the arguments read as before -/
theorem law_post {H : Type} {enc : TypeId × Value → H} {P : Program} {f : Func} {s : ChangeSpec} {apart fresh handsOn : Bool} {W W' : World} {args : Array Value} {ds gs : List (DataW H)} {before : List MemPlace} {T : TypeId}
  (hl : laidOutB P = true) (hr : ∀ t ∈ f.params.toList, P.readableRec t = true ∧ t < P.types.size) (hv : s.vars = []) (hres : f.resultTypes = #[T]) (hT : P.underlying T = some .bool)
  (hfn : ∀ gs : List (DataW H), gs = [] → s.fn H (ds ++ gs) = { results := [.lit (.bool true)], args := ds })
  (hW : DataW.Whole enc P f.params.toList s.vars apart W args.toList ds gs before) (hb : Below W.heap.size W W') :
  s.post enc P f apart fresh handsOn false W args (.bool true) W' := by
 have hlt := hW.lt
 have hW' := hW
 obtain ⟨p, q, hA, hV, rfl, _, _⟩ := hW
 rw [hv] at hV
 obtain ⟨rfl, rfl⟩ := trodVars_none hV
 have e := hfn [] rfl
 refine ⟨ds, [], _, [], p, [], hW', ?_, ?_, ?_, hb.frame _, fun h => by cases h⟩
 ·rw [e, hres]
  exact trodAll_cons_mk (shut_bool hT _) trodAll_mk0
 ·rw [e]
  exact trodAll_below hl hb hr hA (fun x hx => hlt x (by simp [hx]))
 ·rw [e, hv]
  exact rfl
section
variable {H : Type} {enc : TypeId × Value → H} {P : Program} {W : World}
end
section
variable {H : Type} {enc : TypeId × Value → H} {P : Program} {w : World} {base : Nat} {spare : Nat → Bool} {held : Bool}
theorem open_slice_fields {t e : TypeId} {fs : Array Field} {fuel : Nat} {cs : List Value} {x : DataW H × List MemPlace} (ht : P.underlying t = some (.slice e)) (he : P.underlying e = some (.struct fs))
  (hone : oneCellFields P fs = true) (hC : P.cellsOf e = fs.size) (h : DataW.trod enc P w base spare held fuel t cs = some x) :
  (cs = [.slice none 0 0] ∧ x = (.nil, [])) ∨
  ∃ (a : Addr) (len cap m : Nat) (D : Nat → DataW H) (Pl : Nat → List MemPlace), cs = [.slice (some a) len cap] ∧ base ≤ a.block ∧ len ≤ cap ∧ cap ≤ maxLen ∧ m = (if spare a.block then cap else len) ∧
   x = (.slice ((List.range len).map D) ((List.range (m - len)).map fun j => D (len + j)), MemPlace.row a (m * fs.size) ++ (List.range m).flatMap Pl) ∧
   ∀ i, i < m → ∃ (ys : List (DataW H × List MemPlace)) (n : Nat), D i = .agg (ys.map (·.1)) ∧ Pl i = ys.flatMap (·.2) ∧ ys.length = fs.size ∧
    ∀ (j : Nat) (f : Field), fs[j]? = some f → ∃ (v : Value) (y : DataW H × List MemPlace), w.cell? (a.add (i * fs.size + j)) = some v ∧ ys[j]? = some y ∧ DataW.trod enc P w base spare held n f.type [v] = some y := by
 rcases open_slice ht h with h0 | ⟨a, len, cap, m, n, D, Pl, hcs, hb, hl, hm, hmm, hx, hi⟩
 ·exact .inl h0
 ·refine .inr ⟨a, len, cap, m, D, Pl, hcs, hb, hl, hm, hmm, by rw [hC] at hx; exact hx, fun i him => ?_⟩
  obtain ⟨cs', hc, ht'⟩ := hi i him
  rw [hC] at hc
  obtain ⟨ys, n', hn', hy, hlen, hyl, hf⟩ := DataW.trod_struct he ht'
  obtain ⟨_, hcl, hat⟩ := World.cells?_some hc
  simp only [Prod.mk.injEq] at hy
  refine ⟨ys, n', hy.1, hy.2, hyl, fun j f hj => ?_⟩
  obtain ⟨ho, hk⟩ := hone_of hone j f hj
  have hjl : j < fs.size := (Array.getElem?_eq_some_iff.1 hj).1
  have hcell := hat j hjl
  have hv : cs'[j]? = some (cs'[j]'(by omega)) := List.getElem?_eq_getElem (by omega)
  have h1 := hf j f hj
  rw [ho, hk] at h1
  have hone' : (cs'.drop j).take 1 = [cs'[j]'(by omega)] := by
   rw [List.drop_eq_getElem_cons (by omega)]
   rfl
  rw [hone'] at h1
  have hys : ys[j]? = some (ys[j]'(by omega)) := List.getElem?_eq_getElem (by omega)
  refine ⟨_, _, ?_, hys, h1.trans hys⟩
  rw [← Go.Deep.add_add, hcell, hv]
end
theorem str_bytes (s : ByteArray) : ∃ l : List Int, s = str l ∧ Rng l ∧ l.length = s.size := by
  refine ⟨s.data.toList.map fun c => (c.toNat : Int), ?_, ?_, by simp⟩
  · obtain ⟨⟨a⟩⟩ := s
    simp only [str, List.map_map, ByteArray.mk.injEq]
    congr 1
    refine (List.map_id a).symm.trans ?_
    apply List.map_congr_left
    intro c _
    simp
  · intro x hx
    simp only [List.mem_map] at hx
    obtain ⟨c, _, rfl⟩ := hx
    have := c.toNat_lt
    omega
theorem i64_of_wf {n : Int} (h : (Lit.int .i64 n).wf = true) : -9223372036854775808 ≤ n ∧ n ≤ 9223372036854775807 := by
 simp [Lit.wf, IntKind.min, IntKind.max, IntKind.signed, IntKind.bits] at h
 omega
theorem own : ownKnob Tryd.prog.godebug = none := by kernel_rfl
theorem laidOut : laidOutB Tryd.prog = true := by kernel_rfl
theorem gTab : Tryd.prog.globalNamed "touchmark/sha.constants" = some 1 := by kernel_rfl
theorem gTabType : (Tryd.prog.globals[1]?).map (·.type) = some 160 := by kernel_rfl
theorem cells65 : Tryd.prog.cellsOf 160 = 64 := by kernel_rfl
theorem cells49 : Tryd.prog.cellsOf 97 = 1 := by kernel_rfl
theorem bulk_pos {H : Type} (d : DataW H) : 1 ≤ Rows.uptoBulk d := by
 cases d with
 | lit l => cases l <;> simp [Rows.uptoBulk]
 | _ => simp [Rows.uptoBulk] <;> omega
theorem bulk_mem {H : Type} {d : DataW H} : ∀ {l : List (DataW H)}, d ∈ l → Rows.uptoBulk d ≤ Rows.uptoBulkAll l
 | [], h => by simp at h
 | e :: l, h => by
  simp only [Rows.uptoBulkAll]
  rcases List.mem_cons.1 h with rfl | h
  ·omega
  ·have := bulk_mem h; omega
theorem bulk_len {H : Type} : ∀ (l : List (DataW H)), l.length ≤ Rows.uptoBulkAll l
 | [] => Nat.zero_le _
 | e :: l => by
  have h1 := bulk_pos e
  have h2 := bulk_len l
  simp only [Rows.uptoBulkAll, List.length_cons]
  omega
section
variable {H : Type} {enc : TypeId × Value → H} {W : World}
/-- a row of the law's entries -/
def RfS (w : World) (v : Value) (l : List (List Int × Int)) : Prop :=
 ∃ a c, v = .slice a l.length c ∧ ∀ (i : Nat) (x : List Int × Int), l[i]? = some x → ∃ g o, a = some ⟨g, o, none⟩ ∧ g < w.heap.size ∧ w.cell? ⟨g, o + i * 2, none⟩ = some (.string (str x.1)) ∧ w.cell? ⟨g, o + (i * 2 + 1), none⟩ = some (.int .i64 x.2)
theorem RfS.below {w w' : World} {v : Value} {l : List (List Int × Int)} (h : RfS w v l) (hb : Below w.heap.size w w') : RfS w' v l := by
 obtain ⟨a, c, e, h⟩ := h
 refine ⟨a, c, e, fun i x hx => ?_⟩
 obtain ⟨g, o, e1, e2, e3, e4⟩ := h i x hx
 exact ⟨g, o, e1, Nat.lt_of_lt_of_le e2 hb.size, (World.cell?_of_block (a := ⟨g, o + i * 2, none⟩) (hb.block g e2)).trans e3, (World.cell?_of_block (a := ⟨g, o + (i * 2 + 1), none⟩) (hb.block g e2)).trans e4⟩
/-- a law's entry is in range -/
def EOk (x : List Int × Int) : Prop := Rng x.1 ∧ x.1.length ≤ 1048576 ∧ -9223372036854775808 ≤ x.2 ∧ x.2 ≤ 9223372036854775807
set_option maxRecDepth 100000 in
theorem ents_of_trod {v : Value} {d : DataW H} {p : List MemPlace} {b : Nat}
    (hok : Value.okWide Tryd.prog W .any b 22 v) (h : DataW.Trod enc Tryd.prog W 0 (fun _ => true) true 22 v d p) (hbd : Rows.uptoBulk d ≤ 1048576) :
    ∃ l : List (List Int × Int), RfS W v l ∧ (∀ x ∈ l, EOk x) ∧ l.length ≤ 1048576 := by
  obtain ⟨a0, len, cap, rfl⟩ := okWide_slice Tryd.underlying22 hok
  obtain ⟨fuel, hf⟩ := h
  rcases open_slice_fields Tryd.underlying22 Tryd.underlying45 (by kernel_rfl) (by kernel_rfl) hf with ⟨hcs, hx⟩ | ⟨a, len', cap', m, D, Pl, hcs, _, hl, _, hm, hx, hi⟩
  · simp [Value.cells] at hcs
    obtain ⟨rfl, rfl, rfl⟩ := hcs
    exact ⟨[], ⟨none, 0, rfl, fun i x h => by simp at h⟩, fun x hx => by simp at hx, Nat.zero_le _⟩
  · simp [Value.cells] at hcs
    obtain ⟨rfl, rfl, rfl⟩ := hcs
    simp only [if_true] at hm
    simp only [Prod.mk.injEq] at hx
    obtain ⟨rfl, _⟩ := hx
    have hx : ∀ i, i < m → ∃ x : List Int × Int, (Rng x.1 ∧ -9223372036854775808 ≤ x.2 ∧ x.2 ≤ 9223372036854775807) ∧ x.1.length ≤ Rows.uptoBulk (D i) ∧ W.cell? (a.add (i * 2 + 0)) = some (.string (str x.1)) ∧ W.cell? (a.add (i * 2 + 1)) = some (.int .i64 x.2) := by
      intro i him
      obtain ⟨ys, n, hD, _, hlen, hfd⟩ := hi i him
      obtain ⟨v0, y0, c0, e0, t0⟩ := hfd 0 _ rfl
      obtain ⟨v1, y1, c1, e1, t1⟩ := hfd 1 _ rfl
      obtain ⟨s0, g0, rfl, w0⟩ := DataW.trod_string Tryd.underlying9 t0
      obtain ⟨n1, g1, rfl, w1⟩ := DataW.trod_int Tryd.underlying2 t1
      simp only [List.cons.injEq, and_true] at g0 g1
      subst g0 g1
      obtain ⟨l, rfl, hrl, hll⟩ := str_bytes s0
      have hb : (DataW.lit (.string (str l).data.toList) : DataW H) ∈ ys.map (·.1) := List.mem_map.2 ⟨_, List.mem_of_getElem? e0, rfl⟩
      have hb2 := bulk_mem hb
      refine ⟨(l, n1), ⟨hrl, (i64_of_wf w1).1, (i64_of_wf w1).2⟩, ?_, c0, c1⟩
      rw [hD]
      simp only [Rows.uptoBulk] at hb2 ⊢
      have : (str l).data.toList.length = l.length := by simp [str]
      omega
    obtain ⟨f, hf⟩ : ∃ f : Nat → List Int × Int, ∀ i, i < m → (Rng (f i).1 ∧ -9223372036854775808 ≤ (f i).2 ∧ (f i).2 ≤ 9223372036854775807) ∧ (f i).1.length ≤ Rows.uptoBulk (D i) ∧ W.cell? (a.add (i * 2 + 0)) = some (.string (str (f i).1)) ∧ W.cell? (a.add (i * 2 + 1)) = some (.int .i64 (f i).2) :=
      ⟨fun i => if h : i < m then Classical.choose (hx i h) else ([], 0), fun i h => by simp only [dif_pos h]; exact Classical.choose_spec (hx i h)⟩
    refine ⟨(List.range len).map f, ⟨some a, cap, by simp, fun i x hxx => ?_⟩, ?_, ?_⟩
    · have hil : i < len := by have := (List.getElem?_eq_some_iff.1 hxx).1; simpa using this
      have h0 := (hf 0 (by omega)).2.2.1
      have hsp := World.cell?_spot h0
      have hlt := World.block_lt_of_cell? _ _ h0
      obtain ⟨ab, ao, asp⟩ := a
      have hsp' : asp = none := by simpa [Addr.add] using hsp
      subst hsp'
      rw [List.getElem?_map, List.getElem?_range hil] at hxx
      simp only [Option.map_some, Option.some.injEq] at hxx
      subst hxx
      obtain ⟨_, _, h1, h2⟩ := hf i (by omega)
      rw [add_plain] at h1 h2
      exact ⟨ab, ao, rfl, by simpa [Addr.add] using hlt, h1, h2⟩
    · intro x hx
      obtain ⟨i, hi, rfl⟩ := List.mem_map.1 hx
      have hil := List.mem_range.1 hi
      obtain ⟨h1, h2, _⟩ := hf i (by omega)
      have := bulk_mem (H := H) (d := D i) (l := (List.range len).map D) (List.mem_map.2 ⟨i, hi, rfl⟩)
      simp only [Rows.uptoBulk] at hbd
      exact ⟨h1.1, by omega, h1.2.1, h1.2.2⟩
    · have := bulk_len (H := H) ((List.range len).map D)
      simp only [Rows.uptoBulk, List.length_map, List.length_range] at this hbd ⊢
      omega
set_option maxRecDepth 100000 in
theorem rng_of_trod {v : Value} {d : DataW H} {p : List MemPlace} {b : Nat}
  (hok : Value.okWide Tryd.prog W .any b 24 v) (h : DataW.Trod enc Tryd.prog W 0 (fun _ => true) true 24 v d p) (hbd : Rows.uptoBulk d ≤ 1048576) :
  ∃ fr to e, v = .agg #[.string (str fr), .string (str to), .bool e] ∧ Rng fr ∧ Rng to ∧ fr.length ≤ 1048576 ∧ to.length ≤ 1048576 := by
 obtain ⟨cs, rfl, hsz⟩ := okWide_struct Tryd.underlying24 hok
 obtain ⟨fuel, hf⟩ := h
 obtain ⟨ys, n, -, hy, hl, hlen, hfd⟩ := DataW.trod_struct Tryd.underlying24 hf
 simp only [Prod.mk.injEq] at hy
 have hc : Tryd.prog.cellsOf 24 = 3 := by kernel_rfl
 rw [hc] at hsz
 obtain ⟨l⟩ := cs
 match l, hsz with
 | [x0, x1, x2], _ =>
  have k0 : Tryd.prog.cellsOf 9 = 1 := by kernel_rfl
  have k1 : Tryd.prog.cellsOf 4 = 1 := by kernel_rfl
  have hlen3 : ys.length = 3 := hlen
  match ys, hlen3 with
  | [y0, y1, y2], _ =>
   have t0 : DataW.trod enc Tryd.prog W 0 (fun _ => true) true n 9 ((List.drop 0 [x0, x1, x2]).take (Tryd.prog.cellsOf 9)) = some y0 := hfd 0 _ rfl
   have t1 : DataW.trod enc Tryd.prog W 0 (fun _ => true) true n 9 ((List.drop 1 [x0, x1, x2]).take (Tryd.prog.cellsOf 9)) = some y1 := hfd 1 _ rfl
   have t2 : DataW.trod enc Tryd.prog W 0 (fun _ => true) true n 4 ((List.drop 2 [x0, x1, x2]).take (Tryd.prog.cellsOf 4)) = some y2 := hfd 2 _ rfl
   rw [k0] at t0 t1
   rw [k1] at t2
   obtain ⟨s0, g0, e0, w0⟩ := DataW.trod_string Tryd.underlying9 t0
   obtain ⟨s1, g1, e1, w1⟩ := DataW.trod_string Tryd.underlying9 t1
   obtain ⟨b2, g2, e2⟩ := DataW.trod_bool Tryd.underlying4 t2
   obtain ⟨l0, rfl, r0, q0⟩ := str_bytes s0
   obtain ⟨l1, rfl, r1, q1⟩ := str_bytes s1
   simp at g0 g1 g2
   subst g0 g1 g2
   refine ⟨l0, l1, b2, rfl, r0, r1, ?_⟩
   have z0 : (str l0).data.toList.length = l0.length := by simp [str]
   have z1 : (str l1).data.toList.length = l1.length := by simp [str]
   obtain ⟨hy1, -⟩ := hy
   rw [hy1] at hbd
   subst e0 e1 e2
   simp only [List.map_cons, List.map_nil, Rows.uptoBulk, Rows.uptoBulkAll] at hbd
   omega
end
/-- a world for the witness: the settled one, the table holding what its initialiser lays -/
noncomputable def laidWorld (os : Os) : World :=
 { World.holding Tryd.prog os ⟨#[], #[], []⟩ with heap := (World.holding Tryd.prog os ⟨#[], #[], []⟩).heap.modify 1 fun
   | .cells _ t frozen => .cells (Kt.map (Value.int .u32)).toArray t frozen
   | o => o }
end Go.Proofs.YtbmlkocpjboodaaDoor
namespace Go.Proofs.YtbmlkocpjboodaaDoor
open Go.ChangeShapes Go.WideShapes Go.ChangeAt Go.RowKit Go.Deep
open Go.Lib (hid)
section
variable {H : Type} {enc : TypeId × Value → H} {W : World}
set_option maxRecDepth 100000 in
theorem cap_of_trod {v : Value} {d : DataW H} {p : List MemPlace} {b : Nat}
  (hok : Value.okWide Tryd.prog W .any b 22 v) (h : DataW.Trod enc Tryd.prog W 0 (fun _ => true) true 22 v d p) : ∀ a n c, v = .slice a n c → n ≤ c := by
 obtain ⟨a0, len, cap, rfl⟩ := okWide_slice Tryd.underlying22 hok
 obtain ⟨fuel, hf⟩ := h
 intro a n c e
 injection e with e1 e2 e3
 subst e1 e2 e3
 rcases open_slice_fields Tryd.underlying22 Tryd.underlying45 (by kernel_rfl) (by kernel_rfl) hf with ⟨hcs, hx⟩ | ⟨a, len', cap', m, D, Pl, hcs, _, hl, _, hm, hx, hi⟩
 ·simp [Value.cells] at hcs
  omega
 ·simp [Value.cells] at hcs
  omega
end
end Go.Proofs.YtbmlkocpjboodaaDoor
/- stage 7, plain: what a clash tells, a proof's bytes -/
namespace Go.Proofs.YtbmlkocpjboodaaDoor
open Go.RowKit
open Go.Lib (hid)
end Go.Proofs.YtbmlkocpjboodaaDoor
/- stage 7: MerkleClash -/
namespace Go.Proofs.YtbmlkocpjboodaaDoor
open Go.RowKit
open Go.Lib (hid)
end Go.Proofs.YtbmlkocpjboodaaDoor
/- stage 7, plain: trees in order -/
namespace Go.Proofs.YtbmlkocpjboodaaDoor
open Go.RowKit
open Go.Lib (hid)
/-- the entries of a tree's nodes, in order -/
def MT.ino : MT → List (List Int × Nat)
 | .nil => []
 | .cut _ => []
 | .nd k n _ _ l r => l.ino ++ (k, n) :: r.ino
/-- strictly rising keys -/
def Asc (l : List (List Int × Nat)) : Prop := l.Pairwise (fun x y => cmpI x.1 y.1 < 0)
theorem cmp_flip (a b : List Int) : cmpI b a = - cmpI a b := cmpI_anti a b
theorem cmp_tri (a b : List Int) : cmpI a b < 0 ∨ a = b ∨ cmpI b a < 0 := by
 rcases cmpI_rng a b with h | h | h
 ·exact .inl (by omega)
 ·exact .inr (.inl ((cmpI_zero a b).1 h))
 ·exact .inr (.inr (by rw [cmp_flip a b]; omega))
theorem cmp_irr (a : List Int) : ¬ cmpI a a < 0 := by rw [cmpI_same]; omega
theorem asc_nd {k : List Int} {n : Nat} {rk d : List Int} {l r : MT} (h : Asc (MT.nd k n rk d l r).ino) : Asc l.ino ∧ Asc r.ino ∧ (∀ x ∈ l.ino, cmpI x.1 k < 0) ∧ (∀ x ∈ r.ino, cmpI k x.1 < 0) ∧ ∀ x ∈ l.ino, ∀ y ∈ r.ino, cmpI x.1 y.1 < 0 := by
 unfold Asc MT.ino at h
 rw [List.pairwise_append, List.pairwise_cons] at h
 obtain ⟨h1, ⟨h2, h3⟩, h4⟩ := h
 exact ⟨h1, h3, fun x hx => h4 x hx (k, n) List.mem_cons_self, fun x hx => h2 x hx, fun x hx y hy => h4 x hx y (List.mem_cons_of_mem _ hy)⟩
/-- those ahead of a key, those behind it -/
def lo (k : List Int) (l : List (List Int × Nat)) : List (List Int × Nat) := l.filter (fun x => decide (cmpI x.1 k < 0))
def up (k : List Int) (l : List (List Int × Nat)) : List (List Int × Nat) := l.filter (fun x => decide (cmpI k x.1 < 0))
theorem cmp_asym {a b : List Int} (h : cmpI a b < 0) : ¬ cmpI b a < 0 := by rw [cmp_flip a b]; omega
/-- each node's rank is that of its key -/
def MT.Rkd : MT → Prop
 | .nd k _ rk _ l r => rk = rnk k ∧ l.Rkd ∧ r.Rkd
 | _ => True
/-- what visit makes of a state, where enter always goes on -/
theorem visit_ino {σ : Type} (me : σ → List Int → Nat → σ) : ∀ (t : MT) (lo hi : Option (List Int)) (s : σ), visitM (fun s _ _ _ => (s, true)) me t lo hi s = t.ino.foldl (fun s x => me s x.1 x.2) s
 | .nil, _, _, _ => rfl
 | .cut _, _, _, _ => rfl
 | .nd k n rk d l r, lo, hi, s => by
  simp only [visitM, MT.ino, List.foldl_append, List.foldl_cons]
  rw [visit_ino me l, visit_ino me r]
  rfl
theorem ents_ino (fr to : List Int) (e : Bool) (t : MT) : t.ents fr to e = t.ino.filter (fun x => hasQ fr to e x.1) := by
 unfold MT.ents eachM
 rw [visit_ino]
 have h : ∀ (l s : List (List Int × Nat)), l.foldl (fun s x => enM fr to e s x.1 x.2) s = s ++ l.filter (fun x => hasQ fr to e x.1) := by
  intro l
  induction l with
  | nil => intro s; simp
  | cons x l ih =>
   intro s
   rw [List.foldl_cons, ih, List.filter_cons]
   unfold enM
   by_cases hq : hasQ fr to e x.1 = true
   ·rw [if_pos hq, if_pos hq]; simp
   ·rw [if_neg hq, if_neg hq]
 rw [h, List.nil_append]
def chn : Option (List Int) → List (List Int × Nat) → Bool
 | _, [] => true
 | o, x :: l => o.elim true (fun y => decide (cmpI y x.1 < 0)) && chn (some x.1) l
theorem chn_asc : ∀ (l : List (List Int × Nat)) (o : Option (List Int)), chn o l = true ↔ Asc l ∧ ∀ k, o = some k → ∀ x ∈ l, cmpI k x.1 < 0
 | [], o => by simp [chn, Asc]
 | x :: l, o => by
  have ih := chn_asc l (some x.1)
  rw [chn, Bool.and_eq_true, ih]
  unfold Asc
  rw [List.pairwise_cons]
  constructor
  ·rintro ⟨h1, h2, h3⟩
   refine ⟨⟨fun y hy => h3 x.1 rfl y hy, h2⟩, fun k hk y hy => ?_⟩
   subst hk
   have h4 : cmpI k x.1 < 0 := of_decide_eq_true h1
   rcases List.mem_cons.1 hy with rfl | hy
   ·exact h4
   ·exact cmpI_trans _ _ _ h4 (h3 x.1 rfl y hy)
  ·rintro ⟨⟨h1, h2⟩, h3⟩
   refine ⟨?_, h2, fun k hk y hy => ?_⟩
   ·cases o with
    | none => rfl
    | some k => exact decide_eq_true (h3 k rfl x List.mem_cons_self)
   ·injection hk with hk
    subst hk
    exact h1 y hy
end Go.Proofs.YtbmlkocpjboodaaDoor
/- stage 7, plain: the tree of a list is one -/
namespace Go.Proofs.YtbmlkocpjboodaaDoor
open Go.RowKit
open Go.Lib (hid)
/-- is a key above another? -/
def abk (k k' : List Int) : Bool := abv k (rnk k) k' (rnk k')
theorem abk_tri {k k' : List Int} (h : k ≠ k') : abk k k' = true ∨ abk k' k = true := by
 unfold abk abv
 have e := cmp_flip (rnk k) (rnk k')
 by_cases c : cmpI (rnk k) (rnk k') = 0
 ·rw [if_pos c, if_pos (by omega)]
  rcases cmp_tri k k' with h1 | h1 | h1
  ·exact .inl (decide_eq_true h1)
  ·exact absurd h1 h
  ·exact .inr (decide_eq_true h1)
 ·rw [if_neg c, if_neg (by omega)]
  by_cases c2 : 0 < cmpI (rnk k) (rnk k')
  ·exact .inl (decide_eq_true c2)
  ·exact .inr (decide_eq_true (by omega))
theorem abk_trans {a b c : List Int} (h1 : abk a b = true) (h2 : abk b c = true) : abk a c = true := by
 unfold abk abv at *
 have e1 := cmp_flip (rnk a) (rnk b)
 have e2 := cmp_flip (rnk b) (rnk c)
 by_cases c1 : cmpI (rnk a) (rnk b) = 0
 ·rw [if_pos c1] at h1
  have ra := (cmpI_zero _ _).1 c1
  rw [ra]
  by_cases c2 : cmpI (rnk b) (rnk c) = 0
  ·rw [if_pos c2] at h2 ⊢
   exact decide_eq_true (cmpI_trans _ _ _ (of_decide_eq_true h1) (of_decide_eq_true h2))
  ·rw [if_neg c2] at h2 ⊢
   exact h2
 ·rw [if_neg c1] at h1
  have p1 := of_decide_eq_true h1
  by_cases c2 : cmpI (rnk b) (rnk c) = 0
  ·have rb := (cmpI_zero _ _).1 c2
   rw [← rb, if_neg c1]
   exact h1
  ·rw [if_neg c2] at h2
   have p2 := of_decide_eq_true h2
   have p3 : cmpI (rnk c) (rnk a) < 0 := cmpI_trans _ _ _ (by omega) (by omega : cmpI (rnk b) (rnk a) < 0)
   have e3 := cmp_flip (rnk a) (rnk c)
   rw [if_neg (by omega)]
   exact decide_eq_true (by omega)
/-- each node is above all below it -/
def MT.Heap : MT → Prop
 | .nd k _ _ _ l r => (∀ x ∈ l.ino, abk k x.1 = true) ∧ (∀ x ∈ r.ino, abk k x.1 = true) ∧ l.Heap ∧ r.Heap
 | _ => True
end Go.Proofs.YtbmlkocpjboodaaDoor
/- stage 7, plain: the tree that treeOf makes; the reference's root -/
namespace Go.Proofs.YtbmlkocpjboodaaDoor
open Go.RowKit
open Go.Lib (hid)
/-- the entries of nodes that wait (the last one first) -/
def stI : List Wt → List (List Int × Nat)
 | [] => []
 | x :: s => stI s ++ (x.l.ino ++ [(x.k, x.n)])
theorem fin_ino (rdy : List Int → List Int → Bool) : ∀ (s : List Wt) (r : MT), stI (fin rdy s r).1 ++ (fin rdy s r).2.ino = stI s ++ r.ino
 | [], _ => rfl
 | x :: s, r => by
  unfold fin
  split
  ·rw [fin_ino rdy s]
   simp [mkN, MT.ino, stI]
  ·rfl
theorem fin_all : ∀ (s : List Wt) (r : MT), (fin (fun _ _ => true) s r).1 = []
 | [], _ => rfl
 | x :: s, r => by
  unfold fin
  rw [if_pos rfl]
  exact fin_all s _
def rkE (x : Rk) : List Int × Nat := (x.k, x.n)
theorem bld_ino : ∀ (l : List Rk) (s : List Wt), stI (bld l s) = stI s ++ l.map rkE
 | [], s => by simp [bld]
 | x :: l, s => by
  unfold bld
  rw [bld_ino l]
  have h := fin_ino (fun k rk => abv x.k x.rk k rk) s .nil
  simp only [MT.ino, List.append_nil] at h
  simp only [stI, List.map_cons]
  rw [← h]
  simp [rkE]
theorem of_ino (l : List Rk) : (MT.of l).ino = l.map rkE := by
 have h := fin_ino (fun _ _ => true) (bld l []) .nil
 rw [fin_all, bld_ino] at h
 simpa [stI, MT.ino, MT.of] using h
/-- nodes that wait, in order: each is above its left tree and all behind it -/
def StOk : List Wt → List (List Int × Nat) → Prop
 | [], _ => True
 | x :: s, b => x.rk = rnk x.k ∧ x.l.Full ∧ x.l.Rkd ∧ x.l.Heap ∧ (∀ y ∈ x.l.ino, abk x.k y.1 = true) ∧ (∀ y ∈ b, abk x.k y.1 = true) ∧ StOk s (x.l.ino ++ (x.k, x.n) :: b)
theorem fin_ok (rdy : List Int → List Int → Bool) : ∀ (s : List Wt) (r : MT), StOk s r.ino → r.Full → r.Rkd → r.Heap → StOk (fin rdy s r).1 (fin rdy s r).2.ino ∧ (fin rdy s r).2.Full ∧ (fin rdy s r).2.Rkd ∧ (fin rdy s r).2.Heap
 | [], r, h, f, q, hp => ⟨trivial, f, q, hp⟩
 | x :: s, r, h, f, q, hp => by
  obtain ⟨h1, h2, h3, h4, h5, h6, h7⟩ := id h
  unfold fin
  split
  ·exact fin_ok rdy s _ h7 ⟨h2, f⟩ ⟨h1, h3, q⟩ ⟨h5, h6, h4, hp⟩
  ·exact ⟨h, f, q, hp⟩
/-- what a new key has taken is below it; what it has left is above it -/
theorem fin_new (k : List Int) : ∀ (s : List Wt) (r : MT), StOk s r.ino → (∀ x ∈ s, x.rk = rnk x.k ∧ x.k ≠ k) → (∀ y ∈ r.ino, abk k y.1 = true) → (∀ y ∈ (fin (fun k' rk' => abv k (rnk k) k' rk') s r).2.ino, abk k y.1 = true) ∧ ∀ x ∈ (fin (fun k' rk' => abv k (rnk k) k' rk') s r).1, abk x.k k = true
 | [], r, _, _, hr => ⟨hr, fun x hx => by cases hx⟩
 | x :: s, r, h, hk, hr => by
  obtain ⟨h1, h2, h3, h4, h5, h6, h7⟩ := id h
  unfold fin
  have hx := hk x List.mem_cons_self
  have hab : abv k (rnk k) x.k x.rk = abk k x.k := by rw [hx.1]; rfl
  rw [hab]
  split
  ·rename_i hc
   refine fin_new k s _ h7 (fun y hy => hk y (List.mem_cons_of_mem _ hy)) (fun y hy => ?_)
   simp only [mkN, MT.ino] at hy
   rcases List.mem_append.1 hy with hy | hy
   ·exact abk_trans hc (h5 y hy)
   ·rcases List.mem_cons.1 hy with rfl | hy
    ·exact hc
    ·exact hr y hy
  ·rename_i hc
   have hc2 : abk x.k k = true := (abk_tri hx.2).elim id (fun h => absurd h hc)
   refine ⟨hr, fun y hy => ?_⟩
   rcases List.mem_cons.1 hy with rfl | hy
   ·exact hc2
   ·have hyx : ∀ (s : List Wt) (b : List (List Int × Nat)), StOk s b → ∀ y ∈ s, ∀ z ∈ b, abk y.k z.1 = true := by
     intro s
     induction s with
     | nil => intro b _ y hy; cases hy
     | cons a s ih =>
      intro b hb y hy z hz
      rcases List.mem_cons.1 hy with rfl | hy
      ·exact hb.2.2.2.2.2.1 z hz
      ·exact ih _ hb.2.2.2.2.2.2 y hy z (List.mem_append_right _ (List.mem_cons_of_mem _ hz))
    exact abk_trans (hyx s _ h7 y hy (x.k, x.n) (List.mem_append_right _ List.mem_cons_self)) hc2
theorem StOk.put : ∀ {s : List Wt} {b b' : List (List Int × Nat)}, StOk s b → (∀ x ∈ s, ∀ y ∈ b', abk x.k y.1 = true) → StOk s (b ++ b')
 | [], _, _, _, _ => trivial
 | x :: s, b, b', h, hn => ⟨h.1, h.2.1, h.2.2.1, h.2.2.2.1, h.2.2.2.2.1, fun y hy => (List.mem_append.1 hy).elim (h.2.2.2.2.2.1 y) (hn x List.mem_cons_self y), by
   have h2 := StOk.put h.2.2.2.2.2.2 (fun z hz y hy => hn z (List.mem_cons_of_mem _ hz) y hy)
   simpa using h2⟩
theorem fin_mem (rdy : List Int → List Int → Bool) : ∀ (s : List Wt) (r : MT), ∀ x ∈ (fin rdy s r).1, x ∈ s
 | [], _, x, h => h
 | y :: s, r, x, h => by
  unfold fin at h
  split at h
  ·exact List.mem_cons_of_mem _ (fin_mem rdy s _ x h)
  ·exact h
theorem bld_ok : ∀ (l : List Rk) (s : List Wt), StOk s [] → (∀ x ∈ s, x.rk = rnk x.k) → (∀ x ∈ l, x.rk = rnk x.k) → (∀ x ∈ s, ∀ y ∈ l, x.k ≠ y.k) → l.Pairwise (fun x y => x.k ≠ y.k) → StOk (bld l s) []
 | [], s, h, _, _, _, _ => h
 | x :: l, s, h, hs, hl, hd, hp => by
  rw [List.pairwise_cons] at hp
  have hx := hl x List.mem_cons_self
  unfold bld
  have e : (fun k rk => abv x.k x.rk k rk) = (fun k rk => abv x.k (rnk x.k) k rk) := by rw [hx]
  rw [e]
  obtain ⟨o1, o2, o3, o4⟩ := fin_ok (fun k rk => abv x.k (rnk x.k) k rk) s .nil h trivial trivial trivial
  obtain ⟨n1, n2⟩ := fin_new x.k s .nil h (fun y hy => ⟨hs y hy, hd y hy x List.mem_cons_self⟩) (fun y hy => by cases hy)
  have hm := fin_mem (fun k rk => abv x.k (rnk x.k) k rk) s .nil
  generalize fin (fun k rk => abv x.k (rnk x.k) k rk) s .nil = z at *
  refine bld_ok l _ ⟨hx, o2, o3, o4, n1, fun y hy => (by cases hy), o1.put (fun a ha y hy => ?_)⟩ (fun y hy => ?_) (fun y hy => hl y (List.mem_cons_of_mem _ hy)) (fun y hy b hb => ?_) hp.2
  ·simp only [List.mem_cons, List.not_mem_nil, or_false] at hy
   subst hy
   exact n2 a ha
  ·rcases List.mem_cons.1 hy with rfl | hy
   ·exact hx
   ·exact hs y (hm y hy)
  ·rcases List.mem_cons.1 hy with rfl | hy
   ·exact hp.1 b hb
   ·exact hd y (hm y hy) b (List.mem_cons_of_mem _ hb)
/-- what treeOf makes of rising entries is their tree -/
theorem of_ok (l : List Rk) (hl : ∀ x ∈ l, x.rk = rnk x.k) (ha : Asc (l.map rkE)) : (MT.of l).Full ∧ (MT.of l).Rkd ∧ (MT.of l).Heap := by
 have hp : l.Pairwise (fun x y => x.k ≠ y.k) := by
  unfold Asc at ha
  rw [List.pairwise_map] at ha
  exact ha.imp (fun h e => by simp only [rkE] at h; rw [e] at h; exact cmp_irr _ h)
 have h := bld_ok l [] trivial (fun x hx => by cases hx) hl (fun x hx => by cases hx) hp
 obtain ⟨-, h1, h2, h3⟩ := fin_ok (fun _ _ => true) (bld l []) .nil h trivial trivial trivial
 exact ⟨h1, h2, h3⟩
end Go.Proofs.YtbmlkocpjboodaaDoor
/- stage 7, plain: the reference's top and root -/
namespace Go.Proofs.YtbmlkocpjboodaaDoor
open Go.RowKit
open Go.Lib (hid)
/-- the reference's loop of top: what is left, its number, the best so far and its rank -/
def topF : List (List Int × Nat) → Nat → Nat → List Int → Nat × List Int
 | [], _, p, b => (p, b)
 | x :: l, i, p, b => if cmpI b (rnk x.1) < 0 then topF l (i + 1) i (rnk x.1) else topF l (i + 1) p b
def topI : List (List Int × Nat) → Nat
 | [] => 0
 | x :: l => (topF l 1 0 (rnk x.1)).1
theorem topF_lt : ∀ (l : List (List Int × Nat)) (i p : Nat) (b : List Int), p < i → (topF l i p b).1 < i + l.length
 | [], i, p, b, h => h
 | x :: l, i, p, b, h => by
  unfold topF
  rw [List.length_cons]
  split
  ·have := topF_lt l (i + 1) i (rnk x.1) (by omega); omega
  ·have := topF_lt l (i + 1) p b (by omega); omega
theorem topI_lt {l : List (List Int × Nat)} (h : 0 < l.length) : topI l < l.length := by
 cases l with
 | nil => cases h
 | cons x l => have := topF_lt l 1 0 (rnk x.1) (by omega); show (topF l 1 0 (rnk x.1)).1 < l.length + 1; omega
theorem topF_stay : ∀ (l : List (List Int × Nat)) (i p : Nat) (b : List Int), (∀ y ∈ l, ¬ cmpI b (rnk y.1) < 0) → topF l i p b = (p, b)
 | [], _, _, _, _ => rfl
 | x :: l, i, p, b, h => by
  unfold topF
  rw [if_neg (h x List.mem_cons_self)]
  exact topF_stay l _ _ _ (fun y hy => h y (List.mem_cons_of_mem _ hy))
theorem topF_mid (x : List Int × Nat) (c : List (List Int × Nat)) (hc : ∀ y ∈ c, ¬ cmpI (rnk x.1) (rnk y.1) < 0) : ∀ (a : List (List Int × Nat)) (i p : Nat) (b : List Int), (∀ y ∈ a, cmpI (rnk y.1) (rnk x.1) < 0) → cmpI b (rnk x.1) < 0 → (topF (a ++ x :: c) i p b).1 = i + a.length
 | [], i, p, b, _, hb => by
  show (topF (x :: c) i p b).1 = _
  unfold topF
  rw [if_pos hb, topF_stay c _ _ _ hc]
  rfl
 | y :: a, i, p, b, h, hb => by
  show (topF (y :: (a ++ x :: c)) i p b).1 = _
  unfold topF
  have hy := h y List.mem_cons_self
  have h2 : ∀ z ∈ a, cmpI (rnk z.1) (rnk x.1) < 0 := fun z hz => h z (List.mem_cons_of_mem _ hz)
  rw [List.length_cons]
  split
  ·rw [topF_mid x c hc a _ _ _ h2 hy]; omega
  ·rw [topF_mid x c hc a _ _ _ h2 hb]; omega
theorem topI_mid (x : List Int × Nat) (a c : List (List Int × Nat)) (ha : ∀ y ∈ a, cmpI (rnk y.1) (rnk x.1) < 0) (hc : ∀ y ∈ c, ¬ cmpI (rnk x.1) (rnk y.1) < 0) : topI (a ++ x :: c) = a.length := by
 cases a with
 | nil => show (topF c 1 0 (rnk x.1)).1 = 0; rw [topF_stay c _ _ _ hc]
 | cons y a =>
  show (topF (a ++ x :: c) 1 0 (rnk y.1)).1 = _
  rw [topF_mid x c hc a _ _ _ (fun z hz => ha z (List.mem_cons_of_mem _ hz)) (ha y List.mem_cons_self), List.length_cons]
  omega
/-- the reference's root, so many calls deep -/
def rtF : Nat → List (List Int × Nat) → List Int
 | 0, _ => sha txt0
 | m + 1, l => match l[topI l]? with
  | none => sha txt0
  | some x => sha (txtN x.1 x.2 (rtF m (l.take (topI l))) (rtF m (l.drop (topI l + 1))))
def rRoot (l : List (List Int × Nat)) : List Int := rtF l.length l
theorem rtF_more : ∀ (m : Nat) (l : List (List Int × Nat)), l.length ≤ m → rtF m l = rtF (m + 1) l
 | 0, l, h => by
  have : l = [] := List.eq_nil_of_length_eq_zero (by omega)
  subst this
  rfl
 | m + 1, l, h => by
  conv => lhs; unfold rtF
  conv => rhs; unfold rtF
  cases hx : l[topI l]? with
  | none => rfl
  | some x =>
   have hi := (List.getElem?_eq_some_iff.1 hx).1
   simp only []
   rw [rtF_more m _ (by rw [List.length_take]; omega), rtF_more m _ (by rw [List.length_drop]; omega)]
theorem rtF_any (l : List (List Int × Nat)) : ∀ (d : Nat), rtF (l.length + d) l = rRoot l
 | 0 => rfl
 | d + 1 => by rw [← rtF_any l d, rtF_more (l.length + d) l (by omega)]; rfl
theorem rtF_ge {m : Nat} {l : List (List Int × Nat)} (h : l.length ≤ m) : rtF m l = rRoot l := by
 obtain ⟨d, rfl⟩ := Nat.le.dest h
 exact rtF_any l d
theorem rRoot_nil : rRoot [] = sha txt0 := rfl
theorem rRoot_at {l : List (List Int × Nat)} {x : List Int × Nat} (hx : l[topI l]? = some x) : rRoot l = sha (txtN x.1 x.2 (rRoot (l.take (topI l))) (rRoot (l.drop (topI l + 1)))) := by
 have hi := (List.getElem?_eq_some_iff.1 hx).1
 have e : rRoot l = rtF (l.length + 1) l := (rtF_ge (Nat.le_succ _)).symm
 rw [e]
 unfold rtF
 rw [hx]
 simp only []
 rw [rtF_ge (m := l.length) (by rw [List.length_take]; omega), rtF_ge (m := l.length) (by rw [List.length_drop]; omega)]
theorem rRoot_len (l : List (List Int × Nat)) : (rRoot l).length = 32 := by
 unfold rRoot
 cases l.length with
 | zero => exact sha_len _
 | succ m => unfold rtF; split <;> exact sha_len _
theorem abk_rnk {x y : List Int} (h : abk x y = true) : ¬ cmpI (rnk x) (rnk y) < 0 := by
 unfold abk abv at h
 split at h
 ·omega
 ·have := of_decide_eq_true h; omega
theorem abk_rnk2 {x y : List Int} (h : abk x y = true) (hl : cmpI y x < 0) : cmpI (rnk y) (rnk x) < 0 := by
 have e := cmp_flip (rnk x) (rnk y)
 unfold abk abv at h
 split at h
 ·have := of_decide_eq_true h; exact absurd hl (cmp_asym this)
 ·have := of_decide_eq_true h; omega
/-- the digest of a list's tree is the reference's root -/
theorem dg_root : ∀ t : MT, t.Good → t.Full → t.Rkd → Asc t.ino → t.Heap → t.dg = rRoot t.ino
 | .nil, _, _, _, _, _ => rfl
 | .cut _, _, f, _, _, _ => absurd f id
 | .nd k n rk d l r, g, f, q, a, h => by
  obtain ⟨hd, gl, gr, -⟩ := id g
  obtain ⟨a1, a2, -⟩ := asc_nd a
  have hA : Asc (l.ino ++ (k, n) :: r.ino) := a
  have hl : ∀ y ∈ l.ino, cmpI y.1 k < 0 := by
   unfold Asc at hA
   rw [List.pairwise_append] at hA
   exact fun y hy => hA.2.2 y hy (k, n) List.mem_cons_self
  have ht : topI (l.ino ++ (k, n) :: r.ino) = l.ino.length := topI_mid (k, n) l.ino r.ino (fun y hy => abk_rnk2 (h.1 y hy) (hl y hy)) (fun y hy => abk_rnk (h.2.1 y hy))
  have hx : (l.ino ++ (k, n) :: r.ino)[topI (l.ino ++ (k, n) :: r.ino)]? = some (k, n) := by rw [ht]; simp
  show d = rRoot (l.ino ++ (k, n) :: r.ino)
  rw [rRoot_at hx, ht, hd, dg_root l gl f.1 q.2.1 a1 h.2.2.1, dg_root r gr f.2 q.2.2 a2 h.2.2.2]
  congr 2
  ·rw [List.take_left']; rfl
  ·rw [show l.ino.length + 1 = (l.ino ++ [(k, n)]).length by simp, show l.ino ++ (k, n) :: r.ino = (l.ino ++ [(k, n)]) ++ r.ino by simp, List.drop_left']; rfl
end Go.Proofs.YtbmlkocpjboodaaDoor
/- stage 7, plain: soundness -/
namespace Go.Proofs.YtbmlkocpjboodaaDoor
open Go.RowKit
open Go.Lib (hid)
end Go.Proofs.YtbmlkocpjboodaaDoor
/- stage 7: In of the reference; rows of its entries -/
namespace Go.Proofs.YtbmlkocpjboodaaDoor
open Go.RowKit
open Go.Lib (hid)
theorem less_str : ∀ (s t : List Int), Rng s → Rng t → Op.bytesLess (str s).toList (str t).toList = decide (cmpI s t = -1) := by
 have key : ∀ (s t : List Int), Rng s → Rng t → Op.bytesLess (s.map fun x => UInt8.ofNat x.toNat) (t.map fun x => UInt8.ofNat x.toNat) = decide (cmpI s t = -1) := by
  intro s
  induction s with
  | nil => intro t _ _; cases t <;> simp [Op.bytesLess, cmpI]
  | cons x s ih =>
   intro t hs ht
   cases t with
   | nil => simp [Op.bytesLess, cmpI]
   | cons y t =>
    have hx := hs x (by simp)
    have hy := ht y (by simp)
    have h1 : (UInt8.ofNat x.toNat < UInt8.ofNat y.toNat) ↔ x < y := by
     rw [UInt8.lt_iff_toNat_lt, UInt8.toNat_ofNat', UInt8.toNat_ofNat']; omega
    have h2 : (UInt8.ofNat x.toNat = UInt8.ofNat y.toNat) ↔ x = y := by
     rw [← UInt8.toNat_inj, UInt8.toNat_ofNat', UInt8.toNat_ofNat']; omega
    have ih2 := ih t (fun z hz => hs z (by simp [hz])) (fun z hz => ht z (by simp [hz]))
    simp only [List.map_cons, Op.bytesLess, cmpI, ih2]
    by_cases a : x < y
    ·simp [h1, a]
    ·by_cases b : x = y
     ·subst b; simp
     ·have c : y < x := by omega
      simp [h1, h2, a, b, c]
 intro s t hs ht
 rw [ByteArray.toList_eq, ByteArray.toList_eq]
 simpa [str] using key s t hs ht
theorem bl {s t : List Int} (hs : Rng s) (ht : Rng t) : Op.bytesLess (str s).toList (str t).toList = decide (cmpI s t < 0) := by
 rw [less_str s t hs ht]
 rcases cmpI_rng s t with h | h | h <;> rw [h] <;> rfl
/-- the cells of a row of the reference's entries -/
def rfL (l : List (List Int × Nat)) : List Value := l.flatMap fun x => [Value.string (str x.1), Value.int .i64 (x.2 : Int)]
theorem rfL_snoc (l : List (List Int × Nat)) (x : List Int × Nat) : rfL (l ++ [x]) = rfL l ++ [.string (str x.1), .int .i64 (x.2 : Int)] := by simp [rfL]
theorem rfL_get : ∀ (l : List (List Int × Nat)) (i : Nat) (x : List Int × Nat) (j : Nat), l[i]? = some x → j < 2 → (rfL l)[i * 2 + j]? = ([Value.string (str x.1), Value.int .i64 (x.2 : Int)] : List Value)[j]?
 | [], i, x, j, h, _ => by simp at h
 | y :: l, 0, x, j, h, hj => by
  injection h with h
  subst h
  show ([Value.string (str y.1), Value.int .i64 (y.2 : Int)] ++ rfL l)[0 * 2 + j]? = _
  rw [List.getElem?_append_left (by simp; omega), Nat.zero_mul, Nat.zero_add]
 | y :: l, i + 1, x, j, h, hj => by
  have ih := rfL_get l i x j (by simpa using h) hj
  show ([Value.string (str y.1), Value.int .i64 (y.2 : Int)] ++ rfL l)[(i + 1) * 2 + j]? = _
  rw [List.getElem?_append_right (by simp; omega)]
  rw [← ih]
  congr 1
  simp only [List.length_cons, List.length_nil]
  omega
/-- an own row of the reference's entries -/
def RfO (w : World) (B : Nat) (v : Value) (l : List (List Int × Nat)) : Prop := w.ownsRow B 45 2 v l.length (rfL l)
def toI (x : List Int × Nat) : List Int × Int := (x.1, (x.2 : Int))
theorem RfO.rfs {w : World} {B : Nat} {v : Value} {l : List (List Int × Nat)} (h : RfO w B v l) : RfS w v (l.map toI) := by
  obtain ⟨hl, ⟨rfl, hn⟩ | ⟨g, cap, cur, rfl, q1, q2, q3, q4, q5, q6⟩⟩ := h
  · refine ⟨none, 0, by rw [List.length_map, hn], fun i x hx => ?_⟩
    have := (List.getElem?_eq_some_iff.1 hx).1
    rw [List.length_map] at this
    omega
  · refine ⟨some ⟨g, 0, none⟩, cap, by rw [List.length_map], fun i x hx => ?_⟩
    rw [List.getElem?_map, Option.map_eq_some_iff] at hx
    obtain ⟨y, hy, rfl⟩ := hx
    have hi := (List.getElem?_eq_some_iff.1 hy).1
    have hc : ∀ j, j < 2 → w.cell? ⟨g, 0 + (i * 2 + j), none⟩ = ([Value.string (str y.1), Value.int .i64 (y.2 : Int)] : List Value)[j]? := fun j hj => by
      rw [cell_of_row _ _ _ _ _ _ q2, Nat.zero_add, ← Array.getElem?_toList, ← rfL_get l i y j hy hj, ← q6, List.getElem?_take, if_pos (by omega)]
    exact ⟨g, 0, rfl, blk_lt q2, hc 0 (by omega), hc 1 (by omega)⟩
theorem RfO.nil (w : World) (B : Nat) : RfO w B (.slice none 0 0) [] := World.ownsRow_nil _ _ _ _
theorem RfO.below {w w' : World} {B : Nat} {v : Value} {l : List (List Int × Nat)} (h : RfO w B v l) (hb : Below w.heap.size w w') : RfO w' B v l := by
 have hg : w.grownBy w' none := ⟨hb.os, hb.tape, hb.output, hb.size, fun k hk _ => hb.block k hk⟩
 refine World.ownsRow.kept h hg ?_
 cases hv : v.ownBlock with
 | none => exact .inl rfl
 | some g => exact .inr (by simp)
theorem RfO.base {w : World} {B B' : Nat} {v : Value} {l : List (List Int × Nat)} (h : RfO w B' v l) (hB : B ≤ B') : RfO w B v l :=
 ⟨h.1, h.2.imp id (fun ⟨g, cap, cur, a, b, c⟩ => ⟨g, cap, cur, a, Nat.le_trans hB b, c⟩)⟩
theorem RfO.slc {w : World} {B : Nat} {v : Value} {l : List (List Int × Nat)} (h : RfO w B v l) : ∃ a c, v = .slice a l.length c := ownsRow_slc h
theorem infoRe : ∃ i, Tryd.prog.info? 45 = some i ∧ (∃ z : Value, i.zero = some z ∧ z = .agg #[.string ⟨#[]⟩, .int .i64 0]) ∧ i.size = 2 ∧ i.bytes ≤ 64 := by
 have h : (Tryd.prog.info? 45).map (fun i => (i.zero, i.size, decide (i.bytes ≤ 64))) = some (some (.agg #[.string ⟨#[]⟩, .int .i64 0]), 2, true) := by kernel_rfl
 cases hi : Tryd.prog.info? 45 with
 | none => rw [hi] at h; cases h
 | some i =>
  rw [hi] at h
  simp only [Option.map_some, Option.some.injEq, Prod.mk.injEq] at h
  exact ⟨i, rfl, ⟨_, h.1, rfl⟩, h.2.1, of_decide_eq_true h.2.2⟩
theorem RfO.app {w : World} {B : Nat} {v : Value} {l : List (List Int × Nat)} (h : RfO w B v l) (hb : B ≤ w.heap.size) (b : Nat) (k : List Int) (n : Nat) (hx : w.heap[b]? = some (.cells #[.string (str k), .int .i64 (n : Int)] 45 (0, 0))) (hn : l.length ≤ 1073741824) (ty : TypeId) :
  ∃ v' w', (Builtin.append_ #[22, 22] ty #[v, .slice (some ⟨b, 0, none⟩) 1 1]).run Tryd.prog w = .ok v' w' ∧ RfO w' B v' (l ++ [(k, n)]) ∧ Chg (fun g => v.ownBlock = some g) w w' ∧ OwnTo w v v' := by
 obtain ⟨i, hi, ⟨z, hz, rfl⟩, hs, hby⟩ := infoRe
 obtain ⟨v', w', r1, r2, r3, -, r5⟩ := run_append_own_at (P := Tryd.prog) w B 22 ty 45 i _ 2 i.bytes Tryd.underlying22 hi hz hs rfl rfl (by decide) v l.length (rfL l) h ⟨b, 0, none⟩ 1 1 [.string (str k), .int .i64 (n : Int)] rfl (by
  intro j u hj
  rw [Addr.add_mid, cell_of_row _ b _ _ _ _ hx]
  rw [Nat.zero_add]
  simpa using hj) (by intro u hu; simp only [List.mem_cons, List.not_mem_nil, or_false] at hu; rcases hu with rfl | rfl <;> rfl) (by unfold maxLen; omega) (by
  have : (l.length + 1) * i.bytes ≤ (l.length + 1) * 64 := Nat.mul_le_mul_left _ hby
  omega) hb
 refine ⟨v', w', r1, by unfold RfO; rw [List.length_append, rfL_snoc]; exact r2, Chg.grown r3 (fun k hk => hk), fun g hg => ?_⟩
 rcases r5 with h5 | h5
 ·exact .inl (by rw [← h5]; exact hg)
 ·rw [h5] at hg; injection hg with hg; exact .inr (by omega)
theorem RfO.lt {w : World} {B : Nat} {v : Value} {l : List (List Int × Nat)} (h : RfO w B v l) : ∀ g, v.ownBlock = some g → B ≤ g ∧ g < w.heap.size := World.ownsRow.lt h
end Go.Proofs.YtbmlkocpjboodaaDoor
/- stage 7: Set of the reference -/
namespace Go.Proofs.YtbmlkocpjboodaaDoor
open Go.RowKit
open Go.Lib (hid)
end Go.Proofs.YtbmlkocpjboodaaDoor
