import Derived.Test.YtmejjjkbbkgioaaDoorMs22
import Derived.Test.YtmejjjkbbkgioaaDoorCards
import Derived.Test.YtmejjjkbbkgioaaDoorTie
import Derived.OpenShut
import Derived.Deep.DeepHandedRow
import Derived.Deep.DeepWitnessRowRef
import Derived.Deep.Matrix
import Derived.Deep.Slices
import Derived.Deep.Fields
import Derived.ChangeSame
import Derived.ChangeMaps5
import Derived.Lib.LaidTab
namespace Go.Proofs.YtmejjjkbbkgioaaDoor
open Go.ChangeShapes Go.WideShapes Go.ChangeAt Go.RowKit Go.Deep
/-- arguments read again behind a call that has only made memory -/
theorem trodAll_below {H : Type} {enc : TypeId × Value → H} {P : Program} (hl : laidOutB P = true) {W W' : World} (hb : Below W.heap.size W W') :
  ∀ {ts : List TypeId} {vs : List Value} {ds : List (DataW H)} {ps : List MemPlace}, (∀ t ∈ ts, P.readableRec t = true ∧ t < P.types.size) →
   DataW.TrodAll enc P W 0 (fun _ => true) true ts vs ds ps → (∀ x ∈ ps, x.block < W.heap.size) → DataW.TrodAll enc P W' 0 (fun b => decide (b < W.heap.size)) true ts vs ds ps := by
 intro ts
 induction ts with
 | nil =>
  intro vs ds ps _ h _
  obtain ⟨rfl, rfl, rfl⟩ := trodAll_nil h
  exact trodAll_mk0
 | cons t ts ih =>
  intro vs ds ps hr h hlt
  obtain ⟨v, vs', d, ds', p, q, rfl, rfl, rfl, h1, h2⟩ := trodAll_cons h
  have ht := hr t (by simp)
  exact trodAll_cons_mk (Below.trod hl ht.1 ht.2 h1 hb (fun x hx => hlt x (by simp [hx]))) (ih (fun t ht => hr t (by simp [ht])) h2 (fun x hx => hlt x (by simp [hx])))
/-- the post of a law: true, and the arguments read as before -/
theorem law_post {H : Type} {enc : TypeId × Value → H} {P : Program} {f : Func} {s : ChangeSpec} {apart fresh handsOn : Bool} {W W' : World} {args : Array Value} {ds gs : List (DataW H)} {before : List MemPlace} {T : TypeId}
  (hl : laidOutB P = true) (hr : ∀ t ∈ f.params.toList, P.readableRec t = true ∧ t < P.types.size) (hv : s.vars = []) (hres : f.resultTypes = #[T]) (hT : P.underlying T = some .bool)
  (hfn : ∀ gs : List (DataW H), gs = [] → s.fn H (ds ++ gs) = { results := [.lit (.bool true)], args := ds })
  (hW : DataW.Whole enc P f.params.toList s.vars apart W args.toList ds gs before) (hb : Below W.heap.size W W') :
  s.post enc P f apart fresh handsOn false W args (.bool true) W' := by
 have hlt := hW.lt
 have hW' := hW
 obtain ⟨p, q, hA, hV, rfl, _, _⟩ := hW
 rw [hv] at hV
 obtain ⟨rfl, rfl⟩ := trodVars_none hV
 have e := hfn [] rfl
 refine ⟨ds, [], _, [], p, [], hW', ?_, ?_, ?_, hb.frame _, fun h => by cases h⟩
 ·rw [e, hres]
  exact trodAll_cons_mk (shut_bool hT _) trodAll_mk0
 ·rw [e]
  exact trodAll_below hl hb hr hA (fun x hx => hlt x (by simp [hx]))
 ·rw [e, hv]
  exact rfl
theorem rng_of_wf {l : List Int} (h : ∀ n ∈ l, (Lit.int .u8 n).wf = true) : Rng l := by
  intro x hx
  have := h x hx
  simp [Lit.wf, IntKind.min, IntKind.max, IntKind.signed, IntKind.bits] at this
  omega
theorem bulk_lits {H : Type} (k : IntKind) (l : List Int) : Rows.uptoBulkAll (lits (H := H) k l) = l.length := by
 induction l with
 | nil => rfl
 | cons x l ih => simp only [lits, List.map_cons, Rows.uptoBulkAll, List.length_cons] at ih ⊢; rw [ih]; simp [Rows.uptoBulk]; omega
section
variable {H : Type} {enc : TypeId × Value → H} {P : Program} {W : World}
theorem bs_of_trod {t e : TypeId} (ht : P.underlying t = some (.slice e)) (he : P.underlying e = some (.int .u8)) (hc : P.cellsOf e = 1) {v : Value} {d : DataW H} {p : List MemPlace} {b : Nat}
  (hok : Value.okWide P W .any b t v) (h : DataW.Trod enc P W 0 (fun _ => true) true t v d p) : ∃ l : List Int, Bs W v l ∧ Rng l ∧ l.length ≤ Rows.uptoBulk d := by
 obtain ⟨a0, len, cap, rfl⟩ := okWide_slice ht hok
 obtain ⟨fuel, hf⟩ := h
 rcases open_ints ht he hc hf with ⟨hcs, hx⟩ | ⟨a, len', cap', zs, hcs, _, hl, _, hz, hx, hcell, hw⟩
 ·simp [Value.cells] at hcs
  obtain ⟨rfl, rfl, rfl⟩ := hcs
  exact ⟨[], Bs.nil W, fun x hx => by simp at hx, Nat.zero_le _⟩
 ·simp [Value.cells] at hcs
  obtain ⟨rfl, rfl, rfl⟩ := hcs
  simp only [if_true] at hz
  simp only [Prod.mk.injEq] at hx
  obtain ⟨rfl, _⟩ := hx
  have hlen : (zs.take len).length = len := by rw [List.length_take]; omega
  refine ⟨zs.take len, ⟨some a, cap, by rw [hlen], ⟨by omega, fun e => by cases e⟩, fun hl0 => ?_⟩, rng_of_wf fun n hn => hw n (List.mem_of_mem_take hn), ?_⟩
  ·rw [hlen] at hl0
   have h0 := hcell 0 (by omega)
   have hsp := World.cell?_spot h0
   have hlt := World.block_lt_of_cell? _ _ h0
   obtain ⟨ab, ao, asp⟩ := a
   have hsp' : asp = none := by simpa [Addr.add] using hsp
   subst hsp'
   refine ⟨ab, ao, rfl, by simpa [Addr.add] using hlt, fun i hi => ?_⟩
   rw [hlen] at hi
   have h1 := hcell i (by omega)
   rw [add_plain] at h1
   rw [h1, List.getElem?_take_of_lt hi]
   simp [List.getD]
  ·rw [hlen]
   simp only [Rows.uptoBulk, bulk_lits, List.length_take]
   omega
end
section
variable {H : Type} {enc : TypeId × Value → H} {P : Program} {w : World} {base : Nat} {spare : Nat → Bool} {held : Bool}
theorem open_slice_fields {t e : TypeId} {fs : Array Field} {fuel : Nat} {cs : List Value} {x : DataW H × List MemPlace} (ht : P.underlying t = some (.slice e)) (he : P.underlying e = some (.struct fs))
  (hone : oneCellFields P fs = true) (hC : P.cellsOf e = fs.size) (h : DataW.trod enc P w base spare held fuel t cs = some x) :
  (cs = [.slice none 0 0] ∧ x = (.nil, [])) ∨
  ∃ (a : Addr) (len cap m : Nat) (D : Nat → DataW H) (Pl : Nat → List MemPlace), cs = [.slice (some a) len cap] ∧ base ≤ a.block ∧ len ≤ cap ∧ cap ≤ maxLen ∧ m = (if spare a.block then cap else len) ∧
   x = (.slice ((List.range len).map D) ((List.range (m - len)).map fun j => D (len + j)), MemPlace.row a (m * fs.size) ++ (List.range m).flatMap Pl) ∧
   ∀ i, i < m → ∃ (ys : List (DataW H × List MemPlace)) (n : Nat), D i = .agg (ys.map (·.1)) ∧ Pl i = ys.flatMap (·.2) ∧ ys.length = fs.size ∧
    ∀ (j : Nat) (f : Field), fs[j]? = some f → ∃ (v : Value) (y : DataW H × List MemPlace), w.cell? (a.add (i * fs.size + j)) = some v ∧ ys[j]? = some y ∧ DataW.trod enc P w base spare held n f.type [v] = some y := by
 rcases open_slice ht h with h0 | ⟨a, len, cap, m, n, D, Pl, hcs, hb, hl, hm, hmm, hx, hi⟩
 ·exact .inl h0
 ·refine .inr ⟨a, len, cap, m, D, Pl, hcs, hb, hl, hm, hmm, by rw [hC] at hx; exact hx, fun i him => ?_⟩
  obtain ⟨cs', hc, ht'⟩ := hi i him
  rw [hC] at hc
  obtain ⟨ys, n', hn', hy, hlen, hyl, hf⟩ := DataW.trod_struct he ht'
  obtain ⟨_, hcl, hat⟩ := World.cells?_some hc
  simp only [Prod.mk.injEq] at hy
  refine ⟨ys, n', hy.1, hy.2, hyl, fun j f hj => ?_⟩
  obtain ⟨ho, hk⟩ := hone_of hone j f hj
  have hjl : j < fs.size := (Array.getElem?_eq_some_iff.1 hj).1
  have hcell := hat j hjl
  have hv : cs'[j]? = some (cs'[j]'(by omega)) := List.getElem?_eq_getElem (by omega)
  have h1 := hf j f hj
  rw [ho, hk] at h1
  have hone' : (cs'.drop j).take 1 = [cs'[j]'(by omega)] := by
   rw [List.drop_eq_getElem_cons (by omega)]
   rfl
  rw [hone'] at h1
  have hys : ys[j]? = some (ys[j]'(by omega)) := List.getElem?_eq_getElem (by omega)
  refine ⟨_, _, ?_, hys, h1.trans hys⟩
  rw [← Go.Deep.add_add, hcell, hv]
end
theorem str_bytes (s : ByteArray) : ∃ l : List Int, s = str l ∧ Rng l ∧ l.length = s.size := by
  refine ⟨s.data.toList.map fun c => (c.toNat : Int), ?_, ?_, by simp⟩
  · obtain ⟨⟨a⟩⟩ := s
    simp only [str, List.map_map, ByteArray.mk.injEq]
    congr 1
    refine (List.map_id a).symm.trans ?_
    apply List.map_congr_left
    intro c _
    simp
  · intro x hx
    simp only [List.mem_map] at hx
    obtain ⟨c, _, rfl⟩ := hx
    have := c.toNat_lt
    omega
theorem i64_of_wf {n : Int} (h : (Lit.int .i64 n).wf = true) : -9223372036854775808 ≤ n ∧ n ≤ 9223372036854775807 := by
 simp [Lit.wf, IntKind.min, IntKind.max, IntKind.signed, IntKind.bits] at h
 omega
theorem own : ownKnob Tryd.prog.godebug = none := by kernel_rfl
theorem laidOut : laidOutB Tryd.prog = true := by kernel_rfl
theorem gTab : Tryd.prog.globalNamed "touchmark/sha.constants" = some 1 := by kernel_rfl
theorem gTabType : (Tryd.prog.globals[1]?).map (·.type) = some 160 := by kernel_rfl
theorem cells65 : Tryd.prog.cellsOf 160 = 64 := by kernel_rfl
theorem cells49 : Tryd.prog.cellsOf 97 = 1 := by kernel_rfl
theorem cells5 : Tryd.prog.cellsOf 5 = 1 := by kernel_rfl
theorem bulk_pos {H : Type} (d : DataW H) : 1 ≤ Rows.uptoBulk d := by
 cases d with
 | lit l => cases l <;> simp [Rows.uptoBulk]
 | _ => simp [Rows.uptoBulk] <;> omega
theorem bulk_mem {H : Type} {d : DataW H} : ∀ {l : List (DataW H)}, d ∈ l → Rows.uptoBulk d ≤ Rows.uptoBulkAll l
 | [], h => by simp at h
 | e :: l, h => by
  simp only [Rows.uptoBulkAll]
  rcases List.mem_cons.1 h with rfl | h
  ·omega
  ·have := bulk_mem h; omega
theorem bulk_len {H : Type} : ∀ (l : List (DataW H)), l.length ≤ Rows.uptoBulkAll l
 | [] => Nat.zero_le _
 | e :: l => by
  have h1 := bulk_pos e
  have h2 := bulk_len l
  simp only [Rows.uptoBulkAll, List.length_cons]
  omega
section
variable {H : Type} {enc : TypeId × Value → H} {W : World}
/-- a row of the law's entries -/
def RfS (w : World) (v : Value) (l : List (List Int × Int)) : Prop :=
 ∃ a c, v = .slice a l.length c ∧ ∀ (i : Nat) (x : List Int × Int), l[i]? = some x → ∃ g o, a = some ⟨g, o, none⟩ ∧ g < w.heap.size ∧ w.cell? ⟨g, o + i * 2, none⟩ = some (.string (str x.1)) ∧ w.cell? ⟨g, o + (i * 2 + 1), none⟩ = some (.int .i64 x.2)
theorem RfS.below {w w' : World} {v : Value} {l : List (List Int × Int)} (h : RfS w v l) (hb : Below w.heap.size w w') : RfS w' v l := by
 obtain ⟨a, c, e, h⟩ := h
 refine ⟨a, c, e, fun i x hx => ?_⟩
 obtain ⟨g, o, e1, e2, e3, e4⟩ := h i x hx
 exact ⟨g, o, e1, Nat.lt_of_lt_of_le e2 hb.size, (World.cell?_of_block (a := ⟨g, o + i * 2, none⟩) (hb.block g e2)).trans e3, (World.cell?_of_block (a := ⟨g, o + (i * 2 + 1), none⟩) (hb.block g e2)).trans e4⟩
/-- a law's entry is in range -/
def EOk (x : List Int × Int) : Prop := Rng x.1 ∧ x.1.length ≤ 1048576 ∧ -9223372036854775808 ≤ x.2 ∧ x.2 ≤ 9223372036854775807
set_option maxRecDepth 100000 in
theorem ents_of_trod {v : Value} {d : DataW H} {p : List MemPlace} {b : Nat}
    (hok : Value.okWide Tryd.prog W .any b 22 v) (h : DataW.Trod enc Tryd.prog W 0 (fun _ => true) true 22 v d p) (hbd : Rows.uptoBulk d ≤ 1048576) :
    ∃ l : List (List Int × Int), RfS W v l ∧ (∀ x ∈ l, EOk x) ∧ l.length ≤ 1048576 := by
  obtain ⟨a0, len, cap, rfl⟩ := okWide_slice Tryd.underlying22 hok
  obtain ⟨fuel, hf⟩ := h
  rcases open_slice_fields Tryd.underlying22 Tryd.underlying45 (by kernel_rfl) (by kernel_rfl) hf with ⟨hcs, hx⟩ | ⟨a, len', cap', m, D, Pl, hcs, _, hl, _, hm, hx, hi⟩
  · simp [Value.cells] at hcs
    obtain ⟨rfl, rfl, rfl⟩ := hcs
    exact ⟨[], ⟨none, 0, rfl, fun i x h => by simp at h⟩, fun x hx => by simp at hx, Nat.zero_le _⟩
  · simp [Value.cells] at hcs
    obtain ⟨rfl, rfl, rfl⟩ := hcs
    simp only [if_true] at hm
    simp only [Prod.mk.injEq] at hx
    obtain ⟨rfl, _⟩ := hx
    have hx : ∀ i, i < m → ∃ x : List Int × Int, (Rng x.1 ∧ -9223372036854775808 ≤ x.2 ∧ x.2 ≤ 9223372036854775807) ∧ x.1.length ≤ Rows.uptoBulk (D i) ∧ W.cell? (a.add (i * 2 + 0)) = some (.string (str x.1)) ∧ W.cell? (a.add (i * 2 + 1)) = some (.int .i64 x.2) := by
      intro i him
      obtain ⟨ys, n, hD, _, hlen, hfd⟩ := hi i him
      obtain ⟨v0, y0, c0, e0, t0⟩ := hfd 0 _ rfl
      obtain ⟨v1, y1, c1, e1, t1⟩ := hfd 1 _ rfl
      obtain ⟨s0, g0, rfl, w0⟩ := DataW.trod_string Tryd.underlying9 t0
      obtain ⟨n1, g1, rfl, w1⟩ := DataW.trod_int Tryd.underlying2 t1
      simp only [List.cons.injEq, and_true] at g0 g1
      subst g0 g1
      obtain ⟨l, rfl, hrl, hll⟩ := str_bytes s0
      have hb : (DataW.lit (.string (str l).data.toList) : DataW H) ∈ ys.map (·.1) := List.mem_map.2 ⟨_, List.mem_of_getElem? e0, rfl⟩
      have hb2 := bulk_mem hb
      refine ⟨(l, n1), ⟨hrl, (i64_of_wf w1).1, (i64_of_wf w1).2⟩, ?_, c0, c1⟩
      rw [hD]
      simp only [Rows.uptoBulk] at hb2 ⊢
      have : (str l).data.toList.length = l.length := by simp [str]
      omega
    obtain ⟨f, hf⟩ : ∃ f : Nat → List Int × Int, ∀ i, i < m → (Rng (f i).1 ∧ -9223372036854775808 ≤ (f i).2 ∧ (f i).2 ≤ 9223372036854775807) ∧ (f i).1.length ≤ Rows.uptoBulk (D i) ∧ W.cell? (a.add (i * 2 + 0)) = some (.string (str (f i).1)) ∧ W.cell? (a.add (i * 2 + 1)) = some (.int .i64 (f i).2) :=
      ⟨fun i => if h : i < m then Classical.choose (hx i h) else ([], 0), fun i h => by simp only [dif_pos h]; exact Classical.choose_spec (hx i h)⟩
    refine ⟨(List.range len).map f, ⟨some a, cap, by simp, fun i x hxx => ?_⟩, ?_, ?_⟩
    · have hil : i < len := by have := (List.getElem?_eq_some_iff.1 hxx).1; simpa using this
      have h0 := (hf 0 (by omega)).2.2.1
      have hsp := World.cell?_spot h0
      have hlt := World.block_lt_of_cell? _ _ h0
      obtain ⟨ab, ao, asp⟩ := a
      have hsp' : asp = none := by simpa [Addr.add] using hsp
      subst hsp'
      rw [List.getElem?_map, List.getElem?_range hil] at hxx
      simp only [Option.map_some, Option.some.injEq] at hxx
      subst hxx
      obtain ⟨_, _, h1, h2⟩ := hf i (by omega)
      rw [add_plain] at h1 h2
      exact ⟨ab, ao, rfl, by simpa [Addr.add] using hlt, h1, h2⟩
    · intro x hx
      obtain ⟨i, hi, rfl⟩ := List.mem_map.1 hx
      have hil := List.mem_range.1 hi
      obtain ⟨h1, h2, _⟩ := hf i (by omega)
      have := bulk_mem (H := H) (d := D i) (l := (List.range len).map D) (List.mem_map.2 ⟨i, hi, rfl⟩)
      simp only [Rows.uptoBulk] at hbd
      exact ⟨h1.1, by omega, h1.2.1, h1.2.2⟩
    · have := bulk_len (H := H) ((List.range len).map D)
      simp only [Rows.uptoBulk, List.length_map, List.length_range] at this hbd ⊢
      omega
set_option maxRecDepth 100000 in
theorem rng_of_trod {v : Value} {d : DataW H} {p : List MemPlace} {b : Nat}
  (hok : Value.okWide Tryd.prog W .any b 24 v) (h : DataW.Trod enc Tryd.prog W 0 (fun _ => true) true 24 v d p) (hbd : Rows.uptoBulk d ≤ 1048576) :
  ∃ fr to e, v = .agg #[.string (str fr), .string (str to), .bool e] ∧ Rng fr ∧ Rng to ∧ fr.length ≤ 1048576 ∧ to.length ≤ 1048576 := by
 obtain ⟨cs, rfl, hsz⟩ := okWide_struct Tryd.underlying24 hok
 obtain ⟨fuel, hf⟩ := h
 obtain ⟨ys, n, -, hy, hl, hlen, hfd⟩ := DataW.trod_struct Tryd.underlying24 hf
 simp only [Prod.mk.injEq] at hy
 have hc : Tryd.prog.cellsOf 24 = 3 := by kernel_rfl
 rw [hc] at hsz
 obtain ⟨l⟩ := cs
 match l, hsz with
 | [x0, x1, x2], _ =>
  have k0 : Tryd.prog.cellsOf 9 = 1 := by kernel_rfl
  have k1 : Tryd.prog.cellsOf 4 = 1 := by kernel_rfl
  have hlen3 : ys.length = 3 := hlen
  match ys, hlen3 with
  | [y0, y1, y2], _ =>
   have t0 : DataW.trod enc Tryd.prog W 0 (fun _ => true) true n 9 ((List.drop 0 [x0, x1, x2]).take (Tryd.prog.cellsOf 9)) = some y0 := hfd 0 _ rfl
   have t1 : DataW.trod enc Tryd.prog W 0 (fun _ => true) true n 9 ((List.drop 1 [x0, x1, x2]).take (Tryd.prog.cellsOf 9)) = some y1 := hfd 1 _ rfl
   have t2 : DataW.trod enc Tryd.prog W 0 (fun _ => true) true n 4 ((List.drop 2 [x0, x1, x2]).take (Tryd.prog.cellsOf 4)) = some y2 := hfd 2 _ rfl
   rw [k0] at t0 t1
   rw [k1] at t2
   obtain ⟨s0, g0, e0, w0⟩ := DataW.trod_string Tryd.underlying9 t0
   obtain ⟨s1, g1, e1, w1⟩ := DataW.trod_string Tryd.underlying9 t1
   obtain ⟨b2, g2, e2⟩ := DataW.trod_bool Tryd.underlying4 t2
   obtain ⟨l0, rfl, r0, q0⟩ := str_bytes s0
   obtain ⟨l1, rfl, r1, q1⟩ := str_bytes s1
   simp at g0 g1 g2
   subst g0 g1 g2
   refine ⟨l0, l1, b2, rfl, r0, r1, ?_⟩
   have z0 : (str l0).data.toList.length = l0.length := by simp [str]
   have z1 : (str l1).data.toList.length = l1.length := by simp [str]
   obtain ⟨hy1, -⟩ := hy
   rw [hy1] at hbd
   subst e0 e1 e2
   simp only [List.map_cons, List.map_nil, Rows.uptoBulk, Rows.uptoBulkAll] at hbd
   omega
end
/-- a world for the witness: the settled one, the table holding what its initialiser lays -/
noncomputable def laidWorld (os : Os) : World :=
 { World.holding Tryd.prog os ⟨#[], #[], []⟩ with heap := (World.holding Tryd.prog os ⟨#[], #[], []⟩).heap.modify 1 fun
   | .cells _ t frozen => .cells (Kt.map (Value.int .u32)).toArray t frozen
   | o => o }
end Go.Proofs.YtmejjjkbbkgioaaDoor
/- stage 7, plain: what a clash tells, a proof's bytes -/
namespace Go.Proofs.YtmejjjkbbkgioaaDoor
open Go.RowKit
theorem txt0_len : txt0.length = 21 := by rfl
theorem txtN_le {k : List Int} {n : Nat} {l r : MT} (gl : l.Good) (gr : r.Good) (hk : k.length ≤ 65535) : (txtN k n l.dg r.dg).length ≤ 66000 := by
 rw [txtN_len, gl.dlen, gr.dlen]
 omega
/-- what is told is unlike, and has one digest -/
def ClOk (p q : List Int) : Prop := p ≠ q ∧ sha p = sha q ∧ Rng p ∧ Rng q ∧ p.length ≤ 66000 ∧ q.length ≤ 66000
theorem clashM_ok : ∀ (x y : MT), x.Good → y.Good → ∀ p q, clashM x y = some (p, q) → ClOk p q
 | .cut _, _, _, _, p, q, h => by simp [clashM] at h
 | .nil, .cut _, _, _, p, q, h => by simp [clashM] at h
 | .nd .., .cut _, _, _, p, q, h => by simp [clashM] at h
 | .nil, .nil, _, _, p, q, h => by simp [clashM] at h
 | .nil, .nd k n rk d l r, _, g, p, q, h => by
  have g' := g
  obtain ⟨hd, gl, gr, hkl, hkr, -⟩ := g'
  unfold clashM at h
  split at h
  ·rename_i he
   simp only [Option.some.injEq, Prod.mk.injEq] at h
   obtain ⟨rfl, rfl⟩ := h
   exact ⟨txt0_ne k n l.dg r.dg, he.trans hd, txt0_rng, MT.Good.trng g rfl, by rw [txt0_len]; omega, txtN_le gl gr hkl⟩
  ·cases h
 | .nd k n rk d l r, .nil, g, _, p, q, h => by
  have g' := g
  obtain ⟨hd, gl, gr, hkl, hkr, -⟩ := g'
  unfold clashM at h
  split at h
  ·rename_i he
   simp only [Option.some.injEq, Prod.mk.injEq] at h
   obtain ⟨rfl, rfl⟩ := h
   exact ⟨(txt0_ne k n l.dg r.dg).symm, hd.symm.trans he, MT.Good.trng g rfl, txt0_rng, txtN_le gl gr hkl, by rw [txt0_len]; omega⟩
  ·cases h
 | .nd k n rk d l r, .nd k' n' rk' d' l' r', g, g2, p, q, h => by
  obtain ⟨hd, gl, gr, hkl, hkr, -⟩ := id g
  obtain ⟨hd', gl', gr', hkl', hkr', -⟩ := id g2
  unfold clashM at h
  split at h
  ·cases hc : clashM l l' with
   | some z =>
    rw [hc] at h
    simp only [Option.some.injEq] at h
    exact clashM_ok l l' gl gl' p q (hc.trans (congrArg some h))
   | none =>
    rw [hc] at h
    exact clashM_ok r r' gr gr' p q h
  ·rename_i hne
   split at h
   ·rename_i he
    simp only [Option.some.injEq, Prod.mk.injEq] at h
    obtain ⟨rfl, rfl⟩ := h
    exact ⟨hne, hd.symm.trans (he.trans hd'), MT.Good.trng g rfl, MT.Good.trng g2 rfl, txtN_le gl gr hkl, txtN_le gl' gr' hkl'⟩
   ·cases h
theorem clashO_ok {a b : List Int} (ga : Rng a) (gb : Rng b) {p q : List Int} (h : clashO a b = some (p, q)) : ClOk p q := by
 unfold clashO at h
 cases ha : rdAll a with
 | inl c => rw [ha] at h; cases h
 | inr x =>
  cases hb : rdAll b with
  | inl c => rw [ha, hb] at h; cases h
  | inr y =>
   rw [ha, hb] at h
   exact clashM_ok x y (rdAll_ok ga ha) (rdAll_ok gb hb) p q h
theorem rng_app {l m : List Int} (h : Rng l) (k : Rng m) : Rng (l ++ m) := fun x hx => (List.mem_append.1 hx).elim (h x) (k x)
theorem rng_cons {x : Int} {l : List Int} (h : 0 ≤ x ∧ x < 256) (k : Rng l) : Rng (x :: l) := fun y hy => by
 rcases List.mem_cons.1 hy with rfl | hy
 ·have := k; exact h
 ·exact k y hy
theorem rng_nil : Rng [] := fun x hx => by cases hx
theorem prB_rng (fr to : List Int) (e : Bool) : ∀ (t : MT) (lo hi : Option (List Int)), t.Good → Rng (t.prB fr to e lo hi)
 | .nil, _, _, _ => rng_cons (by omega) rng_nil
 | .cut d, lo, hi, g => by
  unfold MT.prB
  split
  ·exact rng_app (rng_cons (by omega) rng_nil) g.2
  ·exact rng_cons (by omega) rng_nil
 | .nd k n rk d l r, lo, hi, g => by
  have hdr := g.drng.2
  obtain ⟨hd, gl, gr, hkl, hkr, -⟩ := g
  unfold MT.prB
  split
  ·exact rng_app (rng_cons (by omega) rng_nil) hdr
  ·exact rng_app (rng_cons (by omega) rng_nil) (rng_app (prB_rng fr to e l _ _ gl) (rng_app (rng_cons (by omega) (rng_cons (by omega) rng_nil)) (rng_app hkr (rng_app (be8_rng n) (prB_rng fr to e r _ _ gr)))))
theorem prove_rng (fr to : List Int) (e : Bool) (t : MT) (g : t.Good) : Rng (t.prove fr to e) := by rw [prove_eq]; exact prB_rng fr to e t _ _ g
end Go.Proofs.YtmejjjkbbkgioaaDoor
/- stage 7: MerkleClash -/
namespace Go.Proofs.YtmejjjkbbkgioaaDoor
open Go.RowKit
/-- the entries are set one by one -/
def putE (t : MT) (x : List Int × Int) : MT := if x.1.length ≤ 65535 ∧ 0 ≤ x.2 then t.put x.1 x.2.toNat (rnk x.1) else t
def putsE : List (List Int × Int) → MT → MT
 | [], t => t
 | x :: l, t => putsE l (putE t x)
theorem putsE_snoc (x : List Int × Int) : ∀ (l : List (List Int × Int)) (t : MT), putsE (l ++ [x]) t = putE (putsE l t) x
 | [], _ => rfl
 | y :: l, t => putsE_snoc x l (putE t y)
/-- a tree that is whole -/
structure Wh (t : MT) (n : Nat) : Prop where
 g : t.Good
 f : t.Full
 p : t.Pos
 s : t.size ≤ n
theorem putE_wh {t : MT} {n : Nat} (h : Wh t n) {x : List Int × Int} (hx : EOk x) : Wh (putE t x) (n + 1) := by
 unfold putE
 split
 ·rename_i hc
  have hn : x.2.toNat < 9223372036854775808 := by have := hx.2.2.2; omega
  obtain ⟨h1, h2, h3⟩ := MT.put_ok x.1 x.2.toNat (rnk x.1) hc.1 hx.1 hn (rnk_len _) (rnk_rng _) t h.g h.f
  exact ⟨h1, h2, MT.put_pos _ _ _ t h.p, by have := h.s; omega⟩
 ·exact ⟨h.g, h.f, h.p, Nat.le_succ_of_le h.s⟩
theorem wh_nil : Wh .nil 0 := ⟨trivial, trivial, trivial, Nat.le_refl _⟩
theorem putsE_step {l : List (List Int × Int)} {j : Nat} {x : List Int × Int} (h : l[j]? = some x) : putsE (l.take (j + 1)) .nil = putE (putsE (l.take j) .nil) x := by
 rw [List.take_add_one, h]
 exact putsE_snoc x _ _
/-- Set, of any entry -/
theorem treeSet_both {S : Nat → Prop} (X : Nat) (t : MT) (x : List Int × Int) (kv : Value) (w : World) (p : Value) (hS : ∀ b, b ≠ X → S b) (ht : TIs w X p) (hp : MIs w S p t) (hg : t.Good) (hf : t.Full) (hK : KC w) (hk : Bs w kv x.1) (hx : EOk x) (hX0 : 1 < X) (hX : ¬ S X) :
  Calls Tryd.prog 20 #[.pointer (some ⟨X, 0, none⟩), kv, .int .i64 x.2] w fun e w' => e = .returned (.bool (decide (x.1.length ≤ 65535 ∧ 0 ≤ x.2))) ∧ ∃ p', TIs w' X p' ∧ MIs w' S p' (putE t x) ∧ Chg (fun q => q = X) w w' := by
 by_cases hc : x.1.length ≤ 65535 ∧ 0 ≤ x.2
 ·obtain ⟨n, hn⟩ : ∃ n : Nat, x.2 = (n : Int) := ⟨x.2.toNat, by omega⟩
  have hnn : n < 9223372036854775808 := by have := hx.2.2.2; omega
  have hXlt := blk_lt ht
  have h := treeSet_any (S := S) x.1 n hc.1 hx.1 hnn X kv t w p (fun b hb => hS b (by omega)) hX ht hp hf hg hK hk hX0
  rw [← hn] at h
  refine h.mono ?_
  rintro e w' ⟨rfl, p', h1, h2, h3⟩
  refine ⟨by rw [decide_eq_true hc], p', h1, ?_, h3⟩
  unfold putE
  rw [if_pos hc, hn, Int.toNat_natCast]
  exact h2
 ·refine (treeSet_no w X kv x.1 x.2 hk (by omega)).mono ?_
  rintro e w' ⟨rfl, rfl⟩
  refine ⟨by rw [decide_eq_false hc], p, ht, ?_, Chg.refl _ _⟩
  unfold putE
  rw [if_neg hc]
  exact hp
end Go.Proofs.YtmejjjkbbkgioaaDoor
/- stage 7, plain: trees in order -/
namespace Go.Proofs.YtmejjjkbbkgioaaDoor
open Go.RowKit
/-- the entries of a tree's nodes, in order -/
def MT.ino : MT → List (List Int × Nat)
 | .nil => []
 | .cut _ => []
 | .nd k n _ _ l r => l.ino ++ (k, n) :: r.ino
/-- strictly rising keys -/
def Asc (l : List (List Int × Nat)) : Prop := l.Pairwise (fun x y => cmpI x.1 y.1 < 0)
theorem cmp_flip (a b : List Int) : cmpI b a = - cmpI a b := cmpI_anti a b
theorem cmp_tri (a b : List Int) : cmpI a b < 0 ∨ a = b ∨ cmpI b a < 0 := by
 rcases cmpI_rng a b with h | h | h
 ·exact .inl (by omega)
 ·exact .inr (.inl ((cmpI_zero a b).1 h))
 ·exact .inr (.inr (by rw [cmp_flip a b]; omega))
theorem cmp_irr (a : List Int) : ¬ cmpI a a < 0 := by rw [cmpI_same]; omega
theorem asc_nd {k : List Int} {n : Nat} {rk d : List Int} {l r : MT} (h : Asc (MT.nd k n rk d l r).ino) : Asc l.ino ∧ Asc r.ino ∧ (∀ x ∈ l.ino, cmpI x.1 k < 0) ∧ (∀ x ∈ r.ino, cmpI k x.1 < 0) ∧ ∀ x ∈ l.ino, ∀ y ∈ r.ino, cmpI x.1 y.1 < 0 := by
 unfold Asc MT.ino at h
 rw [List.pairwise_append, List.pairwise_cons] at h
 obtain ⟨h1, ⟨h2, h3⟩, h4⟩ := h
 exact ⟨h1, h3, fun x hx => h4 x hx (k, n) List.mem_cons_self, fun x hx => h2 x hx, fun x hx y hy => h4 x hx y (List.mem_cons_of_mem _ hy)⟩
/-- those ahead of a key, those behind it -/
def lo (k : List Int) (l : List (List Int × Nat)) : List (List Int × Nat) := l.filter (fun x => decide (cmpI x.1 k < 0))
def up (k : List Int) (l : List (List Int × Nat)) : List (List Int × Nat) := l.filter (fun x => decide (cmpI k x.1 < 0))
theorem lo_all {k : List Int} {l : List (List Int × Nat)} (h : ∀ x ∈ l, cmpI x.1 k < 0) : lo k l = l := List.filter_eq_self.2 (fun x hx => decide_eq_true (h x hx))
theorem up_all {k : List Int} {l : List (List Int × Nat)} (h : ∀ x ∈ l, cmpI k x.1 < 0) : up k l = l := List.filter_eq_self.2 (fun x hx => decide_eq_true (h x hx))
theorem lo_none {k : List Int} {l : List (List Int × Nat)} (h : ∀ x ∈ l, ¬ cmpI x.1 k < 0) : lo k l = [] := List.filter_eq_nil_iff.2 (fun x hx => by simpa using h x hx)
theorem up_none {k : List Int} {l : List (List Int × Nat)} (h : ∀ x ∈ l, ¬ cmpI k x.1 < 0) : up k l = [] := List.filter_eq_nil_iff.2 (fun x hx => by simpa using h x hx)
theorem lo_app (k : List Int) (l m : List (List Int × Nat)) : lo k (l ++ m) = lo k l ++ lo k m := List.filter_append ..
theorem up_app (k : List Int) (l m : List (List Int × Nat)) : up k (l ++ m) = up k l ++ up k m := List.filter_append ..
theorem lo_cons (k : List Int) (x : List Int × Nat) (m : List (List Int × Nat)) : lo k (x :: m) = if cmpI x.1 k < 0 then x :: lo k m else lo k m := by simp [lo, List.filter_cons]
theorem up_cons (k : List Int) (x : List Int × Nat) (m : List (List Int × Nat)) : up k (x :: m) = if cmpI k x.1 < 0 then x :: up k m else up k m := by simp [up, List.filter_cons]
theorem cmp_asym {a b : List Int} (h : cmpI a b < 0) : ¬ cmpI b a < 0 := by rw [cmp_flip a b]; omega
theorem split_ino (key : List Int) : ∀ t : MT, Asc t.ino → (t.split key).1.ino = lo key t.ino ∧ (t.split key).2.ino = up key t.ino
 | .nil, _ => ⟨rfl, rfl⟩
 | .cut _, _ => ⟨rfl, rfl⟩
 | .nd k n rk d l r, h => by
  obtain ⟨h1, h2, h3, h4, h5⟩ := asc_nd h
  obtain ⟨l1, l2⟩ := split_ino key l h1
  obtain ⟨r1, r2⟩ := split_ino key r h2
  unfold MT.split
  by_cases c1 : cmpI key k < 0
  ·rw [if_pos c1]
   simp only [mkN, MT.ino]
   rw [lo_app, up_app, lo_cons, up_cons, if_neg (cmp_asym c1), if_pos c1, l1, l2, lo_none (l := r.ino) (fun x hx => cmp_asym (cmpI_trans _ _ _ c1 (h4 x hx))), up_all (l := r.ino) (fun x hx => cmpI_trans _ _ _ c1 (h4 x hx)), List.append_nil]
   exact ⟨rfl, rfl⟩
  ·rw [if_neg c1]
   by_cases c2 : 0 < cmpI key k
   ·rw [if_pos c2]
    have c3 : cmpI k key < 0 := by rw [cmp_flip key k]; omega
    simp only [mkN, MT.ino]
    rw [lo_app, up_app, lo_cons, up_cons, if_pos c3, if_neg c1, r1, r2, lo_all (l := l.ino) (fun x hx => cmpI_trans _ _ _ (h3 x hx) c3), up_none (l := l.ino) (fun x hx => cmp_asym (cmpI_trans _ _ _ (h3 x hx) c3)), List.nil_append]
    exact ⟨rfl, rfl⟩
   ·rw [if_neg c2]
    obtain rfl : key = k := (cmpI_zero key k).1 (by omega)
    simp only [MT.ino]
    rw [lo_app, up_app, lo_cons, up_cons, if_neg (cmp_irr _), if_neg (cmp_irr _), lo_all h3, up_all h4, lo_none (l := r.ino) (fun x hx => cmp_asym (h4 x hx)), up_none (l := l.ino) (fun x hx => cmp_asym (h3 x hx)), List.append_nil, List.nil_append]
    exact ⟨rfl, rfl⟩
theorem join_ino : ∀ (m : Nat) (l r : MT), l.size + r.size ≤ m → l.Full → r.Full → (l.join r).ino = l.ino ++ r.ino
 | _, .nil, r, _, _, _ => by rw [MT.join]; rfl
 | _, .cut _, r, _, h, _ => absurd h id
 | _, .nd k n rk d l r, .nil, _, _, _ => by rw [MT.join]; simp [MT.ino]
 | _, .nd .., .cut _, _, _, h => absurd h id
 | 0, .nd .., .nd .., hm, _, _ => by simp only [MT.size] at hm; omega
 | m + 1, .nd k n rk d l r, .nd k' n' rk' d' l' r', hm, fl, fr => by
  rw [MT.join]
  split
  ·have h1 := join_ino m r (.nd k' n' rk' d' l' r') (by simp only [MT.size] at hm ⊢; omega) fl.2 fr
   simp only [mkN, MT.ino] at h1 ⊢
   rw [h1]
   simp
  ·have h1 := join_ino m (.nd k n rk d l r) l' (by simp only [MT.size] at hm ⊢; omega) fl fr.1
   simp only [mkN, MT.ino] at h1 ⊢
   rw [h1]
   simp
/-- a list in which a key has its count -/
def setL (l : List (List Int × Nat)) (key : List Int) (cnt : Nat) : List (List Int × Nat) := lo key l ++ ((if cnt = 0 then [] else [(key, cnt)]) ++ up key l)
theorem edit_ino (key : List Int) (cnt : Nat) (rk : List Int) (t : MT) (g : t.Good) (f : t.Full) (h : Asc t.ino) : (MT.edit key cnt rk t).ino = setL t.ino key cnt := by
 obtain ⟨h1, h2⟩ := split_ino key t h
 obtain ⟨-, -, f1, f2⟩ := MT.split_ok key t g f
 unfold MT.edit setL
 split
 ·rw [join_ino _ _ _ (Nat.le_refl _) f1 f2, h1, h2, List.nil_append]
 ·simp only [mkN, MT.ino]
  rw [h1, h2]
  rfl
/-- each node's rank is that of its key -/
def MT.Rkd : MT → Prop
 | .nd k _ rk _ l r => rk = rnk k ∧ l.Rkd ∧ r.Rkd
 | _ => True
theorem split_rkd (key : List Int) : ∀ t : MT, t.Rkd → (t.split key).1.Rkd ∧ (t.split key).2.Rkd
 | .nil, _ => ⟨trivial, trivial⟩
 | .cut _, _ => ⟨trivial, trivial⟩
 | .nd k n rk d l r, h => by
  have h1 := split_rkd key l h.2.1
  have h2 := split_rkd key r h.2.2
  unfold MT.split
  split
  ·exact ⟨h1.1, h.1, h1.2, h.2.2⟩
  ·split
   ·exact ⟨⟨h.1, h.2.1, h2.1⟩, h2.2⟩
   ·exact ⟨h.2.1, h.2.2⟩
theorem join_rkd : ∀ (m : Nat) (l r : MT), l.size + r.size ≤ m → l.Rkd → r.Rkd → (l.join r).Rkd
 | _, .nil, r, _, _, h => by rw [MT.join]; exact h
 | _, .cut _, r, _, _, h => by rw [MT.join]; exact h
 | _, .nd .., .nil, _, h, _ => by rw [MT.join]; exact h
 | _, .nd .., .cut _, _, h, _ => by rw [MT.join]; exact h
 | 0, .nd .., .nd .., hm, _, _ => by simp only [MT.size] at hm; omega
 | m + 1, .nd k n rk d l r, .nd k' n' rk' d' l' r', hm, pl, pr => by
  rw [MT.join]
  split
  ·exact ⟨pl.1, pl.2.1, join_rkd m r (.nd k' n' rk' d' l' r') (by simp only [MT.size] at hm ⊢; omega) pl.2.2 pr⟩
  ·exact ⟨pr.1, join_rkd m (.nd k n rk d l r) l' (by simp only [MT.size] at hm ⊢; omega) pl pr.2.1, pr.2.2⟩
theorem edit_rkd (key : List Int) (cnt : Nat) (t : MT) (h : t.Rkd) : (MT.edit key cnt (rnk key) t).Rkd := by
 have h1 := split_rkd key t h
 unfold MT.edit
 split
 ·exact join_rkd _ _ _ (Nat.le_refl _) h1.1 h1.2
 ·exact ⟨rfl, h1.1, h1.2⟩
theorem put_rkd (key : List Int) (cnt : Nat) : ∀ t : MT, t.Rkd → (t.put key cnt (rnk key)).Rkd
 | .nil, h => edit_rkd key cnt .nil h
 | .cut _, _ => trivial
 | .nd k n rk' d l r, h => by
  have h1 := put_rkd key cnt l h.2.1
  have h2 := put_rkd key cnt r h.2.2
  unfold MT.put
  split
  ·split
   ·exact ⟨h.1, h1, h.2.2⟩
   ·exact ⟨h.1, h.2.1, h2⟩
  ·exact edit_rkd key cnt _ h
theorem abv_irr (k rk : List Int) : abv k rk k rk = false := by
 unfold abv
 rw [if_pos (cmpI_same rk), cmpI_same]
 rfl
theorem put_ino (key : List Int) (cnt : Nat) : ∀ t : MT, t.Good → t.Full → t.Rkd → Asc t.ino → (t.put key cnt (rnk key)).ino = setL t.ino key cnt
 | .nil, g, f, _, h => edit_ino key cnt _ .nil g f h
 | .cut _, _, h, _, _ => absurd h id
 | .nd k n rk' d l r, g, f, q, h => by
  obtain ⟨b0, b1, b2, -⟩ := id g
  obtain ⟨h1, h2, h3, h4, h5⟩ := asc_nd h
  have l1 := put_ino key cnt l b1 f.1 q.2.1 h1
  have r1 := put_ino key cnt r b2 f.2 q.2.2 h2
  unfold MT.put
  split
  ·rename_i hab
   have hne : key ≠ k := fun e => by
    rw [q.1, e, abv_irr] at hab
    cases hab
   split
   ·rename_i c1
    simp only [mkN, MT.ino]
    rw [l1]
    unfold setL
    rw [lo_app, up_app, lo_cons, up_cons, if_neg (cmp_asym c1), if_pos c1, lo_none (l := r.ino) (fun x hx => cmp_asym (cmpI_trans _ _ _ c1 (h4 x hx))), up_all (l := r.ino) (fun x hx => cmpI_trans _ _ _ c1 (h4 x hx))]
    simp
   ·rename_i c1
    have c3 : cmpI k key < 0 := (cmp_tri key k).elim (fun h => absurd h c1) (fun h => h.elim (fun h => absurd h hne) id)
    simp only [mkN, MT.ino]
    rw [r1]
    unfold setL
    rw [lo_app, up_app, lo_cons, up_cons, if_pos c3, if_neg c1, lo_all (l := l.ino) (fun x hx => cmpI_trans _ _ _ (h3 x hx) c3), up_none (l := l.ino) (fun x hx => cmp_asym (cmpI_trans _ _ _ (h3 x hx) c3))]
    simp
  ·exact edit_ino key cnt _ _ g f h
theorem mem_lo {k : List Int} {l : List (List Int × Nat)} {x : List Int × Nat} (h : x ∈ lo k l) : x ∈ l ∧ cmpI x.1 k < 0 := by
  have := List.mem_filter.1 h
  exact ⟨this.1, of_decide_eq_true this.2⟩
theorem mem_up {k : List Int} {l : List (List Int × Nat)} {x : List Int × Nat} (h : x ∈ up k l) : x ∈ l ∧ cmpI k x.1 < 0 := by
  have := List.mem_filter.1 h
  exact ⟨this.1, of_decide_eq_true this.2⟩
theorem setL_asc {l : List (List Int × Nat)} (h : Asc l) (key : List Int) (cnt : Nat) : Asc (setL l key cnt) := by
 have h1 : Asc (lo key l) := List.Pairwise.sublist (List.filter_sublist ..) h
 have h2 : Asc (up key l) := List.Pairwise.sublist (List.filter_sublist ..) h
 unfold setL Asc
 split
 ·rw [List.nil_append, List.pairwise_append]
  exact ⟨h1, h2, fun x hx y hy => cmpI_trans _ _ _ (mem_lo hx).2 (mem_up hy).2⟩
 ·rw [List.pairwise_append, List.singleton_append, List.pairwise_cons]
  refine ⟨h1, ⟨fun y hy => (mem_up hy).2, h2⟩, fun x hx y hy => ?_⟩
  rcases List.mem_cons.1 hy with rfl | hy
  ·exact (mem_lo hx).2
  ·exact cmpI_trans _ _ _ (mem_lo hx).2 (mem_up hy).2
/-- the reference's way to set a key's count -/
def rSet (key : List Int) (cnt : Nat) : List (List Int × Nat) → Bool → List (List Int × Nat)
 | [], done => if done = false ∧ 0 < cnt then [(key, cnt)] else []
 | x :: l, done => ((if done = false ∧ ¬ cmpI x.1 key < 0 ∧ 0 < cnt then [(key, cnt)] else []) ++ (if x.1 = key then [] else [x])) ++ rSet key cnt l (done || !decide (cmpI x.1 key < 0))
theorem rSet_done (key : List Int) (cnt : Nat) : ∀ l : List (List Int × Nat), Asc l → (∀ x ∈ l, ¬ cmpI x.1 key < 0) → rSet key cnt l true = up key l
 | [], _, _ => rfl
 | x :: l, h, hk => by
  unfold Asc at h
  rw [List.pairwise_cons] at h
  have hx := hk x List.mem_cons_self
  have ih := rSet_done key cnt l h.2 (fun y hy => hk y (List.mem_cons_of_mem _ hy))
  unfold rSet
  rw [Bool.true_or, ih, up_cons, if_neg (by simp), List.nil_append]
  by_cases e : x.1 = key
  ·rw [if_pos e, if_neg (by rw [e]; exact cmp_irr _), List.nil_append]
  ·rw [if_neg e, if_pos ((cmp_tri x.1 key).elim (fun h => absurd h hx) (fun h => h.elim (fun h => absurd h e) id))]
   rfl
theorem rSet_eq (key : List Int) (cnt : Nat) : ∀ l : List (List Int × Nat), Asc l → rSet key cnt l false = setL l key cnt
 | [], _ => by
  unfold rSet setL
  by_cases hc : cnt = 0
  ·rw [if_neg (by omega), if_pos hc]; rfl
  ·rw [if_pos ⟨rfl, by omega⟩, if_neg hc]; rfl
 | x :: l, h => by
  have h0 := h
  unfold Asc at h
  rw [List.pairwise_cons] at h
  unfold rSet
  by_cases c : cmpI x.1 key < 0
  ·have e : ¬ x.1 = key := fun e => by rw [e] at c; exact cmp_irr _ c
   rw [if_neg (by simp [c]), if_neg e, decide_eq_true c]
   show ([] ++ [x]) ++ rSet key cnt l false = _
   rw [rSet_eq key cnt l h.2]
   unfold setL
   rw [lo_cons, up_cons, if_pos c, if_neg (cmp_asym c)]
   rfl
  ·have hge : ∀ y ∈ l, ¬ cmpI y.1 key < 0 := fun y hy h9 => c (cmpI_trans _ _ _ (h.1 y hy) h9)
   rw [decide_eq_false c]
   show ((if false = false ∧ ¬ cmpI x.1 key < 0 ∧ 0 < cnt then [(key, cnt)] else []) ++ (if x.1 = key then [] else [x])) ++ rSet key cnt l true = _
   rw [rSet_done key cnt l h.2 hge]
   unfold setL
   rw [lo_cons, up_cons, if_neg c, lo_none hge, List.nil_append]
   have e1 : (if false = false ∧ ¬ cmpI x.1 key < 0 ∧ 0 < cnt then [(key, cnt)] else ([] : List (List Int × Nat))) = if cnt = 0 then [] else [(key, cnt)] := by
    by_cases hc : cnt = 0
    ·rw [if_neg (by omega), if_pos hc]
    ·rw [if_pos ⟨rfl, c, by omega⟩, if_neg hc]
   rw [e1]
   by_cases e : x.1 = key
   ·have e2 : ¬ cmpI key x.1 < 0 := by rw [e]; exact cmp_irr _
    rw [if_pos e, if_neg e2]
    simp
   ·have e2 : cmpI key x.1 < 0 := (cmp_tri x.1 key).elim (fun h => absurd h c) (fun h => h.elim (fun h => absurd h e) id)
    rw [if_neg e, if_pos e2]
    simp
/-- a tree that is whole and in order -/
structure Wh2 (t : MT) (n : Nat) : Prop extends Wh t n where
 k : t.Rkd
 a : Asc t.ino
def setE (es : List (List Int × Nat)) (x : List Int × Int) : List (List Int × Nat) := if x.1.length ≤ 65535 ∧ 0 ≤ x.2 then setL es x.1 x.2.toNat else es
theorem putE_wh2 {t : MT} {n : Nat} (h : Wh2 t n) {x : List Int × Int} (hx : EOk x) : Wh2 (putE t x) (n + 1) ∧ (putE t x).ino = setE t.ino x := by
 have h1 := putE_wh h.toWh hx
 unfold putE setE at *
 split
 ·rename_i hc
  rw [if_pos hc] at h1
  have e := put_ino x.1 x.2.toNat t h.g h.f h.k h.a
  exact ⟨⟨h1, put_rkd _ _ t h.k, by rw [e]; exact setL_asc h.a _ _⟩, e⟩
 ·rename_i hc
  rw [if_neg hc] at h1
  exact ⟨⟨h1, h.k, h.a⟩, rfl⟩
theorem wh2_nil : Wh2 .nil 0 := ⟨wh_nil, trivial, List.Pairwise.nil⟩
/-- what visit makes of a state, where enter always goes on -/
theorem visit_ino {σ : Type} (me : σ → List Int → Nat → σ) : ∀ (t : MT) (lo hi : Option (List Int)) (s : σ), visitM (fun s _ _ _ => (s, true)) me t lo hi s = t.ino.foldl (fun s x => me s x.1 x.2) s
 | .nil, _, _, _ => rfl
 | .cut _, _, _, _ => rfl
 | .nd k n rk d l r, lo, hi, s => by
  simp only [visitM, MT.ino, List.foldl_append, List.foldl_cons]
  rw [visit_ino me l, visit_ino me r]
  rfl
theorem ents_ino (fr to : List Int) (e : Bool) (t : MT) : t.ents fr to e = t.ino.filter (fun x => hasQ fr to e x.1) := by
 unfold MT.ents eachM
 rw [visit_ino]
 have h : ∀ (l s : List (List Int × Nat)), l.foldl (fun s x => enM fr to e s x.1 x.2) s = s ++ l.filter (fun x => hasQ fr to e x.1) := by
  intro l
  induction l with
  | nil => intro s; simp
  | cons x l ih =>
   intro s
   rw [List.foldl_cons, ih, List.filter_cons]
   unfold enM
   by_cases hq : hasQ fr to e x.1 = true
   ·rw [if_pos hq, if_pos hq]; simp
   ·rw [if_neg hq, if_neg hq]
 rw [h, List.nil_append]
def chn : Option (List Int) → List (List Int × Nat) → Bool
 | _, [] => true
 | o, x :: l => o.elim true (fun y => decide (cmpI y x.1 < 0)) && chn (some x.1) l
theorem asc_fold : ∀ (l : List (List Int × Nat)) (o : Option (List Int)) (b : Bool), (l.foldl (fun s x => asM s x.1 x.2) (o, b)).2 = (b && chn o l)
 | [], _, b => by simp [chn]
 | x :: l, o, b => by
  rw [List.foldl_cons]
  show (l.foldl (fun s x => asM s x.1 x.2) (some x.1, b && o.elim true (fun y => decide (cmpI y x.1 < 0)))).2 = _
  rw [asc_fold l, chn, Bool.and_assoc]
theorem chn_asc : ∀ (l : List (List Int × Nat)) (o : Option (List Int)), chn o l = true ↔ Asc l ∧ ∀ k, o = some k → ∀ x ∈ l, cmpI k x.1 < 0
 | [], o => by simp [chn, Asc]
 | x :: l, o => by
  have ih := chn_asc l (some x.1)
  rw [chn, Bool.and_eq_true, ih]
  unfold Asc
  rw [List.pairwise_cons]
  constructor
  ·rintro ⟨h1, h2, h3⟩
   refine ⟨⟨fun y hy => h3 x.1 rfl y hy, h2⟩, fun k hk y hy => ?_⟩
   subst hk
   have h4 : cmpI k x.1 < 0 := of_decide_eq_true h1
   rcases List.mem_cons.1 hy with rfl | hy
   ·exact h4
   ·exact cmpI_trans _ _ _ h4 (h3 x.1 rfl y hy)
  ·rintro ⟨⟨h1, h2⟩, h3⟩
   refine ⟨?_, h2, fun k hk y hy => ?_⟩
   ·cases o with
    | none => rfl
    | some k => exact decide_eq_true (h3 k rfl x List.mem_cons_self)
   ·injection hk with hk
    subst hk
    exact h1 y hy
theorem ascends_ino (t : MT) : t.ascends = true ↔ Asc t.ino := by
 unfold MT.ascends eachM
 rw [visit_ino, asc_fold, Bool.true_and, chn_asc]
 exact ⟨fun h => h.1, fun h => ⟨h, fun k hk => by cases hk⟩⟩
/-- the keys lie between bounds -/
def Btw (lo hi : Option (List Int)) (l : List (List Int × Nat)) : Prop := ∀ x ∈ l, (∀ k, lo = some k → cmpI k x.1 < 0) ∧ ∀ k, hi = some k → cmpI x.1 k < 0
theorem cmp_le {a b c : List Int} (h1 : ¬ 0 < cmpI a b) (h2 : cmpI b c < 0) : cmpI a c < 0 := by
 rcases cmp_tri a b with h | rfl | h
 ·exact cmpI_trans _ _ _ h h2
 ·exact h2
 ·exact absurd (by rw [cmp_flip b a]; omega) h1
theorem cmp_le2 {a b c : List Int} (h1 : cmpI a b ≤ 0) (h2 : cmpI b c ≤ 0) : cmpI a c ≤ 0 := by
 rcases cmp_tri b c with h | rfl | h
 ·exact Int.le_of_lt (cmp_le (by omega) h)
 ·exact h1
 ·rw [cmp_flip c b] at h2; omega
theorem out_has {fr to : List Int} {e : Bool} {lo hi : Option (List Int)} (h : outQ fr to e lo hi = true) {l : List (List Int × Nat)} (hb : Btw lo hi l) : l.filter (fun x => hasQ fr to e x.1) = [] := by
 refine List.filter_eq_nil_iff.2 (fun x hx => ?_)
 obtain ⟨b1, b2⟩ := hb x hx
 unfold outQ at h
 rw [Bool.or_eq_true, Bool.or_eq_true] at h
 unfold hasQ
 intro hq
 rw [Bool.and_eq_true, decide_eq_true_eq] at hq
 obtain ⟨q1, q2⟩ := hq
 have q1' : cmpI fr x.1 ≤ 0 := by rw [cmp_flip x.1 fr]; omega
 have q3 : endsQ to e x.1 = false := by simpa using q2
 unfold endsQ at q3 h
 rcases h with (h | h) | h
 ·rw [Bool.and_eq_true, decide_eq_true_eq] at h
  rw [h.1, Bool.true_and, decide_eq_false_iff_not] at q3
  exact q3 (cmp_le2 h.2 q1')
 ·cases hi with
  | none => cases h
  | some k =>
   have h1 : cmpI k fr ≤ 0 := of_decide_eq_true h
   have h2 := b2 k rfl
   have h3 : cmpI x.1 fr < 0 := by
    have h4 := cmp_le2 (Int.le_of_lt h2) h1
    rcases cmp_tri x.1 fr with h5 | h5 | h5
    ·exact h5
    ·rw [← h5] at h1
     rw [cmp_flip x.1 k] at h1
     omega
    ·rw [cmp_flip x.1 fr] at h5; omega
   omega
 ·cases lo with
  | none => cases h
  | some k =>
   have h' : (e && decide (cmpI to k ≤ 0)) = true := h
   rw [Bool.and_eq_true, decide_eq_true_eq] at h'
   rw [h'.1, Bool.true_and, decide_eq_false_iff_not] at q3
   exact q3 (Int.le_of_lt (cmp_le (by omega) (b1 k rfl)))
theorem btw_nd {k : List Int} {n : Nat} {rk d : List Int} {l r : MT} {lo hi : Option (List Int)} (h : Asc (MT.nd k n rk d l r).ino) (hb : Btw lo hi (MT.nd k n rk d l r).ino) : Btw lo (some k) l.ino ∧ Btw (some k) hi r.ino := by
 obtain ⟨h1, h2, h3, h4, h5⟩ := asc_nd h
 unfold Btw MT.ino at hb
 refine ⟨fun x hx => ⟨(hb x (List.mem_append_left _ hx)).1, fun k' hk' => ?_⟩, fun x hx => ⟨fun k' hk' => ?_, (hb x (List.mem_append_right _ (List.mem_cons_of_mem _ hx))).2⟩⟩
 ·injection hk' with hk'
  subst hk'
  exact h3 x hx
 ·injection hk' with hk'
  subst hk'
  exact h4 x hx
theorem pr_sub (fr to : List Int) (e : Bool) : ∀ (t : MT) (lo hi : Option (List Int)), (t.pr fr to e lo hi).ino.Sublist t.ino
 | .nil, _, _ => List.Sublist.refl _
 | .cut _, _, _ => List.Sublist.refl _
 | .nd k n rk d l r, lo, hi => by
  unfold MT.pr
  split
  ·exact List.nil_sublist _
  ·simp only [mkN, MT.ino]
   exact (pr_sub fr to e l _ _).append ((pr_sub fr to e r _ _).cons_cons _)
theorem pr_has (fr to : List Int) (e : Bool) : ∀ (t : MT) (lo hi : Option (List Int)), Asc t.ino → Btw lo hi t.ino → (t.pr fr to e lo hi).ino.filter (fun x => hasQ fr to e x.1) = t.ino.filter (fun x => hasQ fr to e x.1)
 | .nil, _, _, _, _ => rfl
 | .cut _, _, _, _, _ => rfl
 | .nd k n rk d l r, lo, hi, h, hb => by
  obtain ⟨b1, b2⟩ := btw_nd h hb
  obtain ⟨h1, h2, -⟩ := asc_nd h
  unfold MT.pr
  split
  ·rename_i ho
   rw [out_has ho hb]
   rfl
  ·simp only [mkN, MT.ino]
   rw [List.filter_append, List.filter_append, List.filter_cons, List.filter_cons, pr_has fr to e l _ _ h1 b1, pr_has fr to e r _ _ h2 b2]
theorem pr_tells (fr to : List Int) (e : Bool) : ∀ (t : MT) (lo hi : Option (List Int)) (ok : Bool), t.Full → visitM (tlE fr to e) (fun ok _ _ => ok) (t.pr fr to e lo hi) lo hi ok = ok
 | .nil, _, _, _, _ => rfl
 | .cut _, _, _, _, h => absurd h id
 | .nd k n rk d l r, lo, hi, ok, f => by
  unfold MT.pr
  by_cases ho : outQ fr to e lo hi = true
  ·rw [if_pos ho]
   simp only [visitM, tlE]
   rw [if_pos ho]
  ·rw [if_neg ho]
   simp only [mkN, visitM, tlE]
   cases ok with
   | true =>
    simp only [if_true]
    rw [pr_tells fr to e l _ _ _ f.1, pr_tells fr to e r _ _ _ f.2]
   | false => simp only [Bool.false_eq_true, if_false]
end Go.Proofs.YtmejjjkbbkgioaaDoor
/- stage 7, plain: soundness -/
namespace Go.Proofs.YtmejjjkbbkgioaaDoor
open Go.RowKit
theorem be8_inj {n m : Nat} (hn : n < 9223372036854775808) (hm : m < 9223372036854775808) (h : be8 n = be8 m) : n = m := by
 have h1 := rdN_be8 n hn
 rw [h, rdN_be8 m hm] at h1
 omega
theorem joinB_inj {p q : List Int} {ps qs : List (List Int)} (h : joinB (p :: ps) = joinB (q :: qs)) (hp : p.length < 9223372036854775808) (hq : q.length < 9223372036854775808) : p = q ∧ joinB ps = joinB qs := by
 have h1 : be8 p.length ++ (p ++ joinB ps) = be8 q.length ++ (q ++ joinB qs) := by
  rw [← List.append_assoc, ← List.append_assoc]
  exact h
 obtain ⟨e1, h2⟩ := List.append_inj h1 (by rw [be8_len, be8_len])
 exact List.append_inj h2 (be8_inj hp hq e1)
theorem txtN_inj {k k' : List Int} {n n' : Nat} {dl dl' dr dr' : List Int} (h : txtN k n dl dr = txtN k' n' dl' dr') (h1 : dl.length = 32) (h1' : dl'.length = 32) (h2 : dr.length = 32) (h2' : dr'.length = 32) (hk : k.length ≤ 65535) (hk' : k'.length ≤ 65535) (hn : n < 9223372036854775808) (hn' : n' < 9223372036854775808) : k = k' ∧ n = n' ∧ dl = dl' ∧ dr = dr' := by
 have h0 : be8 5 ++ joinB [[110, 111, 100, 101], dl, k, be8 n, dr] = be8 5 ++ joinB [[110, 111, 100, 101], dl', k', be8 n', dr'] := h
 obtain ⟨-, h2⟩ := List.append_inj h0 rfl
 obtain ⟨-, h3⟩ := joinB_inj h2 (by decide) (by decide)
 obtain ⟨e1, h4⟩ := joinB_inj h3 (by omega) (by omega)
 obtain ⟨e2, h5⟩ := joinB_inj h4 (by omega) (by omega)
 obtain ⟨e3, h6⟩ := joinB_inj h5 (by rw [be8_len]; decide) (by rw [be8_len]; decide)
 have e4 : dr = dr' := (joinB_inj h6 (by omega) (by omega)).1
 exact ⟨e2, be8_inj hn hn' e3, e1, e4⟩
/-- each cut tree lies outside the range -/
def TellsAt (fr to : List Int) (e : Bool) : MT → Option (List Int) → Option (List Int) → Prop
 | .nil, _, _ => True
 | .cut _, lo, hi => outQ fr to e lo hi = true
 | .nd k _ _ _ l r, lo, hi => TellsAt fr to e l lo (some k) ∧ TellsAt fr to e r (some k) hi
theorem tells_at (fr to : List Int) (e : Bool) : ∀ (t : MT) (lo hi : Option (List Int)) (ok : Bool), visitM (tlE fr to e) (fun ok _ _ => ok) t lo hi ok = true → ok = true ∧ TellsAt fr to e t lo hi
 | .nil, _, _, ok, h => ⟨h, trivial⟩
 | .cut d, lo, hi, ok, h => by
  simp only [visitM, tlE] at h
  split at h
  ·rename_i ho
   exact ⟨h, ho⟩
  ·cases h
 | .nd k n rk d l r, lo, hi, ok, h => by
  simp only [visitM, tlE] at h
  cases ok with
  | false => simp at h
  | true =>
   simp only [if_true] at h
   obtain ⟨h1, h2⟩ := tells_at fr to e r _ _ _ h
   obtain ⟨-, h3⟩ := tells_at fr to e l _ _ _ h1
   exact ⟨rfl, h3, h2⟩
theorem pr_tells_at (fr to : List Int) (e : Bool) (t : MT) (f : t.Full) : TellsAt fr to e (t.pr fr to e none none) none none := (tells_at fr to e _ none none true (pr_tells fr to e t none none true f)).2
/-- two trees of one digest that have no clash tell the same in a range -/
theorem no_clash (fr to : List Int) (e : Bool) : ∀ (x y : MT) (lo hi : Option (List Int)), x.Good → y.Good → x.dg = y.dg → clashM x y = none → TellsAt fr to e x lo hi → TellsAt fr to e y lo hi → Asc x.ino → Asc y.ino → Btw lo hi x.ino → Btw lo hi y.ino →
  x.ino.filter (fun z => hasQ fr to e z.1) = y.ino.filter (fun z => hasQ fr to e z.1)
 | .cut d, y, lo, hi, _, _, _, _, hx, _, _, _, _, by_ => by rw [out_has hx by_]; rfl
 | .nil, .cut d, lo, hi, _, _, _, _, _, hy, _, _, bx, _ => rfl
 | .nd k n rk d l r, .cut d', lo, hi, _, _, _, _, _, hy, _, _, bx, _ => by rw [out_has hy bx]; rfl
 | .nil, .nil, _, _, _, _, _, _, _, _, _, _, _, _ => rfl
 | .nil, .nd k n rk d l r, _, _, _, _, hd, hc, _, _, _, _, _, _ => by
  have hd' : sha txt0 = d := hd
  unfold clashM at hc
  rw [if_pos hd'] at hc
  cases hc
 | .nd k n rk d l r, .nil, _, _, _, _, hd, hc, _, _, _, _, _, _ => by
  have hd' : d = sha txt0 := hd
  unfold clashM at hc
  rw [if_pos hd'] at hc
  cases hc
 | .nd k n rk d l r, .nd k' n' rk' d' l' r', lo, hi, gx, gy, hd, hc, tx, ty, ax, ay, bx, by_ => by
  have hd' : d = d' := hd
  obtain ⟨-, gl, gr, hkl, -, hn, -⟩ := gx
  obtain ⟨-, gl', gr', hkl', -, hn', -⟩ := gy
  unfold clashM at hc
  split at hc
  ·rename_i ht
   obtain ⟨rfl, rfl, e1, e2⟩ := txtN_inj (show txtN k n l.dg r.dg = txtN k' n' l'.dg r'.dg from ht) gl.dlen gl'.dlen gr.dlen gr'.dlen hkl hkl' hn hn'
   obtain ⟨b1, b2⟩ := btw_nd ax bx
   obtain ⟨b3, b4⟩ := btw_nd ay by_
   obtain ⟨a1, a2, -⟩ := asc_nd ax
   obtain ⟨a3, a4, -⟩ := asc_nd ay
   cases hcl : clashM l l' with
   | some z => rw [hcl] at hc; cases hc
   | none =>
    rw [hcl] at hc
    have i1 := no_clash fr to e l l' _ _ gl gl' e1 hcl tx.1 ty.1 a1 a3 b1 b3
    have i2 := no_clash fr to e r r' _ _ gr gr' e2 hc tx.2 ty.2 a2 a4 b2 b4
    simp only [MT.ino]
    rw [List.filter_append, List.filter_append, List.filter_cons, List.filter_cons, i1, i2]
  ·first | (rw [if_pos hd'] at hc; cases hc) | cases hc
/-- what is taken is what the tree has, or there is a clash -/
theorem ver_sound (fr to : List Int) (e : Bool) (t : MT) (g : t.Good) (f : t.Full) (p : t.Pos) (h : t.depth ≤ 4096) (ha : Asc t.ino) (pf : List Int) (gp : Rng pf) (es : List (List Int × Nat)) (hv : verO t.dg fr to e pf = .inr es) (hc : clashO (t.prove fr to e) pf = none) : es = t.ino.filter (fun x => hasQ fr to e x.1) := by
 have h1 := rdAll_pr fr to e t g f p h
 unfold verO at hv
 unfold clashO at hc
 rw [h1] at hc
 cases hr : rdAll pf with
 | inl c => rw [hr] at hv; cases hv
 | inr y =>
  rw [hr] at hv hc
  have gy := rdAll_ok gp hr
  have hv' : (if y.ascends = false then (.inl 9 : Int ⊕ List (List Int × Nat)) else if y.tells fr to e = false then .inl 50 else if y.dg = t.dg then .inr (y.ents fr to e) else .inl 51) = .inr es := hv
  have hc' : clashM (t.pr fr to e none none) y = none := hc
  split at hv'
  ·cases hv'
  ·rename_i has
   split at hv'
   ·cases hv'
   ·rename_i hte
    split at hv'
    ·rename_i hdg
     injection hv' with hv'
     have has' : y.ascends = true := by simpa using has
     have hte' : y.tells fr to e = true := by simpa using hte
     have hnb : ∀ l : List (List Int × Nat), Btw none none l := fun l x _ => ⟨fun k hk => (by cases hk), fun k hk => (by cases hk)⟩
     have hno := no_clash fr to e (t.pr fr to e none none) y none none (rdAll_ok (prove_rng fr to e t g) h1) gy ((pr_dg fr to e t none none g).trans hdg.symm) hc' (pr_tells_at fr to e t f) (tells_at fr to e y none none true hte').2 (List.Pairwise.sublist (pr_sub fr to e t none none) ha) ((ascends_ino y).1 has') (hnb _) (hnb _)
     rw [← hv', ents_ino, ← hno, pr_has fr to e t none none ha (hnb _)]
    ·cases hv'
end Go.Proofs.YtmejjjkbbkgioaaDoor
