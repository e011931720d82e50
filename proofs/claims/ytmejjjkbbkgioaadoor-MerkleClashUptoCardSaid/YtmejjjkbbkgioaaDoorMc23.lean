import Derived.Test.YtmejjjkbbkgioaaDoorMc22
import Derived.Test.YtmejjjkbbkgioaaDoorCards
import Derived.Test.YtmejjjkbbkgioaaDoorTie
import Derived.WalkKit
import Derived.ProofKit
import Derived.OpenShut
import Derived.Deep.DeepHandedRow
import Derived.Deep.DeepWitnessRowRef
import Derived.Deep.Matrix
import Derived.Deep.Slices
import Derived.Deep.Fields
import Derived.ChangeSame
import Derived.ChangeMaps5
import Derived.Lib.LaidTab
import Derived.BigQuiet
import Derived.Deep.QuietTactic
import Derived.WalkSpells
import Derived.WalkLawsBesides
import Derived.Lib.Hide
import Derived.Deep.MidRow
import Derived.Deep.RegionLaw
import Derived.BigRegion
import Derived.Laws.AppendOwnNone
import Derived.Deep.DeepMust
import Derived.Deep.AppendLies
import Derived.RegionTactic
import Derived.Deep.WholeRow
import Derived.BigFrame
import Derived.Deep.RegionWith
import Derived.Deep.RegionHeld3
import Derived.Maps.RangeWalk
import Derived.Laws.CopyOwn
import Derived.StillTailTactics
namespace Go.Proofs.YtmejjjkbbkgioaaDoor
open Go.ChangeShapes Go.WideShapes Go.ChangeAt Go.RowKit Go.Deep
/-- arguments read again behind a call that has only made memory -/
theorem trodAll_below {H : Type} {enc : TypeId × Value → H} {P : Program} (hl : laidOutB P = true) {W W' : World} (hb : Below W.heap.size W W') :
    ∀ {ts : List TypeId} {vs : List Value} {ds : List (DataW H)} {ps : List MemPlace}, (∀ t ∈ ts, P.readableRec t = true ∧ t < P.types.size) →
      DataW.TrodAll enc P W 0 (fun _ => true) true ts vs ds ps → (∀ x ∈ ps, x.block < W.heap.size) → DataW.TrodAll enc P W' 0 (fun b => decide (b < W.heap.size)) true ts vs ds ps := by
  intro ts
  induction ts with
  | nil =>
    intro vs ds ps _ h _
    obtain ⟨rfl, rfl, rfl⟩ := trodAll_nil h
    exact trodAll_mk0
  | cons t ts ih =>
    intro vs ds ps hr h hlt
    obtain ⟨v, vs', d, ds', p, q, rfl, rfl, rfl, h1, h2⟩ := trodAll_cons h
    have ht := hr t (by simp)
    exact trodAll_cons_mk (Below.trod hl ht.1 ht.2 h1 hb (fun x hx => hlt x (by simp [hx]))) (ih (fun t ht => hr t (by simp [ht])) h2 (fun x hx => hlt x (by simp [hx])))
/-- the post of a law: true, and the arguments read as before -/
theorem law_post {H : Type} {enc : TypeId × Value → H} {P : Program} {f : Func} {s : ChangeSpec} {apart fresh handsOn : Bool} {W W' : World} {args : Array Value} {ds gs : List (DataW H)} {before : List MemPlace} {T : TypeId}
    (hl : laidOutB P = true) (hr : ∀ t ∈ f.params.toList, P.readableRec t = true ∧ t < P.types.size) (hv : s.vars = []) (hres : f.resultTypes = #[T]) (hT : P.underlying T = some .bool)
    (hfn : ∀ gs : List (DataW H), gs = [] → s.fn H (ds ++ gs) = { results := [.lit (.bool true)], args := ds })
    (hW : DataW.Whole enc P f.params.toList s.vars apart W args.toList ds gs before) (hb : Below W.heap.size W W') :
    s.post enc P f apart fresh handsOn false W args (.bool true) W' := by
  have hlt := hW.lt
  have hW' := hW
  obtain ⟨p, q, hA, hV, rfl, _, _⟩ := hW
  rw [hv] at hV
  obtain ⟨rfl, rfl⟩ := trodVars_none hV
  have e := hfn [] rfl
  refine ⟨ds, [], _, [], p, [], hW', ?_, ?_, ?_, hb.frame _, fun h => by cases h⟩
  · rw [e, hres]
    exact trodAll_cons_mk (shut_bool hT _) trodAll_mk0
  · rw [e]
    exact trodAll_below hl hb hr hA (fun x hx => hlt x (by simp [hx]))
  · rw [e, hv]
    exact rfl
theorem rng_of_wf {l : List Int} (h : ∀ n ∈ l, (Lit.int .u8 n).wf = true) : Rng l := by
  intro x hx
  have := h x hx
  simp [Lit.wf, IntKind.min, IntKind.max, IntKind.signed, IntKind.bits] at this
  omega
theorem bulk_lits {H : Type} (k : IntKind) (l : List Int) : Rows.uptoBulkAll (lits (H := H) k l) = l.length := by
  induction l with
  | nil => rfl
  | cons x l ih => simp only [lits, List.map_cons, Rows.uptoBulkAll, List.length_cons] at ih ⊢; rw [ih]; simp [Rows.uptoBulk]; omega
section
variable {H : Type} {enc : TypeId × Value → H} {P : Program} {W : World}
theorem bs_of_trod {t e : TypeId} (ht : P.underlying t = some (.slice e)) (he : P.underlying e = some (.int .u8)) (hc : P.cellsOf e = 1) {v : Value} {d : DataW H} {p : List MemPlace} {b : Nat}
    (hok : Value.okWide P W .any b t v) (h : DataW.Trod enc P W 0 (fun _ => true) true t v d p) : ∃ l : List Int, Bs W v l ∧ Rng l ∧ l.length ≤ Rows.uptoBulk d := by
  obtain ⟨a0, len, cap, rfl⟩ := okWide_slice ht hok
  obtain ⟨fuel, hf⟩ := h
  rcases open_ints ht he hc hf with ⟨hcs, hx⟩ | ⟨a, len', cap', zs, hcs, _, hl, _, hz, hx, hcell, hw⟩
  · simp [Value.cells] at hcs
    obtain ⟨rfl, rfl, rfl⟩ := hcs
    exact ⟨[], Bs.nil W, fun x hx => by simp at hx, Nat.zero_le _⟩
  · simp [Value.cells] at hcs
    obtain ⟨rfl, rfl, rfl⟩ := hcs
    simp only [if_true] at hz
    simp only [Prod.mk.injEq] at hx
    obtain ⟨rfl, _⟩ := hx
    have hlen : (zs.take len).length = len := by rw [List.length_take]; omega
    refine ⟨zs.take len, ⟨some a, cap, by rw [hlen], ⟨by omega, fun e => by cases e⟩, fun hl0 => ?_⟩, rng_of_wf fun n hn => hw n (List.mem_of_mem_take hn), ?_⟩
    · rw [hlen] at hl0
      have h0 := hcell 0 (by omega)
      have hsp := World.cell?_spot h0
      have hlt := World.block_lt_of_cell? _ _ h0
      obtain ⟨ab, ao, asp⟩ := a
      have hsp' : asp = none := by simpa [Addr.add] using hsp
      subst hsp'
      refine ⟨ab, ao, rfl, by simpa [Addr.add] using hlt, fun i hi => ?_⟩
      rw [hlen] at hi
      have h1 := hcell i (by omega)
      rw [add_plain] at h1
      rw [h1, List.getElem?_take_of_lt hi]
      simp [List.getD]
    · rw [hlen]
      simp only [Rows.uptoBulk, bulk_lits, List.length_take]
      omega
end
section
variable {H : Type} {enc : TypeId × Value → H} {P : Program} {w : World} {base : Nat} {spare : Nat → Bool} {held : Bool}
theorem open_slice_fields {t e : TypeId} {fs : Array Field} {fuel : Nat} {cs : List Value} {x : DataW H × List MemPlace} (ht : P.underlying t = some (.slice e)) (he : P.underlying e = some (.struct fs))
    (hone : oneCellFields P fs = true) (hC : P.cellsOf e = fs.size) (h : DataW.trod enc P w base spare held fuel t cs = some x) :
    (cs = [.slice none 0 0] ∧ x = (.nil, [])) ∨
    ∃ (a : Addr) (len cap m : Nat) (D : Nat → DataW H) (Pl : Nat → List MemPlace), cs = [.slice (some a) len cap] ∧ base ≤ a.block ∧ len ≤ cap ∧ cap ≤ maxLen ∧ m = (if spare a.block then cap else len) ∧
      x = (.slice ((List.range len).map D) ((List.range (m - len)).map fun j => D (len + j)), MemPlace.row a (m * fs.size) ++ (List.range m).flatMap Pl) ∧
      ∀ i, i < m → ∃ (ys : List (DataW H × List MemPlace)) (n : Nat), D i = .agg (ys.map (·.1)) ∧ Pl i = ys.flatMap (·.2) ∧ ys.length = fs.size ∧
        ∀ (j : Nat) (f : Field), fs[j]? = some f → ∃ (v : Value) (y : DataW H × List MemPlace), w.cell? (a.add (i * fs.size + j)) = some v ∧ ys[j]? = some y ∧ DataW.trod enc P w base spare held n f.type [v] = some y := by
  rcases open_slice ht h with h0 | ⟨a, len, cap, m, n, D, Pl, hcs, hb, hl, hm, hmm, hx, hi⟩
  · exact .inl h0
  · refine .inr ⟨a, len, cap, m, D, Pl, hcs, hb, hl, hm, hmm, by rw [hC] at hx; exact hx, fun i him => ?_⟩
    obtain ⟨cs', hc, ht'⟩ := hi i him
    rw [hC] at hc
    obtain ⟨ys, n', hn', hy, hlen, hyl, hf⟩ := DataW.trod_struct he ht'
    obtain ⟨_, hcl, hat⟩ := World.cells?_some hc
    simp only [Prod.mk.injEq] at hy
    refine ⟨ys, n', hy.1, hy.2, hyl, fun j f hj => ?_⟩
    obtain ⟨ho, hk⟩ := hone_of hone j f hj
    have hjl : j < fs.size := (Array.getElem?_eq_some_iff.1 hj).1
    have hcell := hat j hjl
    have hv : cs'[j]? = some (cs'[j]'(by omega)) := List.getElem?_eq_getElem (by omega)
    have h1 := hf j f hj
    rw [ho, hk] at h1
    have hone' : (cs'.drop j).take 1 = [cs'[j]'(by omega)] := by
      rw [List.drop_eq_getElem_cons (by omega)]
      rfl
    rw [hone'] at h1
    have hys : ys[j]? = some (ys[j]'(by omega)) := List.getElem?_eq_getElem (by omega)
    refine ⟨_, _, ?_, hys, h1.trans hys⟩
    rw [← Go.Deep.add_add, hcell, hv]
end
theorem str_bytes (s : ByteArray) : ∃ l : List Int, s = str l ∧ Rng l ∧ l.length = s.size := by
  refine ⟨s.data.toList.map fun c => (c.toNat : Int), ?_, ?_, by simp⟩
  · obtain ⟨⟨a⟩⟩ := s
    simp only [str, List.map_map, ByteArray.mk.injEq]
    congr 1
    refine (List.map_id a).symm.trans ?_
    apply List.map_congr_left
    intro c _
    simp
  · intro x hx
    simp only [List.mem_map] at hx
    obtain ⟨c, _, rfl⟩ := hx
    have := c.toNat_lt
    omega
theorem i64_of_wf {n : Int} (h : (Lit.int .i64 n).wf = true) : -9223372036854775808 ≤ n ∧ n ≤ 9223372036854775807 := by
  simp [Lit.wf, IntKind.min, IntKind.max, IntKind.signed, IntKind.bits] at h
  omega
theorem own : ownKnob Tryd.prog.godebug = none := by kernel_rfl
theorem laidOut : laidOutB Tryd.prog = true := by kernel_rfl
theorem gTab : Tryd.prog.globalNamed "touchmark/sha.constants" = some 1 := by kernel_rfl
theorem gTabType : (Tryd.prog.globals[1]?).map (·.type) = some 160 := by kernel_rfl
theorem cells65 : Tryd.prog.cellsOf 160 = 64 := by kernel_rfl
theorem cells49 : Tryd.prog.cellsOf 97 = 1 := by kernel_rfl
theorem cells5 : Tryd.prog.cellsOf 5 = 1 := by kernel_rfl
theorem bulk_pos {H : Type} (d : DataW H) : 1 ≤ Rows.uptoBulk d := by
  cases d with
  | lit l => cases l <;> simp [Rows.uptoBulk]
  | _ => simp [Rows.uptoBulk] <;> omega
theorem bulk_mem {H : Type} {d : DataW H} : ∀ {l : List (DataW H)}, d ∈ l → Rows.uptoBulk d ≤ Rows.uptoBulkAll l
  | [], h => by simp at h
  | e :: l, h => by
    simp only [Rows.uptoBulkAll]
    rcases List.mem_cons.1 h with rfl | h
    · omega
    · have := bulk_mem h; omega
theorem bulk_len {H : Type} : ∀ (l : List (DataW H)), l.length ≤ Rows.uptoBulkAll l
  | [] => Nat.zero_le _
  | e :: l => by
    have h1 := bulk_pos e
    have h2 := bulk_len l
    simp only [Rows.uptoBulkAll, List.length_cons]
    omega
section
variable {H : Type} {enc : TypeId × Value → H} {W : World}
/-- a row of the law's entries -/
def RfS (w : World) (v : Value) (l : List (List Int × Int)) : Prop :=
  ∃ a c, v = .slice a l.length c ∧ ∀ (i : Nat) (x : List Int × Int), l[i]? = some x → ∃ g o, a = some ⟨g, o, none⟩ ∧ g < w.heap.size ∧ w.cell? ⟨g, o + i * 2, none⟩ = some (.string (str x.1)) ∧ w.cell? ⟨g, o + (i * 2 + 1), none⟩ = some (.int .i64 x.2)
theorem RfS.below {w w' : World} {v : Value} {l : List (List Int × Int)} (h : RfS w v l) (hb : Below w.heap.size w w') : RfS w' v l := by
  obtain ⟨a, c, e, h⟩ := h
  refine ⟨a, c, e, fun i x hx => ?_⟩
  obtain ⟨g, o, e1, e2, e3, e4⟩ := h i x hx
  exact ⟨g, o, e1, Nat.lt_of_lt_of_le e2 hb.size, (World.cell?_of_block (a := ⟨g, o + i * 2, none⟩) (hb.block g e2)).trans e3, (World.cell?_of_block (a := ⟨g, o + (i * 2 + 1), none⟩) (hb.block g e2)).trans e4⟩
/-- a law's entry is in range -/
def EOk (x : List Int × Int) : Prop := Rng x.1 ∧ x.1.length ≤ 1048576 ∧ -9223372036854775808 ≤ x.2 ∧ x.2 ≤ 9223372036854775807
set_option maxRecDepth 100000 in
theorem ents_of_trod {v : Value} {d : DataW H} {p : List MemPlace} {b : Nat}
    (hok : Value.okWide Tryd.prog W .any b 22 v) (h : DataW.Trod enc Tryd.prog W 0 (fun _ => true) true 22 v d p) (hbd : Rows.uptoBulk d ≤ 1048576) :
    ∃ l : List (List Int × Int), RfS W v l ∧ (∀ x ∈ l, EOk x) ∧ l.length ≤ 1048576 := by
  obtain ⟨a0, len, cap, rfl⟩ := okWide_slice Tryd.underlying22 hok
  obtain ⟨fuel, hf⟩ := h
  rcases open_slice_fields Tryd.underlying22 Tryd.underlying45 (by kernel_rfl) (by kernel_rfl) hf with ⟨hcs, hx⟩ | ⟨a, len', cap', m, D, Pl, hcs, _, hl, _, hm, hx, hi⟩
  · simp [Value.cells] at hcs
    obtain ⟨rfl, rfl, rfl⟩ := hcs
    exact ⟨[], ⟨none, 0, rfl, fun i x h => by simp at h⟩, fun x hx => by simp at hx, Nat.zero_le _⟩
  · simp [Value.cells] at hcs
    obtain ⟨rfl, rfl, rfl⟩ := hcs
    simp only [if_true] at hm
    simp only [Prod.mk.injEq] at hx
    obtain ⟨rfl, _⟩ := hx
    have hx : ∀ i, i < m → ∃ x : List Int × Int, (Rng x.1 ∧ -9223372036854775808 ≤ x.2 ∧ x.2 ≤ 9223372036854775807) ∧ x.1.length ≤ Rows.uptoBulk (D i) ∧ W.cell? (a.add (i * 2 + 0)) = some (.string (str x.1)) ∧ W.cell? (a.add (i * 2 + 1)) = some (.int .i64 x.2) := by
      intro i him
      obtain ⟨ys, n, hD, _, hlen, hfd⟩ := hi i him
      obtain ⟨v0, y0, c0, e0, t0⟩ := hfd 0 _ rfl
      obtain ⟨v1, y1, c1, e1, t1⟩ := hfd 1 _ rfl
      obtain ⟨s0, g0, rfl, w0⟩ := DataW.trod_string Tryd.underlying9 t0
      obtain ⟨n1, g1, rfl, w1⟩ := DataW.trod_int Tryd.underlying2 t1
      simp only [List.cons.injEq, and_true] at g0 g1
      subst g0 g1
      obtain ⟨l, rfl, hrl, hll⟩ := str_bytes s0
      have hb : (DataW.lit (.string (str l).data.toList) : DataW H) ∈ ys.map (·.1) := List.mem_map.2 ⟨_, List.mem_of_getElem? e0, rfl⟩
      have hb2 := bulk_mem hb
      refine ⟨(l, n1), ⟨hrl, (i64_of_wf w1).1, (i64_of_wf w1).2⟩, ?_, c0, c1⟩
      rw [hD]
      simp only [Rows.uptoBulk] at hb2 ⊢
      have : (str l).data.toList.length = l.length := by simp [str]
      omega
    obtain ⟨f, hf⟩ : ∃ f : Nat → List Int × Int, ∀ i, i < m → (Rng (f i).1 ∧ -9223372036854775808 ≤ (f i).2 ∧ (f i).2 ≤ 9223372036854775807) ∧ (f i).1.length ≤ Rows.uptoBulk (D i) ∧ W.cell? (a.add (i * 2 + 0)) = some (.string (str (f i).1)) ∧ W.cell? (a.add (i * 2 + 1)) = some (.int .i64 (f i).2) :=
      ⟨fun i => if h : i < m then Classical.choose (hx i h) else ([], 0), fun i h => by simp only [dif_pos h]; exact Classical.choose_spec (hx i h)⟩
    refine ⟨(List.range len).map f, ⟨some a, cap, by simp, fun i x hxx => ?_⟩, ?_, ?_⟩
    · have hil : i < len := by have := (List.getElem?_eq_some_iff.1 hxx).1; simpa using this
      have h0 := (hf 0 (by omega)).2.2.1
      have hsp := World.cell?_spot h0
      have hlt := World.block_lt_of_cell? _ _ h0
      obtain ⟨ab, ao, asp⟩ := a
      have hsp' : asp = none := by simpa [Addr.add] using hsp
      subst hsp'
      rw [List.getElem?_map, List.getElem?_range hil] at hxx
      simp only [Option.map_some, Option.some.injEq] at hxx
      subst hxx
      obtain ⟨_, _, h1, h2⟩ := hf i (by omega)
      rw [add_plain] at h1 h2
      exact ⟨ab, ao, rfl, by simpa [Addr.add] using hlt, h1, h2⟩
    · intro x hx
      obtain ⟨i, hi, rfl⟩ := List.mem_map.1 hx
      have hil := List.mem_range.1 hi
      obtain ⟨h1, h2, _⟩ := hf i (by omega)
      have := bulk_mem (H := H) (d := D i) (l := (List.range len).map D) (List.mem_map.2 ⟨i, hi, rfl⟩)
      simp only [Rows.uptoBulk] at hbd
      exact ⟨h1.1, by omega, h1.2.1, h1.2.2⟩
    · have := bulk_len (H := H) ((List.range len).map D)
      simp only [Rows.uptoBulk, List.length_map, List.length_range] at this hbd ⊢
      omega
set_option maxRecDepth 100000 in
theorem rng_of_trod {v : Value} {d : DataW H} {p : List MemPlace} {b : Nat}
    (hok : Value.okWide Tryd.prog W .any b 24 v) (h : DataW.Trod enc Tryd.prog W 0 (fun _ => true) true 24 v d p) (hbd : Rows.uptoBulk d ≤ 1048576) :
    ∃ fr to e, v = .agg #[.string (str fr), .string (str to), .bool e] ∧ Rng fr ∧ Rng to ∧ fr.length ≤ 1048576 ∧ to.length ≤ 1048576 := by
  obtain ⟨cs, rfl, hsz⟩ := okWide_struct Tryd.underlying24 hok
  obtain ⟨fuel, hf⟩ := h
  obtain ⟨ys, n, -, hy, hl, hlen, hfd⟩ := DataW.trod_struct Tryd.underlying24 hf
  simp only [Prod.mk.injEq] at hy
  have hc : Tryd.prog.cellsOf 24 = 3 := by kernel_rfl
  rw [hc] at hsz
  obtain ⟨l⟩ := cs
  match l, hsz with
  | [x0, x1, x2], _ =>
    have k0 : Tryd.prog.cellsOf 9 = 1 := by kernel_rfl
    have k1 : Tryd.prog.cellsOf 4 = 1 := by kernel_rfl
    have hlen3 : ys.length = 3 := hlen
    match ys, hlen3 with
    | [y0, y1, y2], _ =>
      have t0 : DataW.trod enc Tryd.prog W 0 (fun _ => true) true n 9 ((List.drop 0 [x0, x1, x2]).take (Tryd.prog.cellsOf 9)) = some y0 := hfd 0 _ rfl
      have t1 : DataW.trod enc Tryd.prog W 0 (fun _ => true) true n 9 ((List.drop 1 [x0, x1, x2]).take (Tryd.prog.cellsOf 9)) = some y1 := hfd 1 _ rfl
      have t2 : DataW.trod enc Tryd.prog W 0 (fun _ => true) true n 4 ((List.drop 2 [x0, x1, x2]).take (Tryd.prog.cellsOf 4)) = some y2 := hfd 2 _ rfl
      rw [k0] at t0 t1
      rw [k1] at t2
      obtain ⟨s0, g0, e0, w0⟩ := DataW.trod_string Tryd.underlying9 t0
      obtain ⟨s1, g1, e1, w1⟩ := DataW.trod_string Tryd.underlying9 t1
      obtain ⟨b2, g2, e2⟩ := DataW.trod_bool Tryd.underlying4 t2
      obtain ⟨l0, rfl, r0, q0⟩ := str_bytes s0
      obtain ⟨l1, rfl, r1, q1⟩ := str_bytes s1
      simp at g0 g1 g2
      subst g0 g1 g2
      refine ⟨l0, l1, b2, rfl, r0, r1, ?_⟩
      have z0 : (str l0).data.toList.length = l0.length := by simp [str]
      have z1 : (str l1).data.toList.length = l1.length := by simp [str]
      obtain ⟨hy1, -⟩ := hy
      rw [hy1] at hbd
      subst e0 e1 e2
      simp only [List.map_cons, List.map_nil, Rows.uptoBulk, Rows.uptoBulkAll] at hbd
      omega
end
/-- a world for the witness: the settled one, the table holding what its initialiser lays -/
noncomputable def laidWorld (os : Os) : World :=
  { World.holding Tryd.prog os ⟨#[], #[], []⟩ with heap := (World.holding Tryd.prog os ⟨#[], #[], []⟩).heap.modify 1 fun
      | .cells _ t frozen => .cells (Kt.map (Value.int .u32)).toArray t frozen
      | o => o }
end Go.Proofs.YtmejjjkbbkgioaaDoor
/- stage 7, plain: what a clash tells, a proof's bytes -/
namespace Go.Proofs.YtmejjjkbbkgioaaDoor
open Go.RowKit
theorem txt0_len : txt0.length = 21 := by rfl
theorem txtN_le {k : List Int} {n : Nat} {l r : MT} (gl : l.Good) (gr : r.Good) (hk : k.length ≤ 65535) : (txtN k n l.dg r.dg).length ≤ 66000 := by
  rw [txtN_len, gl.dlen, gr.dlen]
  omega
/-- what is told is unlike, and has one digest -/
def ClOk (p q : List Int) : Prop := p ≠ q ∧ sha p = sha q ∧ Rng p ∧ Rng q ∧ p.length ≤ 66000 ∧ q.length ≤ 66000
theorem clashM_ok : ∀ (x y : MT), x.Good → y.Good → ∀ p q, clashM x y = some (p, q) → ClOk p q
  | .cut _, _, _, _, p, q, h => by simp [clashM] at h
  | .nil, .cut _, _, _, p, q, h => by simp [clashM] at h
  | .nd .., .cut _, _, _, p, q, h => by simp [clashM] at h
  | .nil, .nil, _, _, p, q, h => by simp [clashM] at h
  | .nil, .nd k n rk d l r, _, g, p, q, h => by
    have g' := g
    obtain ⟨hd, gl, gr, hkl, hkr, -⟩ := g'
    unfold clashM at h
    split at h
    · rename_i he
      simp only [Option.some.injEq, Prod.mk.injEq] at h
      obtain ⟨rfl, rfl⟩ := h
      exact ⟨txt0_ne k n l.dg r.dg, he.trans hd, txt0_rng, MT.Good.trng g rfl, by rw [txt0_len]; omega, txtN_le gl gr hkl⟩
    · cases h
  | .nd k n rk d l r, .nil, g, _, p, q, h => by
    have g' := g
    obtain ⟨hd, gl, gr, hkl, hkr, -⟩ := g'
    unfold clashM at h
    split at h
    · rename_i he
      simp only [Option.some.injEq, Prod.mk.injEq] at h
      obtain ⟨rfl, rfl⟩ := h
      exact ⟨(txt0_ne k n l.dg r.dg).symm, hd.symm.trans he, MT.Good.trng g rfl, txt0_rng, txtN_le gl gr hkl, by rw [txt0_len]; omega⟩
    · cases h
  | .nd k n rk d l r, .nd k' n' rk' d' l' r', g, g2, p, q, h => by
    obtain ⟨hd, gl, gr, hkl, hkr, -⟩ := id g
    obtain ⟨hd', gl', gr', hkl', hkr', -⟩ := id g2
    unfold clashM at h
    split at h
    · cases hc : clashM l l' with
      | some z =>
        rw [hc] at h
        simp only [Option.some.injEq] at h
        exact clashM_ok l l' gl gl' p q (hc.trans (congrArg some h))
      | none =>
        rw [hc] at h
        exact clashM_ok r r' gr gr' p q h
    · rename_i hne
      split at h
      · rename_i he
        simp only [Option.some.injEq, Prod.mk.injEq] at h
        obtain ⟨rfl, rfl⟩ := h
        exact ⟨hne, hd.symm.trans (he.trans hd'), MT.Good.trng g rfl, MT.Good.trng g2 rfl, txtN_le gl gr hkl, txtN_le gl' gr' hkl'⟩
      · cases h
theorem clashO_ok {a b : List Int} (ga : Rng a) (gb : Rng b) {p q : List Int} (h : clashO a b = some (p, q)) : ClOk p q := by
  unfold clashO at h
  cases ha : rdAll a with
  | inl c => rw [ha] at h; cases h
  | inr x =>
    cases hb : rdAll b with
    | inl c => rw [ha, hb] at h; cases h
    | inr y =>
      rw [ha, hb] at h
      exact clashM_ok x y (rdAll_ok ga ha) (rdAll_ok gb hb) p q h
theorem rng_app {l m : List Int} (h : Rng l) (k : Rng m) : Rng (l ++ m) := fun x hx => (List.mem_append.1 hx).elim (h x) (k x)
theorem rng_cons {x : Int} {l : List Int} (h : 0 ≤ x ∧ x < 256) (k : Rng l) : Rng (x :: l) := fun y hy => by
  rcases List.mem_cons.1 hy with rfl | hy
  · have := k; exact h
  · exact k y hy
theorem rng_nil : Rng [] := fun x hx => by cases hx
theorem prB_rng (fr to : List Int) (e : Bool) : ∀ (t : MT) (lo hi : Option (List Int)), t.Good → Rng (t.prB fr to e lo hi)
  | .nil, _, _, _ => rng_cons (by omega) rng_nil
  | .cut d, lo, hi, g => by
    unfold MT.prB
    split
    · exact rng_app (rng_cons (by omega) rng_nil) g.2
    · exact rng_cons (by omega) rng_nil
  | .nd k n rk d l r, lo, hi, g => by
    have hdr := g.drng.2
    obtain ⟨hd, gl, gr, hkl, hkr, -⟩ := g
    unfold MT.prB
    split
    · exact rng_app (rng_cons (by omega) rng_nil) hdr
    · exact rng_app (rng_cons (by omega) rng_nil) (rng_app (prB_rng fr to e l _ _ gl) (rng_app (rng_cons (by omega) (rng_cons (by omega) rng_nil)) (rng_app hkr (rng_app (be8_rng n) (prB_rng fr to e r _ _ gr)))))
theorem prove_rng (fr to : List Int) (e : Bool) (t : MT) (g : t.Good) : Rng (t.prove fr to e) := by rw [prove_eq]; exact prB_rng fr to e t _ _ g
/-- proofs of one tree have no clash -/
theorem clashO_pr (fr to : List Int) (e : Bool) (fr' to' : List Int) (e' : Bool) (t : MT) (g : t.Good) (f : t.Full) (p : t.Pos) (h : t.depth ≤ 4096) : clashO (t.prove fr to e) (t.prove fr' to' e') = none := by
  unfold clashO
  rw [rdAll_pr fr to e t g f p h, rdAll_pr fr' to' e' t g f p h]
  exact clash_pr fr to e fr' to' e' t none none none none g
end Go.Proofs.YtmejjjkbbkgioaaDoor
