import Derived.Test.YtbmlkocpjboodaaDoorMv17
import Derived.Test.YtbmlkocpjboodaaDoorMv18
import Derived.Test.YtbmlkocpjboodaaDoorCards
import Derived.Test.YtbmlkocpjboodaaDoorTie
import Derived.OpenShut
import Derived.Deep.DeepHandedRow
import Derived.Deep.DeepWitnessRowRef
import Derived.Deep.Matrix
import Derived.Deep.Slices
import Derived.Deep.Fields
import Derived.ChangeSame
import Derived.ChangeMaps5
import Derived.Lib.LaidTab
namespace Go.Proofs.YtbmlkocpjboodaaDoor
open Go.ChangeShapes Go.WideShapes Go.ChangeAt Go.RowKit Go.Deep
open Go.Lib (hid)
/-- arguments read again behind a call that has only made memory -/
theorem trodAll_below {H : Type} {enc : TypeId × Value → H} {P : Program} (hl : laidOutB P = true) {W W' : World} (hb : Below W.heap.size W W') :
  ∀ {ts : List TypeId} {vs : List Value} {ds : List (DataW H)} {ps : List MemPlace}, (∀ t ∈ ts, P.readableRec t = true ∧ t < P.types.size) →
   DataW.TrodAll enc P W 0 (fun _ => true) true ts vs ds ps → (∀ x ∈ ps, x.block < W.heap.size) → DataW.TrodAll enc P W' 0 (fun b => decide (b < W.heap.size)) true ts vs ds ps := by
 intro ts
 induction ts with
 | nil =>
  intro vs ds ps _ h _
  obtain ⟨rfl, rfl, rfl⟩ := trodAll_nil h
  exact trodAll_mk0
 | cons t ts ih =>
  intro vs ds ps hr h hlt
  obtain ⟨v, vs', d, ds', p, q, rfl, rfl, rfl, h1, h2⟩ := trodAll_cons h
  have ht := hr t (by simp)
  exact trodAll_cons_mk (Below.trod hl ht.1 ht.2 h1 hb (fun x hx => hlt x (by simp [hx]))) (ih (fun t ht => hr t (by simp [ht])) h2 (fun x hx => hlt x (by simp [hx])))
/-- the post of a law: true, and the arguments read as before -/
theorem law_post {H : Type} {enc : TypeId × Value → H} {P : Program} {f : Func} {s : ChangeSpec} {apart fresh handsOn : Bool} {W W' : World} {args : Array Value} {ds gs : List (DataW H)} {before : List MemPlace} {T : TypeId}
  (hl : laidOutB P = true) (hr : ∀ t ∈ f.params.toList, P.readableRec t = true ∧ t < P.types.size) (hv : s.vars = []) (hres : f.resultTypes = #[T]) (hT : P.underlying T = some .bool)
  (hfn : ∀ gs : List (DataW H), gs = [] → s.fn H (ds ++ gs) = { results := [.lit (.bool true)], args := ds })
  (hW : DataW.Whole enc P f.params.toList s.vars apart W args.toList ds gs before) (hb : Below W.heap.size W W') :
  s.post enc P f apart fresh handsOn false W args (.bool true) W' := by
 have hlt := hW.lt
 have hW' := hW
 obtain ⟨p, q, hA, hV, rfl, _, _⟩ := hW
 rw [hv] at hV
 obtain ⟨rfl, rfl⟩ := trodVars_none hV
 have e := hfn [] rfl
 refine ⟨ds, [], _, [], p, [], hW', ?_, ?_, ?_, hb.frame _, fun h => by cases h⟩
 ·rw [e, hres]
  exact trodAll_cons_mk (shut_bool hT _) trodAll_mk0
 ·rw [e]
  exact trodAll_below hl hb hr hA (fun x hx => hlt x (by simp [hx]))
 ·rw [e, hv]
  exact rfl
theorem rng_of_wf {l : List Int} (h : ∀ n ∈ l, (Lit.int .u8 n).wf = true) : Rng l := by
  intro x hx
  have := h x hx
  simp [Lit.wf, IntKind.min, IntKind.max, IntKind.signed, IntKind.bits] at this
  omega
theorem bulk_lits {H : Type} (k : IntKind) (l : List Int) : Rows.uptoBulkAll (lits (H := H) k l) = l.length := by
 induction l with
 | nil => rfl
 | cons x l ih => simp only [lits, List.map_cons, Rows.uptoBulkAll, List.length_cons] at ih ⊢; rw [ih]; simp [Rows.uptoBulk]; omega
section
variable {H : Type} {enc : TypeId × Value → H} {P : Program} {W : World}
theorem bs_of_trod {t e : TypeId} (ht : P.underlying t = some (.slice e)) (he : P.underlying e = some (.int .u8)) (hc : P.cellsOf e = 1) {v : Value} {d : DataW H} {p : List MemPlace} {b : Nat}
  (hok : Value.okWide P W .any b t v) (h : DataW.Trod enc P W 0 (fun _ => true) true t v d p) : ∃ l : List Int, Bs W v l ∧ Rng l ∧ l.length ≤ Rows.uptoBulk d := by
 obtain ⟨a0, len, cap, rfl⟩ := okWide_slice ht hok
 obtain ⟨fuel, hf⟩ := h
 rcases open_ints ht he hc hf with ⟨hcs, hx⟩ | ⟨a, len', cap', zs, hcs, _, hl, _, hz, hx, hcell, hw⟩
 ·simp [Value.cells] at hcs
  obtain ⟨rfl, rfl, rfl⟩ := hcs
  exact ⟨[], Bs.nil W, fun x hx => by simp at hx, Nat.zero_le _⟩
 ·simp [Value.cells] at hcs
  obtain ⟨rfl, rfl, rfl⟩ := hcs
  simp only [if_true] at hz
  simp only [Prod.mk.injEq] at hx
  obtain ⟨rfl, _⟩ := hx
  have hlen : (zs.take len).length = len := by rw [List.length_take]; omega
  refine ⟨zs.take len, ⟨some a, cap, by rw [hlen], ⟨by omega, fun e => by cases e⟩, fun hl0 => ?_⟩, rng_of_wf fun n hn => hw n (List.mem_of_mem_take hn), ?_⟩
  ·rw [hlen] at hl0
   have h0 := hcell 0 (by omega)
   have hsp := World.cell?_spot h0
   have hlt := World.block_lt_of_cell? _ _ h0
   obtain ⟨ab, ao, asp⟩ := a
   have hsp' : asp = none := by simpa [Addr.add] using hsp
   subst hsp'
   refine ⟨ab, ao, rfl, by simpa [Addr.add] using hlt, fun i hi => ?_⟩
   rw [hlen] at hi
   have h1 := hcell i (by omega)
   rw [add_plain] at h1
   rw [h1, List.getElem?_take_of_lt hi]
   simp [List.getD]
  ·rw [hlen]
   simp only [Rows.uptoBulk, bulk_lits, List.length_take]
   omega
end
section
variable {H : Type} {enc : TypeId × Value → H} {P : Program} {w : World} {base : Nat} {spare : Nat → Bool} {held : Bool}
end
theorem str_bytes (s : ByteArray) : ∃ l : List Int, s = str l ∧ Rng l ∧ l.length = s.size := by
  refine ⟨s.data.toList.map fun c => (c.toNat : Int), ?_, ?_, by simp⟩
  · obtain ⟨⟨a⟩⟩ := s
    simp only [str, List.map_map, ByteArray.mk.injEq]
    congr 1
    refine (List.map_id a).symm.trans ?_
    apply List.map_congr_left
    intro c _
    simp
  · intro x hx
    simp only [List.mem_map] at hx
    obtain ⟨c, _, rfl⟩ := hx
    have := c.toNat_lt
    omega
theorem own : ownKnob Tryd.prog.godebug = none := by kernel_rfl
theorem laidOut : laidOutB Tryd.prog = true := by kernel_rfl
theorem gTab : Tryd.prog.globalNamed "touchmark/sha.constants" = some 1 := by kernel_rfl
theorem gTabType : (Tryd.prog.globals[1]?).map (·.type) = some 160 := by kernel_rfl
theorem cells65 : Tryd.prog.cellsOf 160 = 64 := by kernel_rfl
theorem cells49 : Tryd.prog.cellsOf 97 = 1 := by kernel_rfl
theorem cells5 : Tryd.prog.cellsOf 5 = 1 := by kernel_rfl
section
variable {H : Type} {enc : TypeId × Value → H} {W : World}
/-- a row of the law's entries -/
def RfS (w : World) (v : Value) (l : List (List Int × Int)) : Prop :=
 ∃ a c, v = .slice a l.length c ∧ ∀ (i : Nat) (x : List Int × Int), l[i]? = some x → ∃ g o, a = some ⟨g, o, none⟩ ∧ g < w.heap.size ∧ w.cell? ⟨g, o + i * 2, none⟩ = some (.string (str x.1)) ∧ w.cell? ⟨g, o + (i * 2 + 1), none⟩ = some (.int .i64 x.2)
theorem RfS.below {w w' : World} {v : Value} {l : List (List Int × Int)} (h : RfS w v l) (hb : Below w.heap.size w w') : RfS w' v l := by
 obtain ⟨a, c, e, h⟩ := h
 refine ⟨a, c, e, fun i x hx => ?_⟩
 obtain ⟨g, o, e1, e2, e3, e4⟩ := h i x hx
 exact ⟨g, o, e1, Nat.lt_of_lt_of_le e2 hb.size, (World.cell?_of_block (a := ⟨g, o + i * 2, none⟩) (hb.block g e2)).trans e3, (World.cell?_of_block (a := ⟨g, o + (i * 2 + 1), none⟩) (hb.block g e2)).trans e4⟩
set_option maxRecDepth 100000 in
theorem rng_of_trod {v : Value} {d : DataW H} {p : List MemPlace} {b : Nat}
  (hok : Value.okWide Tryd.prog W .any b 24 v) (h : DataW.Trod enc Tryd.prog W 0 (fun _ => true) true 24 v d p) (hbd : Rows.uptoBulk d ≤ 1048576) :
  ∃ fr to e, v = .agg #[.string (str fr), .string (str to), .bool e] ∧ Rng fr ∧ Rng to ∧ fr.length ≤ 1048576 ∧ to.length ≤ 1048576 := by
 obtain ⟨cs, rfl, hsz⟩ := okWide_struct Tryd.underlying24 hok
 obtain ⟨fuel, hf⟩ := h
 obtain ⟨ys, n, -, hy, hl, hlen, hfd⟩ := DataW.trod_struct Tryd.underlying24 hf
 simp only [Prod.mk.injEq] at hy
 have hc : Tryd.prog.cellsOf 24 = 3 := by kernel_rfl
 rw [hc] at hsz
 obtain ⟨l⟩ := cs
 match l, hsz with
 | [x0, x1, x2], _ =>
  have k0 : Tryd.prog.cellsOf 9 = 1 := by kernel_rfl
  have k1 : Tryd.prog.cellsOf 4 = 1 := by kernel_rfl
  have hlen3 : ys.length = 3 := hlen
  match ys, hlen3 with
  | [y0, y1, y2], _ =>
   have t0 : DataW.trod enc Tryd.prog W 0 (fun _ => true) true n 9 ((List.drop 0 [x0, x1, x2]).take (Tryd.prog.cellsOf 9)) = some y0 := hfd 0 _ rfl
   have t1 : DataW.trod enc Tryd.prog W 0 (fun _ => true) true n 9 ((List.drop 1 [x0, x1, x2]).take (Tryd.prog.cellsOf 9)) = some y1 := hfd 1 _ rfl
   have t2 : DataW.trod enc Tryd.prog W 0 (fun _ => true) true n 4 ((List.drop 2 [x0, x1, x2]).take (Tryd.prog.cellsOf 4)) = some y2 := hfd 2 _ rfl
   rw [k0] at t0 t1
   rw [k1] at t2
   obtain ⟨s0, g0, e0, w0⟩ := DataW.trod_string Tryd.underlying9 t0
   obtain ⟨s1, g1, e1, w1⟩ := DataW.trod_string Tryd.underlying9 t1
   obtain ⟨b2, g2, e2⟩ := DataW.trod_bool Tryd.underlying4 t2
   obtain ⟨l0, rfl, r0, q0⟩ := str_bytes s0
   obtain ⟨l1, rfl, r1, q1⟩ := str_bytes s1
   simp at g0 g1 g2
   subst g0 g1 g2
   refine ⟨l0, l1, b2, rfl, r0, r1, ?_⟩
   have z0 : (str l0).data.toList.length = l0.length := by simp [str]
   have z1 : (str l1).data.toList.length = l1.length := by simp [str]
   obtain ⟨hy1, -⟩ := hy
   rw [hy1] at hbd
   subst e0 e1 e2
   simp only [List.map_cons, List.map_nil, Rows.uptoBulk, Rows.uptoBulkAll] at hbd
   omega
end
/-- a world for the witness: the settled one, the table holding what its initialiser lays -/
noncomputable def laidWorld (os : Os) : World :=
 { World.holding Tryd.prog os ⟨#[], #[], []⟩ with heap := (World.holding Tryd.prog os ⟨#[], #[], []⟩).heap.modify 1 fun
   | .cells _ t frozen => .cells (Kt.map (Value.int .u32)).toArray t frozen
   | o => o }
end Go.Proofs.YtbmlkocpjboodaaDoor
namespace Go.Proofs.YtbmlkocpjboodaaDoor
open Go.ChangeShapes Go.WideShapes Go.ChangeAt Go.RowKit Go.Deep
open Go.Lib (hid)
section
variable {H : Type} {enc : TypeId × Value → H} {W : World}
theorem rng1_of_wf {n : Int} (h : (Lit.int .u8 n).wf = true) : 0 ≤ n ∧ n < 256 := rng_of_wf (l := [n]) (fun m hm => by rcases List.mem_singleton.1 hm with rfl; exact h) n List.mem_cons_self
set_option maxRecDepth 100000 in
theorem dig_of_trod {v : Value} {d : DataW H} {p : List MemPlace} {b : Nat}
  (hok : Value.okWide Tryd.prog W .any b 35 v) (h : DataW.Trod enc Tryd.prog W 0 (fun _ => true) true 35 v d p) : ∃ a : List Int, v = .agg (ArrU8 a) ∧ Rng a ∧ a.length = 32 := by
 obtain ⟨cs, rfl⟩ : ∃ cs, v = .agg cs := by
  have h2 := hok
  simp only [Value.okWide, Tryd.underlying35] at h2
  obtain ⟨cs, h1, h2, _⟩ := h2
  exact ⟨cs, h1⟩
 obtain ⟨fuel, hf⟩ := h
 obtain ⟨xs, m, -, -, hl, hxl, hi⟩ := DataW.trod_array Tryd.underlying35 hf
 have k1 : Tryd.prog.cellsOf 35 = 32 := by kernel_rfl
 rw [k1] at hl
 have hx : ∀ i, i < 32 → ∃ n : Int, (0 ≤ n ∧ n < 256) ∧ cs[i]? = some (.int .u8 n) := by
  intro i hi32
  have h3 := hi i hi32
  rw [cells5, Nat.mul_one] at h3
  have hil : i < cs.toList.length := by have : cs.toList.length = 32 := hl; omega
  rw [show (Value.agg cs).cells.toList = cs.toList from rfl, List.drop_eq_getElem_cons hil, List.take_succ_cons, List.take_zero] at h3
  cases hx : xs[i]? with
  | none => rw [hx] at h3; cases hh : DataW.trod enc Tryd.prog W 0 (fun _ => true) true m 5 [cs.toList[i]] with
   | none => exact absurd (List.getElem?_eq_none_iff.1 hx) (by rw [hxl]; omega)
   | some y => rw [hh] at h3; cases h3
  | some y =>
   rw [hx] at h3
   obtain ⟨n1, g1, -, w1⟩ := DataW.trod_int Tryd.underlying5 h3
   simp only [List.cons.injEq, and_true] at g1
   refine ⟨n1, rng1_of_wf w1, ?_⟩
   rw [← Array.getElem?_toList, List.getElem?_eq_getElem hil, g1]
 obtain ⟨f, hf⟩ : ∃ f : Nat → Int, ∀ i, i < 32 → (0 ≤ f i ∧ f i < 256) ∧ cs[i]? = some (.int .u8 (f i)) :=
  ⟨fun i => if h : i < 32 then Classical.choose (hx i h) else 0, fun i h => by simp only [dif_pos h]; exact Classical.choose_spec (hx i h)⟩
 refine ⟨(List.range 32).map f, ?_, fun y hy => ?_, by simp⟩
 ·congr 1
  apply Array.ext_getElem?
  intro i
  unfold ArrU8
  rw [show ((List.map (Value.int .u8) (List.map f (List.range 32))).toArray)[i]? = ((List.range 32)[i]?.map f).map (Value.int .u8) by rw [List.getElem?_toArray, List.getElem?_map, List.getElem?_map]]
  by_cases h : i < 32
  ·rw [(hf i h).2, List.getElem?_range h]
   rfl
  ·rw [Array.getElem?_eq_none (by have : cs.toList.length = 32 := hl; rw [Array.length_toList] at this; omega), List.getElem?_eq_none (by simp; omega)]
   rfl
 ·obtain ⟨i, hi, rfl⟩ := List.mem_map.1 hy
  exact (hf i (List.mem_range.1 hi)).1
end
end Go.Proofs.YtbmlkocpjboodaaDoor
/- stage 7, plain: what a clash tells, a proof's bytes -/
namespace Go.Proofs.YtbmlkocpjboodaaDoor
open Go.RowKit
open Go.Lib (hid)
end Go.Proofs.YtbmlkocpjboodaaDoor
/- stage 7: MerkleClash -/
namespace Go.Proofs.YtbmlkocpjboodaaDoor
open Go.RowKit
open Go.Lib (hid)
set_option maxRecDepth 100000 in
theorem exec_neq_32 {ρ : Operand → Value} {o : Oper} {w : World} (x y : Operand) (U : TypeId) (ho : o.op = .binOp .neq 35 x y U) (xs ys : List Int) (hx : ρ x = .agg (ArrU8 xs)) (hy : ρ y = .agg (ArrU8 ys)) (lx : xs.length = 32) (ly : ys.length = 32) (b : Bool) (hb : (!decide (xs = ys)) = b) :
  (execOp ρ o).run Tryd.prog w = .ok (.value (.bool b)) w := by
 obtain ⟨i, hi⟩ := info_u8
 have h := run_neq_bytes w 35 5 32 i Tryd.underlying35 hi Tryd.underlying5 (by kernel_rfl) (by kernel_rfl) xs ys lx ly
 unfold execOp
 rw [ho]
 simp only [hx, hy]
 show ((binOp .neq 35 (.agg (ArrU8 xs)) (.agg (ArrU8 ys))) >>= fun v => pure (Next.value v) : Sem Next).run Tryd.prog w = _
 simp only [Sem.run_bind, h, Result.andThen_ok, hb, Sem.run_pure]
end Go.Proofs.YtbmlkocpjboodaaDoor
/- stage 7, plain: trees in order -/
namespace Go.Proofs.YtbmlkocpjboodaaDoor
open Go.RowKit
open Go.Lib (hid)
/-- the entries of a tree's nodes, in order -/
def MT.ino : MT → List (List Int × Nat)
 | .nil => []
 | .cut _ => []
 | .nd k n _ _ l r => l.ino ++ (k, n) :: r.ino
/-- strictly rising keys -/
def Asc (l : List (List Int × Nat)) : Prop := l.Pairwise (fun x y => cmpI x.1 y.1 < 0)
theorem cmp_flip (a b : List Int) : cmpI b a = - cmpI a b := cmpI_anti a b
theorem cmp_tri (a b : List Int) : cmpI a b < 0 ∨ a = b ∨ cmpI b a < 0 := by
 rcases cmpI_rng a b with h | h | h
 ·exact .inl (by omega)
 ·exact .inr (.inl ((cmpI_zero a b).1 h))
 ·exact .inr (.inr (by rw [cmp_flip a b]; omega))
theorem cmp_irr (a : List Int) : ¬ cmpI a a < 0 := by rw [cmpI_same]; omega
/-- those ahead of a key, those behind it -/
def lo (k : List Int) (l : List (List Int × Nat)) : List (List Int × Nat) := l.filter (fun x => decide (cmpI x.1 k < 0))
def up (k : List Int) (l : List (List Int × Nat)) : List (List Int × Nat) := l.filter (fun x => decide (cmpI k x.1 < 0))
/-- each node's rank is that of its key -/
def MT.Rkd : MT → Prop
 | .nd k _ rk _ l r => rk = rnk k ∧ l.Rkd ∧ r.Rkd
 | _ => True
/-- what visit makes of a state, where enter always goes on -/
theorem visit_ino {σ : Type} (me : σ → List Int → Nat → σ) : ∀ (t : MT) (lo hi : Option (List Int)) (s : σ), visitM (fun s _ _ _ => (s, true)) me t lo hi s = t.ino.foldl (fun s x => me s x.1 x.2) s
 | .nil, _, _, _ => rfl
 | .cut _, _, _, _ => rfl
 | .nd k n rk d l r, lo, hi, s => by
  simp only [visitM, MT.ino, List.foldl_append, List.foldl_cons]
  rw [visit_ino me l, visit_ino me r]
  rfl
theorem ents_ino (fr to : List Int) (e : Bool) (t : MT) : t.ents fr to e = t.ino.filter (fun x => hasQ fr to e x.1) := by
 unfold MT.ents eachM
 rw [visit_ino]
 have h : ∀ (l s : List (List Int × Nat)), l.foldl (fun s x => enM fr to e s x.1 x.2) s = s ++ l.filter (fun x => hasQ fr to e x.1) := by
  intro l
  induction l with
  | nil => intro s; simp
  | cons x l ih =>
   intro s
   rw [List.foldl_cons, ih, List.filter_cons]
   unfold enM
   by_cases hq : hasQ fr to e x.1 = true
   ·rw [if_pos hq, if_pos hq]; simp
   ·rw [if_neg hq, if_neg hq]
 rw [h, List.nil_append]
def chn : Option (List Int) → List (List Int × Nat) → Bool
 | _, [] => true
 | o, x :: l => o.elim true (fun y => decide (cmpI y x.1 < 0)) && chn (some x.1) l
theorem asc_fold : ∀ (l : List (List Int × Nat)) (o : Option (List Int)) (b : Bool), (l.foldl (fun s x => asM s x.1 x.2) (o, b)).2 = (b && chn o l)
 | [], _, b => by simp [chn]
 | x :: l, o, b => by
  rw [List.foldl_cons]
  show (l.foldl (fun s x => asM s x.1 x.2) (some x.1, b && o.elim true (fun y => decide (cmpI y x.1 < 0)))).2 = _
  rw [asc_fold l, chn, Bool.and_assoc]
theorem chn_asc : ∀ (l : List (List Int × Nat)) (o : Option (List Int)), chn o l = true ↔ Asc l ∧ ∀ k, o = some k → ∀ x ∈ l, cmpI k x.1 < 0
 | [], o => by simp [chn, Asc]
 | x :: l, o => by
  have ih := chn_asc l (some x.1)
  rw [chn, Bool.and_eq_true, ih]
  unfold Asc
  rw [List.pairwise_cons]
  constructor
  ·rintro ⟨h1, h2, h3⟩
   refine ⟨⟨fun y hy => h3 x.1 rfl y hy, h2⟩, fun k hk y hy => ?_⟩
   subst hk
   have h4 : cmpI k x.1 < 0 := of_decide_eq_true h1
   rcases List.mem_cons.1 hy with rfl | hy
   ·exact h4
   ·exact cmpI_trans _ _ _ h4 (h3 x.1 rfl y hy)
  ·rintro ⟨⟨h1, h2⟩, h3⟩
   refine ⟨?_, h2, fun k hk y hy => ?_⟩
   ·cases o with
    | none => rfl
    | some k => exact decide_eq_true (h3 k rfl x List.mem_cons_self)
   ·injection hk with hk
    subst hk
    exact h1 y hy
theorem ascends_ino (t : MT) : t.ascends = true ↔ Asc t.ino := by
 unfold MT.ascends eachM
 rw [visit_ino, asc_fold, Bool.true_and, chn_asc]
 exact ⟨fun h => h.1, fun h => ⟨h, fun k hk => by cases hk⟩⟩
end Go.Proofs.YtbmlkocpjboodaaDoor
/- stage 7, plain: the tree of a list is one -/
namespace Go.Proofs.YtbmlkocpjboodaaDoor
open Go.RowKit
open Go.Lib (hid)
/-- is a key above another? -/
def abk (k k' : List Int) : Bool := abv k (rnk k) k' (rnk k')
/-- each node is above all below it -/
def MT.Heap : MT → Prop
 | .nd k _ _ _ l r => (∀ x ∈ l.ino, abk k x.1 = true) ∧ (∀ x ∈ r.ino, abk k x.1 = true) ∧ l.Heap ∧ r.Heap
 | _ => True
end Go.Proofs.YtbmlkocpjboodaaDoor
/- stage 7, plain: the tree that treeOf makes; the reference's root -/
namespace Go.Proofs.YtbmlkocpjboodaaDoor
open Go.RowKit
open Go.Lib (hid)
/-- nodes that wait, in order: each is above its left tree and all behind it -/
def StOk : List Wt → List (List Int × Nat) → Prop
 | [], _ => True
 | x :: s, b => x.rk = rnk x.k ∧ x.l.Full ∧ x.l.Rkd ∧ x.l.Heap ∧ (∀ y ∈ x.l.ino, abk x.k y.1 = true) ∧ (∀ y ∈ b, abk x.k y.1 = true) ∧ StOk s (x.l.ino ++ (x.k, x.n) :: b)
theorem StOk.put : ∀ {s : List Wt} {b b' : List (List Int × Nat)}, StOk s b → (∀ x ∈ s, ∀ y ∈ b', abk x.k y.1 = true) → StOk s (b ++ b')
 | [], _, _, _, _ => trivial
 | x :: s, b, b', h, hn => ⟨h.1, h.2.1, h.2.2.1, h.2.2.2.1, h.2.2.2.2.1, fun y hy => (List.mem_append.1 hy).elim (h.2.2.2.2.2.1 y) (hn x List.mem_cons_self y), by
   have h2 := StOk.put h.2.2.2.2.2.2 (fun z hz y hy => hn z (List.mem_cons_of_mem _ hz) y hy)
   simpa using h2⟩
end Go.Proofs.YtbmlkocpjboodaaDoor
/- stage 7, plain: the reference's top and root -/
namespace Go.Proofs.YtbmlkocpjboodaaDoor
open Go.RowKit
open Go.Lib (hid)
end Go.Proofs.YtbmlkocpjboodaaDoor
/- stage 7, plain: soundness -/
namespace Go.Proofs.YtbmlkocpjboodaaDoor
open Go.RowKit
open Go.Lib (hid)
end Go.Proofs.YtbmlkocpjboodaaDoor
/- stage 7: In of the reference; rows of its entries -/
namespace Go.Proofs.YtbmlkocpjboodaaDoor
open Go.RowKit
open Go.Lib (hid)
theorem less_str : ∀ (s t : List Int), Rng s → Rng t → Op.bytesLess (str s).toList (str t).toList = decide (cmpI s t = -1) := by
 have key : ∀ (s t : List Int), Rng s → Rng t → Op.bytesLess (s.map fun x => UInt8.ofNat x.toNat) (t.map fun x => UInt8.ofNat x.toNat) = decide (cmpI s t = -1) := by
  intro s
  induction s with
  | nil => intro t _ _; cases t <;> simp [Op.bytesLess, cmpI]
  | cons x s ih =>
   intro t hs ht
   cases t with
   | nil => simp [Op.bytesLess, cmpI]
   | cons y t =>
    have hx := hs x (by simp)
    have hy := ht y (by simp)
    have h1 : (UInt8.ofNat x.toNat < UInt8.ofNat y.toNat) ↔ x < y := by
     rw [UInt8.lt_iff_toNat_lt, UInt8.toNat_ofNat', UInt8.toNat_ofNat']; omega
    have h2 : (UInt8.ofNat x.toNat = UInt8.ofNat y.toNat) ↔ x = y := by
     rw [← UInt8.toNat_inj, UInt8.toNat_ofNat', UInt8.toNat_ofNat']; omega
    have ih2 := ih t (fun z hz => hs z (by simp [hz])) (fun z hz => ht z (by simp [hz]))
    simp only [List.map_cons, Op.bytesLess, cmpI, ih2]
    by_cases a : x < y
    ·simp [h1, a]
    ·by_cases b : x = y
     ·subst b; simp
     ·have c : y < x := by omega
      simp [h1, h2, a, b, c]
 intro s t hs ht
 rw [ByteArray.toList_eq, ByteArray.toList_eq]
 simpa [str] using key s t hs ht
theorem bl {s t : List Int} (hs : Rng s) (ht : Rng t) : Op.bytesLess (str s).toList (str t).toList = decide (cmpI s t < 0) := by
 rw [less_str s t hs ht]
 rcases cmpI_rng s t with h | h | h <;> rw [h] <;> rfl
set_option maxRecDepth 100000 in
set_option maxHeartbeats 8000000 in
theorem refIn_any (w : World) (k fr to : List Int) (e : Bool) (gk : Rng k) (gf : Rng fr) (gt : Rng to) :
  Calls Tryd.prog 43 #[.string (str k), .string (str fr), .string (str to), .bool e] w fun d w' => d = .returned (.bool (hasQ fr to e k)) ∧ w' = w := by
 have b1 := bl gk gf
 have b2 := bl gk gt
 have HQ := hid (show hasQ fr to e k = (decide (0 ≤ cmpI k fr) && !(e && decide (cmpI to k ≤ 0))) from rfl)
 have hf : cmpI to k = - cmpI k to := cmpI_anti k to
 generalize hasQ fr to e k = q at *
 by_cases c1 : cmpI k fr < 0
 ·rw [decide_eq_true c1] at b1
  have HA := hid (show q = false by rw [HQ.out, decide_eq_false (by omega)]; rfl)
  clear b2 c1 hf HQ
  go_enter Tryd.func43, Tryd.ntmps43
  go_wp2_with fail
  go_ret
  rw [HA.out]; exact ⟨rfl, rfl⟩
 ·rw [decide_eq_false c1] at b1
  cases e with
  | false =>
   have HA := hid (show q = true by rw [HQ.out, decide_eq_true (by omega)]; rfl)
   clear b2 c1 hf HQ
   go_enter Tryd.func43, Tryd.ntmps43
   go_wp2_with fail
   go_ret
   rw [HA.out]; exact ⟨rfl, rfl⟩
  | true =>
   by_cases c2 : cmpI k to < 0
   ·rw [decide_eq_true c2] at b2
    have HA := hid (show q = true by rw [HQ.out, decide_eq_true (by omega), decide_eq_false (by omega)]; rfl)
    clear c2 c1 hf HQ
    go_enter Tryd.func43, Tryd.ntmps43
    go_wp2_with fail
    go_ret
    rw [HA.out]; exact ⟨rfl, rfl⟩
   ·rw [decide_eq_false c2] at b2
    have HA := hid (show q = false by rw [HQ.out, decide_eq_true (by omega), decide_eq_true (by omega)]; rfl)
    clear c2 c1 hf HQ
    go_enter Tryd.func43, Tryd.ntmps43
    go_wp2_with fail
    go_ret
    rw [HA.out]; exact ⟨rfl, rfl⟩
/-- the cells of a row of the reference's entries -/
def rfL (l : List (List Int × Nat)) : List Value := l.flatMap fun x => [Value.string (str x.1), Value.int .i64 (x.2 : Int)]
theorem rfL_len (l : List (List Int × Nat)) : (rfL l).length = l.length * 2 := by
 induction l with
 | nil => rfl
 | cons x l ih => simp only [rfL, List.flatMap_cons, List.length_append, List.length_cons, List.length_nil] at ih ⊢; omega
theorem rfL_snoc (l : List (List Int × Nat)) (x : List Int × Nat) : rfL (l ++ [x]) = rfL l ++ [.string (str x.1), .int .i64 (x.2 : Int)] := by simp [rfL]
theorem rfL_get : ∀ (l : List (List Int × Nat)) (i : Nat) (x : List Int × Nat) (j : Nat), l[i]? = some x → j < 2 → (rfL l)[i * 2 + j]? = ([Value.string (str x.1), Value.int .i64 (x.2 : Int)] : List Value)[j]?
 | [], i, x, j, h, _ => by simp at h
 | y :: l, 0, x, j, h, hj => by
  injection h with h
  subst h
  show ([Value.string (str y.1), Value.int .i64 (y.2 : Int)] ++ rfL l)[0 * 2 + j]? = _
  rw [List.getElem?_append_left (by simp; omega), Nat.zero_mul, Nat.zero_add]
 | y :: l, i + 1, x, j, h, hj => by
  have ih := rfL_get l i x j (by simpa using h) hj
  show ([Value.string (str y.1), Value.int .i64 (y.2 : Int)] ++ rfL l)[(i + 1) * 2 + j]? = _
  rw [List.getElem?_append_right (by simp; omega)]
  rw [← ih]
  congr 1
  simp only [List.length_cons, List.length_nil]
  omega
/-- an own row of the reference's entries -/
def RfO (w : World) (B : Nat) (v : Value) (l : List (List Int × Nat)) : Prop := w.ownsRow B 45 2 v l.length (rfL l)
def toI (x : List Int × Nat) : List Int × Int := (x.1, (x.2 : Int))
theorem RfO.rfs {w : World} {B : Nat} {v : Value} {l : List (List Int × Nat)} (h : RfO w B v l) : RfS w v (l.map toI) := by
  obtain ⟨hl, ⟨rfl, hn⟩ | ⟨g, cap, cur, rfl, q1, q2, q3, q4, q5, q6⟩⟩ := h
  · refine ⟨none, 0, by rw [List.length_map, hn], fun i x hx => ?_⟩
    have := (List.getElem?_eq_some_iff.1 hx).1
    rw [List.length_map] at this
    omega
  · refine ⟨some ⟨g, 0, none⟩, cap, by rw [List.length_map], fun i x hx => ?_⟩
    rw [List.getElem?_map, Option.map_eq_some_iff] at hx
    obtain ⟨y, hy, rfl⟩ := hx
    have hi := (List.getElem?_eq_some_iff.1 hy).1
    have hc : ∀ j, j < 2 → w.cell? ⟨g, 0 + (i * 2 + j), none⟩ = ([Value.string (str y.1), Value.int .i64 (y.2 : Int)] : List Value)[j]? := fun j hj => by
      rw [cell_of_row _ _ _ _ _ _ q2, Nat.zero_add, ← Array.getElem?_toList, ← rfL_get l i y j hy hj, ← q6, List.getElem?_take, if_pos (by omega)]
    exact ⟨g, 0, rfl, blk_lt q2, hc 0 (by omega), hc 1 (by omega)⟩
theorem RfO.nil (w : World) (B : Nat) : RfO w B (.slice none 0 0) [] := World.ownsRow_nil _ _ _ _
theorem RfO.below {w w' : World} {B : Nat} {v : Value} {l : List (List Int × Nat)} (h : RfO w B v l) (hb : Below w.heap.size w w') : RfO w' B v l := by
 have hg : w.grownBy w' none := ⟨hb.os, hb.tape, hb.output, hb.size, fun k hk _ => hb.block k hk⟩
 refine World.ownsRow.kept h hg ?_
 cases hv : v.ownBlock with
 | none => exact .inl rfl
 | some g => exact .inr (by simp)
theorem RfO.base {w : World} {B B' : Nat} {v : Value} {l : List (List Int × Nat)} (h : RfO w B' v l) (hB : B ≤ B') : RfO w B v l :=
 ⟨h.1, h.2.imp id (fun ⟨g, cap, cur, a, b, c⟩ => ⟨g, cap, cur, a, Nat.le_trans hB b, c⟩)⟩
theorem RfO.slc {w : World} {B : Nat} {v : Value} {l : List (List Int × Nat)} (h : RfO w B v l) : ∃ a c, v = .slice a l.length c := ownsRow_slc h
theorem infoRe : ∃ i, Tryd.prog.info? 45 = some i ∧ (∃ z : Value, i.zero = some z ∧ z = .agg #[.string ⟨#[]⟩, .int .i64 0]) ∧ i.size = 2 ∧ i.bytes ≤ 64 := by
 have h : (Tryd.prog.info? 45).map (fun i => (i.zero, i.size, decide (i.bytes ≤ 64))) = some (some (.agg #[.string ⟨#[]⟩, .int .i64 0]), 2, true) := by kernel_rfl
 cases hi : Tryd.prog.info? 45 with
 | none => rw [hi] at h; cases h
 | some i =>
  rw [hi] at h
  simp only [Option.map_some, Option.some.injEq, Prod.mk.injEq] at h
  exact ⟨i, rfl, ⟨_, h.1, rfl⟩, h.2.1, of_decide_eq_true h.2.2⟩
theorem RfO.app {w : World} {B : Nat} {v : Value} {l : List (List Int × Nat)} (h : RfO w B v l) (hb : B ≤ w.heap.size) (b : Nat) (k : List Int) (n : Nat) (hx : w.heap[b]? = some (.cells #[.string (str k), .int .i64 (n : Int)] 45 (0, 0))) (hn : l.length ≤ 1073741824) (ty : TypeId) :
  ∃ v' w', (Builtin.append_ #[22, 22] ty #[v, .slice (some ⟨b, 0, none⟩) 1 1]).run Tryd.prog w = .ok v' w' ∧ RfO w' B v' (l ++ [(k, n)]) ∧ Chg (fun g => v.ownBlock = some g) w w' ∧ OwnTo w v v' := by
 obtain ⟨i, hi, ⟨z, hz, rfl⟩, hs, hby⟩ := infoRe
 obtain ⟨v', w', r1, r2, r3, -, r5⟩ := run_append_own_at (P := Tryd.prog) w B 22 ty 45 i _ 2 i.bytes Tryd.underlying22 hi hz hs rfl rfl (by decide) v l.length (rfL l) h ⟨b, 0, none⟩ 1 1 [.string (str k), .int .i64 (n : Int)] rfl (by
  intro j u hj
  rw [Addr.add_mid, cell_of_row _ b _ _ _ _ hx]
  rw [Nat.zero_add]
  simpa using hj) (by intro u hu; simp only [List.mem_cons, List.not_mem_nil, or_false] at hu; rcases hu with rfl | rfl <;> rfl) (by unfold maxLen; omega) (by
  have : (l.length + 1) * i.bytes ≤ (l.length + 1) * 64 := Nat.mul_le_mul_left _ hby
  omega) hb
 refine ⟨v', w', r1, by unfold RfO; rw [List.length_append, rfL_snoc]; exact r2, Chg.grown r3 (fun k hk => hk), fun g hg => ?_⟩
 rcases r5 with h5 | h5
 ·exact .inl (by rw [← h5]; exact hg)
 ·rw [h5] at hg; injection hg with hg; exact .inr (by omega)
theorem RfO.lt {w : World} {B : Nat} {v : Value} {l : List (List Int × Nat)} (h : RfO w B v l) : ∀ g, v.ownBlock = some g → B ≤ g ∧ g < w.heap.size := World.ownsRow.lt h
theorem wpList_append_re {ops : Array Oper} {rest : List Oper} {o : Oper} {a : Act} {w : World} {Q : Exit → Act → World → Prop} (hgd : o.guard = none) (s x : Operand)
  (ho : o.op = .call { callee := .builtin .append, args := #[s, x], argTypes := #[22, 22] }) (B : Nat) (v : Value) (l : List (List Int × Nat)) (hs : a.eval s = v) (hown : RfO w B v l) (b : Nat) (k : List Int) (n : Nat) (hx : a.eval x = .slice (some ⟨b, 0, none⟩) 1 1) (hxb : w.heap[b]? = some (.cells #[.string (str k), .int .i64 (n : Int)] 45 (0, 0))) (hn : l.length ≤ 1073741824) (hbase : B ≤ w.heap.size)
  (h : ∀ a' c' w', RfO w' B (.slice a' (l.length + 1) c') (l ++ [(k, n)]) → Below B w w' → wpList Tryd.prog ops Q rest (a.put o.dst (.slice a' (l.length + 1) c')) w') : wpList Tryd.prog ops Q (o :: rest) a w := by
 obtain ⟨v', w', h1, h2, h3, h4⟩ := hown.app hbase b k n hxb hn o.type
 obtain ⟨a', c', rfl⟩ := h2.slc
 rw [List.length_append, List.length_cons, List.length_nil, Nat.zero_add] at *
 refine wpList_plain hgd fun K hK => ?_
 unfold Oper.wp
 simp [execOp, ho, resolve, invoke, builtin, hs, hx, h1, Result.andThen]
 exact hK _ _ (h a' c' w' h2 (h3.below (fun q hq => (hown.lt q hq).1) hbase))
end Go.Proofs.YtbmlkocpjboodaaDoor
/- stage 7: Set of the reference -/
namespace Go.Proofs.YtbmlkocpjboodaaDoor
open Go.RowKit
open Go.Lib (hid)
end Go.Proofs.YtbmlkocpjboodaaDoor
/- stage 7: the law's in, back; Same of the reference -/
namespace Go.Proofs.YtbmlkocpjboodaaDoor
open Go.RowKit
open Go.Lib (hid)
theorem step_append_re {ops : Array Oper} {o : Oper} {a : Act} {w : World} {K : Act → World → Prop} {Q : Exit → Act → World → Prop} {E : Prop}
  (hg : o.guard = none) (s x : Operand) (hop : o.op = Op.call { callee := Callee.builtin Builtin.append, args := #[s, x], argTypes := #[22, 22] })
  (v v2 : Value) (hs : a.eval s = v) (hx : a.eval x = v2) {v' : Value} {w' : World} (h1 : (Builtin.append_ #[22, 22] o.type #[v, v2]).run Tryd.prog w = .ok v' w') (hK : K (a.put o.dst v') w') :
  if Region.wanted o (yielded ops a.tmps) = true then Oper.wp Tryd.prog o a w K Q else E := by
 have hw : Region.wanted o (yielded ops a.tmps) = true := by simp [Region.wanted, hg]
 rw [if_pos hw]
 unfold Oper.wp
 simp [execOp, hop, resolve, invoke, builtin, hs, hx, h1, Result.andThen]
 exact hK
theorem enL_get : ∀ (l : List (Value × Nat)) (i : Nat) (x : Value × Nat) (j : Nat), l[i]? = some x → j < 2 → (enL l)[i * 2 + j]? = ([x.1, Value.int .i64 (x.2 : Int)] : List Value)[j]?
 | [], i, x, j, h, _ => by simp at h
 | y :: l, 0, x, j, h, hj => by
  injection h with h
  subst h
  show ([y.1, Value.int .i64 (y.2 : Int)] ++ enL l)[0 * 2 + j]? = _
  rw [List.getElem?_append_left (by simp; omega), Nat.zero_mul, Nat.zero_add]
 | y :: l, i + 1, x, j, h, hj => by
  have ih := enL_get l i x j (by simpa using h) hj
  show ([y.1, Value.int .i64 (y.2 : Int)] ++ enL l)[(i + 1) * 2 + j]? = _
  rw [List.getElem?_append_right (by simp; omega)]
  rw [← ih]
  congr 1
  simp only [List.length_cons, List.length_nil]
  omega
/-- a made list of entries is read -/
theorem EnN.ens {w w' : World} {v : Value} {es : List (List Int × Nat)} (h : EnN w w' v es) : EnS w' v es := by
 obtain ⟨K, ⟨xs, h1, h2, h3, h4⟩, hK⟩ := h
 obtain ⟨e1, ⟨rfl, hn⟩ | ⟨g, cap, cur, rfl, q1, q2, q3, q4, q5, q6⟩⟩ := h2
 ·exact ⟨none, 0, by rw [hn], fun i x hx => by have := (List.getElem?_eq_some_iff.1 hx).1; omega⟩
 ·refine ⟨some ⟨g, 0, none⟩, cap, rfl, fun i x hx => ?_⟩
  have hi := (List.getElem?_eq_some_iff.1 hx).1
  have hy : xs[i]? = some (xs[i]'(by omega)) := List.getElem?_eq_getElem (by omega)
  generalize xs[i]'(by omega) = y at hy
  obtain ⟨k1, k2⟩ := h4 i y x hy hx
  have hc : ∀ j, j < 2 → w'.cell? ⟨g, i * 2 + j, none⟩ = ([y.1, Value.int .i64 (y.2 : Int)] : List Value)[j]? := fun j hj => by
   rw [cell_of_row _ _ _ _ _ _ q2, ← Array.getElem?_toList, ← enL_get xs i y j hy hj, ← q6, List.getElem?_take, if_pos (by omega)]
  refine ⟨g, y.1, rfl, blk_lt q2, hc 0 (by omega), ?_, k2.1⟩
  rw [← k1]
  exact hc 1 (by omega)
set_option maxRecDepth 100000 in
set_option maxHeartbeats 8000000 in
theorem back_any (w : World) (v : Value) (es : List (List Int × Nat)) (hv : EnS w v es) (hn : es.length ≤ 1048576) :
  Calls Tryd.prog 18 #[v] w fun d w' => ∃ v', d = .returned v' ∧ RfO w' w.heap.size v' es ∧ Below w.heap.size w w' := by
 have HV := hid hv
 obtain ⟨av, cv, rfl, -⟩ := hv
 go_enter Tryd.func18, Tryd.ntmps18
 go_wp2_with fail
 go_loopw [3, 4] (fun ov iv wr => ∃ (j : Nat), j ≤ es.length ∧ RfO wr w.heap.size ov (es.take j) ∧ iv = .int .i64 (j : Int) ∧ Below w.heap.size w wr) (fun _ iv _ => es.length - (intOf iv).toNat)
 case atStart => exact ⟨0, Nat.zero_le _, ⟨rfl, .inr ⟨w.heap.size, 0, #[], rfl, Nat.le_refl _, heap_alloc_new _ _, Nat.le_refl _, Nat.zero_le _, rfl, rfl⟩⟩, rfl, (Below.refl _ _).alloc (Nat.le_refl _) _⟩
 case round =>
  obtain ⟨j, hj, hro, rfl, hbw⟩ := hrel
  obtain ⟨ao, co, rfl⟩ := hro.slc
  have htl : (es.take j).length = j := by rw [List.length_take]; omega
  rw [htl]
  by_cases hjl : j < es.length
  ·have hx : es[j]? = some (es[j]'hjl) := List.getElem?_eq_getElem hjl
   have hts : es.take (j + 1) = es.take j ++ [es[j]'hjl] := by rw [List.take_add_one, hx]; rfl
   generalize es[j]'hjl = x at hx hts
   obtain ⟨a', c', he, hall⟩ := HV.out
   injection he with e1 e0 e2
   clear e0
   subst e1 e2
   obtain ⟨g, kv, hag, hgl, hc0, hc1, hk⟩ := hall j x hx
   subst hag
   obtain ⟨ak, ck, rfl⟩ := (show ∃ a c, kv = .slice a x.1.length c from by obtain ⟨a, c, e, -⟩ := hk; exact ⟨a, c, e⟩)
   have c0 : wr.cell? ⟨g, j * 2, none⟩ = some (.slice ak x.1.length ck) := (World.cell?_of_block (a := ⟨g, j * 2, none⟩) (hbw.block g hgl)).trans hc0
   have c1 : wr.cell? ⟨g, j * 2 + 1, none⟩ = some (.int .i64 (x.2 : Int)) := (World.cell?_of_block (a := ⟨g, j * 2 + 1, none⟩) (hbw.block g hgl)).trans hc1
   have hj0 : (0 : Int) ≤ (j : Int) := by omega
   have hj1 : (j : Int) < (es.length : Int) := by omega
   have HCV := hid (fun u (hu : Below w.heap.size w u) => conv_bs u ak x.1.length ck x.1 (hk.below hu))
   have HC := hid (fun u (hu : Below w.heap.size w u) => (show u.cell? ⟨g, j * 2, none⟩ = some (.slice ak x.1.length ck) ∧ u.cell? ⟨g, j * 2 + 1, none⟩ = some (.int .i64 (x.2 : Int)) from ⟨(World.cell?_of_block (a := ⟨g, j * 2, none⟩) (hu.block g hgl)).trans hc0, (World.cell?_of_block (a := ⟨g, j * 2 + 1, none⟩) (hu.block g hgl)).trans hc1⟩))
   clear c0 c1
   have hb := hbw.drew
   have HX := hid (And.intro hjl (And.intro hro (And.intro hbw (And.intro hts htl))))
   have HTL := hid htl
   rw [htl] at HX hro
   have HXD := hid (show RfO wr.drew w.heap.size (.slice ao j co) (es.take j) from hro)
   clear hro hbw hx hts hall hc0 hc1 hk hjl hgl hj htl
   go_wp2_with fail
   refine wp_region_held_drew (S := fun u => Below w.heap.size w u) (by kernel_rfl) (hb) (fun hHeld => ?_)
   refine tk (i := 0) (oi := ⟨some 12, .move (.tmp 3), 22, "law.go:38", #[], none⟩) (v := ?_) (Or.inl ⟨by rfl, ?_⟩) ?_
   rotate_left 1
   ·(intro u hSw; go_simp; try with_reducible rfl)
   try simp only [Act.put, sA, sB, sC]
   refine tk (i := 1) (oi := ⟨some 13, .move (.tmp 0), 26, "law.go:38", #[], none⟩) (v := ?_) (Or.inl ⟨by rfl, ?_⟩) ?_
   rotate_left 1
   ·(intro u hSw; go_simp; try with_reducible rfl)
   try simp only [Act.put, sA, sB, sC]
   refine tk (i := 2) (oi := ⟨some 14, .move (.tmp 4), 3, "law.go:38", #[], none⟩) (v := ?_) (Or.inl ⟨by rfl, ?_⟩) ?_
   rotate_left 1
   ·(intro u hSw; go_simp; try with_reducible rfl)
   try simp only [Act.put, sA, sB, sC]
   refine tk (i := 3) (oi := ⟨some 15, .indexAddr 26 (.tmp 13) (.tmp 14), 0, "law.go:38", #[⟨1, .data⟩, ⟨2, .data⟩], none⟩) (v := ?_) (Or.inl ⟨by rfl, ?_⟩) ?_
   rotate_left 1
   ·(intro u hSw; go_simp; try with_reducible rfl)
   try simp only [Act.put, sA, sB, sC]
   refine tk (i := 4) (oi := ⟨some 16, .fieldAddr 33 (.tmp 15) 0, 0, "law.go:38", #[⟨3, .data⟩], none⟩) (v := ?_) (Or.inl ⟨by rfl, ?_⟩) ?_
   rotate_left 1
   ·(intro u hSw; go_simp; try with_reducible rfl)
   try simp only [Act.put, sA, sB, sC]
   refine tk (i := 5) (oi := ⟨some 17, .load 31 (.tmp 16), 31, "law.go:38", #[⟨4, .data⟩], none⟩) (v := ?_) (Or.inl ⟨by rfl, ?_⟩) ?_
   rotate_left 1
   ·(intro u hSw; have y0 := (HC.out _ hSw).1; have y1 := (HC.out _ hSw).2; go_simp; try with_reducible rfl)
   try simp only [Act.put, sA, sB, sC]
   refine tk (i := 6) (oi := ⟨some 18, .convert 31 9 (.tmp 17), 9, "law.go:38", #[⟨5, .data⟩], none⟩) (v := .string (str x.1)) (Or.inl ⟨by rfl, ?_⟩) ?_
   ·intro u hSw
    exact exec_convP 31 9 (Operand.tmp 17) rfl _ rfl _ (HCV.out _ hSw)
   try simp only [Act.put, sA, sB, sC]
   refine tk (i := 7) (oi := ⟨some 19, .move (.tmp 0), 26, "law.go:38", #[], none⟩) (v := ?_) (Or.inl ⟨by rfl, ?_⟩) ?_
   rotate_left 1
   ·(intro u hSw; go_simp; try with_reducible rfl)
   try simp only [Act.put, sA, sB, sC]
   refine tk (i := 8) (oi := ⟨some 20, .move (.tmp 4), 3, "law.go:38", #[], none⟩) (v := ?_) (Or.inl ⟨by rfl, ?_⟩) ?_
   rotate_left 1
   ·(intro u hSw; go_simp; try with_reducible rfl)
   try simp only [Act.put, sA, sB, sC]
   refine tk (i := 9) (oi := ⟨some 21, .indexAddr 26 (.tmp 19) (.tmp 20), 0, "law.go:38", #[⟨7, .data⟩, ⟨8, .data⟩], none⟩) (v := ?_) (Or.inl ⟨by rfl, ?_⟩) ?_
   rotate_left 1
   ·(intro u hSw; go_simp; try with_reducible rfl)
   try simp only [Act.put, sA, sB, sC]
   refine tk (i := 10) (oi := ⟨some 22, .fieldAddr 33 (.tmp 21) 1, 0, "law.go:38", #[⟨9, .data⟩], none⟩) (v := ?_) (Or.inl ⟨by rfl, ?_⟩) ?_
   rotate_left 1
   ·(intro u hSw; go_simp; try with_reducible rfl)
   try simp only [Act.put, sA, sB, sC]
   refine tk (i := 11) (oi := ⟨some 23, .load 2 (.tmp 22), 2, "law.go:38", #[⟨10, .data⟩], none⟩) (v := ?_) (Or.inl ⟨by rfl, ?_⟩) ?_
   rotate_left 1
   ·(intro u hSw; have y0 := (HC.out _ hSw).1; have y1 := (HC.out _ hSw).2; go_simp; try with_reducible rfl)
   try simp only [Act.put, sA, sB, sC]
   refine tk (i := 12) (oi := ⟨some 24, .build 45 #[(0, .tmp 18), (1, .tmp 23)], 45, "law.go:38", #[⟨6, .data⟩, ⟨11, .data⟩], none⟩) (v := ?_) (Or.inl ⟨by rfl, ?_⟩) ?_
   rotate_left 1
   ·(intro u hSw; go_simp; try with_reducible rfl)
   try simp only [Act.put, sA, sB, sC]
   refine wpAnyH_ready (rs := [13]) (by kernel_rfl) (by simp) ?_
   refine (AllReadyH.cons (o := ⟨some 25, .buildSlice 22 1 #[(0, .tmp 24)], 22, "law.go:38", #[⟨12, .data⟩], none⟩) rfl (fun K hK => ?_) AllReadyH.nil)
   try (generalize World.drew wr = ud at *)
   go_simp
   refine al_step2 hb (fun nu hbn q1 hcn => ?_)
   have hro := ((show RfO ud w.heap.size (.slice ao j co) (es.take j) from HXD.out).below hcn)
   have hb := hbn
   clear hcn hbn
   refine hK.out _ _ hb (fun hHeld => ?_)
   clear hK K
   try simp only [Act.put, sA, sB, sC]
   refine wpAnyH_ready (rs := [14]) (by kernel_rfl) (by simp) ?_
   refine (AllReadyH.cons (o := ⟨some 26, .call ⟨.builtin .append, #[.tmp 12, .tmp 25], #[22, 22]⟩, 22, "law.go:38", #[⟨0, .data⟩, ⟨13, .data⟩], none⟩) rfl (fun K hK => ?_) AllReadyH.nil)
   obtain ⟨v8, w8, hr8, ho8, hc8, -⟩ := hro.app hb.size _ x.1 x.2 q1 (by rw [HTL.out]; have := HX.out.1; omega) 22
   have hlt8 := hro.lt
   refine step_append_re (by rfl) (Operand.tmp 12) (Operand.tmp 25) (by rfl) _ _ (by rfl) (by rfl) hr8 ?_
   have hb := hb.trans (hc8.below (B := w.heap.size) (fun q e => (hlt8 q e).1) hb.size)
   obtain ⟨a8, c8, rfl⟩ := ho8.slc
   have hl8 : (es.take j ++ [(x.1, x.2)]).length = j + 1 := by rw [List.length_append, HTL.out]; rfl
   rw [hl8] at ho8 ⊢
   clear hc8 hr8 hro hlt8 hl8
   refine hK.out _ _ hb (fun hHeld => ?_)
   clear hK K
   try simp only [Act.put, sA, sB, sC]
   refine tk (i := 15) (oi := ⟨some 3, .assign (.tmp 26), 22, "law.go:38", #[⟨14, .data⟩, ⟨14, .chain⟩, ⟨0, .phase⟩, ⟨1, .phase⟩, ⟨2, .phase⟩, ⟨3, .phase⟩, ⟨4, .phase⟩, ⟨5, .phase⟩, ⟨6, .phase⟩, ⟨7, .phase⟩, ⟨8, .phase⟩, ⟨9, .phase⟩, ⟨10, .phase⟩, ⟨11, .phase⟩, ⟨12, .phase⟩, ⟨13, .phase⟩, ⟨14, .phase⟩], none⟩) (v := ?_) (Or.inl ⟨by rfl, ?_⟩) ?_
   rotate_left 1
   ·(intro u hSw; go_simp; try with_reducible rfl)
   try simp only [Act.put, sA, sB, sC]
   refine wpAnyH_done (by kernel_rfl) ?_ _
   have H8 := hid (And.intro ho8 hb)
   clear ho8 hb hHeld q1
   go_wp2_with fail
   go_roundw
   case rel => exact ⟨j + 1, HX.out.1, by rw [HX.out.2.2.2.1]; exact H8.out.1, by go_num, H8.out.2⟩
   case measure => have := HX.out.1; simp [intOf]; omega
  ·have hj2 : j = es.length := by omega
   subst hj2
   have HX := hid (And.intro hro hbw)
   rw [htl, List.take_length] at HX
   clear hro hbw htl
   go_wp2_with fail
   go_ret
   exact ⟨_, rfl, HX.out.1, HX.out.2⟩
end Go.Proofs.YtbmlkocpjboodaaDoor
