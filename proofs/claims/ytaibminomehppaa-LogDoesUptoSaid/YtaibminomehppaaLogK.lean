import Derived.Test.YtaibminomehppaaRows
import Derived.Test.YtaibminomehppaaLogJ
import Derived.WalkKit
import Derived.ProofKit
import Derived.OpenShut
import Derived.Deep.DeepHandedRow
import Derived.Deep.Matrix
import Derived.Lib.LaidTab
namespace Go.Proofs.Ytaibminomehppaa
open Go.ChangeShapes Go.WideShapes Go.ChangeAt Go.RowKit Go.Deep
/-- v is a slice of slices of bytes that reads as ps -/
def Pss (w : World) (v : Value) (ps : List (List Int)) : Prop :=
  ∃ (a : Option Addr) (cap : Nat), v = .slice a ps.length cap ∧ (ps.length ≤ cap ∧ (a = none → cap = 0)) ∧ (0 < ps.length → ∃ b off, a = some ⟨b, off, none⟩ ∧ b < w.heap.size ∧ ∀ i, i < ps.length → ∃ x, w.cell? ⟨b, off + i, none⟩ = some x ∧ Bs w x (ps[i]?.getD []))
def jlen : List (List Int) → Nat
  | [] => 0
  | p :: ps => 8 + p.length + jlen ps
theorem jlen_append (a b : List (List Int)) : jlen (a ++ b) = jlen a + jlen b := by
  induction a with
  | nil => simp [jlen]
  | cons p a ih => simp only [List.cons_append, jlen, ih]; omega
/-- arguments read again behind a call that has only made memory -/
theorem trodAll_below {H : Type} {enc : TypeId × Value → H} {P : Program} (hl : laidOutB P = true) {W W' : World} (hb : Below W.heap.size W W') :
    ∀ {ts : List TypeId} {vs : List Value} {ds : List (DataW H)} {ps : List MemPlace}, (∀ t ∈ ts, P.readableRec t = true ∧ t < P.types.size) →
      DataW.TrodAll enc P W 0 (fun _ => true) true ts vs ds ps → (∀ x ∈ ps, x.block < W.heap.size) → DataW.TrodAll enc P W' 0 (fun b => decide (b < W.heap.size)) true ts vs ds ps := by
  intro ts
  induction ts with
  | nil =>
    intro vs ds ps _ h _
    obtain ⟨rfl, rfl, rfl⟩ := trodAll_nil h
    exact trodAll_mk0
  | cons t ts ih =>
    intro vs ds ps hr h hlt
    obtain ⟨v, vs', d, ds', p, q, rfl, rfl, rfl, h1, h2⟩ := trodAll_cons h
    have ht := hr t (by simp)
    exact trodAll_cons_mk (Below.trod hl ht.1 ht.2 h1 hb (fun x hx => hlt x (by simp [hx]))) (ih (fun t ht => hr t (by simp [ht])) h2 (fun x hx => hlt x (by simp [hx])))
/-- the post of a law: true, and the arguments read as before -/
theorem law_post {H : Type} {enc : TypeId × Value → H} {P : Program} {f : Func} {s : ChangeSpec} {apart fresh handsOn : Bool} {W W' : World} {args : Array Value} {ds gs : List (DataW H)} {before : List MemPlace} {T : TypeId}
    (hl : laidOutB P = true) (hr : ∀ t ∈ f.params.toList, P.readableRec t = true ∧ t < P.types.size) (hv : s.vars = []) (hres : f.resultTypes = #[T]) (hT : P.underlying T = some .bool)
    (hfn : ∀ gs : List (DataW H), gs = [] → s.fn H (ds ++ gs) = { results := [.lit (.bool true)], args := ds })
    (hW : DataW.Whole enc P f.params.toList s.vars apart W args.toList ds gs before) (hb : Below W.heap.size W W') :
    s.post enc P f apart fresh handsOn false W args (.bool true) W' := by
  have hlt := hW.lt
  have hW' := hW
  obtain ⟨p, q, hA, hV, rfl, _, _⟩ := hW
  rw [hv] at hV
  obtain ⟨rfl, rfl⟩ := trodVars_none hV
  have e := hfn [] rfl
  refine ⟨ds, [], _, [], p, [], hW', ?_, ?_, ?_, hb.frame _, fun h => by cases h⟩
  · rw [e, hres]
    exact trodAll_cons_mk (shut_bool hT _) trodAll_mk0
  · rw [e]
    exact trodAll_below hl hb hr hA (fun x hx => hlt x (by simp [hx]))
  · rw [e, hv]
    exact rfl
theorem rng_of_wf {l : List Int} (h : ∀ n ∈ l, (Lit.int .u8 n).wf = true) : Rng l := by
  intro x hx
  have := h x hx
  simp [Lit.wf, IntKind.min, IntKind.max, IntKind.signed, IntKind.bits] at this
  omega
theorem bulk_lits {H : Type} (k : IntKind) (l : List Int) : Rows.uptoBulkAll (lits (H := H) k l) = l.length := by
  induction l with
  | nil => rfl
  | cons x l ih => simp only [lits, List.map_cons, Rows.uptoBulkAll, List.length_cons] at ih ⊢; rw [ih]; simp [Rows.uptoBulk]; omega
section
variable {H : Type} {enc : TypeId × Value → H} {P : Program} {W : World}
theorem bs_of_trod {t e : TypeId} (ht : P.underlying t = some (.slice e)) (he : P.underlying e = some (.int .u8)) (hc : P.cellsOf e = 1) {v : Value} {d : DataW H} {p : List MemPlace} {b : Nat}
    (hok : Value.okWide P W .any b t v) (h : DataW.Trod enc P W 0 (fun _ => true) true t v d p) : ∃ l : List Int, Bs W v l ∧ Rng l ∧ l.length ≤ Rows.uptoBulk d := by
  obtain ⟨a0, len, cap, rfl⟩ := okWide_slice ht hok
  obtain ⟨fuel, hf⟩ := h
  rcases open_ints ht he hc hf with ⟨hcs, hx⟩ | ⟨a, len', cap', zs, hcs, _, hl, _, hz, hx, hcell, hw⟩
  · simp [Value.cells] at hcs
    obtain ⟨rfl, rfl, rfl⟩ := hcs
    exact ⟨[], Bs.nil W, fun x hx => by simp at hx, Nat.zero_le _⟩
  · simp [Value.cells] at hcs
    obtain ⟨rfl, rfl, rfl⟩ := hcs
    simp only [if_true] at hz
    simp only [Prod.mk.injEq] at hx
    obtain ⟨rfl, _⟩ := hx
    have hlen : (zs.take len).length = len := by rw [List.length_take]; omega
    refine ⟨zs.take len, ⟨some a, cap, by rw [hlen], ⟨by omega, fun e => by cases e⟩, fun hl0 => ?_⟩, rng_of_wf fun n hn => hw n (List.mem_of_mem_take hn), ?_⟩
    · rw [hlen] at hl0
      have h0 := hcell 0 (by omega)
      have hsp := World.cell?_spot h0
      have hlt := World.block_lt_of_cell? _ _ h0
      obtain ⟨ab, ao, asp⟩ := a
      have hsp' : asp = none := by simpa [Addr.add] using hsp
      subst hsp'
      refine ⟨ab, ao, rfl, by simpa [Addr.add] using hlt, fun i hi => ?_⟩
      rw [hlen] at hi
      have h1 := hcell i (by omega)
      rw [add_plain] at h1
      rw [h1, List.getElem?_take_of_lt hi]
      simp [List.getD]
    · rw [hlen]
      simp only [Rows.uptoBulk, bulk_lits, List.length_take]
      omega
theorem bulk_row {H : Type} {A : Option Addr} {L : Nat} {zs : List Int} (h : L ≤ zs.length) (h0 : A = none → L = 0) : L + 1 ≤ Rows.uptoBulk (intRow (H := H) .u8 A L zs) := by
  cases A with
  | none => simp [intRow, Rows.uptoBulk, h0 rfl]
  | some a =>
    simp only [intRow, Rows.uptoBulk, bulk_lits, List.length_take]
    omega
theorem jlen_bulk {H : Type} (f : Nat → List Int) (g : Nat → DataW H) : ∀ (l : List Nat), (∀ r ∈ l, (f r).length + 1 ≤ Rows.uptoBulk (g r)) → jlen (l.map f) ≤ 8 * Rows.uptoBulkAll (l.map g)
  | [], _ => by simp [jlen]
  | r :: l, h => by
    have ih := jlen_bulk f g l (fun r hr => h r (by simp [hr]))
    have h1 := h r (by simp)
    simp only [List.map_cons, jlen, Rows.uptoBulkAll]
    omega
theorem pss_of_trod {t e q : TypeId} (ht : P.underlying t = some (.slice e)) (he : P.underlying e = some (.slice q)) (hq : P.underlying q = some (.int .u8)) (ce : P.cellsOf e = 1) (cq : P.cellsOf q = 1) {v : Value} {d : DataW H} {p : List MemPlace} {b : Nat}
    (hok : Value.okWide P W .any b t v) (h : DataW.Trod enc P W 0 (fun _ => true) true t v d p) : ∃ ps : List (List Int), Pss W v ps ∧ (∀ p ∈ ps, Rng p) ∧ jlen ps ≤ 8 * Rows.uptoBulk d := by
  obtain ⟨a0, len, cap, rfl⟩ := okWide_slice ht hok
  obtain ⟨fuel, hf⟩ := h
  rcases open_int_rows ht he hq ce cq hf with ⟨hcs, hx⟩ | ⟨a, len', cap', A, L, C, Z, hcs, _, hl, _, hx, hrow⟩
  · simp [Value.cells] at hcs
    obtain ⟨rfl, rfl, rfl⟩ := hcs
    exact ⟨[], ⟨none, 0, rfl, ⟨Nat.le_refl _, fun _ => rfl⟩, fun h => by simp at h⟩, fun p hp => by simp at hp, Nat.zero_le _⟩
  · simp [Value.cells] at hcs
    obtain ⟨rfl, rfl, rfl⟩ := hcs
    simp only [Prod.mk.injEq] at hx
    obtain ⟨rfl, _⟩ := hx
    have hget : ∀ i, i < len → ((List.range len).map fun r => (Z r).take (L r))[i]?.getD [] = (Z i).take (L i) := fun i hi => by simp [hi]
    refine ⟨(List.range len).map fun r => (Z r).take (L r), ⟨some a, cap, by simp, ⟨by simpa using hl, fun e => by cases e⟩, fun hl0 => ?_⟩, ?_, ?_⟩
    · simp only [List.length_map, List.length_range] at hl0
      have h0 := (hrow 0 (by omega)).1
      have hsp := World.cell?_spot h0
      have hlt := World.block_lt_of_cell? _ _ h0
      obtain ⟨ab, ao, asp⟩ := a
      have hsp' : asp = none := by simpa [Addr.add] using hsp
      subst hsp'
      refine ⟨ab, ao, rfl, by simpa [Addr.add] using hlt, fun i hi => ?_⟩
      simp only [List.length_map, List.length_range] at hi
      obtain ⟨h1, h2, _, h3, h4, h5, h6⟩ := hrow i (by omega)
      rw [add_plain] at h1
      rw [hget i hi]
      have hlen : ((Z i).take (L i)).length = L i := by rw [List.length_take]; omega
      refine ⟨_, h1, A i, C i, by rw [hlen], ⟨by omega, h5⟩, fun hl1 => ?_⟩
      rw [hlen] at hl1
      cases hA : A i with
      | none => have := h5 hA; omega
      | some a' =>
        obtain ⟨_, h7⟩ := h6 a' hA
        have g0 := h7 0 (by omega)
        have gsp := World.cell?_spot g0
        have glt := World.block_lt_of_cell? _ _ g0
        obtain ⟨bb, bo, bsp⟩ := a'
        have gsp' : bsp = none := by simpa [Addr.add] using gsp
        subst gsp'
        refine ⟨bb, bo, rfl, by simpa [Addr.add] using glt, fun j hj => ?_⟩
        rw [hlen] at hj
        have h8 := h7 j (by omega)
        rw [add_plain] at h8
        rw [h8, List.getElem?_take_of_lt hj]
        simp [List.getD]
    · intro p hp
      obtain ⟨r, hr, rfl⟩ := List.mem_map.1 hp
      obtain ⟨_, _, _, _, h4, _⟩ := hrow r (by have := List.mem_range.1 hr; omega)
      exact rng_of_wf fun n hn => h4 n (List.mem_of_mem_take hn)
    · have := jlen_bulk (H := H) (fun r => (Z r).take (L r)) (fun r => intRow .u8 (A r) (L r) (Z r)) (List.range len) (fun r hr => by
        obtain ⟨_, h2, _, h3, _, h5, _⟩ := hrow r (by have := List.mem_range.1 hr; omega)
        have := bulk_row (H := H) (A := A r) (L := L r) (zs := Z r) (by omega) (fun e => by have := h5 e; omega)
        rw [List.length_take]
        omega)
      simp only [Rows.uptoBulk]
      omega
end
theorem own : ownKnob Try.prog.godebug = none := by kernel_rfl
theorem laidOut : laidOutB Try.prog = true := by kernel_rfl
theorem cells5 : Try.prog.cellsOf 5 = 1 := by kernel_rfl
theorem cells62 : Try.prog.cellsOf 39 = 1 := by kernel_rfl
theorem Pss.pss0 {w : World} {v : Value} {ps : List (List Int)} (h : Pss w v ps) : Pss0 w v ps := by
  obtain ⟨a, cap, hv, _, h⟩ := h
  exact ⟨a, cap, hv, h⟩
theorem jlen_mem : ∀ (ps : List (List Int)), 8 * ps.length ≤ jlen ps ∧ ∀ r ∈ ps, r.length ≤ jlen ps
  | [] => ⟨Nat.zero_le _, fun r hr => by cases hr⟩
  | p :: ps => by
    obtain ⟨h1, h2⟩ := jlen_mem ps
    have e : jlen (p :: ps) = (8 + p.length) + jlen ps := rfl
    refine ⟨by rw [e, List.length_cons]; omega, fun r hr => ?_⟩
    rw [e]
    rcases List.mem_cons.1 hr with hr | hr
    · subst hr; omega
    · have := h2 r hr; omega
set_option maxRecDepth 100000 in
theorem bss_of_arg {H : Type} {enc : TypeId × Value → H} {W : World} {v : Value} {d : DataW H} {p : List MemPlace} {b : Nat}
    (hok : Value.okWide Try.prog W .any b 64 v) (h : DataW.Trod enc Try.prog W 0 (fun _ => true) true 64 v d p) (hB : Rows.uptoBulk d ≤ 1048576) :
    ∃ ps : List (List Int), Pss0 W v ps ∧ (∀ r ∈ ps, Rng r ∧ r.length ≤ 16777216) ∧ ps.length ≤ 1048576 := by
  obtain ⟨ps, h1, h2, h3⟩ := pss_of_trod Try.underlying64 Try.underlying39 Try.underlying5 cells62 cells5 hok h
  obtain ⟨h4, h5⟩ := jlen_mem ps
  exact ⟨ps, h1.pss0, fun r hr => ⟨h2 r hr, by have := h5 r hr; omega⟩, by omega⟩
theorem i64_of_wf {n : Int} (h : (Lit.int .i64 n).wf = true) : -9223372036854775808 ≤ n ∧ n ≤ 9223372036854775807 := by
  simp [Lit.wf, IntKind.min, IntKind.max, IntKind.signed, IntKind.bits] at h; omega
end Go.Proofs.Ytaibminomehppaa
