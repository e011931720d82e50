import Derived.Test.YtbhilmgpmebaiaaProg
import Derived.Test.YtbhilmgpmebaiaaRows
import Derived.Lib.SlBytesConst
import Derived.WalkKit
import Derived.ProofKit
import Derived.BigQuiet
import Derived.Deep.QuietTactic
import Derived.WalkSpells
import Derived.WalkLawsBesides
import Derived.Lib.Hide
import Derived.Deep.MidRow
import Derived.Deep.RegionLaw
import Derived.BigRegion
import Derived.Laws.AppendOwnNone
import Derived.Deep.DeepMust
import Derived.Deep.AppendLies
import Derived.RegionTactic
import Derived.Deep.WholeRow
import Derived.BigFrame
import Derived.Deep.RegionWith
import Derived.Deep.RegionHeld3
import Derived.Maps.RangeWalk
import Derived.Laws.CopyOwn
import Derived.StillTailTactics
import Derived.OpenShut
import Derived.Deep.DeepHandedRow
import Derived.Deep.DeepWitnessRowRef
import Derived.Deep.Matrix
import Derived.Deep.Slices
import Derived.Deep.Fields
import Derived.Deep.Strs
import Derived.ChangeSame
import Derived.ChangeMaps5
import Derived.Lib.Bytealg
import Derived.Laws.Externs
import Derived.LoopN
namespace Go.Proofs.Ytbhilmgpmebaiaa
open Go.RowKit
def Rng (l : List Int) : Prop := ∀ x ∈ l, 0 ≤ x ∧ x < 256
theorem Rng.drop {l : List Int} (h : Rng l) (k : Nat) : Rng (l.drop k) := fun x hx => h x (List.mem_of_mem_drop hx)
theorem Rng.take {l : List Int} (h : Rng l) (k : Nat) : Rng (l.take k) := fun x hx => h x (List.mem_of_mem_take hx)
def str (l : List Int) : ByteArray := ⟨(l.map fun x => UInt8.ofNat x.toNat).toArray⟩
theorem str_inj {l m : List Int} (hl : Rng l) (hm : Rng m) (h : str l = str m) : l = m := by
  simp only [str, ByteArray.mk.injEq] at h
  have h2 : (l.map fun x => UInt8.ofNat x.toNat) = (m.map fun x => UInt8.ofNat x.toNat) := by simpa using congrArg Array.toList h
  have key : ∀ l : List Int, Rng l → (l.map fun x => UInt8.ofNat x.toNat).map (fun u => (u.toNat : Int)) = l := by
    intro l hl
    rw [List.map_map]
    conv => rhs; rw [← List.map_id l]
    apply List.map_congr_left
    intro x hx
    have := hl x hx
    simp only [Function.comp, id, UInt8.toNat_ofNat']
    omega
  rw [← key l hl, ← key m hm, h2]
theorem str_beq {l m : List Int} (hl : Rng l) (hm : Rng m) : ((str l).toList == (str m).toList) = decide (l = m) := by
  rw [Bool.eq_iff_iff, beq_iff_eq, decide_eq_true_eq]
  constructor
  · intro h
    refine str_inj hl hm ?_
    rw [ByteArray.toList_eq, ByteArray.toList_eq] at h
    have h2 : (str l).data = (str m).data := Array.toList_inj.1 h
    cases h3 : str l with
    | mk d1 => cases h4 : str m with
      | mk d2 => rw [h3, h4] at h2; exact congrArg ByteArray.mk h2
  · intro h; rw [h]
/-- the order of bytes, as -1, 0, 1 -/
def cmpI : List Int → List Int → Int
  | [], [] => 0
  | [], _ :: _ => -1
  | _ :: _, [] => 1
  | x :: xs, y :: ys => if x < y then -1 else if y < x then 1 else cmpI xs ys
structure Val where
  k : Int
  n : Int
  s : List Int
def Val.OK (v : Val) : Prop := (∀ x ∈ v.s, 0 ≤ x ∧ x < 256) ∧ -9223372036854775808 ≤ v.k ∧ v.k ≤ 9223372036854775807 ∧ -9223372036854775808 ≤ v.n ∧ v.n ≤ 9223372036854775807
theorem cmpI_cases : ∀ s t : List Int, s ≠ t → cmpI s t = -1 ∨ cmpI s t = 1
  | [], [], h => absurd rfl h
  | [], _ :: _, _ => .inl rfl
  | _ :: _, [], _ => .inr rfl
  | x :: s, y :: t, h => by
    simp only [cmpI]
    by_cases h1 : x < y
    · simp [h1]
    · by_cases h2 : y < x
      · simp [h1, h2]
      · have : x = y := by omega
        subst this
        simp only [h1, if_false]
        exact cmpI_cases s t (fun e => h (by rw [e]))
theorem str_len (s : List Int) : (str s).size = s.length := by simp [str, ByteArray.size]
def Rw (w : World) (v : Value) (rs : List Val) : Prop :=
  ∃ (a : Option Addr) (cap : Nat), v = .slice a rs.length cap ∧ (rs.length ≤ cap ∧ (a = none → cap = 0)) ∧ (0 < rs.length → ∃ b off, a = some ⟨b, off, none⟩ ∧ b < w.heap.size ∧
    ∀ i x, rs[i]? = some x → w.cell? ⟨b, off + i * 3, none⟩ = some (.int .i64 x.k) ∧ w.cell? ⟨b, off + i * 3 + 1, none⟩ = some (.int .i64 x.n) ∧ w.cell? ⟨b, off + i * 3 + 2, none⟩ = some (.string (str x.s)))
theorem Rw.below {w w' : World} {v : Value} {rs : List Val} (h : Rw w v rs) (hb : Below w.heap.size w w') : Rw w' v rs := by
  obtain ⟨a, cap, hv, hc, h⟩ := h
  refine ⟨a, cap, hv, hc, fun hl => ?_⟩
  obtain ⟨b, off, ha, hbs, hcell⟩ := h hl
  refine ⟨b, off, ha, Nat.lt_of_lt_of_le hbs hb.size, fun i x hx => ?_⟩
  obtain ⟨h0, h1, h2⟩ := hcell i x hx
  exact ⟨(hb.cell (p := ⟨b, off + i * 3, none⟩) hbs).trans h0, (hb.cell (p := ⟨b, off + i * 3 + 1, none⟩) hbs).trans h1, (hb.cell (p := ⟨b, off + i * 3 + 2, none⟩) hbs).trans h2⟩
theorem take_succ_vs {α : Type} (rs : List α) (k : Nat) (x : α) (h : rs[k]? = some x) : rs.take (k + 1) = rs.take k ++ [x] := by
  have hk : k < rs.length := (List.getElem?_eq_some_iff.1 h).1
  rw [List.take_succ_eq_append_getElem hk, (List.getElem?_eq_some_iff.1 h).2]
theorem Rw.one {w : World} {T : TypeId} (x : Val) {H : Nat} (hH : w.heap.size = H) : Rw (w.alloc (.cells #[.int .i64 x.k, .int .i64 x.n, .string (str x.s)] T)) (.slice (some ⟨H, 0, none⟩) 1 1) [x] := by
  subst hH
  refine ⟨some ⟨w.heap.size, 0, none⟩, 1, rfl, ⟨Nat.le_refl _, fun e => by cases e⟩, fun _ => ⟨w.heap.size, 0, rfl, by simp, fun i y hy => ?_⟩⟩
  match i, hy with
  | 0, hy =>
    simp only [List.getElem?_cons_zero, Option.some.injEq] at hy
    subst hy
    have h0 : (w.alloc (.cells #[.int .i64 x.k, .int .i64 x.n, .string (str x.s)] T)).heap[w.heap.size]? = some (.cells #[.int .i64 x.k, .int .i64 x.n, .string (str x.s)] T (0, 0)) := heap_alloc_new _ _
    exact ⟨cell_of_row _ _ 0 _ _ _ h0, cell_of_row _ _ 1 _ _ _ h0, cell_of_row _ _ 2 _ _ _ h0⟩
  | i + 1, hy => simp at hy
theorem zero32 (w : World) : (zeroValue 23).run Try.prog w = .ok (.agg #[.int .i64 0, .int .i64 0, .string ⟨#[]⟩]) w := by kernel_rfl
def vcells (x : Val) : List Value := [.int .i64 x.k, .int .i64 x.n, .string (str x.s)]
def OwnR (w : World) (B : Nat) (v : Value) (r : List Val) : Prop := w.ownsRow B 23 3 v r.length (r.flatMap vcells)
theorem info32 : (Try.prog.info? 23).map (fun i => (i.zero, i.size, i.bytes)) = some (some (.agg #[.int .i64 0, .int .i64 0, .string ⟨#[]⟩]), 3, 32) := by kernel_rfl
theorem OwnR.nil (w : World) (B : Nat) : OwnR w B (.slice none 0 0) [] := World.ownsRow_nil _ _ _ _
theorem flatMap_get : ∀ (r : List Val) (i : Nat) (x : Val) (j : Nat), r[i]? = some x → j < 3 → (r.flatMap vcells)[i * 3 + j]? = (vcells x)[j]?
  | [], i, x, j, h, _ => by simp at h
  | y :: r, 0, x, j, h, hj => by
    simp only [List.getElem?_cons_zero, Option.some.injEq] at h
    subst h
    rw [List.flatMap_cons, List.getElem?_append_left (by simp [vcells]; omega), Nat.zero_mul, Nat.zero_add]
  | y :: r, i + 1, x, j, h, hj => by
    rw [List.getElem?_cons_succ] at h
    have ih := flatMap_get r i x j h hj
    have h3 : (vcells y).length = 3 := rfl
    rw [List.flatMap_cons, List.getElem?_append_right (by omega), h3, show (i + 1) * 3 + j - 3 = i * 3 + j by omega, ih]
theorem OwnR.rw {w : World} {B : Nat} {v : Value} {r : List Val} (h : OwnR w B v r) : Rw w v r := by
  unfold OwnR at h
  rcases h.2 with ⟨rfl, h0⟩ | ⟨g, cap, cur, rfl, hg, hh, hle, _, _, _⟩
  · have : r = [] := List.eq_nil_of_length_eq_zero h0
    subst this
    exact ⟨none, 0, rfl, ⟨Nat.le_refl _, fun _ => rfl⟩, fun h => by simp at h⟩
  · refine ⟨some ⟨g, 0, none⟩, cap, rfl, ⟨hle, fun e => by cases e⟩, fun _ => ⟨g, 0, rfl, (h.lt g rfl).2, fun i x hx => ?_⟩⟩
    have hc : ∀ j, j < 3 → ∀ u, (vcells x)[j]? = some u → w.cell? ⟨g, 0 + (i * 3 + j), none⟩ = some u := fun j hj u hu => by
      have := h.cells (g := g) rfl (i * 3 + j) u ((flatMap_get r i x j hx hj).trans hu)
      rw [Addr.add_mid] at this
      exact this
    exact ⟨hc 0 (by omega) _ rfl, hc 1 (by omega) _ rfl, hc 2 (by omega) _ rfl⟩
theorem own_below {w w' : World} {B B' e size n : Nat} {v : Value} {xs : List Value} (h : w.ownsRow B e size v n xs) (hb : Below B' w w') (hB : w.heap.size ≤ B') : w'.ownsRow B e size v n xs := by
  have hg : w.grownBy w' none := ⟨hb.os, hb.tape, hb.output, hb.size, fun k hk _ => hb.block k (by omega)⟩
  refine World.ownsRow.kept h hg ?_
  cases hv : v.ownBlock with
  | none => exact .inl rfl
  | some g => exact .inr (by simp)
theorem cells_three_new (w : World) (a b c : Value) (T : TypeId) {H : Nat} (hH : w.heap.size = H) : ∀ j u, ([a, b, c] : List Value)[j]? = some u → (w.alloc (.cells #[a, b, c] T)).cell? ((⟨H, 0, none⟩ : Addr).add j) = some u := by
  subst hH
  intro j u hu
  rw [Addr.add_mid, Nat.zero_add, cell_of_row _ _ j _ _ _ (heap_alloc_new w (.cells #[a, b, c] T))]
  simpa using hu
theorem Rw.lit {w : World} {T : TypeId} (rs : List Val) {cs : Array Value} {fr : Nat × Nat} (hcs : cs = (rs.flatMap vcells).toArray) {n c : Nat} (hn : rs.length = n) (hc : n ≤ c) {H : Nat} (hH : w.heap.size = H) : Rw (w.alloc (.cells cs T fr)) (.slice (some ⟨H, 0, none⟩) n c) rs := by
  subst hH hn hcs
  refine ⟨some ⟨w.heap.size, 0, none⟩, c, rfl, ⟨hc, fun e => by cases e⟩, fun _ => ⟨w.heap.size, 0, rfl, by simp, fun i x hx => ?_⟩⟩
  have h0 := heap_alloc_new w (.cells (rs.flatMap vcells).toArray T fr)
  have hcell : ∀ j, j < 3 → (w.alloc (.cells (rs.flatMap vcells).toArray T fr)).cell? ⟨w.heap.size, 0 + (i * 3 + j), none⟩ = (vcells x)[j]? := fun j hj => by
    rw [cell_of_row _ _ _ _ _ _ h0, Nat.zero_add, List.getElem?_toArray]
    exact flatMap_get rs i x j hx hj
  exact ⟨hcell 0 (by omega), hcell 1 (by omega), hcell 2 (by omega)⟩
theorem ret_int {a b : Int} (h : a = b) : Ending.returned (.int .i64 a) = Ending.returned (.int .i64 b) := by rw [h]
instance decVal : DecidableEq Val := fun a b =>
  if h : a.k = b.k ∧ a.n = b.n ∧ a.s = b.s then isTrue (by cases a; cases b; simp_all) else isFalse (fun e => h (by rw [e]; exact ⟨rfl, rfl, rfl⟩))
def eql32 (x y : Value) : Sem Value := binOp .eql 23 x y
theorem eql32_eq (x y : Value) : binOp .eql 23 x y = eql32 x y := rfl
def neq32 (x y : Value) : Sem Value := binOp .neq 23 x y
theorem neq32_eq (x y : Value) : binOp .neq 23 x y = neq32 x y := rfl
theorem run_equalIn32 (w : World) (x y : Val) (hx : Rng x.s) (hy : Rng y.s) : (Op.equalIn 10000 23 (.agg #[.int .i64 x.k, .int .i64 x.n, .string (str x.s)]) (.agg #[.int .i64 y.k, .int .i64 y.n, .string (str y.s)])).run Try.prog w = .ok (decide (x = y)) w := by
  have u1 := Try.underlying3
  have u2 := Try.underlying2
  have u3 := Try.underlying9
  have a1 := Try.isAgg3
  have a2 := Try.isAgg2
  have a3 := Try.isAgg9
  have hS : Try.prog.underlying 23 = some (.struct (Try.prog.fieldsOf 23)) := by kernel_rfl
  have hp : Try.prog.stoodInHeld 23 = false := by kernel_rfl
  have hb := str_beq hx hy
  rw [show (10000 : Nat) = 9999 + 1 from rfl, run_equalIn_agg w 9999 23 _ _ hS hp]
  simp only [Program.fieldsOf, Try.underlying23]
  go_simp
  obtain ⟨xk, xn, xs⟩ := x
  obtain ⟨yk, yn, ys⟩ := y
  by_cases h1 : xk = yk <;> by_cases h2 : xn = yn <;> by_cases h3 : xs = ys <;> simp [h1, h2, h3]
theorem run_eql32 (w : World) (x y : Val) (hx : Rng x.s) (hy : Rng y.s) : (eql32 (.agg #[.int .i64 x.k, .int .i64 x.n, .string (str x.s)]) (.agg #[.int .i64 y.k, .int .i64 y.n, .string (str y.s)])).run Try.prog w = .ok (.bool (decide (x = y))) w := by
  unfold eql32
  rw [run_eql_struct, run_equalIn32 w x y hx hy]; rfl
theorem OwnR.alloc {w : World} {B : Nat} {v : Value} {l : List Val} (h : OwnR w B v l) (o : Obj) : OwnR (w.alloc o) B v l := World.ownsRow.alloc h o
theorem OwnR.below {w w' : World} {B B' : Nat} {v : Value} {l : List Val} (h : OwnR w B v l) (hb : Below B' w w') (hB : w.heap.size ≤ B') : OwnR w' B v l := own_below h hb hB
end Go.Proofs.Ytbhilmgpmebaiaa
namespace Go.Proofs.Ytbhilmgpmebaiaa
open Go.ChangeShapes Go.WideShapes Go.ChangeAt Go.RowKit Go.Deep
/-- arguments read again behind a call that has only made memory -/
theorem trodAll_below {H : Type} {enc : TypeId × Value → H} {P : Program} (hl : laidOutB P = true) {W W' : World} (hb : Below W.heap.size W W') :
    ∀ {ts : List TypeId} {vs : List Value} {ds : List (DataW H)} {ps : List MemPlace}, (∀ t ∈ ts, P.readableRec t = true ∧ t < P.types.size) →
      DataW.TrodAll enc P W 0 (fun _ => true) true ts vs ds ps → (∀ x ∈ ps, x.block < W.heap.size) → DataW.TrodAll enc P W' 0 (fun b => decide (b < W.heap.size)) true ts vs ds ps := by
  intro ts
  induction ts with
  | nil =>
    intro vs ds ps _ h _
    obtain ⟨rfl, rfl, rfl⟩ := trodAll_nil h
    exact trodAll_mk0
  | cons t ts ih =>
    intro vs ds ps hr h hlt
    obtain ⟨v, vs', d, ds', p, q, rfl, rfl, rfl, h1, h2⟩ := trodAll_cons h
    have ht := hr t (by simp)
    exact trodAll_cons_mk (Below.trod hl ht.1 ht.2 h1 hb (fun x hx => hlt x (by simp [hx]))) (ih (fun t ht => hr t (by simp [ht])) h2 (fun x hx => hlt x (by simp [hx])))
/-- the post of a law: true, and the arguments read as before -/
theorem law_post {H : Type} {enc : TypeId × Value → H} {P : Program} {f : Func} {s : ChangeSpec} {apart fresh handsOn : Bool} {W W' : World} {args : Array Value} {ds gs : List (DataW H)} {before : List MemPlace} {T : TypeId}
    (hl : laidOutB P = true) (hr : ∀ t ∈ f.params.toList, P.readableRec t = true ∧ t < P.types.size) (hv : s.vars = []) (hres : f.resultTypes = #[T]) (hT : P.underlying T = some .bool)
    (hfn : ∀ gs : List (DataW H), gs = [] → s.fn H (ds ++ gs) = { results := [.lit (.bool true)], args := ds })
    (hW : DataW.Whole enc P f.params.toList s.vars apart W args.toList ds gs before) (hb : Below W.heap.size W W') :
    s.post enc P f apart fresh handsOn false W args (.bool true) W' := by
  have hlt := hW.lt
  have hW' := hW
  obtain ⟨p, q, hA, hV, rfl, _, _⟩ := hW
  rw [hv] at hV
  obtain ⟨rfl, rfl⟩ := trodVars_none hV
  have e := hfn [] rfl
  refine ⟨ds, [], _, [], p, [], hW', ?_, ?_, ?_, hb.frame _, fun h => by cases h⟩
  · rw [e, hres]
    exact trodAll_cons_mk (shut_bool hT _) trodAll_mk0
  · rw [e]
    exact trodAll_below hl hb hr hA (fun x hx => hlt x (by simp [hx]))
  · rw [e, hv]
    exact rfl
section
variable {H : Type} {enc : TypeId × Value → H} {P : Program} {w : World} {base : Nat} {spare : Nat → Bool} {held : Bool}
theorem open_slice_fields {t e : TypeId} {fs : Array Field} {fuel : Nat} {cs : List Value} {x : DataW H × List MemPlace} (ht : P.underlying t = some (.slice e)) (he : P.underlying e = some (.struct fs))
    (hone : oneCellFields P fs = true) (hC : P.cellsOf e = fs.size) (h : DataW.trod enc P w base spare held fuel t cs = some x) :
    (cs = [.slice none 0 0] ∧ x = (.nil, [])) ∨
    ∃ (a : Addr) (len cap m : Nat) (D : Nat → DataW H) (Pl : Nat → List MemPlace), cs = [.slice (some a) len cap] ∧ base ≤ a.block ∧ len ≤ cap ∧ cap ≤ maxLen ∧ m = (if spare a.block then cap else len) ∧
      x = (.slice ((List.range len).map D) ((List.range (m - len)).map fun j => D (len + j)), MemPlace.row a (m * fs.size) ++ (List.range m).flatMap Pl) ∧
      ∀ i, i < m → ∃ (ys : List (DataW H × List MemPlace)) (n : Nat), D i = .agg (ys.map (·.1)) ∧ Pl i = ys.flatMap (·.2) ∧ ys.length = fs.size ∧
        ∀ (j : Nat) (f : Field), fs[j]? = some f → ∃ (v : Value) (y : DataW H × List MemPlace), w.cell? (a.add (i * fs.size + j)) = some v ∧ ys[j]? = some y ∧ DataW.trod enc P w base spare held n f.type [v] = some y := by
  rcases open_slice ht h with h0 | ⟨a, len, cap, m, n, D, Pl, hcs, hb, hl, hm, hmm, hx, hi⟩
  · exact .inl h0
  · refine .inr ⟨a, len, cap, m, D, Pl, hcs, hb, hl, hm, hmm, by rw [hC] at hx; exact hx, fun i him => ?_⟩
    obtain ⟨cs', hc, ht'⟩ := hi i him
    rw [hC] at hc
    obtain ⟨ys, n', hn', hy, hlen, hyl, hf⟩ := DataW.trod_struct he ht'
    obtain ⟨_, hcl, hat⟩ := World.cells?_some hc
    simp only [Prod.mk.injEq] at hy
    refine ⟨ys, n', hy.1, hy.2, hyl, fun j f hj => ?_⟩
    obtain ⟨ho, hk⟩ := hone_of hone j f hj
    have hjl : j < fs.size := (Array.getElem?_eq_some_iff.1 hj).1
    have hcell := hat j hjl
    have hv : cs'[j]? = some (cs'[j]'(by omega)) := List.getElem?_eq_getElem (by omega)
    have h1 := hf j f hj
    rw [ho, hk] at h1
    have hone' : (cs'.drop j).take 1 = [cs'[j]'(by omega)] := by
      rw [List.drop_eq_getElem_cons (by omega)]
      rfl
    rw [hone'] at h1
    have hys : ys[j]? = some (ys[j]'(by omega)) := List.getElem?_eq_getElem (by omega)
    refine ⟨_, _, ?_, hys, h1.trans hys⟩
    rw [← Go.Deep.add_add, hcell, hv]
end
theorem str_bytes (s : ByteArray) : ∃ l : List Int, s = str l ∧ Rng l ∧ l.length = s.size := by
  refine ⟨s.data.toList.map fun c => (c.toNat : Int), ?_, ?_, by simp⟩
  · obtain ⟨⟨a⟩⟩ := s
    simp only [str, List.map_map, ByteArray.mk.injEq]
    congr 1
    refine (List.map_id a).symm.trans ?_
    apply List.map_congr_left
    intro c _
    simp
  · intro x hx
    simp only [List.mem_map] at hx
    obtain ⟨c, _, rfl⟩ := hx
    have := c.toNat_lt
    omega
theorem i64_of_wf {n : Int} (h : (Lit.int .i64 n).wf = true) : -9223372036854775808 ≤ n ∧ n ≤ 9223372036854775807 := by
  simp [Lit.wf, IntKind.min, IntKind.max, IntKind.signed, IntKind.bits] at h
  omega
theorem own : ownKnob Try.prog.godebug = none := by kernel_rfl
theorem laidOut : laidOutB Try.prog = true := by kernel_rfl
theorem bulk_pos {H : Type} (d : DataW H) : 1 ≤ Rows.uptoBulk d := by
  cases d with
  | lit l => cases l <;> simp [Rows.uptoBulk]
  | _ => simp [Rows.uptoBulk] <;> omega
theorem bulk_mem {H : Type} {d : DataW H} : ∀ {l : List (DataW H)}, d ∈ l → Rows.uptoBulk d ≤ Rows.uptoBulkAll l
  | [], h => by simp at h
  | e :: l, h => by
    simp only [Rows.uptoBulkAll]
    rcases List.mem_cons.1 h with rfl | h
    · omega
    · have := bulk_mem h; omega
theorem bulk_len {H : Type} : ∀ (l : List (DataW H)), l.length ≤ Rows.uptoBulkAll l
  | [] => Nat.zero_le _
  | e :: l => by
    have h1 := bulk_pos e
    have h2 := bulk_len l
    simp only [Rows.uptoBulkAll, List.length_cons]
    omega
section
variable {H : Type} {enc : TypeId × Value → H} {W : World}
end
end Go.Proofs.Ytbhilmgpmebaiaa
namespace Go.Proofs.Ytbhilmgpmebaiaa
open Go.ChangeShapes Go.WideShapes Go.ChangeAt Go.RowKit Go.Deep
variable {H : Type} {enc : TypeId × Value → H} {W : World}
theorem rwv_of_trod {v : Value} {d : DataW H} {p : List MemPlace} {b : Nat}
    (hok : Value.okWide Try.prog W .any b 29 v) (h : DataW.Trod enc Try.prog W 0 (fun _ => true) true 29 v d p) :
    ∃ r : List Val, Rw W v r ∧ (∀ x ∈ r, x.OK ∧ x.s.length ≤ Rows.uptoBulk d) ∧ r.length ≤ Rows.uptoBulk d := by
  obtain ⟨a0, len, cap, rfl⟩ := okWide_slice Try.underlying29 hok
  obtain ⟨fuel, hf⟩ := h
  rcases open_slice_fields Try.underlying29 Try.underlying23 (by kernel_rfl) (by kernel_rfl) hf with ⟨hcs, hx⟩ | ⟨a, len', cap', m, D, Pl, hcs, _, hl, _, hm, hx, hi⟩
  · simp [Value.cells] at hcs
    obtain ⟨rfl, rfl, rfl⟩ := hcs
    exact ⟨[], ⟨none, 0, rfl, ⟨Nat.le_refl _, fun _ => rfl⟩, fun h => by simp at h⟩, fun x hx => by simp at hx, Nat.zero_le _⟩
  · simp [Value.cells] at hcs
    obtain ⟨rfl, rfl, rfl⟩ := hcs
    simp only [if_true] at hm
    simp only [Prod.mk.injEq] at hx
    obtain ⟨rfl, _⟩ := hx
    have hx : ∀ i, i < m → ∃ x : Val, x.OK ∧ x.s.length ≤ Rows.uptoBulk (D i) ∧ W.cell? (a.add (i * 3 + 0)) = some (.int .i64 x.k) ∧ W.cell? (a.add (i * 3 + 1)) = some (.int .i64 x.n) ∧ W.cell? (a.add (i * 3 + 2)) = some (.string (str x.s)) := by
      intro i him
      obtain ⟨ys, n, hD, _, hlen, hfd⟩ := hi i him
      obtain ⟨v0, y0, c0, e0, t0⟩ := hfd 0 _ rfl
      obtain ⟨v1, y1, c1, e1, t1⟩ := hfd 1 _ rfl
      obtain ⟨v2, y2, c2, e2, t2⟩ := hfd 2 _ rfl
      obtain ⟨n0, g0, rfl, w0⟩ := DataW.trod_int Try.underlying3 t0
      obtain ⟨n1, g1, rfl, w1⟩ := DataW.trod_int Try.underlying2 t1
      obtain ⟨s2, g2, rfl, w2⟩ := DataW.trod_string Try.underlying9 t2
      simp only [List.cons.injEq, and_true] at g0 g1 g2
      subst g0 g1 g2
      obtain ⟨l, rfl, hrl, hll⟩ := str_bytes s2
      have hb : (DataW.lit (.string (str l).data.toList) : DataW H) ∈ ys.map (·.1) := List.mem_map.2 ⟨_, List.mem_of_getElem? e2, rfl⟩
      have hb2 := bulk_mem hb
      refine ⟨⟨n0, n1, l⟩, ⟨hrl, (i64_of_wf w0).1, (i64_of_wf w0).2, (i64_of_wf w1).1, (i64_of_wf w1).2⟩, ?_, c0, c1, c2⟩
      rw [hD]
      simp only [Rows.uptoBulk] at hb2 ⊢
      have : (str l).data.toList.length = l.length := by simp [str]
      omega
    obtain ⟨f, hf⟩ : ∃ f : Nat → Val, ∀ i, i < m → (f i).OK ∧ (f i).s.length ≤ Rows.uptoBulk (D i) ∧ W.cell? (a.add (i * 3 + 0)) = some (.int .i64 (f i).k) ∧ W.cell? (a.add (i * 3 + 1)) = some (.int .i64 (f i).n) ∧ W.cell? (a.add (i * 3 + 2)) = some (.string (str (f i).s)) :=
      ⟨fun i => if h : i < m then Classical.choose (hx i h) else ⟨0, 0, []⟩, fun i h => by simp only [dif_pos h]; exact Classical.choose_spec (hx i h)⟩
    refine ⟨(List.range len).map f, ⟨some a, cap, by simp, ⟨by simpa using hl, fun e => by cases e⟩, fun hl0 => ?_⟩, ?_, ?_⟩
    · simp only [List.length_map, List.length_range] at hl0
      have h0 := (hf 0 (by omega)).2.2.1
      have hsp := World.cell?_spot h0
      have hlt := World.block_lt_of_cell? _ _ h0
      obtain ⟨ab, ao, asp⟩ := a
      have hsp' : asp = none := by simpa [Addr.add] using hsp
      subst hsp'
      refine ⟨ab, ao, rfl, by simpa [Addr.add] using hlt, fun i x hx => ?_⟩
      have hil : i < len := by have := (List.getElem?_eq_some_iff.1 hx).1; simpa using this
      rw [List.getElem?_map, List.getElem?_range hil] at hx
      simp only [Option.map_some, Option.some.injEq] at hx
      subst hx
      obtain ⟨_, _, h1, h2, h3⟩ := hf i (by omega)
      rw [add_plain] at h1 h2 h3
      exact ⟨h1, h2, h3⟩
    · intro x hx
      obtain ⟨i, hi, rfl⟩ := List.mem_map.1 hx
      have hil := List.mem_range.1 hi
      obtain ⟨h1, h2, _⟩ := hf i (by omega)
      refine ⟨h1, ?_⟩
      have := bulk_mem (H := H) (d := D i) (l := (List.range len).map D) (List.mem_map.2 ⟨i, hi, rfl⟩)
      simp only [Rows.uptoBulk]
      omega
    · have := bulk_len (H := H) ((List.range len).map D)
      simp only [Rows.uptoBulk, List.length_map, List.length_range] at this ⊢
      omega
end Go.Proofs.Ytbhilmgpmebaiaa
namespace Go.Proofs.Ytbhilmgpmebaiaa
open Go.RowKit
def normV (v : Val) : Val := if v.k = 1 then ⟨1, v.n, []⟩ else if v.k = 2 then ⟨2, 0, v.s⟩ else if v.k = 3 then ⟨3, if v.n = 0 then 0 else 1, []⟩ else ⟨0, 0, []⟩
/-- a valid value, its text however long -/
def Nrm (v : Val) : Prop := v.OK ∧ (v.k = 0 ∧ v.n = 0 ∧ v.s = [] ∨ v.k = 1 ∧ v.s = [] ∨ v.k = 2 ∧ v.n = 0 ∨ v.k = 3 ∧ (v.n = 0 ∨ v.n = 1) ∧ v.s = [])
theorem nrm_norm {v : Val} (h : v.OK) : Nrm (normV v) := by
  obtain ⟨k, n, s⟩ := v
  obtain ⟨h1, h2, h3, h4, h5⟩ := h
  simp only at h1 h2 h3 h4 h5
  unfold normV
  by_cases k1 : k = 1
  · subst k1; exact ⟨⟨by simp, by simp, by simp, h4, h5⟩, .inr (.inl ⟨rfl, rfl⟩)⟩
  by_cases k2 : k = 2
  · subst k2; exact ⟨⟨h1, by simp, by simp, by simp, by simp⟩, .inr (.inr (.inl ⟨rfl, rfl⟩))⟩
  by_cases k3 : k = 3
  · subst k3
    by_cases n0 : n = 0
    · subst n0; exact ⟨⟨by simp, by simp, by simp, by simp, by simp⟩, .inr (.inr (.inr ⟨rfl, .inl rfl, rfl⟩))⟩
    · exact ⟨⟨by simp, by simp, by simp, by simp [n0], by simp [n0]⟩, .inr (.inr (.inr ⟨rfl, .inr (by simp [n0]), rfl⟩))⟩
  · rw [if_neg k1, if_neg k2, if_neg k3]; exact ⟨⟨by simp, by simp, by simp, by simp, by simp⟩, .inl ⟨rfl, rfl, rfl⟩⟩
theorem norm_len (v : Val) : (normV v).s.length ≤ v.s.length := by
  unfold normV; split; simp; split; simp; split <;> simp
def numV (n : Int) : Val := ⟨1, n, []⟩
def truV (b : Bool) : Val := ⟨3, if b = true then 1 else 0, []⟩
def nulV : Val := ⟨0, 0, []⟩
theorem norm_nrm {v : Val} (h : Nrm v) : normV v = v := by
  obtain ⟨k, n, s⟩ := v
  rcases h.2 with ⟨rfl, rfl, rfl⟩ | ⟨rfl, rfl⟩ | ⟨rfl, rfl⟩ | ⟨rfl, rfl | rfl, rfl⟩ <;> simp [normV]
abbrev BX (k n : Int) (s : ByteArray) : Obj := .cells #[.int .i64 k, .int .i64 n, .string s] 23
theorem bl_al {a w : World} (h : Below a.heap.size a w) (o : Obj) : Below a.heap.size a (w.alloc o) := h.alloc h.size o
theorem bl_tr {a w u : World} (h : Below a.heap.size a w) (h2 : Below w.heap.size w u) : Below a.heap.size a u := h.trans (h2.mono h.size)
attribute [local go_sem ↓] eql32_eq neq32_eq
theorem integer_any (n : Int) (w : World) : Calls Try.prog 57 #[.int .i64 n] w fun e w' => e = .returned (.agg #[.int .i64 1, .int .i64 n, .string ⟨#[]⟩]) ∧ w' = w.alloc (BX 1 n ⟨#[]⟩) := by
  go_enter Try.func57, Try.ntmps57
  go_wp2_with fail
  refine bodyPost_ret (v := .agg #[.int .i64 1, .int .i64 n, .string ⟨#[]⟩]) (by simp [results, Try.results57, go_sem]) rfl ⟨?_, ?_⟩
  · rfl
  · rfl
theorem boolean_any (b : Bool) (w : World) : Calls Try.prog 58 #[.bool b] w fun e w' => e = .returned (.agg #[.int .i64 3, .int .i64 (if b = true then 1 else 0), .string ⟨#[]⟩]) ∧ w' = w.alloc (BX 3 (if b = true then 1 else 0) ⟨#[]⟩) := by
  cases b
  · go_enter Try.func58, Try.ntmps58
    go_wp2_with fail
    refine bodyPost_ret (v := .agg #[.int .i64 3, .int .i64 0, .string ⟨#[]⟩]) (by simp [results, Try.results58, go_sem]) rfl ⟨?_, ?_⟩
    · rfl
    · rfl
  · go_enter Try.func58, Try.ntmps58
    go_wp2_with fail
    refine bodyPost_ret (v := .agg #[.int .i64 3, .int .i64 1, .string ⟨#[]⟩]) (by simp [results, Try.results58, go_sem]) rfl ⟨?_, ?_⟩
    · rfl
    · rfl
theorem isNull_any (x : Val) (w : World) (hs : Rng x.s) : Calls Try.prog 65 #[.agg #[.int .i64 x.k, .int .i64 x.n, .string (str x.s)]] w fun e w' => e = .returned (.bool (decide (x = nulV))) ∧ w' = w.alloc (BX x.k x.n (str x.s)) := by
  have he := fun (u : World) => run_eql32 u x nulV hs (fun x hx => by simp [nulV] at hx)
  simp only [nulV, show str [] = ⟨#[]⟩ from rfl] at he
  go_enter Try.func65, Try.ntmps65
  go_wp2_with fail
  go_ret
  exact ⟨rfl, rfl⟩
theorem norm_1 {x : Val} (h : x.k = 1) : normV x = ⟨1, x.n, []⟩ := by rw [normV, if_pos h]
theorem norm_2 {x : Val} (h : x.k = 2) : normV x = ⟨2, 0, x.s⟩ := by rw [normV, if_neg (by omega), if_pos h]
theorem norm_3 {x : Val} (h : x.k = 3) : normV x = ⟨3, if x.n = 0 then 0 else 1, []⟩ := by rw [normV, if_neg (by omega), if_neg (by omega), if_pos h]
theorem norm_0 {x : Val} (h1 : x.k ≠ 1) (h2 : x.k ≠ 2) (h3 : x.k ≠ 3) : normV x = ⟨0, 0, []⟩ := by rw [normV, if_neg h1, if_neg h2, if_neg h3]
theorem plain_any (x : Val) (w : World) : Calls Try.prog 30 #[.agg #[.int .i64 x.k, .int .i64 x.n, .string (str x.s)]] w fun e w' => e = .returned (.agg #[.int .i64 (normV x).k, .int .i64 (normV x).n, .string (str (normV x).s)]) ∧ Below w.heap.size w w' := by
  obtain ⟨k, n, s⟩ := x
  simp only
  by_cases k1 : k = 1
  · subst k1
    rw [norm_1 rfl]
    go_enter Try.func30, Try.ntmps30
    go_wp2_with (go_at_call 57; refine (integer_any _ _).mono ?_; rintro e w' ⟨rfl, rfl⟩)
    refine bodyPost_ret (v := .agg #[.int .i64 1, .int .i64 n, .string ⟨#[]⟩]) (by simp [results, Try.results30, go_sem]) rfl ⟨?_, ?_⟩
    · rfl
    · exact bl_al (bl_al (bl_al (Below.refl _ _) _) _) _
  by_cases k2 : k = 2
  · subst k2
    rw [norm_2 rfl]
    go_enter Try.func30, Try.ntmps30
    go_wp2_with fail
    refine bodyPost_ret (v := .agg #[.int .i64 2, .int .i64 0, .string (str s)]) (by simp [results, Try.results30, go_sem]) rfl ⟨?_, ?_⟩
    · rfl
    · exact bl_al (bl_al (Below.refl _ _) _) _
  by_cases k3 : k = 3
  · subst k3
    rw [norm_3 rfl]
    by_cases n0 : n = 0
    · subst n0
      go_enter Try.func30, Try.ntmps30
      go_wp2_with (go_at_call 58; refine (boolean_any _ _).mono ?_; rintro e w' ⟨rfl, rfl⟩)
      refine bodyPost_ret (v := .agg #[.int .i64 3, .int .i64 0, .string ⟨#[]⟩]) (by simp [results, Try.results30, go_sem]) rfl ⟨?_, ?_⟩
      · rfl
      · exact bl_al (bl_al (bl_al (Below.refl _ _) _) _) _
    · simp only [if_neg n0]
      have hb : (!decide (n = 0)) = true := by simp [n0]
      go_enter Try.func30, Try.ntmps30
      go_wp2_with (go_at_call 58; refine (boolean_any _ _).mono ?_; rintro e w' ⟨rfl, rfl⟩)
      refine bodyPost_ret (v := .agg #[.int .i64 3, .int .i64 1, .string ⟨#[]⟩]) (by simp [results, Try.results30, go_sem]) rfl ⟨?_, ?_⟩
      · rfl
      · exact bl_al (bl_al (bl_al (Below.refl _ _) _) _) _
  · rw [norm_0 k1 k2 k3]
    go_enter Try.func30, Try.ntmps30
    go_wp2_with fail
    refine bodyPost_ret (v := .agg #[.int .i64 0, .int .i64 0, .string ⟨#[]⟩]) (by simp [results, Try.results30, go_sem]) rfl ⟨?_, ?_⟩
    · rfl
    · exact bl_al (bl_al (Below.refl _ _) _) _
theorem calculates_any (op : Int) (w : World) : Calls Try.prog 32 #[.int .i64 op] w fun e w' => e = .returned (.bool (decide (4 ≤ op ∧ op ≤ 9))) ∧ w' = w := by
  by_cases h1 : 4 ≤ op
  · by_cases h2 : op ≤ 9
    · rw [show decide (4 ≤ op ∧ op ≤ 9) = true from decide_eq_true ⟨h1, h2⟩]
      go_enter Try.func32, Try.ntmps32
      go_wp2_with fail
      go_ret
      exact ⟨rfl, rfl⟩
    · rw [show decide (4 ≤ op ∧ op ≤ 9) = false from decide_eq_false (fun h => h2 h.2)]
      have h3 : decide (op ≤ 9) = false := decide_eq_false h2
      go_enter Try.func32, Try.ntmps32
      go_wp2_with fail
      go_ret
      exact ⟨rfl, rfl⟩
  · rw [show decide (4 ≤ op ∧ op ≤ 9) = false from decide_eq_false (fun h => h1 h.1)]
    have h3 : decide (4 ≤ op) = false := decide_eq_false h1
    go_enter Try.func32, Try.ntmps32
    go_wp2_with fail
    go_ret
    exact ⟨rfl, rfl⟩
theorem compares_any (op : Int) (w : World) : Calls Try.prog 35 #[.int .i64 op] w fun e w' => e = .returned (.bool (decide (10 ≤ op ∧ op ≤ 15))) ∧ w' = w := by
  by_cases h1 : 10 ≤ op
  · by_cases h2 : op ≤ 15
    · rw [show decide (10 ≤ op ∧ op ≤ 15) = true from decide_eq_true ⟨h1, h2⟩]
      go_enter Try.func35, Try.ntmps35
      go_wp2_with fail
      go_ret
      exact ⟨rfl, rfl⟩
    · rw [show decide (10 ≤ op ∧ op ≤ 15) = false from decide_eq_false (fun h => h2 h.2)]
      have h3 : decide (op ≤ 15) = false := decide_eq_false h2
      go_enter Try.func35, Try.ntmps35
      go_wp2_with fail
      go_ret
      exact ⟨rfl, rfl⟩
  · rw [show decide (10 ≤ op ∧ op ≤ 15) = false from decide_eq_false (fun h => h1 h.1)]
    have h3 : decide (10 ≤ op) = false := decide_eq_false h1
    go_enter Try.func35, Try.ntmps35
    go_wp2_with fail
    go_ret
    exact ⟨rfl, rfl⟩
theorem isKind_any (op : Int) (w : World) : Calls Try.prog 53 #[.int .i64 op] w fun e w' => e = .returned (.bool (decide (0 ≤ op ∧ op ≤ 3))) ∧ w' = w := by
  by_cases h1 : 0 ≤ op
  · by_cases h2 : op ≤ 3
    · rw [show decide (0 ≤ op ∧ op ≤ 3) = true from decide_eq_true ⟨h1, h2⟩]
      go_enter Try.func53, Try.ntmps53
      go_wp2_with fail
      go_ret
      exact ⟨rfl, rfl⟩
    · rw [show decide (0 ≤ op ∧ op ≤ 3) = false from decide_eq_false (fun h => h2 h.2)]
      have h3 : decide (op ≤ 3) = false := decide_eq_false h2
      go_enter Try.func53, Try.ntmps53
      go_wp2_with fail
      go_ret
      exact ⟨rfl, rfl⟩
  · rw [show decide (0 ≤ op ∧ op ≤ 3) = false from decide_eq_false (fun h => h1 h.1)]
    have h3 : decide (0 ≤ op) = false := decide_eq_false h1
    go_enter Try.func53, Try.ntmps53
    go_wp2_with fail
    go_ret
    exact ⟨rfl, rfl⟩
theorem kindIf_any (b : Bool) (k : Int) (w : World) : Calls Try.prog 54 #[.bool b, .int .i64 k] w fun e w' => e = .returned (.tuple #[.int .i64 (if b = true then k else 0), .int .i64 (if b = true then 0 else 22)]) ∧ w' = w := by
  cases b
  · go_enter Try.func54, Try.ntmps54
    go_wp2_with fail
    refine bodyPost_ret (v := .tuple #[.int .i64 0, .int .i64 22]) (by simp [results, Try.results54, go_sem]) rfl ⟨?_, ?_⟩
    · rfl
    · rfl
  · go_enter Try.func54, Try.ntmps54
    go_wp2_with fail
    refine bodyPost_ret (v := .tuple #[.int .i64 k, .int .i64 0]) (by simp [results, Try.results54, go_sem]) rfl ⟨?_, ?_⟩
    · rfl
    · rfl
def smK (a b : Int) : Bool := decide (a = b ∨ a = 0 ∨ b = 0)
theorem sameKind_any (a b : Int) (w : World) : Calls Try.prog 56 #[.int .i64 a, .int .i64 b] w fun e w' => e = .returned (.bool (smK a b)) ∧ w' = w := by
  by_cases h1 : a = b
  · rw [show smK a b = true from decide_eq_true (.inl h1)]
    subst h1
    go_enter Try.func56, Try.ntmps56
    go_wp2_with fail
    go_ret
    exact ⟨rfl, rfl⟩
  have g1 : (a == b) = false := beq_false_of_ne h1
  by_cases h2 : a = 0
  · rw [show smK a b = true from decide_eq_true (.inr (.inl h2))]
    subst h2
    go_enter Try.func56, Try.ntmps56
    go_wp2_with fail
    go_ret
    exact ⟨rfl, rfl⟩
  have g2 : (a == 0) = false := beq_false_of_ne h2
  by_cases h3 : b = 0
  · rw [show smK a b = true from decide_eq_true (.inr (.inr h3))]
    subst h3
    go_enter Try.func56, Try.ntmps56
    go_wp2_with fail
    go_ret
    exact ⟨rfl, rfl⟩
  · have g3 : (b == 0) = false := beq_false_of_ne h3
    rw [show smK a b = false from decide_eq_false (fun h => by rcases h with h | h | h; exact h1 h; exact h2 h; exact h3 h)]
    go_enter Try.func56, Try.ntmps56
    go_wp2_with fail
    go_ret
    exact ⟨rfl, rfl⟩
def oneOf (op : Int) : Bool := decide (op = 4 ∨ op = 16 ∨ op = 19 ∨ op = 20 ∨ op = 22 ∨ op = 23 ∨ op = 24 ∨ op = 25)
theorem takesOne_any (op : Int) (w : World) : Calls Try.prog 31 #[.int .i64 op] w fun e w' => e = .returned (.bool (oneOf op)) ∧ w' = w := by
  by_cases hn : op = 4 ∨ op = 16 ∨ op = 19 ∨ op = 20 ∨ op = 22 ∨ op = 23 ∨ op = 24 ∨ op = 25
  · have hr : oneOf op = true := decide_eq_true hn
    rw [hr]
    clear hr
    rcases hn with rfl | rfl | rfl | rfl | rfl | rfl | rfl | rfl <;>
    · go_enter Try.func31, Try.ntmps31
      go_wp2_with fail
      go_ret
      exact ⟨rfl, rfl⟩
  · have hr : oneOf op = false := decide_eq_false hn
    rw [hr]
    simp only [not_or] at hn
    obtain ⟨h1, h2, h3, h4, h5, h6, h7, h8⟩ := hn
    go_enter Try.func31, Try.ntmps31
    go_wp2_with fail
    go_ret
    exact ⟨rfl, rfl⟩
end Go.Proofs.Ytbhilmgpmebaiaa
namespace Go.Proofs.Ytbhilmgpmebaiaa
open Go.RowKit
def sgI (a b : Int) : Int := if a < b then -1 else if b < a then 1 else 0
theorem isNaN_any (n : Int) (w : World) : Calls Try.prog 91 #[.int .i64 n] w fun e w' => e = .returned (.bool false) ∧ w' = w := by
  go_enter Try.func91, Try.ntmps91
  go_wp2_with fail
  go_ret
  exact ⟨rfl, rfl⟩
theorem cmpInt_any (a b : Int) (w : World) : Calls Try.prog 82 #[.int .i64 a, .int .i64 b] w fun e w' => e = .returned (.int .i64 (sgI a b)) ∧ w' = w := by
  by_cases h1 : a < b
  · rw [show sgI a b = -1 by rw [sgI, if_pos h1]]
    go_enter Try.func82, Try.ntmps82
    go_wp2_with (go_at_call 91; refine (isNaN_any _ _).mono ?_; rintro e w' ⟨rfl, rfl⟩)
    go_ret
    exact ⟨rfl, rfl⟩
  by_cases h2 : b < a
  · rw [show sgI a b = 1 by rw [sgI, if_neg h1, if_pos h2]]
    have g1 : decide (a < b) = false := decide_eq_false h1
    go_enter Try.func82, Try.ntmps82
    go_wp2_with (go_at_call 91; refine (isNaN_any _ _).mono ?_; rintro e w' ⟨rfl, rfl⟩)
    go_ret
    exact ⟨rfl, rfl⟩
  · rw [show sgI a b = 0 by rw [sgI, if_neg h1, if_neg h2]]
    have g1 : decide (a < b) = false := decide_eq_false h1
    have g2 : decide (b < a) = false := decide_eq_false h2
    go_enter Try.func82, Try.ntmps82
    go_wp2_with (go_at_call 91; refine (isNaN_any _ _).mono ?_; rintro e w' ⟨rfl, rfl⟩)
    go_ret
    exact ⟨rfl, rfl⟩
theorem isNaN64_any (n : Int) (w : World) : Calls Try.prog 92 #[.int .i64 n] w fun e w' => e = .returned (.bool false) ∧ w' = w := by
  go_enter Try.func92, Try.ntmps92
  go_wp2_with fail
  go_ret
  exact ⟨rfl, rfl⟩
theorem cmpI64_any (a b : Int) (w : World) : Calls Try.prog 83 #[.int .i64 a, .int .i64 b] w fun e w' => e = .returned (.int .i64 (sgI a b)) ∧ w' = w := by
  by_cases h1 : a < b
  · rw [show sgI a b = -1 by rw [sgI, if_pos h1]]
    go_enter Try.func83, Try.ntmps83
    go_wp2_with (go_at_call 92; refine (isNaN64_any _ _).mono ?_; rintro e w' ⟨rfl, rfl⟩)
    go_ret
    exact ⟨rfl, rfl⟩
  by_cases h2 : b < a
  · rw [show sgI a b = 1 by rw [sgI, if_neg h1, if_pos h2]]
    have g1 : decide (a < b) = false := decide_eq_false h1
    go_enter Try.func83, Try.ntmps83
    go_wp2_with (go_at_call 92; refine (isNaN64_any _ _).mono ?_; rintro e w' ⟨rfl, rfl⟩)
    go_ret
    exact ⟨rfl, rfl⟩
  · rw [show sgI a b = 0 by rw [sgI, if_neg h1, if_neg h2]]
    have g1 : decide (a < b) = false := decide_eq_false h1
    have g2 : decide (b < a) = false := decide_eq_false h2
    go_enter Try.func83, Try.ntmps83
    go_wp2_with (go_at_call 92; refine (isNaN64_any _ _).mono ?_; rintro e w' ⟨rfl, rfl⟩)
    go_ret
    exact ⟨rfl, rfl⟩
/-- the order of bytes -/
theorem cmpB_str : ∀ (s t : List Int), Rng s → Rng t → Lib.compareBytes (str s).data.toList (str t).data.toList = cmpI s t := by
  intro s t hs ht
  simp only [str]
  induction s generalizing t with
  | nil => cases t <;> rfl
  | cons x s ih =>
    cases t with
    | nil => rfl
    | cons y t =>
      have hx := hs x (by simp)
      have hy := ht y (by simp)
      have h1 : (UInt8.ofNat x.toNat < UInt8.ofNat y.toNat) ↔ x < y := by
        rw [UInt8.lt_iff_toNat_lt, UInt8.toNat_ofNat', UInt8.toNat_ofNat']; omega
      have h2 : (UInt8.ofNat y.toNat < UInt8.ofNat x.toNat) ↔ y < x := by
        rw [UInt8.lt_iff_toNat_lt, UInt8.toNat_ofNat', UInt8.toNat_ofNat']; omega
      have ih2 := ih t (fun z hz => hs z (by simp [hz])) (fun z hz => ht z (by simp [hz]))
      simp only [List.map_cons, Lib.compareBytes, cmpI, h1, h2, ih2]
theorem cmpStr_any (s t : List Int) (w : World) (hs : Rng s) (ht : Rng t) : Calls Try.prog 84 #[.string (str s), .string (str t)] w fun e w' => e = .returned (.int .i64 (cmpI s t)) ∧ w' = w := by
  rw [← cmpB_str s t hs ht]
  go_enter Try.func84, Try.ntmps84
  go_wp2_with go_in
  rw [run_callFunc_extern Try.func96 (by kernel_rfl) (by kernel_rfl) (by kernel_rfl) (e := Extern.BytealgCompare.compare) (by kernel_rfl), Lib.run_compareString]
  simp only [Result.andThen]
  rw [Oper.upon_value]
  go_wp2_with fail
  go_ret
  exact ⟨rfl, rfl⟩
def fit (n : Int) : Int × Int := if -9223372036854775808 ≤ n ∧ n ≤ 9223372036854775807 then (n, 0) else (0, 30)
theorem fit_in {n : Int} (h : -9223372036854775808 ≤ n ∧ n ≤ 9223372036854775807) : fit n = (n, 0) := if_pos h
theorem fit_out {n : Int} (h : ¬ (-9223372036854775808 ≤ n ∧ n ≤ 9223372036854775807)) : fit n = (0, 30) := if_neg h
def I64 (n : Int) : Prop := -9223372036854775808 ≤ n ∧ n ≤ 9223372036854775807
theorem wrap_mod (x : Int) : IntKind.i64.wrap x = if 9223372036854775808 ≤ x % 18446744073709551616 then x % 18446744073709551616 - 18446744073709551616 else x % 18446744073709551616 := by
  simp [IntKind.wrap, IntKind.signed, IntKind.bits]
theorem wrap_three {x : Int} (h : -18446744073709551616 ≤ x ∧ x < 18446744073709551616) :
    IntKind.i64.wrap x = x ∧ I64 x ∨ IntKind.i64.wrap x = x - 18446744073709551616 ∧ 9223372036854775807 < x ∨ IntKind.i64.wrap x = x + 18446744073709551616 ∧ x < -9223372036854775808 := by
  rw [wrap_mod]; unfold I64; split <;> omega
theorem add_any (a b : Int) (w : World) (ha : I64 a) (hb : I64 b) :
    Calls Try.prog 61 #[.int .i64 a, .int .i64 b] w fun e w' => e = .returned (.tuple #[.int .i64 (fit (a + b)).1, .int .i64 (fit (a + b)).2]) ∧ w' = w := by
  obtain ⟨n, hn⟩ : ∃ n, IntKind.i64.wrap (a + b) = n := ⟨_, rfl⟩
  have hw := wrap_three (x := a + b) (by unfold I64 at ha hb; omega)
  rw [hn] at hw
  by_cases h1 : a < n
  · by_cases h2 : 0 < b
    · rw [show fit (a + b) = (n, 0) by unfold I64 at hw ha hb; first | (rw [fit_in (by omega)]; congr 1; omega) | exact fit_out (by omega)]
      clear hw ha hb
      go_enter Try.func61, Try.ntmps61
      go_wp2_with fail
      refine bodyPost_ret (v := .tuple #[.int .i64 (n, 0).1, .int .i64 (n, 0).2]) (by simp [results, Try.results61, go_sem]) rfl ⟨?_, ?_⟩
      · rfl
      · rfl
    · have g2 : decide (0 < b) = false := decide_eq_false h2
      rw [show fit (a + b) = (0, 30) by unfold I64 at hw ha hb; first | (rw [fit_in (by omega)]; congr 1; omega) | exact fit_out (by omega)]
      clear hw ha hb
      go_enter Try.func61, Try.ntmps61
      go_wp2_with fail
      refine bodyPost_ret (v := .tuple #[.int .i64 (0, 30).1, .int .i64 (0, 30).2]) (by simp [results, Try.results61, go_sem]) rfl ⟨?_, ?_⟩
      · rfl
      · rfl
  · have g1 : decide (a < n) = false := decide_eq_false h1
    by_cases h2 : 0 < b
    · rw [show fit (a + b) = (0, 30) by unfold I64 at hw ha hb; first | (rw [fit_in (by omega)]; congr 1; omega) | exact fit_out (by omega)]
      clear hw ha hb
      go_enter Try.func61, Try.ntmps61
      go_wp2_with fail
      refine bodyPost_ret (v := .tuple #[.int .i64 (0, 30).1, .int .i64 (0, 30).2]) (by simp [results, Try.results61, go_sem]) rfl ⟨?_, ?_⟩
      · rfl
      · rfl
    · have g2 : decide (0 < b) = false := decide_eq_false h2
      rw [show fit (a + b) = (n, 0) by unfold I64 at hw ha hb; first | (rw [fit_in (by omega)]; congr 1; omega) | exact fit_out (by omega)]
      clear hw ha hb
      go_enter Try.func61, Try.ntmps61
      go_wp2_with fail
      refine bodyPost_ret (v := .tuple #[.int .i64 (n, 0).1, .int .i64 (n, 0).2]) (by simp [results, Try.results61, go_sem]) rfl ⟨?_, ?_⟩
      · rfl
      · rfl
theorem w64_in {n : Int} (h : I64 n) : wrap64 n = n := by unfold wrap64; unfold I64 at h; omega
theorem tdiv_in {a b : Int} (ha : I64 a) (hb : I64 b) (h0 : b ≠ 0) (hm : ¬ (a = -9223372036854775808 ∧ b = -1)) : I64 (a.tdiv b) := by
  have h1 : (a.tdiv b).natAbs = a.natAbs / b.natAbs := Int.natAbs_tdiv a b
  unfold I64 at *
  have hb1 : b.natAbs = 1 ∨ 2 ≤ b.natAbs := by omega
  rcases hb1 with hb1 | hb1
  · rcases Int.natAbs_eq b with e | e
    · rw [hb1] at e
      rw [show b = 1 from e, Int.tdiv_one]; omega
    · rw [hb1] at e
      rw [show b = -1 from e, Int.tdiv_neg, Int.tdiv_one]; omega
  · have h2 : a.natAbs / b.natAbs ≤ a.natAbs / 2 := Nat.div_le_div_left hb1 (by omega)
    omega
def dvd (a b : Int) : Int × Int := if b = 0 then (0, 31) else fit (a.tdiv b)
theorem divide_any (a b : Int) (w : World) (ha : I64 a) (hb : I64 b) :
    Calls Try.prog 63 #[.int .i64 a, .int .i64 b] w fun e w' => e = .returned (.tuple #[.int .i64 (dvd a b).1, .int .i64 (dvd a b).2]) ∧ w' = w := by
  by_cases h0 : b = 0
  · subst h0
    go_enter Try.func63, Try.ntmps63
    go_wp2_with fail
    refine bodyPost_ret (v := .tuple #[.int .i64 0, .int .i64 31]) (by simp [results, Try.results63, go_sem]) rfl ⟨?_, ?_⟩
    · rfl
    · rfl
  by_cases hm : a = -9223372036854775808 ∧ b = -1
  · obtain ⟨rfl, rfl⟩ := hm
    go_enter Try.func63, Try.ntmps63
    go_wp2_with fail
    refine bodyPost_ret (v := .tuple #[.int .i64 0, .int .i64 30]) (by simp [results, Try.results63, go_sem]) rfl ⟨?_, ?_⟩
    · rfl
    · rfl
  · have hi := tdiv_in ha hb h0 hm
    rw [show dvd a b = (a.tdiv b, 0) by rw [dvd, if_neg h0, fit_in hi]]
    have hq : wrap64 (a.tdiv b) = a.tdiv b := w64_in hi
    clear hi
    by_cases h1 : a = -9223372036854775808
    · have h2 : (b == -1) = false := beq_false_of_ne (fun e => hm ⟨h1, e⟩)
      have h3 : (a == -9223372036854775808) = true := beq_iff_eq.2 h1
      clear hm h1 ha hb
      go_enter Try.func63, Try.ntmps63
      go_wp2_with fail
      refine bodyPost_ret (v := .tuple #[.int .i64 (a.tdiv b), .int .i64 0]) (by simp [results, Try.results63, go_sem, hq]) rfl ⟨?_, ?_⟩
      · rfl
      · rfl
    · have h3 : (a == -9223372036854775808) = false := beq_false_of_ne h1
      clear hm h1 ha hb
      go_enter Try.func63, Try.ntmps63
      go_wp2_with fail
      refine bodyPost_ret (v := .tuple #[.int .i64 (a.tdiv b), .int .i64 0]) (by simp [results, Try.results63, go_sem, hq]) rfl ⟨?_, ?_⟩
      · rfl
      · rfl
def rmd (a b : Int) : Int × Int := if b = 0 then (0, 31) else (a.tmod b, 0)
end Go.Proofs.Ytbhilmgpmebaiaa
namespace Go.Proofs.Ytbhilmgpmebaiaa
open Go.RowKit
def okK (k a : Int) : Bool := decide (a = k ∨ a = 0)
theorem okK_t1 (k : Int) : okK k k = true := by simp [okK]
theorem okK_t2 (k : Int) : okK k 0 = true := by simp [okK]
theorem okK_f {k a : Int} (h1 : a ≠ k) (h2 : a ≠ 0) : okK k a = false := by simp [okK, h1, h2]
theorem allOf2_any (k a b : Int) (H : Nat) (T : TypeId) (w : World) (h : w.heap[H]? = some (.cells #[.int .i64 a, .int .i64 b] T (0, 0))) :
    Calls Try.prog 55 #[.int .i64 k, .slice (some ⟨H, 0, none⟩) 2 2] w fun e w' => e = .returned (.bool (okK k a && okK k b)) ∧ w' = w := by
  have c0 := (cell_of_row _ H 0 _ _ _ h).trans (show (#[Value.int .i64 a, .int .i64 b] : Array Value)[0]? = some (.int .i64 a) from rfl)
  have c1 := (cell_of_row _ H 1 _ _ _ h).trans (show (#[Value.int .i64 a, .int .i64 b] : Array Value)[1]? = some (.int .i64 b) from rfl)
  clear h
  by_cases hA1 : a = k
  · subst hA1
    rw [okK_t1, Bool.true_and]
    by_cases h1 : b = a
    · subst h1
      rw [okK_t1]
      go_enter Try.func55, Try.ntmps55
      go_wp2_with fail
      refine wp_loop_rounds 3 ?_
      rw [rounds_succ]; go_wp2_with fail
      rw [rounds_succ]; go_wp2_with fail
      rw [rounds_succ]; go_wp2_with fail
      go_ret
      exact ⟨rfl, rfl⟩
    by_cases h2 : b = 0
    · subst h2
      rw [okK_t2]
      have g1 : (0 == a) = false := beq_false_of_ne h1
      go_enter Try.func55, Try.ntmps55
      go_wp2_with fail
      refine wp_loop_rounds 3 ?_
      rw [rounds_succ]; go_wp2_with fail
      rw [rounds_succ]; go_wp2_with fail
      rw [rounds_succ]; go_wp2_with fail
      go_ret
      exact ⟨rfl, rfl⟩
    · rw [okK_f h1 h2]
      have g1 : (b != a) = true := bne_iff_ne.2 h1
      have g2 : (b != 0) = true := bne_iff_ne.2 h2
      go_enter Try.func55, Try.ntmps55
      go_wp2_with fail
      refine wp_loop_rounds 3 ?_
      rw [rounds_succ]; go_wp2_with fail
      rw [rounds_succ]; go_wp2_with fail
      go_ret
      exact ⟨rfl, rfl⟩
  by_cases hA2 : a = 0
  · subst hA2
    have g0 : (0 == k) = false := beq_false_of_ne hA1
    rw [okK_t2, Bool.true_and]
    by_cases h1 : b = k
    · subst h1
      rw [okK_t1]
      go_enter Try.func55, Try.ntmps55
      go_wp2_with fail
      refine wp_loop_rounds 3 ?_
      rw [rounds_succ]; go_wp2_with fail
      rw [rounds_succ]; go_wp2_with fail
      rw [rounds_succ]; go_wp2_with fail
      go_ret
      exact ⟨rfl, rfl⟩
    by_cases h2 : b = 0
    · subst h2
      rw [okK_t2]
      go_enter Try.func55, Try.ntmps55
      go_wp2_with fail
      refine wp_loop_rounds 3 ?_
      rw [rounds_succ]; go_wp2_with fail
      rw [rounds_succ]; go_wp2_with fail
      rw [rounds_succ]; go_wp2_with fail
      go_ret
      exact ⟨rfl, rfl⟩
    · rw [okK_f h1 h2]
      have g1 : (b != k) = true := bne_iff_ne.2 h1
      have g2 : (b != 0) = true := bne_iff_ne.2 h2
      go_enter Try.func55, Try.ntmps55
      go_wp2_with fail
      refine wp_loop_rounds 3 ?_
      rw [rounds_succ]; go_wp2_with fail
      rw [rounds_succ]; go_wp2_with fail
      go_ret
      exact ⟨rfl, rfl⟩
  · rw [okK_f hA1 hA2, Bool.false_and]
    have g1 : (a != k) = true := bne_iff_ne.2 hA1
    have g2 : (a != 0) = true := bne_iff_ne.2 hA2
    go_enter Try.func55, Try.ntmps55
    go_wp2_with fail
    refine wp_loop_rounds 3 ?_
    rw [rounds_succ]; go_wp2_with fail
    go_ret
    exact ⟨rfl, rfl⟩

def orI (a b c : Int) : Int := if a ≠ 0 then a else if b ≠ 0 then b else c
theorem or_any (a b c : Int) (H : Nat) (T : TypeId) (w : World) (h : w.heap[H]? = some (.cells #[.int .i64 a, .int .i64 b, .int .i64 c] T (0, 0))) :
    Calls Try.prog 81 #[.slice (some ⟨H, 0, none⟩) 3 3] w fun e w' => e = .returned (.int .i64 (orI a b c)) ∧ w' = w := by
  have c0 := (cell_of_row _ H 0 _ _ _ h).trans (show (#[Value.int .i64 a, .int .i64 b, .int .i64 c] : Array Value)[0]? = some (.int .i64 a) from rfl)
  have c1 := (cell_of_row _ H 1 _ _ _ h).trans (show (#[Value.int .i64 a, .int .i64 b, .int .i64 c] : Array Value)[1]? = some (.int .i64 b) from rfl)
  have c2 := (cell_of_row _ H 2 _ _ _ h).trans (show (#[Value.int .i64 a, .int .i64 b, .int .i64 c] : Array Value)[2]? = some (.int .i64 c) from rfl)
  clear h
  by_cases h1 : a = 0
  · subst h1
    by_cases h2 : b = 0
    · subst h2
      rw [show orI 0 0 c = c by simp [orI]]
      by_cases h3 : c = 0
      · subst h3
        go_enter Try.func81, Try.ntmps81
        go_wp2_with fail
        refine wp_loop_rounds 4 ?_
        rw [rounds_succ]; go_wp2_with fail
        rw [rounds_succ]; go_wp2_with fail
        rw [rounds_succ]; go_wp2_with fail
        rw [rounds_succ]; go_wp2_with fail
        go_ret
        exact ⟨rfl, rfl⟩
      · have g1 : (c != 0) = true := bne_iff_ne.2 h3
        go_enter Try.func81, Try.ntmps81
        go_wp2_with fail
        refine wp_loop_rounds 4 ?_
        rw [rounds_succ]; go_wp2_with fail
        rw [rounds_succ]; go_wp2_with fail
        rw [rounds_succ]; go_wp2_with fail
        go_ret
        exact ⟨rfl, rfl⟩
    · rw [show orI 0 b c = b by simp [orI, h2]]
      have g1 : (b != 0) = true := bne_iff_ne.2 h2
      go_enter Try.func81, Try.ntmps81
      go_wp2_with fail
      refine wp_loop_rounds 4 ?_
      rw [rounds_succ]; go_wp2_with fail
      rw [rounds_succ]; go_wp2_with fail
      go_ret
      exact ⟨rfl, rfl⟩
  · rw [show orI a b c = a by simp [orI, h1]]
    have g1 : (a != 0) = true := bne_iff_ne.2 h1
    go_enter Try.func81, Try.ntmps81
    go_wp2_with fail
    refine wp_loop_rounds 4 ?_
    rw [rounds_succ]; go_wp2_with fail
    go_ret
    exact ⟨rfl, rfl⟩

end Go.Proofs.Ytbhilmgpmebaiaa
