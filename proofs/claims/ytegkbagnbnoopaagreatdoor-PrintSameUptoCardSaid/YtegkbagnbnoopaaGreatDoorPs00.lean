import Derived.Test.YtegkbagnbnoopaaGreatDoorProg
import Derived.Test.YtegkbagnbnoopaaGreatDoorRows
import Derived.Lib.SlBytesConst
import Derived.WalkKit
import Derived.ProofKit
import Derived.BigQuiet
import Derived.Deep.QuietTactic
import Derived.WalkSpells
import Derived.WalkLawsBesides
import Derived.Lib.Hide
import Derived.Deep.MidRow
import Derived.Deep.RegionLaw
import Derived.BigRegion
import Derived.Laws.AppendOwnNone
import Derived.Deep.DeepMust
import Derived.Deep.AppendLies
import Derived.RegionTactic
import Derived.Deep.WholeRow
import Derived.BigFrame
import Derived.Deep.RegionWith
import Derived.Deep.RegionHeld3
import Derived.Maps.RangeWalk
import Derived.Laws.CopyOwn
import Derived.StillTailTactics
import Derived.Test.YtegkbagnbnoopaaGreatDoorChecked
import Derived.OpenShut
import Derived.Deep.DeepHandedRow
import Derived.Deep.DeepWitnessRowRef
import Derived.Deep.Matrix
import Derived.Deep.Slices
import Derived.Deep.Fields
import Derived.ChangeSame
import Derived.ChangeMaps5
import Derived.Lib.LaidTab
namespace Go.Proofs.YtegkbagnbnoopaaGreatDoor
open Go.RowKit
open Go.Lib (hid)
theorem sA {α : Type _} (l : List α) (i : Nat) (a : α) : l.toArray.setIfInBounds i a = (l.set i a).toArray := List.setIfInBounds_toArray ..
theorem sB {α : Type _} {x : α} {xs : List α} {a : α} : (x :: xs).set 0 a = a :: xs := List.set_cons_zero ..
theorem sC {α : Type _} {x : α} {xs : List α} {n : Nat} {a : α} : (x :: xs).set (n + 1) a = x :: xs.set n a := List.set_cons_succ ..
theorem tk {P : Program} {ops : Array Oper} {Q : Exit → Act → World → Prop} {md : Region.Mode} {S : World → Prop} {i : Nat} {oi : Oper} {v : Value} {fuel : Nat} {listed : Array Bool} {a : Act} {w : World} (hy : YieldsIf P ops S oi v a)
  (h : wpAnyH P md ops Q S fuel (listed.setIfInBounds i true) (a.put oi.dst v) w) (hi : ops[i]? = some oi := by rfl) (hs : Region.noSelect ops = true := by kernel_rfl) (hf : Region.free md ops listed i = true := by kernel_rfl) (hr : (Region.ready md ops listed).contains i = true := by kernel_rfl)
  (hQ : ∀ c a w, Q (.panic c) (a.put oi.dst v) w → Q (.panic c) a w := by exact fun _ _ _ h => h) (hS : S w := by assumption) : wpAnyH P md ops Q S (fuel + 1) listed a w := wpAnyH_take hi hs hf hr hQ hy hS h
def Rng (l : List Int) : Prop := ∀ x ∈ l, 0 ≤ x ∧ x < 256
theorem Rng.get {l : List Int} (h : Rng l) (i : Nat) : 0 ≤ l[i]?.getD 0 ∧ l[i]?.getD 0 < 256 := by
 by_cases hi : i < l.length
 ·rw [List.getElem?_eq_getElem hi]; exact h _ (List.getElem_mem hi)
 ·rw [List.getElem?_eq_none (by omega)]; exact ⟨by decide, by decide⟩
theorem Rng.drop {l : List Int} (h : Rng l) (k : Nat) : Rng (l.drop k) := fun x hx => h x (List.mem_of_mem_drop hx)
theorem Rng.take {l : List Int} (h : Rng l) (k : Nat) : Rng (l.take k) := fun x hx => h x (List.mem_of_mem_take hx)
def str (l : List Int) : ByteArray := ⟨(l.map fun x => UInt8.ofNat x.toNat).toArray⟩
theorem str_inj {l m : List Int} (hl : Rng l) (hm : Rng m) (h : str l = str m) : l = m := by
  simp only [str, ByteArray.mk.injEq] at h
  have h2 : (l.map fun x => UInt8.ofNat x.toNat) = (m.map fun x => UInt8.ofNat x.toNat) := by simpa using congrArg Array.toList h
  have key : ∀ l : List Int, Rng l → (l.map fun x => UInt8.ofNat x.toNat).map (fun u => (u.toNat : Int)) = l := by
    intro l hl
    rw [List.map_map]
    conv => rhs; rw [← List.map_id l]
    apply List.map_congr_left
    intro x hx
    have := hl x hx
    simp only [Function.comp, id, UInt8.toNat_ofNat']
    omega
  rw [← key l hl, ← key m hm, h2]
theorem str_beq {l m : List Int} (hl : Rng l) (hm : Rng m) : ((str l).toList == (str m).toList) = decide (l = m) := by
 rw [Bool.eq_iff_iff, beq_iff_eq, decide_eq_true_eq]
 constructor
 ·intro h
  refine str_inj hl hm ?_
  rw [ByteArray.toList_eq, ByteArray.toList_eq] at h
  have h2 : (str l).data = (str m).data := Array.toList_inj.1 h
  cases h3 : str l with
  | mk d1 => cases h4 : str m with
   | mk d2 => rw [h3, h4] at h2; exact congrArg ByteArray.mk h2
 ·intro h; rw [h]
structure Val where
 k : Int
 n : Int
 s : List Int
def Val.OK (v : Val) : Prop := (∀ x ∈ v.s, 0 ≤ x ∧ x < 256) ∧ -9223372036854775808 ≤ v.k ∧ v.k ≤ 9223372036854775807 ∧ -9223372036854775808 ≤ v.n ∧ v.n ≤ 9223372036854775807
theorem str_len (s : List Int) : (str s).size = s.length := by simp [str, ByteArray.size]
theorem str_get (s : List Int) (j : Nat) (hr : Rng s) (hj : j < s.length) : (((str s).data.toList.getD j 0).toNat : Int) = s[j]?.getD 0 := by
 have h := hr.get j
 simp only [str, List.getD, List.getElem?_map, List.getElem?_eq_getElem hj, Option.map_some, Option.getD_some] at h ⊢
 rw [UInt8.toNat_ofNat']
 omega
def Rw (w : World) (v : Value) (rs : List Val) : Prop :=
 ∃ (a : Option Addr) (cap : Nat), v = .slice a rs.length cap ∧ (rs.length ≤ cap ∧ (a = none → cap = 0)) ∧ (0 < rs.length → ∃ b off, a = some ⟨b, off, none⟩ ∧ b < w.heap.size ∧
  ∀ i x, rs[i]? = some x → w.cell? ⟨b, off + i * 3, none⟩ = some (.int .i64 x.k) ∧ w.cell? ⟨b, off + i * 3 + 1, none⟩ = some (.int .i64 x.n) ∧ w.cell? ⟨b, off + i * 3 + 2, none⟩ = some (.string (str x.s)))
theorem Rw.below {w w' : World} {v : Value} {rs : List Val} (h : Rw w v rs) (hb : Below w.heap.size w w') : Rw w' v rs := by
 obtain ⟨a, cap, hv, hc, h⟩ := h
 refine ⟨a, cap, hv, hc, fun hl => ?_⟩
 obtain ⟨b, off, ha, hbs, hcell⟩ := h hl
 refine ⟨b, off, ha, Nat.lt_of_lt_of_le hbs hb.size, fun i x hx => ?_⟩
 obtain ⟨h0, h1, h2⟩ := hcell i x hx
 exact ⟨(hb.cell (p := ⟨b, off + i * 3, none⟩) hbs).trans h0, (hb.cell (p := ⟨b, off + i * 3 + 1, none⟩) hbs).trans h1, (hb.cell (p := ⟨b, off + i * 3 + 2, none⟩) hbs).trans h2⟩
theorem Rw.one {w : World} {T : TypeId} (x : Val) {H : Nat} (hH : w.heap.size = H) : Rw (w.alloc (.cells #[.int .i64 x.k, .int .i64 x.n, .string (str x.s)] T)) (.slice (some ⟨H, 0, none⟩) 1 1) [x] := by
 subst hH
 refine ⟨some ⟨w.heap.size, 0, none⟩, 1, rfl, ⟨Nat.le_refl _, fun e => by cases e⟩, fun _ => ⟨w.heap.size, 0, rfl, by simp, fun i y hy => ?_⟩⟩
 match i, hy with
 | 0, hy =>
  simp only [List.getElem?_cons_zero, Option.some.injEq] at hy
  subst hy
  have h0 : (w.alloc (.cells #[.int .i64 x.k, .int .i64 x.n, .string (str x.s)] T)).heap[w.heap.size]? = some (.cells #[.int .i64 x.k, .int .i64 x.n, .string (str x.s)] T (0, 0)) := heap_alloc_new _ _
  exact ⟨cell_of_row _ _ 0 _ _ _ h0, cell_of_row _ _ 1 _ _ _ h0, cell_of_row _ _ 2 _ _ _ h0⟩
 | i + 1, hy => simp at hy
theorem zero32 (w : World) : (zeroValue 38).run Tryz.prog w = .ok (.agg #[.int .i64 0, .int .i64 0, .string ⟨#[]⟩]) w := by kernel_rfl
def vcells (x : Val) : List Value := [.int .i64 x.k, .int .i64 x.n, .string (str x.s)]
def OwnR (w : World) (B : Nat) (v : Value) (r : List Val) : Prop := w.ownsRow B 38 3 v r.length (r.flatMap vcells)
theorem OwnR.nil (w : World) (B : Nat) : OwnR w B (.slice none 0 0) [] := World.ownsRow_nil _ _ _ _
theorem flatMap_get : ∀ (r : List Val) (i : Nat) (x : Val) (j : Nat), r[i]? = some x → j < 3 → (r.flatMap vcells)[i * 3 + j]? = (vcells x)[j]?
 | [], i, x, j, h, _ => by simp at h
 | y :: r, 0, x, j, h, hj => by
  simp only [List.getElem?_cons_zero, Option.some.injEq] at h
  subst h
  rw [List.flatMap_cons, List.getElem?_append_left (by simp [vcells]; omega), Nat.zero_mul, Nat.zero_add]
 | y :: r, i + 1, x, j, h, hj => by
  rw [List.getElem?_cons_succ] at h
  have ih := flatMap_get r i x j h hj
  have h3 : (vcells y).length = 3 := rfl
  rw [List.flatMap_cons, List.getElem?_append_right (by omega), h3, show (i + 1) * 3 + j - 3 = i * 3 + j by omega, ih]
theorem OwnR.rw {w : World} {B : Nat} {v : Value} {r : List Val} (h : OwnR w B v r) : Rw w v r := by
  unfold OwnR at h
  rcases h.2 with ⟨rfl, h0⟩ | ⟨g, cap, cur, rfl, hg, hh, hle, _, _, _⟩
  · have : r = [] := List.eq_nil_of_length_eq_zero h0
    subst this
    exact ⟨none, 0, rfl, ⟨Nat.le_refl _, fun _ => rfl⟩, fun h => by simp at h⟩
  · refine ⟨some ⟨g, 0, none⟩, cap, rfl, ⟨hle, fun e => by cases e⟩, fun _ => ⟨g, 0, rfl, (h.lt g rfl).2, fun i x hx => ?_⟩⟩
    have hc : ∀ j, j < 3 → ∀ u, (vcells x)[j]? = some u → w.cell? ⟨g, 0 + (i * 3 + j), none⟩ = some u := fun j hj u hu => by
      have := h.cells (g := g) rfl (i * 3 + j) u ((flatMap_get r i x j hx hj).trans hu)
      rw [Addr.add_mid] at this
      exact this
    exact ⟨hc 0 (by omega) _ rfl, hc 1 (by omega) _ rfl, hc 2 (by omega) _ rfl⟩
theorem own_below {w w' : World} {B B' e size n : Nat} {v : Value} {xs : List Value} (h : w.ownsRow B e size v n xs) (hb : Below B' w w') (hB : w.heap.size ≤ B') : w'.ownsRow B e size v n xs := by
 have hg : w.grownBy w' none := ⟨hb.os, hb.tape, hb.output, hb.size, fun k hk _ => hb.block k (by omega)⟩
 refine World.ownsRow.kept h hg ?_
 cases hv : v.ownBlock with
 | none => exact .inl rfl
 | some g => exact .inr (by simp)
theorem Rw.lit {w : World} {T : TypeId} (rs : List Val) {cs : Array Value} {fr : Nat × Nat} (hcs : cs = (rs.flatMap vcells).toArray) {n c : Nat} (hn : rs.length = n) (hc : n ≤ c) {H : Nat} (hH : w.heap.size = H) : Rw (w.alloc (.cells cs T fr)) (.slice (some ⟨H, 0, none⟩) n c) rs := by
 subst hH hn hcs
 refine ⟨some ⟨w.heap.size, 0, none⟩, c, rfl, ⟨hc, fun e => by cases e⟩, fun _ => ⟨w.heap.size, 0, rfl, by simp, fun i x hx => ?_⟩⟩
 have h0 := heap_alloc_new w (.cells (rs.flatMap vcells).toArray T fr)
 have hcell : ∀ j, j < 3 → (w.alloc (.cells (rs.flatMap vcells).toArray T fr)).cell? ⟨w.heap.size, 0 + (i * 3 + j), none⟩ = (vcells x)[j]? := fun j hj => by
  rw [cell_of_row _ _ _ _ _ _ h0, Nat.zero_add, List.getElem?_toArray]
  exact flatMap_get rs i x j hx hj
 exact ⟨hcell 0 (by omega), hcell 1 (by omega), hcell 2 (by omega)⟩
instance decVal : DecidableEq Val := fun a b =>
 if h : a.k = b.k ∧ a.n = b.n ∧ a.s = b.s then isTrue (by cases a; cases b; simp_all) else isFalse (fun e => h (by rw [e]; exact ⟨rfl, rfl, rfl⟩))
def eql32 (x y : Value) : Sem Value := binOp .eql 38 x y
theorem eql32_eq (x y : Value) : binOp .eql 38 x y = eql32 x y := rfl
def neq32 (x y : Value) : Sem Value := binOp .neq 38 x y
theorem neq32_eq (x y : Value) : binOp .neq 38 x y = neq32 x y := rfl
theorem run_equalIn32 (w : World) (x y : Val) (hx : Rng x.s) (hy : Rng y.s) : (Op.equalIn 10000 38 (.agg #[.int .i64 x.k, .int .i64 x.n, .string (str x.s)]) (.agg #[.int .i64 y.k, .int .i64 y.n, .string (str y.s)])).run Tryz.prog w = .ok (decide (x = y)) w := by
 have u1 := Tryz.underlying3
 have u2 := Tryz.underlying2
 have u3 := Tryz.underlying9
 have a1 := Tryz.isAgg3
 have a2 := Tryz.isAgg2
 have a3 := Tryz.isAgg9
 have hS : Tryz.prog.underlying 38 = some (.struct (Tryz.prog.fieldsOf 38)) := by kernel_rfl
 have hp : Tryz.prog.stoodInHeld 38 = false := by kernel_rfl
 have hb := str_beq hx hy
 rw [show (10000 : Nat) = 9999 + 1 from rfl, run_equalIn_agg w 9999 38 _ _ hS hp]
 simp only [Program.fieldsOf, Tryz.underlying38]
 go_simp
 obtain ⟨xk, xn, xs⟩ := x
 obtain ⟨yk, yn, ys⟩ := y
 by_cases h1 : xk = yk <;> by_cases h2 : xn = yn <;> by_cases h3 : xs = ys <;> simp [h1, h2, h3]
theorem run_eql32 (w : World) (x y : Val) (hx : Rng x.s) (hy : Rng y.s) : (eql32 (.agg #[.int .i64 x.k, .int .i64 x.n, .string (str x.s)]) (.agg #[.int .i64 y.k, .int .i64 y.n, .string (str y.s)])).run Tryz.prog w = .ok (.bool (decide (x = y))) w := by
 unfold eql32
 rw [run_eql_struct, run_equalIn32 w x y hx hy]; rfl
theorem run_neq32 (w : World) (x y : Val) (hx : Rng x.s) (hy : Rng y.s) : (neq32 (.agg #[.int .i64 x.k, .int .i64 x.n, .string (str x.s)]) (.agg #[.int .i64 y.k, .int .i64 y.n, .string (str y.s)])).run Tryz.prog w = .ok (.bool (!decide (x = y))) w := by
 unfold neq32
 rw [run_neq_struct, run_equalIn32 w x y hx hy]; rfl
theorem index_str (w : World) (s : List Int) (k : Nat) (hr : Rng s) (hk : k < s.length) : (Instr.index 9 (.string (str s)) (.int .i64 k)).run Tryz.prog w = .ok (.int .u8 (s[k]?.getD 0)) w := by
 have h := run_index_string (P := Tryz.prog) (w := w) 9 (str s) .i64 (k : Int) Tryz.underlying9
 have h1 := str_get s k hr hk
 have h2 := str_len s
 rw [h, dif_pos (by omega), ← h1]
 have h3 : (str s).data.toList.getD k 0 = (str s)[k]'(by omega) := by
  have h4 : k < (str s).data.toList.length := by
   have : (str s).data.toList.length = (str s).size := by rw [Array.length_toList]; rfl
   omega
  rw [List.getD, List.getElem?_eq_getElem h4]
  rfl
 rw [h3]
 rfl
theorem OwnR.alloc {w : World} {B : Nat} {v : Value} {l : List Val} (h : OwnR w B v l) (o : Obj) : OwnR (w.alloc o) B v l := World.ownsRow.alloc h o
theorem OwnR.below {w w' : World} {B B' : Nat} {v : Value} {l : List Val} (h : OwnR w B v l) (hb : Below B' w w') (hB : w.heap.size ≤ B') : OwnR w' B v l := own_below h hb hB
end Go.Proofs.YtegkbagnbnoopaaGreatDoor
/- plain data read out of memory: scalars, and slices of rows of such; for any types of structs, strings, numbers, bools and slices -/
namespace Go.Proofs.YtegkbagnbnoopaaGreatDoor
open Go.ChangeShapes Go.WideShapes Go.ChangeAt Go.RowKit Go.Deep
open Go.Lib (hid)
inductive Da
 | sc (v : Value)
 | sl (kids : List (List Da))
mutual
def Da.size : Da → Nat
 | .sc (.string s) => s.size + 1
 | .sc _ => 1
 | .sl ks => Da.sizeK ks + 1
def Da.sizeK : List (List Da) → Nat
 | [] => 0
 | r :: ks => Da.sizeR r + Da.sizeK ks
def Da.sizeR : List Da → Nat
 | [] => 0
 | x :: r => Da.size x + Da.sizeR r
end
/-- a value reads as data -/
inductive DIs (w : World) : Value → Da → Prop
 | sc (v : Value) : DIs w v (.sc v)
 | sl (a : Option Addr) (n c s : Nat) (kids : List (List Da)) (vals : Nat → Nat → Value) (hn : kids.length = n) (hc : n ≤ c) (hs : ∀ r ∈ kids, r.length = s) (hg : 0 < n → ∃ g o, a = some ⟨g, o, none⟩ ∧ g < w.heap.size)
   (h1 : ∀ i j r x, kids[i]? = some r → r[j]? = some x → ∀ g o, a = some ⟨g, o, none⟩ → w.cell? ⟨g, o + (i * s + j), none⟩ = some (vals i j))
   (h2 : ∀ i j r x, kids[i]? = some r → r[j]? = some x → DIs w (vals i j) x) : DIs w (.slice a n c) (.sl kids)
theorem DIs.keep {w w' : World} (hb : Below w.heap.size w w') {v : Value} {x : Da} (h : DIs w v x) : DIs w' v x := by
 induction h with
 | sc v => exact .sc v
 | sl a n c s kids vals hn hc hs hg h1 h2 ih =>
  refine .sl a n c s kids vals hn hc hs (fun h0 => ?_) (fun i j r x hi hj g o ha => ?_) ih
  ·obtain ⟨g, o, e, hl⟩ := hg h0
   exact ⟨g, o, e, Nat.lt_of_lt_of_le hl hb.size⟩
  ·have hil := (List.getElem?_eq_some_iff.1 hi).1
   obtain ⟨g', o', e, hl⟩ := hg (by omega)
   rw [ha] at e
   injection e with e
   injection e with e1 e2 _
   subst e1 e2
   rw [← h1 i j r x hi hj g o ha]
   exact World.cell?_of_block (hb.block g hl)
theorem strB (s : ByteArray) : ∃ l : List Int, s = str l ∧ Rng l ∧ l.length = s.size := by
  refine ⟨s.data.toList.map fun c => (c.toNat : Int), ?_, ?_, by simp⟩
  · obtain ⟨⟨a⟩⟩ := s
    simp only [str, List.map_map, ByteArray.mk.injEq]
    congr 1
    refine (List.map_id a).symm.trans ?_
    apply List.map_congr_left
    intro c _
    simp
  · intro x hx
    simp only [List.mem_map] at hx
    obtain ⟨c, _, rfl⟩ := hx
    have := c.toNat_lt
    omega
/-- the kinds of a type's cells -/
inductive CK
 | int (k : IntKind)
 | str
 | bool
 | sl (e : TypeId)
deriving DecidableEq
def layFs (P : Program) (f : TypeId → Option (List CK)) : List Field → List CK → Option (List CK)
 | [], acc => some acc
 | x :: fs, acc => match f x.type with
  | none => none
  | some L => if x.offset = acc.length ∧ P.cellsOf x.type = L.length then layFs P f fs (acc ++ L) else none
def lay (P : Program) : Nat → TypeId → Option (List CK)
 | 0, _ => none
 | m + 1, t => match P.underlying t with
  | some (.int k) => some [.int k]
  | some .string => some [.str]
  | some .bool => some [.bool]
  | some (.slice e) => some [.sl e]
  | some (.struct fs) => layFs P (lay P m) fs.toList []
  | _ => none
/-- data of a kind, where Tb lists the types of rows -/
inductive DTy (Tb : List (TypeId × List CK)) : CK → Da → Prop
 | int (k : IntKind) (n : Int) (h : (Lit.int k n).wf = true) : DTy Tb (.int k) (.sc (.int k n))
 | str (l : List Int) (h : Rng l) : DTy Tb .str (.sc (.string (str l)))
 | bool (b : Bool) : DTy Tb .bool (.sc (.bool b))
 | sl (e : TypeId) (L : List CK) (kids : List (List Da)) (he : (e, L) ∈ Tb) (hl : ∀ r ∈ kids, r.length = L.length) (h : ∀ (i j : Nat) (r : List Da) (x : Da) (c : CK), kids[i]? = some r → r[j]? = some x → L[j]? = some c → DTy Tb c x) : DTy Tb (.sl e) (.sl kids)
/-- a list of rows' types is closed: each is laid so, and names no other -/
def closed (P : Program) (Tb : List (TypeId × List CK)) : Bool := Tb.all fun x => decide (lay P 8 x.1 = some x.2) && (decide (0 < x.2.length) && (decide (P.cellsOf x.1 = x.2.length) && x.2.all fun c => match c with | .sl e => Tb.any (fun y => decide (y.1 = e)) | _ => true))
theorem closed_at {P : Program} {Tb : List (TypeId × List CK)} (h : closed P Tb = true) {e : TypeId} {L : List CK} (hm : (e, L) ∈ Tb) : lay P 8 e = some L ∧ 0 < L.length ∧ P.cellsOf e = L.length ∧ ∀ t, CK.sl t ∈ L → ∃ L', (t, L') ∈ Tb := by
 unfold closed at h
 have h1 := List.all_eq_true.1 h _ hm
 simp only [Bool.and_eq_true, decide_eq_true_eq] at h1
 obtain ⟨h2, h3, h4, h5⟩ := h1
 refine ⟨h2, h3, h4, fun t ht => ?_⟩
 have h6 := List.all_eq_true.1 h5 _ ht
 obtain ⟨y, hy, hye⟩ := List.any_eq_true.1 h6
 obtain rfl := of_decide_eq_true hye
 exact ⟨y.2, hy⟩
end Go.Proofs.YtegkbagnbnoopaaGreatDoor
/- the syntax trees of queries -/
namespace Go.Proofs.YtegkbagnbnoopaaGreatDoor
mutual
inductive Ex
 | mk (op : Int) (tb nm : List Int) (v : Val) (args : List Ex) (qs : List Qu)
inductive Qu
 | mk (op : Int) (parts : List Qu) (sel : Se) (ord : List Ob) (lim : Bool) (n : Int)
inductive Se
 | mk (dist : Bool) (items : List It) (fro : List So) (wh gr hv : List Ex)
inductive It
 | mk (star : Bool) (x : Ex) (nm : List Int)
inductive So
 | mk (kind : Int) (tb : List Int) (q : List Qu) (al : List Int) (on : List Ex)
inductive Ob
 | mk (x : Ex) (down : Bool)
end
def dI (n : Int) : Da := .sc (.int .i64 n)
def dS (l : List Int) : Da := .sc (.string (str l))
def dB (b : Bool) : Da := .sc (.bool b)
mutual
def Ex.da : Ex → List Da
 | .mk op tb nm v args qs => [dI op, dS tb, dS nm, dI v.k, dI v.n, dS v.s, .sl (exsDa args), .sl (qusDa qs)]
def exsDa : List Ex → List (List Da)
 | [] => []
 | x :: l => x.da :: exsDa l
def Qu.da : Qu → List Da
 | .mk op parts sel ord lim n => dI op :: .sl (qusDa parts) :: (sel.da ++ [.sl (obsDa ord), dB lim, dI n])
def qusDa : List Qu → List (List Da)
 | [] => []
 | x :: l => x.da :: qusDa l
def Se.da : Se → List Da
 | .mk dist items fro wh gr hv => [dB dist, .sl (itsDa items), .sl (sosDa fro), .sl (exsDa wh), .sl (exsDa gr), .sl (exsDa hv)]
def It.da : It → List Da
 | .mk star x nm => dB star :: (x.da ++ [dS nm])
def itsDa : List It → List (List Da)
 | [] => []
 | x :: l => x.da :: itsDa l
def So.da : So → List Da
 | .mk kind tb q al on => [dI kind, dS tb, .sl (qusDa q), dS al, .sl (exsDa on)]
def sosDa : List So → List (List Da)
 | [] => []
 | x :: l => x.da :: sosDa l
def Ob.da : Ob → List Da
 | .mk x down => x.da ++ [dB down]
def obsDa : List Ob → List (List Da)
 | [] => []
 | x :: l => x.da :: obsDa l
end
def I64 (n : Int) : Prop := -9223372036854775808 ≤ n ∧ n ≤ 9223372036854775807
mutual
def Ex.OK : Ex → Prop
 | .mk op tb nm v args qs => I64 op ∧ Rng tb ∧ Rng nm ∧ v.OK ∧ exsOK args ∧ qusOK qs
def exsOK : List Ex → Prop
 | [] => True
 | x :: l => x.OK ∧ exsOK l
def Qu.OK : Qu → Prop
 | .mk op parts sel ord _ n => I64 op ∧ qusOK parts ∧ sel.OK ∧ obsOK ord ∧ I64 n
def qusOK : List Qu → Prop
 | [] => True
 | x :: l => x.OK ∧ qusOK l
def Se.OK : Se → Prop
 | .mk _ items fro wh gr hv => itsOK items ∧ sosOK fro ∧ exsOK wh ∧ exsOK gr ∧ exsOK hv
def It.OK : It → Prop
 | .mk _ x nm => x.OK ∧ Rng nm
def itsOK : List It → Prop
 | [] => True
 | x :: l => x.OK ∧ itsOK l
def So.OK : So → Prop
 | .mk kind tb q al on => I64 kind ∧ Rng tb ∧ qusOK q ∧ Rng al ∧ exsOK on
def sosOK : List So → Prop
 | [] => True
 | x :: l => x.OK ∧ sosOK l
def Ob.OK : Ob → Prop
 | .mk x _ => x.OK
def obsOK : List Ob → Prop
 | [] => True
 | x :: l => x.OK ∧ obsOK l
end
theorem exsDa_map : ∀ l : List Ex, exsDa l = l.map Ex.da
 | [] => rfl
 | x :: l => by show x.da :: exsDa l = x.da :: l.map Ex.da; rw [exsDa_map l]
theorem exsOK_mem : ∀ {l : List Ex}, exsOK l → ∀ x ∈ l, x.OK
 | [], _, x, h => by cases h
 | y :: l, ⟨h1, h2⟩, x, h => by
  rcases List.mem_cons.1 h with rfl | h
  ·exact h1
  ·exact exsOK_mem h2 x h
theorem qusDa_map : ∀ l : List Qu, qusDa l = l.map Qu.da
 | [] => rfl
 | x :: l => by show x.da :: qusDa l = x.da :: l.map Qu.da; rw [qusDa_map l]
theorem qusOK_mem : ∀ {l : List Qu}, qusOK l → ∀ x ∈ l, x.OK
 | [], _, x, h => by cases h
 | y :: l, ⟨h1, h2⟩, x, h => by
  rcases List.mem_cons.1 h with rfl | h
  ·exact h1
  ·exact qusOK_mem h2 x h
theorem itsDa_map : ∀ l : List It, itsDa l = l.map It.da
 | [] => rfl
 | x :: l => by show x.da :: itsDa l = x.da :: l.map It.da; rw [itsDa_map l]
theorem itsOK_mem : ∀ {l : List It}, itsOK l → ∀ x ∈ l, x.OK
 | [], _, x, h => by cases h
 | y :: l, ⟨h1, h2⟩, x, h => by
  rcases List.mem_cons.1 h with rfl | h
  ·exact h1
  ·exact itsOK_mem h2 x h
theorem sosDa_map : ∀ l : List So, sosDa l = l.map So.da
 | [] => rfl
 | x :: l => by show x.da :: sosDa l = x.da :: l.map So.da; rw [sosDa_map l]
theorem sosOK_mem : ∀ {l : List So}, sosOK l → ∀ x ∈ l, x.OK
 | [], _, x, h => by cases h
 | y :: l, ⟨h1, h2⟩, x, h => by
  rcases List.mem_cons.1 h with rfl | h
  ·exact h1
  ·exact sosOK_mem h2 x h
theorem obsDa_map : ∀ l : List Ob, obsDa l = l.map Ob.da
 | [] => rfl
 | x :: l => by show x.da :: obsDa l = x.da :: l.map Ob.da; rw [obsDa_map l]
theorem obsOK_mem : ∀ {l : List Ob}, obsOK l → ∀ x ∈ l, x.OK
 | [], _, x, h => by cases h
 | y :: l, ⟨h1, h2⟩, x, h => by
  rcases List.mem_cons.1 h with rfl | h
  ·exact h1
  ·exact obsOK_mem h2 x h
/-- the rows' types -/
def TbQ : List (TypeId × List CK) := [(40, [.int .i64, .str, .str, .int .i64, .int .i64, .str, .sl 40, .sl 30]),
 (30, [.int .i64, .sl 30, .bool, .sl 42, .sl 44, .sl 40, .sl 40, .sl 40, .sl 58, .bool, .int .i64]),
 (42, [.bool, .int .i64, .str, .str, .int .i64, .int .i64, .str, .sl 40, .sl 30, .str]),
 (44, [.int .i64, .str, .sl 30, .str, .sl 40]),
 (58, [.int .i64, .str, .str, .int .i64, .int .i64, .str, .sl 40, .sl 30, .bool])]
set_option maxRecDepth 100000 in
theorem TbQ_closed : closed Tryz.prog TbQ = true := by kernel_rfl
end Go.Proofs.YtegkbagnbnoopaaGreatDoor
/- plain data read out of memory: arguments of any such type -/
namespace Go.Proofs.YtegkbagnbnoopaaGreatDoor
open Go.ChangeShapes Go.WideShapes Go.ChangeAt Go.RowKit Go.Deep
open Go.Lib (hid)
section
variable {H : Type} {W : World}
/-- what is read of cells: data of these kinds, no larger than a bulk -/
def Reads (W : World) (Tb : List (TypeId × List CK)) (L : List CK) (cs : List Value) (b : Nat) (ds : List Da) : Prop :=
 cs.length = L.length ∧ ds.length = L.length ∧ (∀ (j : Nat) (v : Value) (d : Da), cs[j]? = some v → ds[j]? = some d → DIs W v d) ∧ (∀ (j : Nat) (c : CK) (d : Da), L[j]? = some c → ds[j]? = some d → DTy Tb c d) ∧ Da.sizeR ds ≤ b
theorem sizeR_app : ∀ a b : List Da, Da.sizeR (a ++ b) = Da.sizeR a + Da.sizeR b
 | [], b => by simp [Da.sizeR]
 | x :: a, b => by
  show Da.size x + Da.sizeR (a ++ b) = Da.size x + Da.sizeR a + Da.sizeR b
  rw [sizeR_app a b]
  omega
theorem sizeK_get {ks : List (List Da)} {b : Nat → Nat} : ∀ (o : Nat), (∀ i r, ks[i]? = some r → Da.sizeR r ≤ b (o + i)) → Da.sizeK ks ≤ ((List.range ks.length).map (fun i => b (o + i))).sum := by
 induction ks with
 | nil => intro o _; simp [Da.sizeK]
 | cons r ks ih =>
  intro o h
  have h0 := h 0 r rfl
  have h1 := ih (o + 1) (fun i r' hr => by have := h (i + 1) r' (by simpa using hr); rwa [show o + (i + 1) = o + 1 + i by omega] at this)
  rw [List.length_cons, List.range_succ_eq_map, List.map_cons, List.sum_cons, List.map_map]
  show Da.sizeR r + Da.sizeK ks ≤ _
  have e : ((List.range ks.length).map ((fun i => b (o + i)) ∘ Nat.succ)) = (List.range ks.length).map (fun i => b (o + 1 + i)) := List.map_congr_left (fun i _ => by show b (o + (i + 1)) = b (o + 1 + i); congr 1; omega)
  rw [e]
  have h0' : Da.sizeR r ≤ b (o + 0) := h0
  omega
theorem bulkAll_sum : ∀ l : List (DataW H), Rows.uptoBulkAll l = (l.map Rows.uptoBulk).sum
 | [] => rfl
 | d :: l => by
  show Rows.uptoBulk d + Rows.uptoBulkAll l = _
  rw [bulkAll_sum l, List.map_cons, List.sum_cons]
theorem reads_app {Tb : List (TypeId × List CK)} {L1 L2 : List CK} {c1 c2 : List Value} {b1 b2 : Nat} {d1 d2 : List Da} (h1 : Reads W Tb L1 c1 b1 d1) (h2 : Reads W Tb L2 c2 b2 d2) : Reads W Tb (L1 ++ L2) (c1 ++ c2) (b1 + b2) (d1 ++ d2) := by
 obtain ⟨a1, a2, a3, a4, a5⟩ := h1
 obtain ⟨e1, e2, e3, e4, e5⟩ := h2
 refine ⟨by simp [a1, e1], by simp [a2, e2], fun j v d hv hd => ?_, fun j c d hc hd => ?_, by rw [sizeR_app]; omega⟩
 ·by_cases hj : j < L1.length
  ·rw [List.getElem?_append_left (by omega)] at hv hd
   exact a3 j v d hv hd
  ·rw [List.getElem?_append_right (by omega)] at hv hd
   exact e3 (j - L1.length) v d (by rw [← a1]; exact hv) (by rw [← a2]; exact hd)
 ·by_cases hj : j < L1.length
  ·rw [List.getElem?_append_left hj] at hc
   rw [List.getElem?_append_left (by omega)] at hd
   exact a4 j c d hc hd
  ·rw [List.getElem?_append_right (by omega)] at hc
   rw [List.getElem?_append_right (by omega)] at hd
   exact e4 (j - L1.length) c d hc (by rw [← a2]; exact hd)
theorem reads_one {Tb : List (TypeId × List CK)} {c : CK} {v : Value} {d : Da} {b : Nat} (h1 : DIs W v d) (h2 : DTy Tb c d) (h3 : d.size ≤ b) : Reads W Tb [c] [v] b [d] := by
 refine ⟨rfl, rfl, fun j v' d' hv hd => ?_, fun j c' d' hc hd => ?_, by show d.size + 0 ≤ b; omega⟩
 ·match j with
  | 0 => injection hv with hv; injection hd with hd; subst hv hd; exact h1
  | j + 1 => simp at hv
 ·match j with
  | 0 => injection hc with hc; injection hd with hd; subst hc hd; exact h2
  | j + 1 => simp at hc
end
section
variable {H : Type} {enc : TypeId × Value → H} {P : Program} {W : World} {base : Nat} {spare : Nat → Bool} {held : Bool}
/-- a struct's fields, one behind the other -/
theorem read_fs {Tb : List (TypeId × List CK)} {f : TypeId → Option (List CK)} {n : Nat} {cs : List Value} (hf : ∀ (t : TypeId) (c : List Value) (x : DataW H × List MemPlace) (L : List CK), f t = some L → P.cellsOf t = L.length → (∀ e, CK.sl e ∈ L → ∃ L', (e, L') ∈ Tb) → DataW.trod enc P W base spare held n t c = some x → ∃ ds, Reads W Tb L c (Rows.uptoBulk x.1) ds) :
    ∀ (fs : List Field) (acc L : List CK) (ys : List (DataW H × List MemPlace)), layFs P f fs acc = some L → (∀ e, CK.sl e ∈ L → ∃ L', (e, L') ∈ Tb) → ys.length = fs.length → acc.length ≤ cs.length →
      (∀ (i : Nat) (x : Field), fs[i]? = some x → DataW.trod enc P W base spare held n x.type ((cs.drop x.offset).take (P.cellsOf x.type)) = ys[i]?) → cs.length = L.length →
      ∃ Lr ds, L = acc ++ Lr ∧ Reads W Tb Lr (cs.drop acc.length) (Rows.uptoBulkAll (ys.map (·.1))) ds
  | [], acc, L, ys, hl, _, hy, _, _, hc => by
    injection hl with hl
    subst hl
    refine ⟨[], [], by simp, by simp; omega, rfl, fun j v d hv hd => by simp at hd, fun j c d hc hd => by simp at hd, ?_⟩
    exact Nat.zero_le _
  | x :: fs, acc, L, ys, hl, hcl, hy, ha, ht, hc => by
    obtain ⟨y, ys', rfl⟩ : ∃ y ys', ys = y :: ys' := by
      cases ys with
      | nil => simp at hy
      | cons y ys' => exact ⟨y, ys', rfl⟩
    unfold layFs at hl
    cases hx : f x.type with
    | none => rw [hx] at hl; cases hl
    | some Lx =>
      rw [hx] at hl
      dsimp only at hl
      split at hl
      · rename_i hof
        obtain ⟨ho, hk⟩ := hof
        have h0 := ht 0 x rfl
        rw [ho, hk] at h0
        have h1 : DataW.trod enc P W base spare held n x.type ((cs.drop acc.length).take Lx.length) = some y := h0
        -- the rest
        have hlen : (acc ++ Lx).length ≤ L.length := by
          have : ∀ (fs : List Field) (a L : List CK), layFs P f fs a = some L → a.length ≤ L.length := by
            intro fs
            induction fs with
            | nil => intro a L h; injection h with h; subst h; exact Nat.le_refl _
            | cons z fs ih =>
              intro a L h
              unfold layFs at h
              cases hz : f z.type with
              | none => rw [hz] at h; cases h
              | some Lz =>
                rw [hz] at h
                dsimp only at h
                split at h
                · have := ih _ _ h
                  rw [List.length_append] at this
                  omega
                · cases h
          exact this fs _ _ hl
        obtain ⟨Lr, ds, e, hr⟩ := read_fs hf fs (acc ++ Lx) L ys' hl hcl (by simpa using hy) (by omega) (fun i z hz => by have := ht (i + 1) z (by simpa using hz); simpa using this) hc
        obtain ⟨dx, hdx⟩ := hf x.type _ y Lx hx hk (fun t htm => hcl t (by rw [e]; exact List.mem_append.2 (.inl (List.mem_append.2 (.inr htm))))) h1
        refine ⟨Lx ++ Lr, dx ++ ds, by rw [e, List.append_assoc], ?_⟩
        have := reads_app hdx hr
        have e2 : (cs.drop acc.length).take Lx.length ++ cs.drop (acc ++ Lx).length = cs.drop acc.length := by
          rw [List.length_append, ← List.drop_drop, List.take_append_drop]
        rw [e2] at this
        exact this
      · cases hl
/-- data of any such type is read -/
theorem read_da {Tb : List (TypeId × List CK)} (hTb : closed P Tb = true) : ∀ (fuel m : Nat) (t : TypeId) (cs : List Value) (x : DataW H × List MemPlace) (L : List CK), lay P m t = some L → P.cellsOf t = L.length → (∀ e, CK.sl e ∈ L → ∃ L', (e, L') ∈ Tb) → DataW.trod enc P W base spare held fuel t cs = some x → ∃ ds, Reads W Tb L cs (Rows.uptoBulk x.1) ds := by
  intro fuel
  induction fuel with
  | zero => intro m t cs x L _ _ _ h; simp [DataW.trod] at h
  | succ n ih =>
    intro m t cs x L hL hce0 hcl h
    cases m with
    | zero => cases hL
    | succ m =>
      unfold lay at hL
      split at hL
      · rename_i k hu
        injection hL with hL
        subst hL
        obtain ⟨z, rfl, rfl, hw⟩ := DataW.trod_int hu h
        exact ⟨[.sc (.int k z)], reads_one (.sc _) (.int k z hw) (by simp [Da.size, Rows.uptoBulk])⟩
      · rename_i hu
        injection hL with hL
        subst hL
        obtain ⟨s, rfl, rfl, -⟩ := DataW.trod_string hu h
        obtain ⟨l, rfl, hr, hll⟩ := strB s
        exact ⟨[.sc (.string (str l))], reads_one (.sc _) (.str l hr) (by show (str l).size + 1 ≤ (str l).data.toList.length + 1; exact Nat.le_of_eq (by rw [Array.length_toList]; rfl))⟩
      · rename_i hu
        injection hL with hL
        subst hL
        obtain ⟨b, rfl, rfl⟩ := DataW.trod_bool hu h
        exact ⟨[.sc (.bool b)], reads_one (.sc _) (.bool b) (by simp [Da.size, Rows.uptoBulk])⟩
      · rename_i e hu
        injection hL with hL
        subst hL
        obtain ⟨Le, hLe⟩ := hcl e (List.mem_singleton.2 rfl)
        obtain ⟨hlay, h0, hce, hcl'⟩ := closed_at hTb hLe
        rcases DataW.trod_slice hu h with ⟨rfl, rfl⟩ | ⟨a, len, cap, elems, rest, n', hn', rfl, rfl, -, hlc, -, hel, hi, -, -⟩
        · refine ⟨[.sl []], reads_one (.sl none 0 0 0 [] (fun _ _ => .bool false) rfl (Nat.le_refl _) (fun r h => by simp at h) (fun h => by omega) (fun i j r x h => by simp at h) (fun i j r x h => by simp at h)) (.sl e Le [] hLe (fun r h => by simp at h) (fun i j r x c h => by simp at h)) (by simp [Da.size, Da.sizeK, Rows.uptoBulk])⟩
        · injection hn' with hn'
          subst hn'
          have hk : ∀ i, i < len → ∃ (cs : List Value) (y : DataW H × List MemPlace) (ds : List Da), elems[i]? = some y ∧ Reads W Tb Le cs (Rows.uptoBulk y.1) ds ∧ ∀ j, j < Le.length → W.cell? (a.add (i * Le.length + j)) = cs[j]? := by
            intro i hil
            have h1 := hi i hil
            rw [hce] at h1
            have hy : elems[i]? = some (elems[i]'(by omega)) := List.getElem?_eq_getElem (by omega)
            rw [hy] at h1
            obtain ⟨cs', hc, ht'⟩ := Option.bind_eq_some_iff.1 h1
            obtain ⟨_, hcl2, hat⟩ := World.cells?_some hc
            obtain ⟨ds, hds⟩ := ih 8 e cs' _ Le hlay hce hcl' ht'
            refine ⟨cs', _, ds, hy, hds, fun j hj => ?_⟩
            rw [← hat j hj, Go.Deep.add_add]
          obtain ⟨f, hf⟩ : ∃ f : Nat → List Value × (DataW H × List MemPlace) × List Da, ∀ i, i < len → elems[i]? = some (f i).2.1 ∧ Reads W Tb Le (f i).1 (Rows.uptoBulk (f i).2.1.1) (f i).2.2 ∧ ∀ j, j < Le.length → W.cell? (a.add (i * Le.length + j)) = (f i).1[j]? := by
            refine ⟨fun i => if h : i < len then ⟨Classical.choose (hk i h), Classical.choose (Classical.choose_spec (hk i h)), Classical.choose (Classical.choose_spec (Classical.choose_spec (hk i h)))⟩ else ⟨[], (.nil, []), []⟩, fun i h => ?_⟩
            simp only [dif_pos h]
            exact Classical.choose_spec (Classical.choose_spec (Classical.choose_spec (hk i h)))
          have hkid : ∀ (i : Nat) (r : List Da), ((List.range len).map (fun i => (f i).2.2))[i]? = some r → i < len ∧ r = (f i).2.2 := by
            intro i r hr
            rw [List.getElem?_map, Option.map_eq_some_iff] at hr
            obtain ⟨q, hq, rfl⟩ := hr
            have hq' := List.getElem?_eq_some_iff.1 hq
            obtain ⟨hql, hqe⟩ := hq'
            rw [List.length_range] at hql
            rw [List.getElem_range] at hqe
            subst hqe
            exact ⟨hql, rfl⟩
          have hall : ∀ r ∈ (List.range len).map (fun i => (f i).2.2), r.length = Le.length := by
            intro r hr
            obtain ⟨i, hir, rfl⟩ := List.mem_map.1 hr
            exact (hf i (List.mem_range.1 hir)).2.1.2.1
          refine ⟨[.sl ((List.range len).map (fun i => (f i).2.2))], reads_one (.sl (some a) len cap Le.length _ (fun i j => (f i).1[j]?.getD (.bool false)) (by simp) hlc hall (fun h0' => ?_) (fun i j r x hr hx g o ha => ?_) (fun i j r x hr hx => ?_)) (.sl e Le _ hLe hall (fun i j r x c hr hx hc => ?_)) ?_⟩
          · have h1 := (hf 0 h0').2.2 0 h0
            have h2 := (hf 0 h0').2.1
            have h3 : (f 0).1[0]? = some ((f 0).1[0]'(by rw [h2.1]; exact h0)) := List.getElem?_eq_getElem _
            rw [h3] at h1
            have hsp := World.cell?_spot h1
            have hlt := World.block_lt_of_cell? _ _ h1
            obtain ⟨ab, ao, asp⟩ := a
            have hsp' : asp = none := by simpa [Addr.add] using hsp
            subst hsp'
            exact ⟨ab, ao, rfl, by simpa [Addr.add] using hlt⟩
          · obtain ⟨hil, rfl⟩ := hkid i r hr
            have hjl : j < Le.length := by have := (List.getElem?_eq_some_iff.1 hx).1; rw [(hf i hil).2.1.2.1] at this; exact this
            have h1 := (hf i hil).2.2 j hjl
            injection ha with ha
            subst ha
            have h3 : (f i).1[j]? = some ((f i).1[j]'(by rw [(hf i hil).2.1.1]; exact hjl)) := List.getElem?_eq_getElem _
            rw [h3] at h1 ⊢
            rw [add_plain] at h1
            exact h1
          · obtain ⟨hil, rfl⟩ := hkid i r hr
            have hjl : j < Le.length := by have := (List.getElem?_eq_some_iff.1 hx).1; rw [(hf i hil).2.1.2.1] at this; exact this
            have h3 : (f i).1[j]? = some ((f i).1[j]'(by rw [(hf i hil).2.1.1]; exact hjl)) := List.getElem?_eq_getElem _
            exact (hf i hil).2.1.2.2.1 j _ x (by rw [h3]; rfl) hx
          · obtain ⟨hil, rfl⟩ := hkid i r hr
            exact (hf i hil).2.1.2.2.2.1 j c x hc hx
          · have hsz := sizeK_get (ks := (List.range len).map (fun i => (f i).2.2)) (b := fun i => Rows.uptoBulk (f i).2.1.1) 0 (fun i r hr => by
              obtain ⟨hil, rfl⟩ := hkid i r hr
              rw [Nat.zero_add]
              exact (hf i hil).2.1.2.2.2.2)
            have hel' : elems.map (·.1) = (List.range len).map (fun i => (f i).2.1.1) := by
              apply List.ext_getElem?
              intro i
              rw [List.getElem?_map, List.getElem?_map]
              by_cases hil : i < len
              · rw [(hf i hil).1, List.getElem?_range hil]
                rfl
              · rw [List.getElem?_eq_none (by omega), List.getElem?_eq_none (by simp; omega)]
                rfl
            show Da.sizeK _ + 1 ≤ Rows.uptoBulk (.slice (elems.map (·.1)) (rest.map (·.1)))
            simp only [Rows.uptoBulk]
            rw [bulkAll_sum, hel', List.map_map]
            have e5 : ((List.range ((List.range len).map (fun i => (f i).2.2)).length).map (fun i => Rows.uptoBulk (f (0 + i)).2.1.1)).sum = ((List.range len).map (Rows.uptoBulk ∘ fun i => (f i).2.1.1)).sum := by
              rw [List.length_map, List.length_range]
              congr 1
              exact List.map_congr_left (fun i _ => by show _ = Rows.uptoBulk (f i).2.1.1; rw [Nat.zero_add])
            rw [e5] at hsz
            omega
      · rename_i fs hu
        obtain ⟨ys, n', hn', hx, hcs, hyl, hfd⟩ := DataW.trod_struct hu h
        injection hn' with hn'
        subst hn'
        have hcsL : cs.length = L.length := hcs.trans hce0
        obtain ⟨Lr, ds, e, hr⟩ := read_fs (n := n) (cs := cs) (fun t c x L h1 h2 h3 h4 => ih m t c x L h1 h2 h3 h4) fs.toList [] L ys hL hcl (by rw [hyl, Array.length_toList]) (Nat.zero_le _) (fun i z hz => hfd i z (by rw [← Array.getElem?_toList]; exact hz)) hcsL
        rw [List.nil_append] at e
        subst e
        rw [List.length_nil, List.drop_zero] at hr
        refine ⟨ds, hr.1, hr.2.1, hr.2.2.1, hr.2.2.2.1, ?_⟩
        have := hr.2.2.2.2
        rw [hx]
        simp only [Rows.uptoBulk]
        omega
      · cases hL
end
end Go.Proofs.YtegkbagnbnoopaaGreatDoor
/- data of a query's type is a query's tree -/
namespace Go.Proofs.YtegkbagnbnoopaaGreatDoor
def LEx : List CK := [.int .i64, .str, .str, .int .i64, .int .i64, .str, .sl 40, .sl 30]
def LQu : List CK := [.int .i64, .sl 30, .bool, .sl 42, .sl 44, .sl 40, .sl 40, .sl 40, .sl 58, .bool, .int .i64]
def LIt : List CK := [.bool, .int .i64, .str, .str, .int .i64, .int .i64, .str, .sl 40, .sl 30, .str]
def LSo : List CK := [.int .i64, .str, .sl 30, .str, .sl 40]
def LOb : List CK := [.int .i64, .str, .str, .int .i64, .int .i64, .str, .sl 40, .sl 30, .bool]
/-- a table of rows' types that holds the queries' types as they are -/
structure HasQ (Tb : List (TypeId × List CK)) : Prop where
 ex : ∀ L, (40, L) ∈ Tb → L = LEx
 qu : ∀ L, (30, L) ∈ Tb → L = LQu
 it : ∀ L, (42, L) ∈ Tb → L = LIt
 so : ∀ L, (44, L) ∈ Tb → L = LSo
 ob : ∀ L, (58, L) ∈ Tb → L = LOb
theorem TbQ_has : HasQ TbQ := by
 refine ⟨?_, ?_, ?_, ?_, ?_⟩ <;> (intro L h; simp only [TbQ, List.mem_cons, Prod.mk.injEq, List.not_mem_nil, or_false] at h; simpa [LEx, LQu, LIt, LSo, LOb] using h)
variable {Tb : List (TypeId × List CK)}
def Row (Tb : List (TypeId × List CK)) (L : List CK) (r : List Da) : Prop := r.length = L.length ∧ ∀ (j : Nat) (c : CK) (d : Da), L[j]? = some c → r[j]? = some d → DTy Tb c d
theorem row_cons {c : CK} {L : List CK} {r : List Da} (h : Row Tb (c :: L) r) : ∃ d r', r = d :: r' ∧ DTy Tb c d ∧ Row Tb L r' := by
 obtain ⟨h1, h2⟩ := h
 cases r with
 | nil => simp at h1
 | cons d r' => exact ⟨d, r', rfl, h2 0 c d rfl rfl, by simpa using h1, fun j c' d' hc hd => h2 (j + 1) c' d' (by simpa using hc) (by simpa using hd)⟩
theorem row_nil {r : List Da} (h : Row Tb [] r) : r = [] := by
 cases r with
 | nil => rfl
 | cons => exact absurd h.1 (by simp)
theorem row_app {L1 L2 : List CK} {r : List Da} (h : Row Tb (L1 ++ L2) r) : ∃ a b, r = a ++ b ∧ Row Tb L1 a ∧ Row Tb L2 b := by
 induction L1 generalizing r with
 | nil => exact ⟨[], r, rfl, ⟨rfl, fun j c d hc hd => by simp at hc⟩, h⟩
 | cons c L1 ih =>
  obtain ⟨d, r', rfl, hd, hr⟩ := row_cons h
  obtain ⟨a, b, rfl, ha, hb⟩ := ih hr
  refine ⟨d :: a, b, rfl, ⟨by simp [ha.1], fun j c' d' hc hd' => ?_⟩, hb⟩
  cases j with
  | zero => injection hc with hc; injection hd' with hd'; subst hc hd'; exact hd
  | succ j => exact ha.2 j c' d' (by simpa using hc) (by simpa using hd')
theorem dty_int {d : Da} (h : DTy Tb (.int .i64) d) : ∃ n, d = dI n ∧ I64 n := by
 cases h with
 | int k n h => exact ⟨n, rfl, by simpa [Lit.wf, IntKind.min, IntKind.max, IntKind.bits, IntKind.signed, I64] using h⟩
theorem dty_str {d : Da} (h : DTy Tb .str d) : ∃ l, d = dS l ∧ Rng l := by
 cases h with
 | str l h => exact ⟨l, rfl, h⟩
theorem dty_bool {d : Da} (h : DTy Tb .bool d) : ∃ b, d = dB b := by
 cases h with
 | bool b => exact ⟨b, rfl⟩
theorem dty_sl {e : TypeId} {L : List CK} {d : Da} (hu : ∀ L', (e, L') ∈ Tb → L' = L) (h : DTy Tb (.sl e) d) : ∃ ks, d = .sl ks ∧ ∀ r ∈ ks, Row Tb L r := by
 cases h with
 | sl e L' ks he hl h =>
  obtain rfl := hu _ he
  refine ⟨ks, rfl, fun r hr => ⟨hl r hr, fun j c d hc hd => ?_⟩⟩
  obtain ⟨i, hi, rfl⟩ := List.mem_iff_getElem.1 hr
  exact h i j _ d c (List.getElem?_eq_getElem hi) hd hc
theorem sizeK_mem {ks : List (List Da)} : ∀ r ∈ ks, Da.sizeR r ≤ Da.sizeK ks := by
 induction ks with
 | nil => intro r h; cases h
 | cons y ks ih =>
  intro r h
  show _ ≤ Da.sizeR y + Da.sizeK ks
  rcases List.mem_cons.1 h with rfl | h
  ·omega
  ·have := ih r h
   omega
theorem size_sl (ks : List (List Da)) : Da.size (.sl ks) = Da.sizeK ks + 1 := rfl
theorem sizeR_cons (x : Da) (r : List Da) : Da.sizeR (x :: r) = Da.size x + Da.sizeR r := rfl
theorem sizeR_nil : Da.sizeR [] = 0 := rfl
theorem exs_of {n : Nat} (H : ∀ r, Da.sizeR r < n → Row Tb LEx r → ∃ x : Ex, r = x.da ∧ x.OK) : ∀ ks : List (List Da), Da.sizeK ks < n → (∀ r ∈ ks, Row Tb LEx r) → ∃ l : List Ex, ks = exsDa l ∧ exsOK l
 | [], _, _ => ⟨[], rfl, trivial⟩
 | r :: ks, hn, h => by
  have hn : Da.sizeR r + Da.sizeK ks < n := hn
  obtain ⟨x, rfl, hx⟩ := H r (by omega) (h r List.mem_cons_self)
  obtain ⟨l, rfl, hl⟩ := exs_of H ks (by omega) (fun r' hr => h r' (List.mem_cons_of_mem _ hr))
  exact ⟨x :: l, rfl, hx, hl⟩
theorem qus_of {n : Nat} (H : ∀ r, Da.sizeR r < n → Row Tb LQu r → ∃ x : Qu, r = x.da ∧ x.OK) : ∀ ks : List (List Da), Da.sizeK ks < n → (∀ r ∈ ks, Row Tb LQu r) → ∃ l : List Qu, ks = qusDa l ∧ qusOK l
 | [], _, _ => ⟨[], rfl, trivial⟩
 | r :: ks, hn, h => by
  have hn : Da.sizeR r + Da.sizeK ks < n := hn
  obtain ⟨x, rfl, hx⟩ := H r (by omega) (h r List.mem_cons_self)
  obtain ⟨l, rfl, hl⟩ := qus_of H ks (by omega) (fun r' hr => h r' (List.mem_cons_of_mem _ hr))
  exact ⟨x :: l, rfl, hx, hl⟩
theorem its_of {n : Nat} (H : ∀ r, Da.sizeR r < n → Row Tb LIt r → ∃ x : It, r = x.da ∧ x.OK) : ∀ ks : List (List Da), Da.sizeK ks < n → (∀ r ∈ ks, Row Tb LIt r) → ∃ l : List It, ks = itsDa l ∧ itsOK l
 | [], _, _ => ⟨[], rfl, trivial⟩
 | r :: ks, hn, h => by
  have hn : Da.sizeR r + Da.sizeK ks < n := hn
  obtain ⟨x, rfl, hx⟩ := H r (by omega) (h r List.mem_cons_self)
  obtain ⟨l, rfl, hl⟩ := its_of H ks (by omega) (fun r' hr => h r' (List.mem_cons_of_mem _ hr))
  exact ⟨x :: l, rfl, hx, hl⟩
theorem sos_of {n : Nat} (H : ∀ r, Da.sizeR r < n → Row Tb LSo r → ∃ x : So, r = x.da ∧ x.OK) : ∀ ks : List (List Da), Da.sizeK ks < n → (∀ r ∈ ks, Row Tb LSo r) → ∃ l : List So, ks = sosDa l ∧ sosOK l
 | [], _, _ => ⟨[], rfl, trivial⟩
 | r :: ks, hn, h => by
  have hn : Da.sizeR r + Da.sizeK ks < n := hn
  obtain ⟨x, rfl, hx⟩ := H r (by omega) (h r List.mem_cons_self)
  obtain ⟨l, rfl, hl⟩ := sos_of H ks (by omega) (fun r' hr => h r' (List.mem_cons_of_mem _ hr))
  exact ⟨x :: l, rfl, hx, hl⟩
theorem obs_of {n : Nat} (H : ∀ r, Da.sizeR r < n → Row Tb LOb r → ∃ x : Ob, r = x.da ∧ x.OK) : ∀ ks : List (List Da), Da.sizeK ks < n → (∀ r ∈ ks, Row Tb LOb r) → ∃ l : List Ob, ks = obsDa l ∧ obsOK l
 | [], _, _ => ⟨[], rfl, trivial⟩
 | r :: ks, hn, h => by
  have hn : Da.sizeR r + Da.sizeK ks < n := hn
  obtain ⟨x, rfl, hx⟩ := H r (by omega) (h r List.mem_cons_self)
  obtain ⟨l, rfl, hl⟩ := obs_of H ks (by omega) (fun r' hr => h r' (List.mem_cons_of_mem _ hr))
  exact ⟨x :: l, rfl, hx, hl⟩
theorem trees (hT : HasQ Tb) : ∀ n : Nat, (∀ r, Da.sizeR r < n → Row Tb LEx r → ∃ x : Ex, r = x.da ∧ x.OK) ∧ (∀ r, Da.sizeR r < n → Row Tb LQu r → ∃ x : Qu, r = x.da ∧ x.OK) ∧
  (∀ r, Da.sizeR r < n → Row Tb LIt r → ∃ x : It, r = x.da ∧ x.OK) ∧ (∀ r, Da.sizeR r < n → Row Tb LSo r → ∃ x : So, r = x.da ∧ x.OK) ∧ (∀ r, Da.sizeR r < n → Row Tb LOb r → ∃ x : Ob, r = x.da ∧ x.OK) := by
 intro n
 induction n with
 | zero => exact ⟨fun r h => absurd h (Nat.not_lt_zero _), fun r h => absurd h (Nat.not_lt_zero _), fun r h => absurd h (Nat.not_lt_zero _), fun r h => absurd h (Nat.not_lt_zero _), fun r h => absurd h (Nat.not_lt_zero _)⟩
 | succ n ih =>
  obtain ⟨iE, iQ, iI, iS, iO⟩ := ih
  have hE : ∀ r, Da.sizeR r < n + 1 → Row Tb LEx r → ∃ x : Ex, r = x.da ∧ x.OK := by
   intro r hn h
   obtain ⟨d0, r, rfl, h0, h⟩ := row_cons h
   obtain ⟨d1, r, rfl, h1, h⟩ := row_cons h
   obtain ⟨d2, r, rfl, h2, h⟩ := row_cons h
   obtain ⟨d3, r, rfl, h3, h⟩ := row_cons h
   obtain ⟨d4, r, rfl, h4, h⟩ := row_cons h
   obtain ⟨d5, r, rfl, h5, h⟩ := row_cons h
   obtain ⟨d6, r, rfl, h6, h⟩ := row_cons h
   obtain ⟨d7, r, rfl, h7, h⟩ := row_cons h
   obtain rfl := row_nil h
   obtain ⟨op, rfl, k0⟩ := dty_int h0
   obtain ⟨tb, rfl, k1⟩ := dty_str h1
   obtain ⟨nm, rfl, k2⟩ := dty_str h2
   obtain ⟨vk, rfl, k3⟩ := dty_int h3
   obtain ⟨vn, rfl, k4⟩ := dty_int h4
   obtain ⟨vs, rfl, k5⟩ := dty_str h5
   obtain ⟨es, rfl, k6⟩ := dty_sl hT.ex h6
   obtain ⟨qs, rfl, k7⟩ := dty_sl hT.qu h7
   simp only [sizeR_cons, size_sl, sizeR_nil] at hn
   obtain ⟨es, rfl, m6⟩ := exs_of iE es (by omega) k6
   obtain ⟨qs, rfl, m7⟩ := qus_of iQ qs (by omega) k7
   exact ⟨.mk op tb nm ⟨vk, vn, vs⟩ es qs, rfl, k0, k1, k2, ⟨k5, k3.1, k3.2, k4.1, k4.2⟩, m6, m7⟩
  refine ⟨hE, fun r hn h => ?_, fun r hn h => ?_, fun r hn h => ?_, fun r hn h => ?_⟩
  ·obtain ⟨d0, r, rfl, h0, h⟩ := row_cons h
   obtain ⟨d1, r, rfl, h1, h⟩ := row_cons h
   obtain ⟨d2, r, rfl, h2, h⟩ := row_cons h
   obtain ⟨d3, r, rfl, h3, h⟩ := row_cons h
   obtain ⟨d4, r, rfl, h4, h⟩ := row_cons h
   obtain ⟨d5, r, rfl, h5, h⟩ := row_cons h
   obtain ⟨d6, r, rfl, h6, h⟩ := row_cons h
   obtain ⟨d7, r, rfl, h7, h⟩ := row_cons h
   obtain ⟨d8, r, rfl, h8, h⟩ := row_cons h
   obtain ⟨d9, r, rfl, h9, h⟩ := row_cons h
   obtain ⟨d10, r, rfl, h10, h⟩ := row_cons h
   obtain rfl := row_nil h
   obtain ⟨op, rfl, k0⟩ := dty_int h0
   obtain ⟨ps, rfl, k1⟩ := dty_sl hT.qu h1
   obtain ⟨di, rfl⟩ := dty_bool h2
   obtain ⟨is, rfl, k3⟩ := dty_sl hT.it h3
   obtain ⟨fs, rfl, k4⟩ := dty_sl hT.so h4
   obtain ⟨ws, rfl, k5⟩ := dty_sl hT.ex h5
   obtain ⟨gs, rfl, k6⟩ := dty_sl hT.ex h6
   obtain ⟨hs, rfl, k7⟩ := dty_sl hT.ex h7
   obtain ⟨os, rfl, k8⟩ := dty_sl hT.ob h8
   obtain ⟨li, rfl⟩ := dty_bool h9
   obtain ⟨ln, rfl, k10⟩ := dty_int h10
   simp only [sizeR_cons, size_sl, sizeR_nil] at hn
   obtain ⟨ps, rfl, m1⟩ := qus_of iQ ps (by omega) k1
   obtain ⟨is, rfl, m3⟩ := its_of iI is (by omega) k3
   obtain ⟨fs, rfl, m4⟩ := sos_of iS fs (by omega) k4
   obtain ⟨ws, rfl, m5⟩ := exs_of iE ws (by omega) k5
   obtain ⟨gs, rfl, m6⟩ := exs_of iE gs (by omega) k6
   obtain ⟨hs, rfl, m7⟩ := exs_of iE hs (by omega) k7
   obtain ⟨os, rfl, m8⟩ := obs_of iO os (by omega) k8
   exact ⟨.mk op ps (.mk di is fs ws gs hs) os li ln, rfl, k0, m1, ⟨m3, m4, m5, m6, m7⟩, m8, k10⟩
  ·obtain ⟨d0, r, rfl, h0, h⟩ := row_cons h
   obtain ⟨a, b, rfl, ha, hb⟩ := row_app (L1 := LEx) (L2 := [.str]) h
   obtain ⟨d1, r, rfl, h1, h⟩ := row_cons hb
   obtain rfl := row_nil h
   obtain ⟨st, rfl⟩ := dty_bool h0
   obtain ⟨nm, rfl, k1⟩ := dty_str h1
   rw [sizeR_cons, sizeR_app] at hn
   obtain ⟨x, rfl, hx⟩ := hE a (by omega) ha
   exact ⟨.mk st x nm, rfl, hx, k1⟩
  ·obtain ⟨d0, r, rfl, h0, h⟩ := row_cons h
   obtain ⟨d1, r, rfl, h1, h⟩ := row_cons h
   obtain ⟨d2, r, rfl, h2, h⟩ := row_cons h
   obtain ⟨d3, r, rfl, h3, h⟩ := row_cons h
   obtain ⟨d4, r, rfl, h4, h⟩ := row_cons h
   obtain rfl := row_nil h
   obtain ⟨ki, rfl, k0⟩ := dty_int h0
   obtain ⟨tb, rfl, k1⟩ := dty_str h1
   obtain ⟨qs, rfl, k2⟩ := dty_sl hT.qu h2
   obtain ⟨al, rfl, k3⟩ := dty_str h3
   obtain ⟨es, rfl, k4⟩ := dty_sl hT.ex h4
   simp only [sizeR_cons, size_sl, sizeR_nil] at hn
   obtain ⟨qs, rfl, m2⟩ := qus_of iQ qs (by omega) k2
   obtain ⟨es, rfl, m4⟩ := exs_of iE es (by omega) k4
   exact ⟨.mk ki tb qs al es, rfl, k0, k1, m2, k3, m4⟩
  ·obtain ⟨a, b, rfl, ha, hb⟩ := row_app (L1 := LEx) (L2 := [.bool]) h
   obtain ⟨d1, r, rfl, h1, h⟩ := row_cons hb
   obtain rfl := row_nil h
   obtain ⟨dn, rfl⟩ := dty_bool h1
   rw [sizeR_app] at hn
   obtain ⟨x, rfl, hx⟩ := hE a (by omega) ha
   exact ⟨.mk x dn, rfl, hx⟩
/-- a query that is read is a tree -/
theorem qu_of (hT : HasQ Tb) {r : List Da} (h : Row Tb LQu r) : ∃ x : Qu, r = x.da ∧ x.OK := (trees hT _).2.1 r (Nat.lt_succ_self _) h
end Go.Proofs.YtegkbagnbnoopaaGreatDoor
