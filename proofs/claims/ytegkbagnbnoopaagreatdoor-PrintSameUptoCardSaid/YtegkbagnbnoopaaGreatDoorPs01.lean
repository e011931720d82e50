/- trees: their parts; a value that holds one; the cells of one -/
import Derived.Test.YtegkbagnbnoopaaGreatDoorPs00
import Derived.Maps.AppendAt
namespace Go.Proofs.YtegkbagnbnoopaaGreatDoor
open Go.ChangeShapes Go.WideShapes Go.ChangeAt Go.RowKit Go.Deep
open Go.Lib (hid)
def Ex.op : Ex → Int | .mk a _ _ _ _ _ => a
def Ex.tb : Ex → List Int | .mk _ a _ _ _ _ => a
def Ex.nm : Ex → List Int | .mk _ _ a _ _ _ => a
def Ex.v : Ex → Val | .mk _ _ _ a _ _ => a
def Ex.args : Ex → List Ex | .mk _ _ _ _ a _ => a
def Ex.qs : Ex → List Qu | .mk _ _ _ _ _ a => a
def Qu.op : Qu → Int | .mk a _ _ _ _ _ => a
def Qu.parts : Qu → List Qu | .mk _ a _ _ _ _ => a
def Qu.sel : Qu → Se | .mk _ _ a _ _ _ => a
def Qu.ord : Qu → List Ob | .mk _ _ _ a _ _ => a
def Qu.lim : Qu → Bool | .mk _ _ _ _ a _ => a
def Qu.n : Qu → Int | .mk _ _ _ _ _ a => a
def Se.dist : Se → Bool | .mk a _ _ _ _ _ => a
def Se.items : Se → List It | .mk _ a _ _ _ _ => a
def Se.fro : Se → List So | .mk _ _ a _ _ _ => a
def Se.wh : Se → List Ex | .mk _ _ _ a _ _ => a
def Se.gr : Se → List Ex | .mk _ _ _ _ a _ => a
def Se.hv : Se → List Ex | .mk _ _ _ _ _ a => a
def It.star : It → Bool | .mk a _ _ => a
def It.x : It → Ex | .mk _ a _ => a
def It.nm : It → List Int | .mk _ _ a => a
def So.kind : So → Int | .mk a _ _ _ _ => a
def So.tb : So → List Int | .mk _ a _ _ _ => a
def So.q : So → List Qu | .mk _ _ a _ _ => a
def So.al : So → List Int | .mk _ _ _ a _ => a
def So.on : So → List Ex | .mk _ _ _ _ a => a
def Ob.x : Ob → Ex | .mk a _ => a
def Ob.down : Ob → Bool | .mk _ a => a
/-- a value that holds one -/
def ExV (w : World) (v : Value) (x : Ex) : Prop := ∃ p0 p1, v = .agg #[.int .i64 x.op, .string (str x.tb), .string (str x.nm), .int .i64 x.v.k, .int .i64 x.v.n, .string (str x.v.s), p0, p1] ∧ DIs w p0 (.sl (exsDa x.args)) ∧ DIs w p1 (.sl (qusDa x.qs))
theorem ExV.keep {w w' : World} {v : Value} {x : Ex} (hb : Below w.heap.size w w') (h : ExV w v x) : ExV w' v x := by
 obtain ⟨p0, p1, rfl, h0, h1⟩ := h
 exact ⟨p0, p1, rfl, h0.keep hb, h1.keep hb⟩
/-- a value that holds one -/
def QuV (w : World) (v : Value) (x : Qu) : Prop := ∃ p0 p1 p2 p3 p4 p5 p6, v = .agg #[.int .i64 x.op, p0, .bool x.sel.dist, p1, p2, p3, p4, p5, p6, .bool x.lim, .int .i64 x.n] ∧ DIs w p0 (.sl (qusDa x.parts)) ∧ DIs w p1 (.sl (itsDa x.sel.items)) ∧ DIs w p2 (.sl (sosDa x.sel.fro)) ∧ DIs w p3 (.sl (exsDa x.sel.wh)) ∧ DIs w p4 (.sl (exsDa x.sel.gr)) ∧ DIs w p5 (.sl (exsDa x.sel.hv)) ∧ DIs w p6 (.sl (obsDa x.ord))
theorem QuV.keep {w w' : World} {v : Value} {x : Qu} (hb : Below w.heap.size w w') (h : QuV w v x) : QuV w' v x := by
 obtain ⟨p0, p1, p2, p3, p4, p5, p6, rfl, h0, h1, h2, h3, h4, h5, h6⟩ := h
 exact ⟨p0, p1, p2, p3, p4, p5, p6, rfl, h0.keep hb, h1.keep hb, h2.keep hb, h3.keep hb, h4.keep hb, h5.keep hb, h6.keep hb⟩
/-- a value that holds one -/
def ItV (w : World) (v : Value) (x : It) : Prop := ∃ p0 p1, v = .agg #[.bool x.star, .int .i64 x.x.op, .string (str x.x.tb), .string (str x.x.nm), .int .i64 x.x.v.k, .int .i64 x.x.v.n, .string (str x.x.v.s), p0, p1, .string (str x.nm)] ∧ DIs w p0 (.sl (exsDa x.x.args)) ∧ DIs w p1 (.sl (qusDa x.x.qs))
theorem ItV.keep {w w' : World} {v : Value} {x : It} (hb : Below w.heap.size w w') (h : ItV w v x) : ItV w' v x := by
 obtain ⟨p0, p1, rfl, h0, h1⟩ := h
 exact ⟨p0, p1, rfl, h0.keep hb, h1.keep hb⟩
/-- a value that holds one -/
def SoV (w : World) (v : Value) (x : So) : Prop := ∃ p0 p1, v = .agg #[.int .i64 x.kind, .string (str x.tb), p0, .string (str x.al), p1] ∧ DIs w p0 (.sl (qusDa x.q)) ∧ DIs w p1 (.sl (exsDa x.on))
theorem SoV.keep {w w' : World} {v : Value} {x : So} (hb : Below w.heap.size w w') (h : SoV w v x) : SoV w' v x := by
 obtain ⟨p0, p1, rfl, h0, h1⟩ := h
 exact ⟨p0, p1, rfl, h0.keep hb, h1.keep hb⟩
/-- a value that holds one -/
def ObV (w : World) (v : Value) (x : Ob) : Prop := ∃ p0 p1, v = .agg #[.int .i64 x.x.op, .string (str x.x.tb), .string (str x.x.nm), .int .i64 x.x.v.k, .int .i64 x.x.v.n, .string (str x.x.v.s), p0, p1, .bool x.down] ∧ DIs w p0 (.sl (exsDa x.x.args)) ∧ DIs w p1 (.sl (qusDa x.x.qs))
theorem ObV.keep {w w' : World} {v : Value} {x : Ob} (hb : Below w.heap.size w w') (h : ObV w v x) : ObV w' v x := by
 obtain ⟨p0, p1, rfl, h0, h1⟩ := h
 exact ⟨p0, p1, rfl, h0.keep hb, h1.keep hb⟩
/-- a value that holds one -/
def SeV (w : World) (v : Value) (x : Se) : Prop := ∃ p0 p1 p2 p3 p4, v = .agg #[.bool x.dist, p0, p1, p2, p3, p4] ∧ DIs w p0 (.sl (itsDa x.items)) ∧ DIs w p1 (.sl (sosDa x.fro)) ∧ DIs w p2 (.sl (exsDa x.wh)) ∧ DIs w p3 (.sl (exsDa x.gr)) ∧ DIs w p4 (.sl (exsDa x.hv))
theorem SeV.keep {w w' : World} {v : Value} {x : Se} (hb : Below w.heap.size w w') (h : SeV w v x) : SeV w' v x := by
 obtain ⟨p0, p1, p2, p3, p4, rfl, h0, h1, h2, h3, h4⟩ := h
 exact ⟨p0, p1, p2, p3, p4, rfl, h0.keep hb, h1.keep hb, h2.keep hb, h3.keep hb, h4.keep hb⟩
theorem dis_slice {w : World} {v : Value} {k : List (List Da)} (h : DIs w v (.sl k)) : ∃ a n c, v = .slice a n c := by cases h; exact ⟨_, _, _, rfl⟩
theorem dis_sc {w : World} {v u : Value} (h : DIs w v (.sc u)) : v = u := by cases h; rfl
theorem dis_sl {w : World} {v : Value} {kids : List (List Da)} {s : Nat} (h : DIs w v (.sl kids)) (hs : ∀ r ∈ kids, r.length = s) : ∃ a c, v = .slice a kids.length c ∧ kids.length ≤ c ∧
    (0 < kids.length → ∃ b o, a = some ⟨b, o, none⟩ ∧ b < w.heap.size ∧ ∀ (k : Nat) (r : List Da), kids[k]? = some r → ∃ vals : Nat → Value, ∀ (j : Nat) (x : Da), r[j]? = some x → w.cell? ⟨b, o + k * s + j, none⟩ = some (vals j) ∧ DIs w (vals j) x) := by
  cases h with
  | sl a n c s' kids vals hn hc hs' hg h1 h2 =>
    subst hn
    refine ⟨a, c, rfl, hc, fun h0 => ?_⟩
    obtain ⟨b, o, rfl, hb⟩ := hg h0
    refine ⟨b, o, rfl, hb, fun k r hr => ⟨vals k, fun j x hx => ?_⟩⟩
    obtain rfl : s' = s := (hs' r (List.mem_of_getElem? hr)).symm.trans (hs r (List.mem_of_getElem? hr))
    have := h1 k j r x hr hx b o rfl
    rw [← Nat.add_assoc] at this
    exact ⟨this, h2 k j r x hr hx⟩
theorem len_sizeK : ∀ {kids : List (List Da)}, (∀ r ∈ kids, 0 < r.length) → kids.length ≤ Da.sizeK kids
 | [], _ => Nat.zero_le _
 | r :: ks, h => by
  have h1 := len_sizeK (fun r' hr' => h r' (List.mem_cons_of_mem _ hr'))
  have h2 := h r List.mem_cons_self
  have h3 : 0 < Da.sizeR r := by
   cases r with
   | nil => simp at h2
   | cons x r =>
    show 0 < Da.size x + Da.sizeR r
    have : 0 < Da.size x := by
     cases x with
     | sc v => cases v <;> simp [Da.size]
     | sl ks => simp [Da.size]
    omega
  show ks.length + 1 ≤ Da.sizeR r + Da.sizeK ks
  omega
def ExC (w : World) (b o k : Nat) (x : Ex) : Prop := ∃ s0 s1, w.cell? ⟨b, o + k * 8, none⟩ = some (.int .i64 x.op) ∧ w.cell? ⟨b, o + k * 8 + 1, none⟩ = some (.string (str x.tb)) ∧ w.cell? ⟨b, o + k * 8 + 2, none⟩ = some (.string (str x.nm)) ∧ w.cell? ⟨b, o + k * 8 + 3, none⟩ = some (.int .i64 x.v.k) ∧ w.cell? ⟨b, o + k * 8 + 4, none⟩ = some (.int .i64 x.v.n) ∧ w.cell? ⟨b, o + k * 8 + 5, none⟩ = some (.string (str x.v.s)) ∧ w.cell? ⟨b, o + k * 8 + 6, none⟩ = some (s0) ∧ w.cell? ⟨b, o + k * 8 + 7, none⟩ = some (s1) ∧ DIs w s0 (.sl (exsDa x.args)) ∧ DIs w s1 (.sl (qusDa x.qs))
theorem exsDa_len (l : List Ex) : (exsDa l).length = l.length := by rw [exsDa_map, List.length_map]
theorem exda_len (x : Ex) : x.da.length = 8 := by
 cases x; rfl
theorem exs_rows {w : World} {v : Value} {l : List Ex} (h : DIs w v (.sl (exsDa l))) : ∃ a c, v = .slice a l.length c ∧ l.length ≤ c ∧
  (0 < l.length → ∃ b o, a = some ⟨b, o, none⟩ ∧ b < w.heap.size ∧ ∀ (k : Nat) (x : Ex), l[k]? = some x → ExC w b o k x) := by
 obtain ⟨a, c, e, hc, h1⟩ := dis_sl (s := 8) h (fun r hr => by
  rw [exsDa_map] at hr
  obtain ⟨x, _, rfl⟩ := List.mem_map.1 hr
  exact exda_len x)
 rw [exsDa_len] at e hc h1
 refine ⟨a, c, e, hc, fun h0 => ?_⟩
 obtain ⟨b, o, ea, hb, h2⟩ := h1 h0
 refine ⟨b, o, ea, hb, fun k x hx => ?_⟩
 obtain ⟨vals, hv⟩ := h2 k x.da (by rw [exsDa_map, List.getElem?_map, hx]; rfl)
 cases x
 obtain ⟨c0, d0⟩ := hv 0 _ rfl
 rw [dis_sc d0] at c0
 obtain ⟨c1, d1⟩ := hv 1 _ rfl
 rw [dis_sc d1] at c1
 obtain ⟨c2, d2⟩ := hv 2 _ rfl
 rw [dis_sc d2] at c2
 obtain ⟨c3, d3⟩ := hv 3 _ rfl
 rw [dis_sc d3] at c3
 obtain ⟨c4, d4⟩ := hv 4 _ rfl
 rw [dis_sc d4] at c4
 obtain ⟨c5, d5⟩ := hv 5 _ rfl
 rw [dis_sc d5] at c5
 obtain ⟨c6, d6⟩ := hv 6 _ rfl
 obtain ⟨c7, d7⟩ := hv 7 _ rfl
 exact ⟨vals 6, vals 7, c0, c1, c2, c3, c4, c5, c6, c7, d6, d7⟩
theorem exs_len {l : List Ex} {B : Nat} (h : Da.sizeK (exsDa l) ≤ B) : l.length ≤ B := by
  have := len_sizeK (kids := exsDa l) (fun r hr => by
    rw [exsDa_map] at hr
    obtain ⟨x, _, rfl⟩ := List.mem_map.1 hr
    rw [exda_len x]
    decide)
  rw [exsDa_len] at this
  omega
theorem exs_mem {l : List Ex} {x : Ex} (h : x ∈ l) : Da.sizeR x.da ≤ Da.sizeK (exsDa l) := sizeK_mem _ (by rw [exsDa_map]; exact List.mem_map_of_mem h)
def QuC (w : World) (b o k : Nat) (x : Qu) : Prop := ∃ s0 s1 s2 s3 s4 s5 s6, w.cell? ⟨b, o + k * 11, none⟩ = some (.int .i64 x.op) ∧ w.cell? ⟨b, o + k * 11 + 1, none⟩ = some (s0) ∧ w.cell? ⟨b, o + k * 11 + 2, none⟩ = some (.bool x.sel.dist) ∧ w.cell? ⟨b, o + k * 11 + 3, none⟩ = some (s1) ∧ w.cell? ⟨b, o + k * 11 + 4, none⟩ = some (s2) ∧ w.cell? ⟨b, o + k * 11 + 5, none⟩ = some (s3) ∧ w.cell? ⟨b, o + k * 11 + 6, none⟩ = some (s4) ∧ w.cell? ⟨b, o + k * 11 + 7, none⟩ = some (s5) ∧ w.cell? ⟨b, o + k * 11 + 8, none⟩ = some (s6) ∧ w.cell? ⟨b, o + k * 11 + 9, none⟩ = some (.bool x.lim) ∧ w.cell? ⟨b, o + k * 11 + 10, none⟩ = some (.int .i64 x.n) ∧ DIs w s0 (.sl (qusDa x.parts)) ∧ DIs w s1 (.sl (itsDa x.sel.items)) ∧ DIs w s2 (.sl (sosDa x.sel.fro)) ∧ DIs w s3 (.sl (exsDa x.sel.wh)) ∧ DIs w s4 (.sl (exsDa x.sel.gr)) ∧ DIs w s5 (.sl (exsDa x.sel.hv)) ∧ DIs w s6 (.sl (obsDa x.ord))
theorem qusDa_len (l : List Qu) : (qusDa l).length = l.length := by rw [qusDa_map, List.length_map]
theorem quda_len (x : Qu) : x.da.length = 11 := by
 obtain ⟨op, ps, ⟨_, _, _, _, _, _⟩, _, _, _⟩ := x; rfl
theorem qus_rows {w : World} {v : Value} {l : List Qu} (h : DIs w v (.sl (qusDa l))) : ∃ a c, v = .slice a l.length c ∧ l.length ≤ c ∧
  (0 < l.length → ∃ b o, a = some ⟨b, o, none⟩ ∧ b < w.heap.size ∧ ∀ (k : Nat) (x : Qu), l[k]? = some x → QuC w b o k x) := by
 obtain ⟨a, c, e, hc, h1⟩ := dis_sl (s := 11) h (fun r hr => by
  rw [qusDa_map] at hr
  obtain ⟨x, _, rfl⟩ := List.mem_map.1 hr
  exact quda_len x)
 rw [qusDa_len] at e hc h1
 refine ⟨a, c, e, hc, fun h0 => ?_⟩
 obtain ⟨b, o, ea, hb, h2⟩ := h1 h0
 refine ⟨b, o, ea, hb, fun k x hx => ?_⟩
 obtain ⟨vals, hv⟩ := h2 k x.da (by rw [qusDa_map, List.getElem?_map, hx]; rfl)
 obtain ⟨op, ps, ⟨_, _, _, _, _, _⟩, _, _, _⟩ := x
 obtain ⟨c0, d0⟩ := hv 0 _ rfl
 rw [dis_sc d0] at c0
 obtain ⟨c1, d1⟩ := hv 1 _ rfl
 obtain ⟨c2, d2⟩ := hv 2 _ rfl
 rw [dis_sc d2] at c2
 obtain ⟨c3, d3⟩ := hv 3 _ rfl
 obtain ⟨c4, d4⟩ := hv 4 _ rfl
 obtain ⟨c5, d5⟩ := hv 5 _ rfl
 obtain ⟨c6, d6⟩ := hv 6 _ rfl
 obtain ⟨c7, d7⟩ := hv 7 _ rfl
 obtain ⟨c8, d8⟩ := hv 8 _ rfl
 obtain ⟨c9, d9⟩ := hv 9 _ rfl
 rw [dis_sc d9] at c9
 obtain ⟨c10, d10⟩ := hv 10 _ rfl
 rw [dis_sc d10] at c10
 exact ⟨vals 1, vals 3, vals 4, vals 5, vals 6, vals 7, vals 8, c0, c1, c2, c3, c4, c5, c6, c7, c8, c9, c10, d1, d3, d4, d5, d6, d7, d8⟩
theorem qus_len {l : List Qu} {B : Nat} (h : Da.sizeK (qusDa l) ≤ B) : l.length ≤ B := by
  have := len_sizeK (kids := qusDa l) (fun r hr => by
    rw [qusDa_map] at hr
    obtain ⟨x, _, rfl⟩ := List.mem_map.1 hr
    rw [quda_len x]
    decide)
  rw [qusDa_len] at this
  omega
theorem qus_mem {l : List Qu} {x : Qu} (h : x ∈ l) : Da.sizeR x.da ≤ Da.sizeK (qusDa l) := sizeK_mem _ (by rw [qusDa_map]; exact List.mem_map_of_mem h)
def ItC (w : World) (b o k : Nat) (x : It) : Prop := ∃ s0 s1, w.cell? ⟨b, o + k * 10, none⟩ = some (.bool x.star) ∧ w.cell? ⟨b, o + k * 10 + 1, none⟩ = some (.int .i64 x.x.op) ∧ w.cell? ⟨b, o + k * 10 + 2, none⟩ = some (.string (str x.x.tb)) ∧ w.cell? ⟨b, o + k * 10 + 3, none⟩ = some (.string (str x.x.nm)) ∧ w.cell? ⟨b, o + k * 10 + 4, none⟩ = some (.int .i64 x.x.v.k) ∧ w.cell? ⟨b, o + k * 10 + 5, none⟩ = some (.int .i64 x.x.v.n) ∧ w.cell? ⟨b, o + k * 10 + 6, none⟩ = some (.string (str x.x.v.s)) ∧ w.cell? ⟨b, o + k * 10 + 7, none⟩ = some (s0) ∧ w.cell? ⟨b, o + k * 10 + 8, none⟩ = some (s1) ∧ w.cell? ⟨b, o + k * 10 + 9, none⟩ = some (.string (str x.nm)) ∧ DIs w s0 (.sl (exsDa x.x.args)) ∧ DIs w s1 (.sl (qusDa x.x.qs))
theorem itsDa_len (l : List It) : (itsDa l).length = l.length := by rw [itsDa_map, List.length_map]
theorem itda_len (x : It) : x.da.length = 10 := by
 obtain ⟨_, ⟨_, _, _, _, _, _⟩, _⟩ := x; rfl
theorem its_rows {w : World} {v : Value} {l : List It} (h : DIs w v (.sl (itsDa l))) : ∃ a c, v = .slice a l.length c ∧ l.length ≤ c ∧
  (0 < l.length → ∃ b o, a = some ⟨b, o, none⟩ ∧ b < w.heap.size ∧ ∀ (k : Nat) (x : It), l[k]? = some x → ItC w b o k x) := by
 obtain ⟨a, c, e, hc, h1⟩ := dis_sl (s := 10) h (fun r hr => by
  rw [itsDa_map] at hr
  obtain ⟨x, _, rfl⟩ := List.mem_map.1 hr
  exact itda_len x)
 rw [itsDa_len] at e hc h1
 refine ⟨a, c, e, hc, fun h0 => ?_⟩
 obtain ⟨b, o, ea, hb, h2⟩ := h1 h0
 refine ⟨b, o, ea, hb, fun k x hx => ?_⟩
 obtain ⟨vals, hv⟩ := h2 k x.da (by rw [itsDa_map, List.getElem?_map, hx]; rfl)
 obtain ⟨_, ⟨_, _, _, _, _, _⟩, _⟩ := x
 obtain ⟨c0, d0⟩ := hv 0 _ rfl
 rw [dis_sc d0] at c0
 obtain ⟨c1, d1⟩ := hv 1 _ rfl
 rw [dis_sc d1] at c1
 obtain ⟨c2, d2⟩ := hv 2 _ rfl
 rw [dis_sc d2] at c2
 obtain ⟨c3, d3⟩ := hv 3 _ rfl
 rw [dis_sc d3] at c3
 obtain ⟨c4, d4⟩ := hv 4 _ rfl
 rw [dis_sc d4] at c4
 obtain ⟨c5, d5⟩ := hv 5 _ rfl
 rw [dis_sc d5] at c5
 obtain ⟨c6, d6⟩ := hv 6 _ rfl
 rw [dis_sc d6] at c6
 obtain ⟨c7, d7⟩ := hv 7 _ rfl
 obtain ⟨c8, d8⟩ := hv 8 _ rfl
 obtain ⟨c9, d9⟩ := hv 9 _ rfl
 rw [dis_sc d9] at c9
 exact ⟨vals 7, vals 8, c0, c1, c2, c3, c4, c5, c6, c7, c8, c9, d7, d8⟩
theorem its_len {l : List It} {B : Nat} (h : Da.sizeK (itsDa l) ≤ B) : l.length ≤ B := by
  have := len_sizeK (kids := itsDa l) (fun r hr => by
    rw [itsDa_map] at hr
    obtain ⟨x, _, rfl⟩ := List.mem_map.1 hr
    rw [itda_len x]
    decide)
  rw [itsDa_len] at this
  omega
theorem its_mem {l : List It} {x : It} (h : x ∈ l) : Da.sizeR x.da ≤ Da.sizeK (itsDa l) := sizeK_mem _ (by rw [itsDa_map]; exact List.mem_map_of_mem h)
def SoC (w : World) (b o k : Nat) (x : So) : Prop := ∃ s0 s1, w.cell? ⟨b, o + k * 5, none⟩ = some (.int .i64 x.kind) ∧ w.cell? ⟨b, o + k * 5 + 1, none⟩ = some (.string (str x.tb)) ∧ w.cell? ⟨b, o + k * 5 + 2, none⟩ = some (s0) ∧ w.cell? ⟨b, o + k * 5 + 3, none⟩ = some (.string (str x.al)) ∧ w.cell? ⟨b, o + k * 5 + 4, none⟩ = some (s1) ∧ DIs w s0 (.sl (qusDa x.q)) ∧ DIs w s1 (.sl (exsDa x.on))
theorem sosDa_len (l : List So) : (sosDa l).length = l.length := by rw [sosDa_map, List.length_map]
theorem soda_len (x : So) : x.da.length = 5 := by
 cases x; rfl
theorem sos_rows {w : World} {v : Value} {l : List So} (h : DIs w v (.sl (sosDa l))) : ∃ a c, v = .slice a l.length c ∧ l.length ≤ c ∧
  (0 < l.length → ∃ b o, a = some ⟨b, o, none⟩ ∧ b < w.heap.size ∧ ∀ (k : Nat) (x : So), l[k]? = some x → SoC w b o k x) := by
 obtain ⟨a, c, e, hc, h1⟩ := dis_sl (s := 5) h (fun r hr => by
  rw [sosDa_map] at hr
  obtain ⟨x, _, rfl⟩ := List.mem_map.1 hr
  exact soda_len x)
 rw [sosDa_len] at e hc h1
 refine ⟨a, c, e, hc, fun h0 => ?_⟩
 obtain ⟨b, o, ea, hb, h2⟩ := h1 h0
 refine ⟨b, o, ea, hb, fun k x hx => ?_⟩
 obtain ⟨vals, hv⟩ := h2 k x.da (by rw [sosDa_map, List.getElem?_map, hx]; rfl)
 cases x
 obtain ⟨c0, d0⟩ := hv 0 _ rfl
 rw [dis_sc d0] at c0
 obtain ⟨c1, d1⟩ := hv 1 _ rfl
 rw [dis_sc d1] at c1
 obtain ⟨c2, d2⟩ := hv 2 _ rfl
 obtain ⟨c3, d3⟩ := hv 3 _ rfl
 rw [dis_sc d3] at c3
 obtain ⟨c4, d4⟩ := hv 4 _ rfl
 exact ⟨vals 2, vals 4, c0, c1, c2, c3, c4, d2, d4⟩
theorem sos_len {l : List So} {B : Nat} (h : Da.sizeK (sosDa l) ≤ B) : l.length ≤ B := by
  have := len_sizeK (kids := sosDa l) (fun r hr => by
    rw [sosDa_map] at hr
    obtain ⟨x, _, rfl⟩ := List.mem_map.1 hr
    rw [soda_len x]
    decide)
  rw [sosDa_len] at this
  omega
theorem sos_mem {l : List So} {x : So} (h : x ∈ l) : Da.sizeR x.da ≤ Da.sizeK (sosDa l) := sizeK_mem _ (by rw [sosDa_map]; exact List.mem_map_of_mem h)
def ObC (w : World) (b o k : Nat) (x : Ob) : Prop := ∃ s0 s1, w.cell? ⟨b, o + k * 9, none⟩ = some (.int .i64 x.x.op) ∧ w.cell? ⟨b, o + k * 9 + 1, none⟩ = some (.string (str x.x.tb)) ∧ w.cell? ⟨b, o + k * 9 + 2, none⟩ = some (.string (str x.x.nm)) ∧ w.cell? ⟨b, o + k * 9 + 3, none⟩ = some (.int .i64 x.x.v.k) ∧ w.cell? ⟨b, o + k * 9 + 4, none⟩ = some (.int .i64 x.x.v.n) ∧ w.cell? ⟨b, o + k * 9 + 5, none⟩ = some (.string (str x.x.v.s)) ∧ w.cell? ⟨b, o + k * 9 + 6, none⟩ = some (s0) ∧ w.cell? ⟨b, o + k * 9 + 7, none⟩ = some (s1) ∧ w.cell? ⟨b, o + k * 9 + 8, none⟩ = some (.bool x.down) ∧ DIs w s0 (.sl (exsDa x.x.args)) ∧ DIs w s1 (.sl (qusDa x.x.qs))
theorem obsDa_len (l : List Ob) : (obsDa l).length = l.length := by rw [obsDa_map, List.length_map]
theorem obda_len (x : Ob) : x.da.length = 9 := by
 obtain ⟨⟨_, _, _, _, _, _⟩, _⟩ := x; rfl
theorem obs_rows {w : World} {v : Value} {l : List Ob} (h : DIs w v (.sl (obsDa l))) : ∃ a c, v = .slice a l.length c ∧ l.length ≤ c ∧
  (0 < l.length → ∃ b o, a = some ⟨b, o, none⟩ ∧ b < w.heap.size ∧ ∀ (k : Nat) (x : Ob), l[k]? = some x → ObC w b o k x) := by
 obtain ⟨a, c, e, hc, h1⟩ := dis_sl (s := 9) h (fun r hr => by
  rw [obsDa_map] at hr
  obtain ⟨x, _, rfl⟩ := List.mem_map.1 hr
  exact obda_len x)
 rw [obsDa_len] at e hc h1
 refine ⟨a, c, e, hc, fun h0 => ?_⟩
 obtain ⟨b, o, ea, hb, h2⟩ := h1 h0
 refine ⟨b, o, ea, hb, fun k x hx => ?_⟩
 obtain ⟨vals, hv⟩ := h2 k x.da (by rw [obsDa_map, List.getElem?_map, hx]; rfl)
 obtain ⟨⟨_, _, _, _, _, _⟩, _⟩ := x
 obtain ⟨c0, d0⟩ := hv 0 _ rfl
 rw [dis_sc d0] at c0
 obtain ⟨c1, d1⟩ := hv 1 _ rfl
 rw [dis_sc d1] at c1
 obtain ⟨c2, d2⟩ := hv 2 _ rfl
 rw [dis_sc d2] at c2
 obtain ⟨c3, d3⟩ := hv 3 _ rfl
 rw [dis_sc d3] at c3
 obtain ⟨c4, d4⟩ := hv 4 _ rfl
 rw [dis_sc d4] at c4
 obtain ⟨c5, d5⟩ := hv 5 _ rfl
 rw [dis_sc d5] at c5
 obtain ⟨c6, d6⟩ := hv 6 _ rfl
 obtain ⟨c7, d7⟩ := hv 7 _ rfl
 obtain ⟨c8, d8⟩ := hv 8 _ rfl
 rw [dis_sc d8] at c8
 exact ⟨vals 6, vals 7, c0, c1, c2, c3, c4, c5, c6, c7, c8, d6, d7⟩
theorem obs_len {l : List Ob} {B : Nat} (h : Da.sizeK (obsDa l) ≤ B) : l.length ≤ B := by
  have := len_sizeK (kids := obsDa l) (fun r hr => by
    rw [obsDa_map] at hr
    obtain ⟨x, _, rfl⟩ := List.mem_map.1 hr
    rw [obda_len x]
    decide)
  rw [obsDa_len] at this
  omega
theorem obs_mem {l : List Ob} {x : Ob} (h : x ∈ l) : Da.sizeR x.da ≤ Da.sizeK (obsDa l) := sizeK_mem _ (by rw [obsDa_map]; exact List.mem_map_of_mem h)
end Go.Proofs.YtegkbagnbnoopaaGreatDoor
/- data in memory whose blocks are known; own rows of data -/
namespace Go.Proofs.YtegkbagnbnoopaaGreatDoor
open Go.ChangeShapes Go.WideShapes Go.ChangeAt Go.RowKit Go.Deep
open Go.Lib (hid)
/-- a value reads as data, and its memory lies in blocks S -/
inductive DIn (w : World) (S : Nat → Prop) : Value → Da → Prop
 | sc (v : Value) : DIn w S v (.sc v)
 | sl (a : Option Addr) (n c s : Nat) (kids : List (List Da)) (vals : Nat → Nat → Value) (hn : kids.length = n) (hc : n ≤ c) (hs : ∀ r ∈ kids, r.length = s) (hg : 0 < n → ∃ g o, a = some ⟨g, o, none⟩ ∧ g < w.heap.size ∧ S g)
   (h1 : ∀ i j r x, kids[i]? = some r → r[j]? = some x → ∀ g o, a = some ⟨g, o, none⟩ → w.cell? ⟨g, o + (i * s + j), none⟩ = some (vals i j))
   (h2 : ∀ i j r x, kids[i]? = some r → r[j]? = some x → DIn w S (vals i j) x) : DIn w S (.slice a n c) (.sl kids)
theorem DIn.dis {w : World} {S : Nat → Prop} {v : Value} {x : Da} (h : DIn w S v x) : DIs w v x := by
 induction h with
 | sc v => exact .sc v
 | sl a n c s kids vals hn hc hs hg h1 h2 ih => exact .sl a n c s kids vals hn hc hs (fun h0 => by obtain ⟨g, o, e, hl, _⟩ := hg h0; exact ⟨g, o, e, hl⟩) h1 ih
theorem DIs.din {w : World} {v : Value} {x : Da} (h : DIs w v x) : DIn w (fun g => g < w.heap.size) v x := by
 induction h with
 | sc v => exact .sc v
 | sl a n c s kids vals hn hc hs hg h1 h2 ih => exact .sl a n c s kids vals hn hc hs (fun h0 => by obtain ⟨g, o, e, hl⟩ := hg h0; exact ⟨g, o, e, hl, hl⟩) h1 ih
theorem DIn.mono {w : World} {S S' : Nat → Prop} {v : Value} {x : Da} (hS : ∀ g, g < w.heap.size → S g → S' g) (h : DIn w S v x) : DIn w S' v x := by
 induction h with
 | sc v => exact .sc v
 | sl a n c s kids vals hn hc hs hg h1 h2 ih => exact .sl a n c s kids vals hn hc hs (fun h0 => by obtain ⟨g, o, e, hl, hq⟩ := hg h0; exact ⟨g, o, e, hl, hS g hl hq⟩) h1 ih
/-- where the blocks S are as they were -/
theorem DIn.cg {w w' : World} {S : Nat → Prop} {v : Value} {x : Da} (hz : w.heap.size ≤ w'.heap.size) (hk : ∀ g, g < w.heap.size → S g → w'.heap[g]? = w.heap[g]?) (h : DIn w S v x) : DIn w' S v x := by
 induction h with
 | sc v => exact .sc v
 | sl a n c s kids vals hn hc hs hg h1 h2 ih =>
  refine .sl a n c s kids vals hn hc hs (fun h0 => by obtain ⟨g, o, e, hl, hq⟩ := hg h0; exact ⟨g, o, e, by omega, hq⟩) (fun i j r x hi hj g o ha => ?_) ih
  have hil := (List.getElem?_eq_some_iff.1 hi).1
  obtain ⟨g', o', e, hl, hq⟩ := hg (by omega)
  rw [ha] at e
  injection e with e
  injection e with e1 e2 _
  subst e1 e2
  rw [← h1 i j r x hi hj g o ha]
  exact World.cell?_of_block (hk g hl hq)
theorem flat_get {s : Nat} : ∀ (xs : List (List Value)), (∀ r ∈ xs, r.length = s) → ∀ (i j : Nat) (r : List Value), xs[i]? = some r → j < s → xs.flatten[i * s + j]? = r[j]?
  | [], _, i, j, r, h, _ => by simp at h
  | y :: xs, hl, 0, j, r, h, hj => by
    injection h with h
    subst h
    have := hl y List.mem_cons_self
    rw [List.flatten_cons, Nat.zero_mul, Nat.zero_add, List.getElem?_append_left (by omega)]
  | y :: xs, hl, i + 1, j, r, h, hj => by
    have h0 := hl y List.mem_cons_self
    have h1 := flat_get xs (fun r hr => hl r (List.mem_cons_of_mem _ hr)) i j r (by simpa using h) hj
    rw [List.flatten_cons, Nat.succ_mul, List.getElem?_append_right (by omega), ← h1]
    congr 1
    omega
/-- an own row of data, whose rows' memory lies in blocks S -/
def RwD (w : World) (B : Nat) (S : Nat → Prop) (T : TypeId) (s : Nat) (v : Value) (kids : List (List Da)) : Prop :=
 ∃ xs : List (List Value), xs.length = kids.length ∧ (∀ r ∈ xs, r.length = s) ∧ (∀ k ∈ kids, k.length = s) ∧ w.ownsRow B T s v kids.length xs.flatten ∧ (∀ g, v.ownBlock = some g → ¬ S g) ∧
  ∀ (i j : Nat) (r : List Value) (k : List Da) (u : Value) (d : Da), xs[i]? = some r → kids[i]? = some k → r[j]? = some u → k[j]? = some d → DIn w S u d
theorem RwD.nil (w : World) (B : Nat) (S : Nat → Prop) (T : TypeId) (s : Nat) : RwD w B S T s (.slice none 0 0) [] := ⟨[], rfl, (fun r h => by cases h), (fun r h => by cases h), World.ownsRow_nil _ _ _ _, (fun g h => by cases h), (fun i j r k u d h => by simp at h)⟩
/-- a row reads as data -/
theorem RwD.din {w : World} {B : Nat} {S S' : Nat → Prop} {T : TypeId} {s : Nat} {v : Value} {kids : List (List Da)} (h : RwD w B S T s v kids) (hS : ∀ g, S g → S' g) (ho : ∀ g, v.ownBlock = some g → S' g) : DIn w S' v (.sl kids) := by
  obtain ⟨xs, e1, e2, e3, e4, e5, e6⟩ := h
  have e6' := fun i j r k u d h1 h2 h3 h4 => (e6 i j r k u d h1 h2 h3 h4).mono (fun g _ hg => hS g hg)
  have hat : ∀ (i j : Nat) (k : List Da) (d : Da), kids[i]? = some k → k[j]? = some d → ∃ r u, xs[i]? = some r ∧ r[j]? = some u := by
    intro i j k d hi hj
    have h1 := (List.getElem?_eq_some_iff.1 hi).1
    have h2 := (List.getElem?_eq_some_iff.1 hj).1
    have h3 := e3 k (List.mem_of_getElem? hi)
    have h4 : i < xs.length := by omega
    have h5 := e2 _ (List.getElem_mem h4)
    exact ⟨xs[i], (xs[i])[j]'(by omega), List.getElem?_eq_getElem h4, List.getElem?_eq_getElem (by omega)⟩
  obtain ⟨hlen, ⟨rfl, hn⟩ | ⟨g, cap, cur, rfl, hB, hcur, hcap, -, hsz, htk⟩⟩ := e4
  · have : kids = [] := List.length_eq_zero_iff.1 hn
    subst this
    exact .sl none 0 0 0 [] (fun _ _ => undef) rfl (Nat.le_refl 0) (fun r hr => by cases hr) (fun h0 => absurd h0 (Nat.lt_irrefl 0)) (fun i j r x hi => by simp at hi) (fun i j r x hi => by simp at hi)
  · refine .sl _ _ _ s kids (fun i j => ((xs[i]?.getD [])[j]?).getD undef) rfl hcap e3 (fun _ => ⟨g, 0, rfl, (Array.getElem?_eq_some_iff.1 hcur).1, ho g rfl⟩) (fun i j k d hi hj g' o' ha => ?_) (fun i j k d hi hj => ?_)
    · obtain ⟨r, u, hr, hu⟩ := hat i j k d hi hj
      injection ha with ha
      injection ha with a1 a2 _
      subst a1 a2
      have hjs : j < s := by
        have h2 := (List.getElem?_eq_some_iff.1 hj).1
        have h3 := e3 k (List.mem_of_getElem? hi)
        omega
      have h1 := flat_get xs e2 i j r hr hjs
      rw [← htk] at h1
      have hlt : i * s + j < kids.length * s := by
        have := (List.getElem?_eq_some_iff.1 hi).1
        have h3 : (i + 1) * s ≤ kids.length * s := Nat.mul_le_mul_right _ this
        rw [Nat.succ_mul] at h3
        omega
      rw [List.getElem?_take_of_lt hlt] at h1
      rw [Nat.zero_add, hr, Option.getD_some, hu, Option.getD_some]
      refine (cell_of_row w g (i * s + j) _ _ _ hcur).trans ?_
      rw [← Array.getElem?_toList, h1, hu]
    · obtain ⟨r, u, hr, hu⟩ := hat i j k d hi hj
      have h5 := e6' i j r k u d hr hi hu hj
      show DIn w S' (((xs[i]?.getD [])[j]?).getD undef) d
      rw [hr, Option.getD_some, hu, Option.getD_some]
      exact h5
/-- a row of data is appended -/
theorem RwD.app {P : Program} {w : World} {B : Nat} {S S' : Nat → Prop} {T st ty : TypeId} {s : Nat} {i : TypeInfo} {z : Value} (hu : P.underlying st = some (.slice T)) (hi : P.info? T = some i) (hz : i.zero = some z) (hs : i.size = s) (hby : i.bytes ≤ 1024) (hzs : z.cells.size = s) (h0 : 0 < s)
    {v : Value} {kids : List (List Da)} (h : RwD w B S T s v kids) (hb : B ≤ w.heap.size) (b : Nat) (cs : List Value) (k : List Da) (hx : w.heap[b]? = some (.cells cs.toArray T (0, 0))) (hl : cs.length = s) (hk : k.length = s) (hd : ∀ (j : Nat) (u : Value) (d : Da), cs[j]? = some u → k[j]? = some d → DIn w S u d)
    (h1 : ∀ u ∈ cs, u.oneCell' = true) (hn : kids.length ≤ 1073741824) (hK : ∀ q, S q → q < w.heap.size → S' q) (hK0 : ∀ g, v.ownBlock = some g → ¬ S' g) (hK1 : ¬ S' w.heap.size) :
    ∃ v' w', (Builtin.append_ #[st, st] ty #[v, .slice (some ⟨b, 0, none⟩) 1 1]).run P w = .ok v' w' ∧ RwD w' B S' T s v' (kids ++ [k]) ∧ w.grownBy w' v.ownBlock ∧ (v'.ownBlock = v.ownBlock ∨ v'.ownBlock = some w.heap.size) := by
  obtain ⟨xs, e1, e2, e3, e4, e5, e6⟩ := h
  obtain ⟨v', w', r1, r2, r3, -, r5⟩ := run_append_own_at w B st ty T i z s i.bytes hu hi hz hs rfl hzs h0 v kids.length xs.flatten e4 ⟨b, 0, none⟩ 1 1 cs (by omega) (by
    intro j u hj
    rw [Addr.add_mid, cell_of_row _ b _ _ _ _ hx]
    rw [Nat.zero_add]
    simpa using hj) h1 (by unfold maxLen; omega) (by
    have : (kids.length + 1) * i.bytes ≤ (kids.length + 1) * 1024 := Nat.mul_le_mul_left _ hby
    omega) hb
  have hkeep : ∀ {u : Value} {d : Da}, DIn w S u d → DIn w' S' u d := fun hd => ((hd.mono (S' := fun g => S g ∧ g < w.heap.size) (fun g hg hS => ⟨hS, hg⟩)).cg r3.size (fun g hg hS => r3.block g hg (fun e => e5 g e.symm hS.1))).mono (fun g _ hS => hK g hS.1 hS.2)
  refine ⟨v', w', r1, ⟨xs ++ [cs], by simp [e1], fun r hr => ?_, fun q hq => ?_, ?_, fun g hg => ?_, fun a j r q u d ha hq hu hd' => ?_⟩, r3, r5⟩
  · rcases List.mem_append.1 hr with hr | hr
    · exact e2 r hr
    · rw [List.mem_singleton.1 hr]; exact hl
  · rcases List.mem_append.1 hq with hq | hq
    · exact e3 q hq
    · rw [List.mem_singleton.1 hq]; exact hk
  · rw [List.length_append, List.flatten_append, List.flatten_cons, List.flatten_nil, List.append_nil]
    exact r2
  · rcases r5 with h5 | h5
    · exact hK0 g (by rw [← h5]; exact hg)
    · rw [h5] at hg
      injection hg with hg
      subst hg
      exact hK1
  · by_cases hj : a < kids.length
    · rw [List.getElem?_append_left (by omega)] at ha
      rw [List.getElem?_append_left hj] at hq
      exact hkeep (e6 a j r q u d ha hq hu hd')
    · have hj2 : a = kids.length := by
        have := (List.getElem?_eq_some_iff.1 hq).1
        simp at this
        omega
      subst hj2
      rw [List.getElem?_append_right (by omega), e1, Nat.sub_self] at ha
      rw [List.getElem?_append_right (by omega), Nat.sub_self] at hq
      injection ha with ha
      injection hq with hq
      subst ha hq
      exact hkeep (hd j u d hu hd')
end Go.Proofs.YtegkbagnbnoopaaGreatDoor
/- rows of data: append in a walk, make with room, a literal without any -/
namespace Go.Proofs.YtegkbagnbnoopaaGreatDoor
open Go.ChangeShapes Go.WideShapes Go.ChangeAt Go.RowKit Go.Deep
open Go.Lib (hid)
/-- what is known of a type of rows -/
structure RowT (P : Program) (st T : TypeId) (s : Nat) : Prop where
 sl : P.underlying st = some (.slice T)
 info : ∃ i z, P.info? T = some i ∧ i.zero = some z ∧ i.size = s ∧ i.bytes ≤ 1024 ∧ z.cells.size = s
 pos : 0 < s
theorem RwD.slc {w : World} {B : Nat} {S : Nat → Prop} {T : TypeId} {s : Nat} {v : Value} {kids : List (List Da)} (h : RwD w B S T s v kids) : ∃ a c, v = .slice a kids.length c := by
 obtain ⟨xs, e1, e2, e3, ⟨-, ⟨rfl, hn⟩ | ⟨g, cap, cur, rfl, -⟩⟩, -⟩ := h
 ·exact ⟨none, 0, by rw [hn]⟩
 ·exact ⟨_, _, rfl⟩
theorem RwD.lt {w : World} {B : Nat} {S : Nat → Prop} {T : TypeId} {s : Nat} {v : Value} {kids : List (List Da)} (h : RwD w B S T s v kids) : ∀ g, v.ownBlock = some g → B ≤ g ∧ g < w.heap.size := by
 obtain ⟨xs, e1, e2, e3, ⟨-, ⟨rfl, hn⟩ | ⟨g, cap, cur, rfl, hB, hcur, -⟩⟩, -⟩ := h
 ·intro g hg; cases hg
 ·intro q hq
  injection hq with hq
  subst hq
  exact ⟨hB, (Array.getElem?_eq_some_iff.1 hcur).1⟩
/-- behind a call that leaves what there was -/
theorem RwD.below {w w' : World} {B : Nat} {S : Nat → Prop} {T : TypeId} {s : Nat} {v : Value} {kids : List (List Da)} (h : RwD w B S T s v kids) (hb : Below w.heap.size w w') : RwD w' B S T s v kids := by
 obtain ⟨xs, e1, e2, e3, e4, e5, e6⟩ := h
 have hg : w.grownBy w' none := ⟨hb.os, hb.tape, hb.output, hb.size, fun k hk _ => hb.block k hk⟩
 refine ⟨xs, e1, e2, e3, World.ownsRow.kept e4 hg ?_, e5, fun i j r k u d h1 h2 h3 h4 => (e6 i j r k u d h1 h2 h3 h4).cg hb.size (fun g hl _ => hb.block g hl)⟩
 cases hv : v.ownBlock with
 | none => exact .inl rfl
 | some g => exact .inr (by simp)
/-- a row's elements may lie in more blocks -/
theorem RwD.more {w : World} {B : Nat} {S S' : Nat → Prop} {T : TypeId} {s : Nat} {v : Value} {kids : List (List Da)} (h : RwD w B S T s v kids) (hS : ∀ g, g < w.heap.size → S g → S' g) (ho : ∀ g, v.ownBlock = some g → ¬ S' g) : RwD w B S' T s v kids := by
 obtain ⟨xs, e1, e2, e3, e4, e5, e6⟩ := h
 exact ⟨xs, e1, e2, e3, e4, ho, fun i j r k u d h1 h2 h3 h4 => (e6 i j r k u d h1 h2 h3 h4).mono hS⟩
/-- a row just made, with room -/
theorem RwD.made {w : World} {B : Nat} {S : Nat → Prop} {T : TypeId} {s H n : Nat} {C : Array Value} (hH : w.heap[H]? = some (.cells C T (0, 0))) (hC : C.size = n * s) (hB : B ≤ H) (hS : ¬ S H) (hn : n ≤ maxLen) : RwD w B S T s (.slice (some ⟨H, 0, none⟩) 0 n) [] := by
 refine ⟨[], rfl, (fun r h => by cases h), (fun r h => by cases h), ⟨by simp, .inr ⟨H, n, C, rfl, hB, hH, Nat.zero_le _, hn, hC, by simp⟩⟩, (fun g hg => ?_), (fun i j r k u d h => by simp at h)⟩
 injection hg with hg
 subst hg
 exact hS
theorem make_row {P : Program} {st T : TypeId} {s : Nat} (hr : RowT P st T s) (u : World) (n : Nat) (hn : n ≤ 1073741825) : ∃ C : Array Value, C.size = n * s ∧ (Instr.makeSlice st (.int .i64 0) (.int .i64 (n : Int))).run P u = .ok (.slice (some ⟨u.heap.size, 0, none⟩) 0 n) (u.alloc (.cells C T)) := by
 obtain ⟨i, z, hi, hz, hs, hby, -⟩ := hr.info
 have hm : (i.bytes : Int) * (n : Int) ≤ 281474976710656 := by
  have h1 : i.bytes * n ≤ 1024 * 1073741825 := Nat.mul_le_mul hby hn
  have h2 : ((i.bytes * n : Nat) : Int) ≤ 281474976710656 := by omega
  rwa [Int.natCast_mul] at h2
 have h := run_make (P := P) (w := u) st T i z hr.sl hi hz .i64 .i64 0 n (by omega) (by omega) hm (by omega)
 rw [Int.toNat_natCast, hs] at h
 exact ⟨_, size_madeCells _ _, h⟩
/-- append of one to an own row -/
theorem wpList_append_rd {P : Program} {ops : Array Oper} {rest : List Oper} {o : Oper} {a : Act} {w : World} {Q : Exit → Act → World → Prop} {st T : TypeId} {sz : Nat} (hr : RowT P st T sz) (hgd : o.guard = none) (s x : Operand)
  (ho : o.op = .call { callee := .builtin .append, args := #[s, x], argTypes := #[st, st] }) (B : Nat) (S S' : Nat → Prop) (v : Value) (kids : List (List Da)) (hs : a.eval s = v) (hown : RwD w B S T sz v kids) (b : Nat) (cs : List Value) (k : List Da) (hx : a.eval x = .slice (some ⟨b, 0, none⟩) 1 1)
  (hxb : w.heap[b]? = some (.cells cs.toArray T (0, 0))) (hl : cs.length = sz) (hk : k.length = sz) (hd : ∀ (j : Nat) (u : Value) (d : Da), cs[j]? = some u → k[j]? = some d → DIn w S u d) (h1 : ∀ u ∈ cs, u.oneCell' = true) (hn : kids.length ≤ 1073741824) (hbase : B ≤ w.heap.size)
  (hK : ∀ q, S q → q < w.heap.size → S' q) (hK0 : ∀ g, v.ownBlock = some g → ¬ S' g) (hK1 : ¬ S' w.heap.size)
  (h : ∀ a' c' w', RwD w' B S' T sz (.slice a' (kids.length + 1) c') (kids ++ [k]) → w.grownBy w' v.ownBlock → wpList P ops Q rest (a.put o.dst (.slice a' (kids.length + 1) c')) w') : wpList P ops Q (o :: rest) a w := by
 obtain ⟨i, z, hi, hz, hs', hby, hzs⟩ := hr.info
 obtain ⟨v', w', r1, r2, r3, -⟩ := hown.app (ty := o.type) hr.sl hi hz hs' hby hzs hr.pos hbase b cs k hxb hl hk hd h1 hn hK hK0 hK1
 obtain ⟨a', c', rfl⟩ := r2.slc
 rw [List.length_append, List.length_cons, List.length_nil, Nat.zero_add] at *
 refine wpList_plain hgd fun K hK => ?_
 unfold Oper.wp
 simp [execOp, ho, resolve, invoke, builtin, hs, hx, r1, Result.andThen]
 exact hK _ _ (h a' c' w' r2 r3)
theorem rowEx : RowT Tryz.prog 25 40 8 := by
 refine ⟨Tryz.underlying25, ?_, by decide⟩
 have h : (Tryz.prog.info? 40).map (fun i => (i.zero.map (fun z => z.cells.size), i.size, decide (i.bytes ≤ 1024))) = some (some 8, 8, true) := by kernel_rfl
 cases hi : Tryz.prog.info? 40 with
 | none => rw [hi] at h; cases h
 | some i =>
  rw [hi] at h
  simp only [Option.map_some, Option.some.injEq, Prod.mk.injEq] at h
  obtain ⟨z, hz, hzs⟩ := Option.map_eq_some_iff.1 h.1
  exact ⟨i, z, rfl, hz, h.2.1, of_decide_eq_true h.2.2, hzs⟩
theorem rowQu : RowT Tryz.prog 22 30 11 := by
 refine ⟨Tryz.underlying22, ?_, by decide⟩
 have h : (Tryz.prog.info? 30).map (fun i => (i.zero.map (fun z => z.cells.size), i.size, decide (i.bytes ≤ 1024))) = some (some 11, 11, true) := by kernel_rfl
 cases hi : Tryz.prog.info? 30 with
 | none => rw [hi] at h; cases h
 | some i =>
  rw [hi] at h
  simp only [Option.map_some, Option.some.injEq, Prod.mk.injEq] at h
  obtain ⟨z, hz, hzs⟩ := Option.map_eq_some_iff.1 h.1
  exact ⟨i, z, rfl, hz, h.2.1, of_decide_eq_true h.2.2, hzs⟩
theorem rowIt : RowT Tryz.prog 23 42 10 := by
 refine ⟨Tryz.underlying23, ?_, by decide⟩
 have h : (Tryz.prog.info? 42).map (fun i => (i.zero.map (fun z => z.cells.size), i.size, decide (i.bytes ≤ 1024))) = some (some 10, 10, true) := by kernel_rfl
 cases hi : Tryz.prog.info? 42 with
 | none => rw [hi] at h; cases h
 | some i =>
  rw [hi] at h
  simp only [Option.map_some, Option.some.injEq, Prod.mk.injEq] at h
  obtain ⟨z, hz, hzs⟩ := Option.map_eq_some_iff.1 h.1
  exact ⟨i, z, rfl, hz, h.2.1, of_decide_eq_true h.2.2, hzs⟩
theorem rowSo : RowT Tryz.prog 24 44 5 := by
 refine ⟨Tryz.underlying24, ?_, by decide⟩
 have h : (Tryz.prog.info? 44).map (fun i => (i.zero.map (fun z => z.cells.size), i.size, decide (i.bytes ≤ 1024))) = some (some 5, 5, true) := by kernel_rfl
 cases hi : Tryz.prog.info? 44 with
 | none => rw [hi] at h; cases h
 | some i =>
  rw [hi] at h
  simp only [Option.map_some, Option.some.injEq, Prod.mk.injEq] at h
  obtain ⟨z, hz, hzs⟩ := Option.map_eq_some_iff.1 h.1
  exact ⟨i, z, rfl, hz, h.2.1, of_decide_eq_true h.2.2, hzs⟩
theorem rowOb : RowT Tryz.prog 28 58 9 := by
 refine ⟨Tryz.underlying28, ?_, by decide⟩
 have h : (Tryz.prog.info? 58).map (fun i => (i.zero.map (fun z => z.cells.size), i.size, decide (i.bytes ≤ 1024))) = some (some 9, 9, true) := by kernel_rfl
 cases hi : Tryz.prog.info? 58 with
 | none => rw [hi] at h; cases h
 | some i =>
  rw [hi] at h
  simp only [Option.map_some, Option.some.injEq, Prod.mk.injEq] at h
  obtain ⟨z, hz, hzs⟩ := Option.map_eq_some_iff.1 h.1
  exact ⟨i, z, rfl, hz, h.2.1, of_decide_eq_true h.2.2, hzs⟩
end Go.Proofs.YtegkbagnbnoopaaGreatDoor
