/- a pager opened -/
import Derived.Test.YtdkjkibdncbibaaGreatCm18
import Derived.Test.YtdkjkibdncbibaaGreatCm19
namespace Go.Proofs.YtdkjkibdncbibaaGreat
open Go.RowKit
open Go.Lib (hid)
/-- where the pages of the log's records lie; where these end -/
def lgF : List (List Int) → List (Int × Int) → Int → List (Int × Int)
 | [], lg, _ => lg
 | r :: rs, lg, p => lgF rs (rcL lg (p + 8) (numsOf r)) (p + 8 + 264 * (numsOf r).length)
def enF : List (List Int) → Int → Int
 | [], p => p
 | r :: rs, p => enF rs (p + 8 + 264 * (numsOf r).length)
theorem lgF_snoc : ∀ (rs : List (List Int)) (r : List Int) (lg : List (Int × Int)) (p : Int), lgF (rs ++ [r]) lg p = rcL (lgF rs lg p) (enF rs p + 8) (numsOf r)
 | [], _, _, _ => rfl
 | _ :: rs, r, lg, p => by simp only [List.cons_append, lgF, enF]; exact lgF_snoc rs r _ _
theorem enF_snoc : ∀ (rs : List (List Int)) (r : List Int) (p : Int), enF (rs ++ [r]) p = enF rs p + 8 + 264 * (numsOf r).length
 | [], _, _ => rfl
 | _ :: rs, r, p => by simp only [List.cons_append, enF]; exact enF_snoc rs r _
theorem enF_encs : ∀ (rs : List (List Int)) (p : Int), (∀ r ∈ rs, r.length % 264 = 0) → enF rs p = p + (encs rs).length
 | [], p, _ => by simp [enF, encs]
 | r :: rs, p, h => by
  have h1 := h r (by simp)
  rw [enF, enF_encs rs _ (fun r hr => h r (by simp [hr])), encs_cons, numsOf_len]
  simp only [List.length_append, be8_len]
  omega
/-- a record of pages of a disk that has so many -/
structure RecOK (N : Int) (r : List Int) : Prop where
 rng : Rng r
 mod : r.length % 264 = 0
 num : ∀ n ∈ numsOf r, n < N
theorem lgF_rng {N m : Int} (rs : List (List Int)) (hr : ∀ r ∈ rs, RecOK N r) : ∀ (lg : List (Int × Int)) (p : Int), 0 ≤ p → (∀ n x, gl lg n = some x → 0 ≤ x ∧ x + 256 ≤ p) → p + (encs rs).length ≤ m → ∀ n x, gl (lgF rs lg p) n = some x → 0 ≤ x ∧ x + 256 ≤ m := by
 induction rs with
 | nil => intro lg p _ h hm n x hx; have := h n x hx; simp [encs] at hm; omega
 | cons r rs ih =>
  intro lg p hp h hm
  have hl := (hr r (by simp)).mod
  rw [encs_cons] at hm
  simp only [List.length_append, be8_len] at hm
  have hn := numsOf_len r
  refine ih (fun r hr' => hr r (by simp [hr'])) _ _ (by omega) (fun n x hx => ?_) (by omega)
  rcases gl_rcL _ _ _ _ _ hx with h1 | ⟨i, hi, rfl⟩
  ·have := h n x h1; omega
  ·omega
theorem lgF_keys {N : Int} (rs : List (List Int)) (hr : ∀ r ∈ rs, RecOK N r) : ∀ (lg : List (Int × Int)) (p : Int), (∀ n ∈ gk lg, 0 ≤ n ∧ n < N) → ∀ n ∈ gk (lgF rs lg p), 0 ≤ n ∧ n < N := by
 induction rs with
 | nil => intro lg p h; exact h
 | cons r rs ih =>
  intro lg p h
  refine ih (fun r hr' => hr r (by simp [hr'])) _ _ (fun n hn => ?_)
  rcases gk_rcL _ _ _ _ hn with h1 | h1
  ·exact h n h1
  ·refine ⟨?_, (hr r (by simp)).num n h1⟩
   obtain ⟨i, _, rfl⟩ := List.mem_map.1 h1
   omega
def bagA (Pl D L C H : Nat) (sz most : Int) : Array Value := #[.pointer (some ⟨Pl, 0, none⟩), .pointer (some ⟨D, 0, none⟩), .int .i64 sz, .map (some L), .int .i64 0, .int .i64 most, .map (some C), .slice none 0 0, .int .u64 0, .int .u64 0, .int .u64 0, .int .u64 0, .int .u64 0, .int .u64 0, .int .u64 0, .int .u64 0, .int .u64 0, .int .u64 0, .int .u64 0, .int .u64 0, .int .u64 0, .int .u64 0, .int .u64 0, .int .u64 0, .int .u64 0, .int .u64 0, .int .u64 0, .int .u64 0, .int .u64 0, .int .u64 0, .int .u64 0, .int .u64 0, .int .u64 0, .int .u64 0, .int .u64 0, .int .u64 0, .int .u64 0, .int .u64 0, .int .u64 0, .int .u64 0, .int .u64 0, .int .u64 0, .int .u64 0, .int .u64 0, .map (some H)]
theorem buildPgr (u : World) (Pl D L C H : Nat) (sz most : Int) : (Instr.build 82 #[(0, .pointer (some ⟨Pl, 0, none⟩)), (1, .agg #[.pointer (some ⟨D, 0, none⟩), .int .i64 sz]), (2, .map (some L)), (4, .agg #[.int .i64 most, .map (some C), .slice none 0 0]), (7, .map (some H))]).run Tryz.prog u = .ok (.agg (bagA Pl D L C H sz most)) u := by kernel_rfl
set_option maxRecDepth 100000 in
set_option maxHeartbeats 1000000 in
theorem popen_no (B D M : Nat) (nb rm fz sz hold : Int) (dn : Bool) (f : Int → List Int) (L : List WR) (lv : Value) (w : World) (h : Dk w B D M nb rm fz dn f L lv) (hs : ¬ (3 ≤ sz ∧ sz < nb)) :
  Calls Tryz.prog 9 #[.pointer (some ⟨D, 0, none⟩), .int .i64 sz, .int .i64 hold] w fun e w' => e = .returned (.tuple #[.pointer none, .int .i64 1]) ∧ Below w.heap.size w w' := by
 have hz := zeroLay
 have HLO := hid (layoutOf_any B D M nb rm fz sz dn f L lv w h)
 have HS := hid hs
 clear h hs
 go_enter Tryz.func9, Tryz.ntmps9
 go_wp2_with fail
 refine HLO.out.mono ?_
 rintro e w1 ⟨rfl, hb1⟩
 rw [if_neg HS.out]
 have HB1 := hid hb1
 clear hb1 HLO
 go_wp2_with fail
 go_ret2
 exact ⟨rfl, HB1.out.alloc HB1.out.size _⟩
def stoF (sz : Int) (f : Int → List Int) (lg : List (Int × Int)) (n : Int) : List Int := match gl lg n with
 | some at_ => arRd f at_.toNat
 | none => f (sz + n)
def OpnEnds (B D M : Nat) (nb rm fz sz hold : Int) (f : Int → List Int) (L : List WR) (lv : Value) (a b c : Nat) (rs : List (List Int)) (w : World) (e : Ending) (w' : World) : Prop :=
 ∃ Pl P Lm C Hm, e = .returned (.tuple #[.pointer (some ⟨P, 0, none⟩), .int .i64 0]) ∧ Chg (Foot D M lv) w w' ∧
  (∀ k v, k = ⟨B, D, M, Pl, P, nb, rm, sz, max hold 0⟩ → v = ⟨⟨fz, false, f, L⟩, lv, a, b, c, .slice none 0 0, [], Lm, c, C, .slice none 0 0, hdr (stoF sz f (lgF rs [] 0) 0), hdr (stoF sz f (lgF rs [] 0) 0), Hm, lgF rs [] 0, [], [], []⟩ →
   PgS k v w' ∧ ∀ g, PF k v g → Foot D M lv g ∨ w.heap.size ≤ g)
/-- while the maps of a pager are made, in any order -/
structure OpC (w2 u : World) (oL oC oH : Option Nat) : Prop where
 lo : Below w2.heap.size w2 u
 l : ∀ m, oL = some m → w2.heap.size ≤ m ∧ u.heap[m]? = some (.map #[] 0)
 c : ∀ m, oC = some m → w2.heap.size ≤ m ∧ u.heap[m]? = some (.map #[] 0)
 h : ∀ m, oH = some m → w2.heap.size ≤ m ∧ u.heap[m]? = some (.map #[] 0)
 lc : ∀ m, oL = some m → oC = some m → False
 lh : ∀ m, oL = some m → oH = some m → False
 ch : ∀ m, oC = some m → oH = some m → False
theorem OpC.grow {w2 u u' : World} {oL oC oH : Option Nat} (h : OpC w2 u oL oC oH) (hb : Below u.heap.size u u') : OpC w2 u' oL oC oH :=
 have hk : ∀ m : Nat, u.heap[m]? = some (.map #[] 0) → u'.heap[m]? = some (.map #[] 0) := fun m hm => (hb.block m (Array.getElem?_eq_some_iff.1 hm).1).trans hm
 { h with lo := h.lo.trans (hb.mono h.lo.size), l := fun m e => ⟨(h.l m e).1, hk m (h.l m e).2⟩, c := fun m e => ⟨(h.c m e).1, hk m (h.c m e).2⟩, h := fun m e => ⟨(h.h m e).1, hk m (h.h m e).2⟩ }
theorem OpC.lt {w2 u : World} {oL oC oH : Option Nat} (h : OpC w2 u oL oC oH) : (∀ m, oL = some m → m < u.heap.size) ∧ (∀ m, oC = some m → m < u.heap.size) ∧ (∀ m, oH = some m → m < u.heap.size) :=
 ⟨fun m e => (Array.getElem?_eq_some_iff.1 (h.l m e).2).1, fun m e => (Array.getElem?_eq_some_iff.1 (h.c m e).2).1, fun m e => (Array.getElem?_eq_some_iff.1 (h.h m e).2).1⟩
theorem OpC.mkL {w2 u u' : World} {oC oH : Option Nat} (h : OpC w2 u none oC oH) (hb : Below u.heap.size u u') (m : Nat) (hm : u.heap.size ≤ m) (hx : u'.heap[m]? = some (.map #[] 0)) : OpC w2 u' (some m) oC oH :=
  { h.grow hb with
    l := fun n e => by cases e; exact ⟨Nat.le_trans h.lo.size hm, hx⟩
    lc := fun n e e2 => by cases e; have := h.lt.2.1 _ e2; omega
    lh := fun n e e2 => by cases e; have := h.lt.2.2 _ e2; omega }
theorem OpC.mkC {w2 u u' : World} {oL oH : Option Nat} (h : OpC w2 u oL none oH) (hb : Below u.heap.size u u') (m : Nat) (hm : u.heap.size ≤ m) (hx : u'.heap[m]? = some (.map #[] 0)) : OpC w2 u' oL (some m) oH :=
  { h.grow hb with
    c := fun n e => by cases e; exact ⟨Nat.le_trans h.lo.size hm, hx⟩
    lc := fun n e2 e => by cases e; have := h.lt.1 _ e2; omega
    ch := fun n e e2 => by cases e; have := h.lt.2.2 _ e2; omega }
theorem OpC.mkH {w2 u u' : World} {oL oC : Option Nat} (h : OpC w2 u oL oC none) (hb : Below u.heap.size u u') (m : Nat) (hm : u.heap.size ≤ m) (hx : u'.heap[m]? = some (.map #[] 0)) : OpC w2 u' oL oC (some m) :=
  { h.grow hb with
    h := fun n e => by cases e; exact ⟨Nat.le_trans h.lo.size hm, hx⟩
    lh := fun n e2 e => by cases e; have := h.lt.1 _ e2; omega
    ch := fun n e2 e => by cases e; have := h.lt.2.1 _ e2; omega }
theorem rest_first {P : Program} {c : Code} {K : Act → World → Prop} {Q : Exit → Act → World → Prop} {a : Act} {w : World} (Pre : Act → Act → World → Prop) (hrest : ∀ b u, Pre a b u → K b u) (hreg : ∀ K' : Act → World → Prop, (∀ b u, Pre a b u → K' b u) → Code.wp P c (Exit.then K' Q) a w) : Code.wp P c (Exit.then K Q) a w := hreg K hrest
def opV (fz : Int) (f : Int → List Int) (L : List WR) (lv : Value) (a b c Lm C Hm : Nat) (lg : List (Int × Int)) (en : Int) : PV :=
 ⟨⟨fz, false, f, L⟩, lv, a, b, c, .slice none 0 0, [], Lm, en, C, .slice none 0 0, List.replicate 18 0, List.replicate 18 0, Hm, lg, [], [], []⟩
theorem new_at2 (u : World) (o : Obj) (n : Nat) (h : u.heap.size = n) : (u.alloc o).heap[n]? = some o := by subst h; exact heap_alloc_new _ _
/-- the state of a pager that is being opened -/
theorem op_start {w w2 u : World} {B D M Pl P : Nat} {nb rm sz most fz : Int} {f : Int → List Int} {L : List WR} {lv : Value} {a b c Lm C Hm lo : Nat} (hd : Dk w B D M nb rm fz false f L lv) (hb : Below w.heap.size w w2) (hlg : LgIs w2 Pl D 0 sz a b c (.slice none 0 0)) (hlo : w.heap.size ≤ lo) (hPl : lo ≤ Pl)
    (hcu : OpC w2 u (some Lm) (some C) (some Hm)) (hbx : u.heap[P]? = some (.cells (bagA Pl D Lm C Hm sz most) 82 (0, 0))) (hP : w2.heap.size ≤ P) :
    PgS ⟨B, D, M, Pl, P, nb, rm, sz, most⟩ (opV fz f L lv a b c Lm C Hm [] 0) u := by
  have hB := (hd.foot D (.inl rfl))
  have hbu : Below w.heap.size w u := hb.trans (hcu.lo.mono hb.size)
  have hsz := hb.size
  have hPl2 := hlg.lt
  have hL := hcu.l _ rfl
  have hC := hcu.c _ rfl
  have hH := hcu.h _ rfl
  have hlu : LgIs u Pl D 0 sz a b c (.slice none 0 0) := (hcu.lo.block _ hPl2).trans hlg
  have hPL : P ≠ Lm := fun e => by rw [e, hL.2] at hbx; cases hbx
  have hPC : P ≠ C := fun e => by rw [e, hC.2] at hbx; cases hbx
  have hPH : P ≠ Hm := fun e => by rw [e, hH.2] at hbx; cases hbx
  have hLC : Lm ≠ C := fun e => hcu.lc Lm rfl (by rw [e])
  have hLH : Lm ≠ Hm := fun e => hcu.lh Lm rfl (by rw [e])
  have hCH : C ≠ Hm := fun e => hcu.ch C rfl (by rw [e])
  exact {
    ls := { dk := hd.chg (Chg.fresh (F := fun _ => False) hbu) (fun _ _ h => h), box := hlu, own := Own.nil _ _, nf := (fun e => by have := (hd.foot Pl e).2; omega), ne := (fun e => by cases e), af := (fun g hg => by cases hg), base := by show B ≤ Pl; omega }
    box := hbx
    lg := ⟨#[], 0, hL.2, rfl, MapKept.stamped_empty 0⟩
    ca := ⟨#[], 0, hC.2, rfl, MapKept.stamped_empty 0⟩
    ch := ⟨#[], 0, hH.2, rfl, MapKept.stamped_empty 0⟩
    ord := OrdIs.nil _ _
    l0 := rfl
    l1 := rfl
    bp := by show B ≤ P; omega
    bm := by show B ≤ Lm; omega
    bc := by show B ≤ C; omega
    bh := by show B ≤ Hm; omega
    ap := ⟨fun g => if g = P then 1 else if g = Lm then 2 else if g = C then 3 else if g = Hm then 4 else 0, {
      l := fun g hg => by
        have hg2 : g < w2.heap.size := by
          rcases hg with h1 | h1 | h1
          · have := (hd.foot g h1).2; omega
          · have h1 : g = Pl := h1; omega
          · cases h1
        rw [if_neg (by omega), if_neg (by omega), if_neg (by omega), if_neg (by omega)]
      p := by show (if P = P then _ else _) = 1; rw [if_pos rfl]
      m := by show (if Lm = P then 1 else if Lm = Lm then 2 else if Lm = C then 3 else if Lm = Hm then 4 else 0) = 2; rw [if_neg (Ne.symm hPL), if_pos rfl]
      c := by show (if C = P then 1 else if C = Lm then 2 else if C = C then 3 else if C = Hm then 4 else 0) = 3; rw [if_neg (Ne.symm hPC), if_neg (Ne.symm hLC), if_pos rfl]
      h := by show (if Hm = P then 1 else if Hm = Lm then 2 else if Hm = C then 3 else if Hm = Hm then 4 else 0) = 4; rw [if_neg (Ne.symm hPH), if_neg (Ne.symm hLH), if_neg (Ne.symm hCH), if_pos rfl]
      o := fun g hg => by cases hg }⟩ }
theorem op_foot {w2 u : World} {B D M Pl P : Nat} {nb rm sz most fz : Int} {f : Int → List Int} {L : List WR} {lv : Value} {a b c Lm C Hm : Nat} {lg : List (Int × Int)} {en : Int} (hcu : OpC w2 u (some Lm) (some C) (some Hm)) (hP : w2.heap.size ≤ P) :
  ∀ g, PF ⟨B, D, M, Pl, P, nb, rm, sz, most⟩ (opV fz f L lv a b c Lm C Hm lg en) g → Foot D M lv g ∨ g = Pl ∨ w2.heap.size ≤ g := by
 rintro g ((h1 | h1 | h1) | h1 | h1 | h1 | h1 | h1)
 ·exact .inl h1
 ·exact .inr (.inl h1)
 ·cases h1
 ·exact .inr (.inr (by rw [h1]; exact hP))
 ·exact .inr (.inr (by rw [h1]; exact (hcu.l _ rfl).1))
 ·exact .inr (.inr (by rw [h1]; exact (hcu.c _ rfl).1))
 ·exact .inr (.inr (by rw [h1]; exact (hcu.h _ rfl).1))
 ·cases h1
theorem exec_mk {ρ : Operand → Value} {o : Oper} {u : World} {T : TypeId} (ho : o.op = .makeMap T none) (hm : ∀ u : World, (Instr.makeMap T none).run Tryz.prog u = .ok (.map (some u.heap.size)) (u.alloc (.map #[] 0))) :
  (execOp ρ o).run Tryz.prog u = .ok (.value (.map (some u.heap.size))) (u.alloc (.map #[] 0)) := by
 unfold execOp
 simp only [ho, Option.map_none, Sem.run_bind, hm, Result.andThen_ok]
 rfl
theorem below_map (u : World) : Below u.heap.size u (u.alloc (.map #[] 0)) := (Below.refl _ _).alloc (Nat.le_refl _) _
theorem new_map (u : World) : (u.alloc (.map #[] 0)).heap[u.heap.size]? = some (.map #[] 0) := heap_alloc_new _ _
set_option maxRecDepth 100000 in
set_option maxHeartbeats 4000000 in
theorem popen_any (B D M : Nat) (nb rm fz sz hold : Int) (f : Int → List Int) (L : List WR) (lv : Value) (a b c : Nat) (rs : List (List Int)) (w : World) (h : Dk w B D M nb rm fz false f L lv) (hs : 3 ≤ sz ∧ sz < nb) (h4 : nb ≤ 4096) (hr : ∀ n, Rng (f n))
    (hm : Mk f 0 a b c) (hc : (c : Int) ≤ (sz - 2) * 256) (har : areaB f 2 c = encs rs) (hrs : ∀ r ∈ rs, RecOK (nb - sz) r)
    (hu : 1 ≤ hN (hdr (stoF sz f (lgF rs [] 0) 0)) 0 ∧ (hN (hdr (stoF sz f (lgF rs [] 0) 0)) 0 : Int) ≤ nb - sz) :
    Calls Tryz.prog 9 #[.pointer (some ⟨D, 0, none⟩), .int .i64 sz, .int .i64 hold] w (OpnEnds B D M nb rm fz sz hold f L lv a b c rs w) := by
  have hz := zeroLay
  have HLO := hid (layoutOf_any B D M nb rm fz sz false f L lv w h)
  have HS := hid hs
  have H := hid h
  have HR := hid (And.intro hr (And.intro hm (And.intro hc (And.intro har hrs))))
  have HU := hid hu
  have H4 := hid h4
  clear h hs hr hm hc har hrs hu h4
  go_enter Tryz.func9, Tryz.ntmps9
  go_wp2_with fail
  refine HLO.out.mono ?_
  rintro e w1 ⟨rfl, hb1⟩
  rw [if_pos HS.out]
  have HB1 := hid (hb1.alloc hb1.size (.cells #[.pointer (some ⟨D, 0, none⟩), .int .i64 sz] 63))
  have HX1 := hid (And.intro hb1.size (heap_alloc_new w1 (.cells #[.pointer (some ⟨D, 0, none⟩), .int .i64 sz] 63)))
  have HO := hid (open_yes B D M nb rm fz 0 sz f L lv a b c rs (w1.alloc (.cells #[.pointer (some ⟨D, 0, none⟩), .int .i64 sz] 63)) (H.out.chg (Chg.fresh (F := fun _ => False) HB1.out) (fun _ _ h => h)) (Int.le_refl _) HS.out.1 (by have := HS.out.2; omega) H4.out HR.out.1 (nst_mk HR.out.2.1) HR.out.2.1.2.1 HR.out.2.2.1 HR.out.2.2.2.1 (fun r hr => (HR.out.2.2.2.2 r hr).rng))
  clear hb1 HLO
  go_wp2_with fail
  refine HO.out.mono ?_
  rintro e w2 ⟨Pl, rv, rfl, hlg, hrc, hPl, hb2⟩
  have HLG := hid hlg
  have HRC := hid hrc
  have HPL := hid hPl
  have HB2 := hid hb2
  have HX2 := hid (show w2.drew.heap[w1.heap.size]? = some (.cells #[.pointer (some ⟨D, 0, none⟩), .int .i64 sz] 63 (0, 0)) from (hb2.block _ (Array.getElem?_eq_some_iff.1 HX1.out.2).1).trans HX1.out.2)
  have HIL := hid (show (Tryz.prog.info? 63).map (·.size) = some 2 by kernel_rfl)
  have HCU := hid (show OpC w2 w2.drew none none none from { lo := (Below.refl _ _).drew, l := (fun m e => by cases e), c := (fun m e => by cases e), h := (fun m e => by cases e), lc := (fun m e => by cases e), lh := (fun m e => by cases e), ch := (fun m e => by cases e) })
  have hbp := buildPgr
  clear hlg hrc hPl hb2 HO
  go_wp2_with fail
  refine rest_first (fun _ bb u => ∃ Lm C Hm P : Nat, bb = ⟨List.toArray (.pointer (some ⟨D, 0, none⟩) :: .int .i64 sz :: .int .i64 hold :: undef :: undef :: undef :: .pointer none :: .int .i64 0 :: .pointer (some ⟨w1.heap.size, 0, none⟩) :: .int .i64 0 :: .pointer (some ⟨Pl, 0, none⟩) :: rv :: .pointer (some ⟨P, 0, none⟩) :: undef :: undef :: undef :: undef :: undef :: .tuple #[.agg #[.pointer (some ⟨D, 0, none⟩), .int .i64 sz], .int .i64 0] :: .pointer (some ⟨D, 0, none⟩) :: .int .i64 sz :: .tuple #[.agg #[.pointer (some ⟨D, 0, none⟩), .int .i64 sz], .int .i64 0] :: .agg #[.pointer (some ⟨D, 0, none⟩), .int .i64 sz] :: .int .i64 0 :: .int .i64 0 :: .bool false :: undef :: .tuple #[.pointer (some ⟨Pl, 0, none⟩), rv, .int .i64 0] :: .pointer (some ⟨D, 0, none⟩) :: .int .i64 sz :: .tuple #[.pointer (some ⟨Pl, 0, none⟩), rv, .int .i64 0] :: .pointer (some ⟨Pl, 0, none⟩) :: rv :: .int .i64 0 :: .int .i64 0 :: .bool false :: undef :: .pointer (some ⟨Pl, 0, none⟩) :: .agg #[.pointer (some ⟨D, 0, none⟩), .int .i64 sz] :: .map (some Lm) :: .int .i64 hold :: .agg #[.int .i64 (max hold 0), .map (some C), .slice none 0 0] :: .map (some Hm) :: .agg (bagA Pl D Lm C Hm sz (max hold 0)) :: .pointer (some ⟨P, 0, none⟩) :: undef :: undef :: undef :: undef :: undef :: undef :: undef :: undef :: undef :: undef :: undef :: undef :: undef :: undef :: undef :: undef :: undef :: undef :: undef :: undef :: undef :: undef :: undef :: undef :: undef :: undef :: undef :: undef :: undef :: undef :: undef :: undef :: undef :: undef :: undef :: undef :: undef :: undef :: undef :: undef :: undef :: undef :: undef :: undef :: undef :: undef :: undef :: undef :: undef :: undef :: undef :: undef :: undef :: undef :: undef :: undef :: undef :: []), []⟩ ∧ OpC w2 u (some Lm) (some C) (some Hm) ∧ u.heap[P]? = some (.cells (bagA Pl D Lm C Hm sz (max hold 0)) 82 (0, 0)) ∧ w2.heap.size ≤ P) ?_ (fun K' hK' => ?_)
  · rintro aa u ⟨Lm, C, Hm, P, rfl, hcu, hbx, hP⟩
    have hlo : w.heap.size ≤ (w1.alloc (.cells #[.pointer (some ⟨D, 0, none⟩), .int .i64 sz] 63)).heap.size := HB1.out.size
    have HP0 := hid (op_start H.out (HB1.out.trans (HB2.out.mono hlo)) HLG.out hlo HPL.out hcu hbx hP)
    have HPF := hid (fun lg en => op_foot (B := B) (D := D) (M := M) (Pl := Pl) (nb := nb) (rm := rm) (sz := sz) (most := max hold 0) (fz := fz) (f := f) (L := L) (lv := lv) (a := a) (b := b) (c := c) (lg := lg) (en := en) hcu hP)
    have HLT := hid (show Pl < w2.heap.size from HLG.out.lt)
    have hXl : w1.heap.size < w2.heap.size := (Array.getElem?_eq_some_iff.1 HX2.out).1
    have HXU := hid ((hcu.lo.block _ hXl).trans HX2.out)
    have HCW := hid (show Chg (Foot D M lv) w u from Chg.fresh ((HB1.out.trans (HB2.out.mono hlo)).trans (hcu.lo.mono (Nat.le_trans hlo HB2.out.size))))
    have HRU := hid (HRC.out.chg (Chg.fresh (F := fun _ => False) hcu.lo) (fun _ _ _ h => h))
    obtain ⟨ra, rcap, rfl, -⟩ := HRC.out
    have HPW2 := hid (show w1.heap.size ≠ P by omega)
    have HP2 := hid hP
    clear hcu hbx hP
    go_wp2_with fail
    have HEN := hid (fun i => show (0 : Int) ≤ enF (rs.take i) 0 ∧ enF (rs.take i) 0 ≤ 1048576 from by
      have h1 := enF_encs (rs.take i) 0 (fun r hr => (HR.out.2.2.2.2 r (List.mem_of_mem_take hr)).mod)
      have h2 : (encs (rs.take i)).length ≤ (encs rs).length := by
        have h3 := encs_append (rs.take i) (rs.drop i)
        rw [List.take_append_drop] at h3
        rw [h3, List.length_append]; omega
      have h3 : (encs rs).length = c := by rw [← HR.out.2.2.2.1]; exact areaB_len _ _ H.out.2.2.2.2.2.2.1 c
      have h4 := HR.out.2.2.1; have h5 := HS.out; have h6 := H4.out
      omega)
    have HLN := hid (show ∀ (i : Nat) r, rs[i]? = some r → r.length ≤ 1048576 from fun i r hr => by
      have h1 : (encs rs).length = c := by rw [← HR.out.2.2.2.1]; exact areaB_len _ _ H.out.2.2.2.2.2.2.1 c
      have h2 := encs_append (rs.take i) (rs.drop i)
      rw [List.take_append_drop] at h2
      have h3 : rs.drop i = r :: rs.drop (i + 1) := by
        have := (List.getElem?_eq_some_iff.1 hr)
        obtain ⟨hl, e⟩ := this
        rw [List.drop_eq_getElem_cons hl, e]
      have h4 := congrArg List.length h2
      rw [h3, encs_cons] at h4
      simp only [List.length_append, be8_len] at h4
      have h5 := HR.out.2.2.1; have h6 := HS.out; have h7 := H4.out
      omega)
    have hrl : rs.length ≤ 1048576 := by
      have h1 : (encs rs).length = c := by rw [← HR.out.2.2.2.1]; exact areaB_len _ _ H.out.2.2.2.2.2.2.1 c
      have h2 := encs_ge rs
      have h5 := HR.out.2.2.1; have h6 := HS.out; have h7 := H4.out
      omega
    have HIL2 := hid (show (Tryz.prog.info? 63).map (·.size) = some 2 by kernel_rfl)
    go_loopw [47] (fun iv wr => ∃ i : Nat, i ≤ rs.length ∧ iv = .int .i64 (i : Int) ∧ PgS ⟨B, D, M, Pl, P, nb, rm, sz, max hold 0⟩ (opV fz f L lv a b c Lm C Hm (lgF (rs.take i) [] 0) (enF (rs.take i) 0)) wr ∧ Chg (Foot D M lv) w wr ∧ wr.heap[w1.heap.size]? = some (.cells #[.pointer (some ⟨D, 0, none⟩), .int .i64 sz] 63 (0, 0)) ∧ Recs wr (w1.alloc (.cells #[.pointer (some ⟨D, 0, none⟩), .int .i64 sz] 63)).heap.size Pl (.slice ra rs.length rcap) rs) (fun iv _ => rs.length - (intOf iv).toNat)
    case atStart => exact ⟨0, by omega, rfl, HP0.out, HCW.out, HXU.out, HRU.out⟩
    case round =>
      clear HP0 HCW HXU HRU
      obtain ⟨i, hi, rfl, hps, hcw, hxw, hrw⟩ := hrel
      have HPS := hid hps
      have HCW := hid hcw
      have HXW := hid hxw
      have HRW := hid hrw
      by_cases hlt : i < rs.length
      · obtain ⟨ra', rcap', hrv, hrc⟩ := hrw
        simp only [Value.slice.injEq, true_and] at hrv
        obtain ⟨rfl, rfl⟩ := hrv
        obtain ⟨rb, ro, hra, hrb, hlo1, hhi1, hcl⟩ := hrc (by omega)
        subst hra
        obtain ⟨x, cx, hbsx, hxr⟩ := hcl i hlt
        obtain ⟨r, hri⟩ : ∃ r, rs[i]? = some r := ⟨_, List.getElem?_eq_getElem hlt⟩
        rw [hri, Option.getD_some] at hbsx hxr
        have HRI := hid hri
        have HRK := hid (HR.out.2.2.2.2 r (List.mem_of_getElem? hri))
        have HXR := hid hxr
        have HBX := hid hbsx
        have HPG := hid (pages_any B D M nb rm fz sz false f L lv wr hps.ls.dk (by have := HS.out; have := H4.out; omega) (by have := HS.out; have := H4.out; omega))
        clear hps hcw hrc hcl hri hbsx hxr
        go_wp2_with (refine wpList_load_row rfl 63 (Operand.tmp 8) rfl w1.heap.size rfl 63 #[.pointer (some ⟨D, 0, none⟩), .int .i64 sz] (0, 0) _ HXW.out Tryz.underlying63 rfl (by rw [HIL2.out]; rfl) ?_)
        refine HPG.out.mono ?_
        rintro e w5 ⟨rfl, hb5⟩
        have HB5 := hid hb5
        have HPI := hid (pagesIn_any x r (nb - sz) w5 (HBX.out.below hb5) HRK.out.rng HRK.out.mod (by have := HS.out; have := H4.out; omega) (HLN.out i r HRI.out) HRK.out.num)
        clear hb5 HPG
        go_wp2_with fail
        refine HPI.out.mono ?_
        rintro e w6 ⟨nv, rfl, hkr, hb6⟩
        have hp6 := (HPS.out.fresh HB5.out).fresh hb6
        have HKR := hid hkr
        have HB6 := hid hb6
        have HP6 := hid hp6
        have hnp : ∀ g, nv.ownBlock = some g → ¬ PF ⟨B, D, M, Pl, P, nb, rm, sz, max hold 0⟩ (opV fz f L lv a b c Lm C Hm (lgF (rs.take i) [] 0) (enF (rs.take i) 0)) g := fun g hg hF => by
          have h1 := (hkr.lt g hg).1
          have h2 := (HPS.out.lt g hF).2
          have h3 := HB5.out.size
          omega
        have HRC := hid (recorded_any _ _ nv (numsOf r) w6 hp6 hkr.nums hnp (by have := HEN.out i; exact ⟨this.1, by have := this.2; show enF (rs.take i) 0 ≤ 1099511627776; omega⟩) (by rw [numsOf_len]; have := HLN.out i r HRI.out; omega))
        clear hkr hb6 hp6 hnp HPI
        go_wp2_with fail
        refine HRC.out.mono ?_
        rintro e w7 ⟨rfl, hpe⟩
        have HPE := hid hpe
        clear hpe HRC
        go_wp2_with fail
        go_roundw
        case rel =>
          have htk : rs.take (i + 1) = rs.take i ++ [r] := by rw [List.take_add_one, HRI.out]; rfl
          have hb56 : Below wr.heap.size wr w6 := HB5.out.trans (HB6.out.mono HB5.out.size)
          have hnf : ∀ g, PF ⟨B, D, M, Pl, P, nb, rm, sz, max hold 0⟩ (opV fz f L lv a b c Lm C Hm (lgF (rs.take i) [] 0) (enF (rs.take i) 0)) g → Foot D M lv g ∨ g = Pl ∨ w2.heap.size ≤ g := HPF.out _ _
          have hlo := HB1.out.size
          refine ⟨i + 1, by omega, by go_num, ?_, ?_, ?_, ?_⟩
          · rw [htk, lgF_snoc, enF_snoc]
            exact HPE.out.1
          · refine (HCW.out.trans (Chg.fresh (F := fun _ => False) hb56) (fun _ h => h.elim)).trans HPE.out.2.1 (fun g hg => ?_)
            rcases hnf g hg with h1 | h1 | h1
            · exact .inl h1
            · right; rw [h1]; have := HPL.out; omega
            · right; have := HB2.out.size; omega
          · refine (HPE.out.2.1.block _ ?_ (fun hF => ?_)).trans ((hb56.block _ (Array.getElem?_eq_some_iff.1 HXW.out).1).trans HXW.out)
            · have := (Array.getElem?_eq_some_iff.1 HXW.out).1; have := hb56.size; omega
            · rcases hnf _ hF with h1 | h1 | h1
              · have := (H.out.foot _ h1).2; have := HX1.out.1; omega
              · have := HPL.out; simp at this; omega
              · omega
          · refine (HRW.out.chg (Chg.fresh (F := fun _ => False) hb56) (fun _ _ _ h => h)).chg HPE.out.2.1 (fun g h1 h2 hF => ?_)
            rcases hnf g hF with h3 | h3 | h3
            · have := (H.out.foot _ h3).2; omega
            · omega
            · have := HLT.out; omega
        case measure => simp [intOf]; omega
      · obtain rfl : i = rs.length := by omega
        rw [List.take_length] at hps
        have hen := enF_encs rs 0 (fun r hr => (HR.out.2.2.2.2 r hr).mod)
        have hel : (encs rs).length = c := by rw [← HR.out.2.2.2.1]; exact areaB_len _ _ H.out.2.2.2.2.2.2.1 c
        rw [hel, Int.zero_add] at hen
        rw [hen] at hps
        have hpin : PIn ⟨B, D, M, Pl, P, nb, rm, sz, max hold 0⟩ (opV fz f L lv a b c Lm C Hm (lgF rs [] 0) c) :=
          { z1 := HS.out.1, z2 := HS.out.2, z3 := H4.out, m0 := by show 0 ≤ max hold 0; omega
            lgr := lgF_rng rs HR.out.2.2.2.2 [] 0 (Int.le_refl _) (fun n x hx => by simp [gl] at hx) (by rw [hel]; have := HR.out.2.2.1; show (0 : Int) + c ≤ (sz - 2) * 256; omega)
            cal := fun n l hl => by simp [opV, gl] at hl
            chl := fun n l hl => by simp [opV, gl] at hl
            odl := Nat.zero_le _ }
        have hzs : (0 : Int) < nb - sz := by have := HS.out.2; omega
        have HST := hid (show Calls Tryz.prog 39 #[.pointer (some ⟨P, 0, none⟩), .int .i64 0] wr fun e w' => e = .returned (.tuple #[.agg (ArrU8 (stoF sz f (lgF rs [] 0) 0)), .int .i64 0]) ∧ Below wr.heap.size wr w' from stored_any _ _ 0 wr hps hpin ⟨Int.le_refl _, hzs⟩)
        have HLL := hid (show (stoF sz f (lgF rs [] 0) 0).length = 256 from sto_len hps 0)
        have HLR := hid (show Rng (stoF sz f (lgF rs [] 0) 0) from by
          unfold stoF
          split
          · exact arRd_rng HR.out.1 _
          · exact HR.out.1 _)
        have HU2 := hid HU.out
        have HPS2 := hid hps
        have HOE := hid (show ∀ w9, PgS ⟨B, D, M, Pl, P, nb, rm, sz, max hold 0⟩ { opV fz f L lv a b c Lm C Hm (lgF rs [] 0) c with h0 := hdr (stoF sz f (lgF rs [] 0) 0), h1 := hdr (stoF sz f (lgF rs [] 0) 0) } w9 → Chg (Foot D M lv) w w9 → OpnEnds B D M nb rm fz sz hold f L lv a b c rs w (.returned (.tuple #[.pointer (some ⟨P, 0, none⟩), .int .i64 0])) w9 from fun w9 h1 h2 => ⟨Pl, P, Lm, C, Hm, rfl, h2, fun k v hk hv => by
          subst hk hv
          refine ⟨h1, fun g hg => ?_⟩
          rcases HPF.out (lgF rs [] 0) c g hg with h3 | h3 | h3
          · exact .inl h3
          · right; rw [h3]; have := HPL.out; have := HB1.out.size; omega
          · right; have := HB2.out.size; have := HB1.out.size; omega⟩)
        clear hps hcw hxw hrw hen hel hpin hzs HU HEN HLN HPS HRW
        have hz35 := zero35
        have HI35 := hid (show (Tryz.prog.info? 50).map (·.size) = some 256 by kernel_rfl)
        have SZ := hid (show (ArrU8 (zeros 256)).size = 256 by rw [ArrU8_size, zeros_len])
        generalize stoF sz f (lgF rs [] 0) 0 = l0 at *
        generalize lgF rs [] 0 = lg0 at *
        have SL := hid (show (ArrU8 l0).size = 256 by rw [ArrU8_size, HLL.out])
        go_wp2_with fail
        refine HST.out.mono ?_
        rintro e w5 ⟨rfl, hb5⟩
        have HB5 := hid hb5
        have HXN := hid (heap_alloc_new w5 (.cells (ArrU8 (zeros 256)) 50))
        clear hb5 HST
        have hh := headerIn_any l0
        go_wp2_with (first | (refine wpList_store_row rfl 50 (Operand.tmp 17) (Operand.tmp 67) rfl w5.heap.size (ArrU8 l0) rfl rfl 50 (ArrU8 (zeros 256)) HXN.out (by rw [HI35.out, SL.out]) (by rw [SL.out, SZ.out]) (ArrU8_one _) ?_) | (refine wpList_load_row rfl 50 (Operand.tmp 17) rfl w5.heap.size rfl 50 (ArrU8 l0) (0, 0) _ (setRow_heap _ _ _ _ _ _ HXN.out) Tryz.underlying50 rfl (by rw [HI35.out, SL.out]) ?_))
        refine (hh _ HLL.out HLR.out).mono ?_
        rintro e w6 ⟨rfl, hb6⟩
        clear hh
        have hbb : Below wr.heap.size wr w6 := by
          have h1 := HB5.out
          have h2 : Below wr.heap.size wr ((w5.alloc (.cells (ArrU8 (zeros 256)) 50)).setRow w5.heap.size (ArrU8 l0)) := below_setRow (h1.alloc h1.size _) h1.size _
          exact h2.trans (hb6.mono h2.size)
        have hp6 := HPS2.out.fresh hbb
        have hx6 := (hbb.block w1.heap.size (Array.getElem?_eq_some_iff.1 HXW.out).1).trans HXW.out
        have hns : (hdr l0).length = 18 := hdr_len _
        generalize hnsd : hdr l0 = ns at *
        have hth : w6.there P 26 (HV ns).toArray.size := fun j hj => by
          rw [List.size_toArray, HV_len, hns] at hj
          rw [cell_of_row _ _ _ _ _ _ hp6.box, PC_h1 j rfl rfl hj, HV_at _ _ hj]
          exact ⟨rfl, frozen_of_row _ _ _ _ _ hp6.box⟩
        have HTH := hid hth
        have HIH := hid (show (Tryz.prog.info? 68).map (·.size) = some (HV ns).length by rw [HV_len, hns]; kernel_rfl)
        have HIH2 := hid (show (Tryz.prog.info? 68).map (·.size) = some (HV ns).toArray.size by rw [List.size_toArray, HV_len, hns]; kernel_rfl)
        have H1C := hid (all_oneCell_toArray (cs := HV ns) (fun x hx => by obtain ⟨n, _, rfl⟩ := List.mem_map.1 hx; rfl))
        have hb7 := heap_setCells P 82 (HV ns) 26 _ _ hp6.box
        rw [PC_seth1 rfl rfl ns hns] at hb7
        have hp7 := hp6.rebox (h0' := List.replicate 18 0) (h1' := ns) (en' := c) (Lm' := Lm) (lg' := lg0) (Hm' := Hm) (ch' := []) (Chg.setCells P (HV ns) 26 _ (Chg.refl (fun g => g = P) w6) rfl) hb7 rfl hns (.inl ⟨rfl, rfl⟩) (.inl ⟨rfl, rfl⟩) hp6.mh
        have hc7 : Chg (fun g => g = P) w6 (w6.setCells P 26 (HV ns)) := Chg.setCells P (HV ns) 26 _ (Chg.refl (fun g => g = P) w6) rfl
        have hXP : w1.heap.size ≠ P := HPW2.out
        have HX7 := hid ((hc7.block w1.heap.size (Array.getElem?_eq_some_iff.1 hx6).1 hXP).trans hx6)
        have HP7 := hid hp7
        have HB7 := hid hb7
        have HBB := hid hbb
        have HNS := hid hns
        clear hbb hp6 hx6 hns hth hb7 hp7 hc7 hXP hb6
        go_wp2_with (refine wpList_store_mid rfl 68 (Operand.tmp 76) (Operand.tmp 74) rfl P 26 (HV ns).toArray rfl rfl HTH.out HIH2.out H1C.out ?_)
        generalize hw7 : w6.setCells P 26 (HV ns) = w7 at *
        have HW7 := hid hw7
        clear hw7
        have hu7 := HU2.out
        generalize hun : hN ns 0 = un at *
        have hu1 : ¬ ((un : Int) < 1) := by omega
        have hu2 : ¬ ((un : Int) > nb - sz) := by omega
        have hwu : IntKind.u64.wrap (nb - sz) = nb - sz := wrap_u64 _ (by omega) (by have := HS.out; have := H4.out; omega)
        have HP26 := hid (show ∀ u : World, u.heap[P]? = w7.heap[P]? → u.cell? ⟨P, 26, none⟩ = some (.int .u64 (un : Int)) from fun u hu => by
          rw [cell_of_row u P (26 + 0) _ _ _ (hu.trans HB7.out), PC_h1 0 rfl HNS.out (by decide)]
          show (HV ns)[0]? = _
          rw [HV_at _ _ (by rw [HNS.out]; decide), hun])
        have HPG := hid (fun u (hb : Below w7.heap.size w7 u) => pages_any B D M nb rm fz sz false f L lv u (HP7.out.1.ls.dk.chg (Chg.fresh (F := fun _ => False) hb) (fun _ _ h => h)) (by have := HS.out; have := H4.out; omega) (by have := HS.out; have := H4.out; omega))
        have HS7 := hid (show w7.drew.heap[P]? = w7.heap[P]? ∧ w7.drew.heap[w1.heap.size]? = some (.cells #[.pointer (some ⟨D, 0, none⟩), .int .i64 sz] 63 (0, 0)) ∧ Below w7.heap.size w7 w7.drew from ⟨rfl, HX7.out, (Below.refl _ _).drew⟩)
        go_wp2_with fail
        refine wp_region_held_drew (S := fun u => u.heap[P]? = w7.heap[P]? ∧ u.heap[w1.heap.size]? = some (.cells #[.pointer (some ⟨D, 0, none⟩), .int .i64 sz] 63 (0, 0)) ∧ Below w7.heap.size w7 u) (by kernel_rfl) (HS7.out) (fun hHeld => ?_)
        refine tk (i := 0) (oi := ⟨some 77, .move (.tmp 12), 30, "page.go:57", #[], none⟩) (v := ?_) (Or.inl ⟨by rfl, ?_⟩) ?_
        rotate_left 1
        · (intro u hSw; go_simp; try with_reducible rfl)
        try simp only [Act.put, sA, sB, sC]
        refine tk (i := 1) (oi := ⟨some 78, .nilCheck (.tmp 77), 0, "page.go:57", #[⟨0, .data⟩], none⟩) (v := ?_) (Or.inl ⟨by rfl, ?_⟩) ?_
        rotate_left 1
        · (intro u hSw; go_simp; try with_reducible rfl)
        try simp only [Act.put, sA, sB, sC]
        refine tk (i := 2) (oi := ⟨some 79, .fieldAddr 82 (.tmp 78) 6, 0, "page.go:57", #[⟨1, .data⟩], none⟩) (v := ?_) (Or.inl ⟨by rfl, ?_⟩) ?_
        rotate_left 1
        · (intro u hSw; go_simp; try with_reducible rfl)
        try simp only [Act.put, sA, sB, sC]
        refine tk (i := 3) (oi := ⟨some 80, .fieldAddr 68 (.tmp 79) 0, 0, "page.go:57", #[⟨2, .data⟩], none⟩) (v := ?_) (Or.inl ⟨by rfl, ?_⟩) ?_
        rotate_left 1
        · (intro u hSw; go_simp; try with_reducible rfl)
        try simp only [Act.put, sA, sB, sC]
        refine tk (i := 4) (oi := ⟨some 81, .load 60 (.tmp 80), 60, "page.go:57", #[⟨3, .data⟩], none⟩) (v := ?_) (Or.inl ⟨by rfl, ?_⟩) ?_
        rotate_left 1
        · (intro u hSw; have p26 := HP26.out u hSw.1; go_simp; try with_reducible rfl)
        try simp only [Act.put, sA, sB, sC]
        refine tk (i := 5) (oi := ⟨some 82, .binOp BinOp.lss 60 (.tmp 81) (.const (Value.int IntKind.u64 1)) 60, 4, "page.go:57", #[⟨4, .data⟩], none⟩) (v := .bool false) (Or.inl ⟨by rfl, ?_⟩) ?_
        · intro u hSw
          go_simp
        try simp only [Act.put, sA, sB, sC]
        refine tk (i := 6) (oi := ⟨some 83, .move (.tmp 82), 4, "page.go:57", #[⟨5, .data⟩], none⟩) (v := ?_) (Or.inl ⟨by rfl, ?_⟩) ?_
        rotate_left 1
        · (intro u hSw; go_simp; try with_reducible rfl)
        try simp only [Act.put, sA, sB, sC]
        refine tk (i := 7) (oi := ⟨some 84, .move (.tmp 12), 30, "page.go:57", #[⟨6, .guard⟩], some (6, false)⟩) (v := ?_) (Or.inl ⟨by rfl, ?_⟩) ?_
        rotate_left 1
        · (intro u hSw; go_simp; try with_reducible rfl)
        try simp only [Act.put, sA, sB, sC]
        refine tk (i := 8) (oi := ⟨some 85, .nilCheck (.tmp 84), 0, "page.go:57", #[⟨7, .data⟩, ⟨6, .guard⟩], some (6, false)⟩) (v := ?_) (Or.inl ⟨by rfl, ?_⟩) ?_
        rotate_left 1
        · (intro u hSw; go_simp; try with_reducible rfl)
        try simp only [Act.put, sA, sB, sC]
        refine tk (i := 9) (oi := ⟨some 86, .fieldAddr 82 (.tmp 85) 6, 0, "page.go:57", #[⟨8, .data⟩, ⟨6, .guard⟩], some (6, false)⟩) (v := ?_) (Or.inl ⟨by rfl, ?_⟩) ?_
        rotate_left 1
        · (intro u hSw; go_simp; try with_reducible rfl)
        try simp only [Act.put, sA, sB, sC]
        refine tk (i := 10) (oi := ⟨some 87, .fieldAddr 68 (.tmp 86) 0, 0, "page.go:57", #[⟨9, .data⟩, ⟨6, .guard⟩], some (6, false)⟩) (v := ?_) (Or.inl ⟨by rfl, ?_⟩) ?_
        rotate_left 1
        · (intro u hSw; go_simp; try with_reducible rfl)
        try simp only [Act.put, sA, sB, sC]
        refine tk (i := 11) (oi := ⟨some 88, .load 60 (.tmp 87), 60, "page.go:57", #[⟨10, .data⟩, ⟨6, .guard⟩], some (6, false)⟩) (v := ?_) (Or.inl ⟨by rfl, ?_⟩) ?_
        rotate_left 1
        · (intro u hSw; have p26 := HP26.out u hSw.1; go_simp; try with_reducible rfl)
        try simp only [Act.put, sA, sB, sC]
        refine tk (i := 12) (oi := ⟨some 89, .load 63 (.tmp 8), 63, "page.go:57", #[⟨6, .guard⟩], some (6, false)⟩) (v := ?_) (Or.inl ⟨by rfl, ?_⟩) ?_
        rotate_left 1
        · intro u hSw
          refine exec_load_row 63 (Operand.tmp 8) ?_ u w1.heap.size ?_ #[.pointer (some ⟨D, 0, none⟩), .int .i64 sz] 63 (0, 0) _ hSw.2.1 Tryz.underlying63 rfl (by rw [HIL.out]; rfl) <;> rfl
        try simp only [Act.put, sA, sB, sC]
        refine wpAnyH_ready (rs := [13]) (by kernel_rfl) (by simp) ?_
        refine (AllReadyH.cons (o := ⟨some 90, .call ⟨.value (.func 37), #[.tmp 89], #[63]⟩, 3, "page.go:57", #[⟨12, .data⟩, ⟨6, .chain⟩, ⟨6, .guard⟩], some (6, false)⟩) rfl (fun K hK => ?_) AllReadyH.nil)
        go_simp
        refine (HPG.out _ HS7.out.2.2).mono ?_
        rintro e w8 ⟨rfl, hb8⟩
        have HS8 := hid (show w8.heap[P]? = w7.heap[P]? ∧ w8.heap[w1.heap.size]? = some (.cells #[.pointer (some ⟨D, 0, none⟩), .int .i64 sz] 63 (0, 0)) ∧ Below w7.heap.size w7 w8 from ⟨hb8.block P (Array.getElem?_eq_some_iff.1 HB7.out).1, (hb8.block _ (Array.getElem?_eq_some_iff.1 HX7.out).1).trans HX7.out, HS7.out.2.2.trans hb8⟩)
        clear hb8
        go_wp2_with fail
        refine hK.out _ _ HS8.out (fun hHeld => ?_)
        clear hK K
        try simp only [Act.put, sA, sB, sC]
        refine tk (i := 14) (oi := ⟨some 91, .convert 3 60 (.tmp 90), 60, "page.go:57", #[⟨13, .data⟩, ⟨6, .guard⟩], some (6, false)⟩) (v := ?_) (Or.inl ⟨by rfl, ?_⟩) ?_
        rotate_left 1
        · (intro u hSw; have p26 := HP26.out u hSw.1; go_simp; try with_reducible rfl)
        try simp only [Act.put, sA, sB, sC]
        refine tk (i := 15) (oi := ⟨some 92, .binOp BinOp.gtr 60 (.tmp 88) (.tmp 91) 60, 4, "page.go:57", #[⟨11, .data⟩, ⟨14, .data⟩, ⟨6, .guard⟩], some (6, false)⟩) (v := .bool false) (Or.inl ⟨by rfl, ?_⟩) ?_
        · intro u hSw
          go_simp
        try simp only [Act.put, sA, sB, sC]
        refine tk (i := 16) (oi := ⟨some 93, .pick (.tmp 83) (.const (Value.bool true)) (.tmp 92), 4, "page.go:57", #[⟨6, .data⟩, ⟨15, .data⟩], none⟩) (v := ?_) (Or.inl ⟨by rfl, ?_⟩) ?_
        rotate_left 1
        · (intro u hSw; go_simp; try with_reducible rfl)
        try simp only [Act.put, sA, sB, sC]
        refine wpAnyH_done (by kernel_rfl) ?_ _
        have hbb : Below w7.heap.size w7 w8 := HS8.out.2.2
        have hp8 := HP7.out.1.fresh hbb
        have hth : w8.there P 8 (HV ns).toArray.size := fun j hj => by
          rw [List.size_toArray, HV_len, HNS.out] at hj
          rw [cell_of_row _ _ _ _ _ _ hp8.box, PC_h0 j rfl hj, HV_at _ _ hj]
          exact ⟨rfl, frozen_of_row _ _ _ _ _ hp8.box⟩
        have HTH8 := hid hth
        have HRG8 := hid (box_rg rfl HNS.out hp8.box).2
        have hb9 := heap_setCells P 82 (HV ns) 8 _ _ hp8.box
        rw [PC_seth0 rfl ns HNS.out] at hb9
        have hp9 := hp8.rebox (h0' := ns) (h1' := ns) (en' := c) (Lm' := Lm) (lg' := lg0) (Hm' := Hm) (ch' := []) (Chg.setCells P (HV ns) 8 _ (Chg.refl (fun g => g = P) w8) rfl) hb9 HNS.out HNS.out (.inl ⟨rfl, rfl⟩) (.inl ⟨rfl, rfl⟩) hp8.mh
        have hw9 : Chg (Foot D M lv) w (w8.setCells P 8 (HV ns)) := by
          have h1 : Chg (Foot D M lv) w w6 := HCW.out.trans (Chg.fresh (F := fun _ => False) HBB.out) (fun _ h => h.elim)
          have h0 : w.heap.size ≤ P := by have := HB1.out.size; have := HB2.out.size; have := HP2.out; omega
          have h2 : Chg (Foot D M lv) w w7 := h1.trans (HW7.out ▸ Chg.setCells P (HV ns) 26 _ (Chg.refl (fun g => g = P) w6) rfl) (fun g hg => .inr (by rw [hg]; exact h0))
          have h3 : Chg (Foot D M lv) w w8 := h2.trans (Chg.fresh (F := fun _ => False) hbb) (fun _ h => h.elim)
          exact h3.trans (Chg.setCells P (HV ns) 8 _ (Chg.refl (fun g => g = P) w8) rfl) (fun g hg => .inr (by rw [hg]; exact h0))
        have HE := hid (HOE.out _ hp9.1 hw9)
        clear hbb hp8 hth hb9 hp9 hw9
        go_wp2_with (first | (refine wpList_load_mid rfl 68 (Operand.tmp 97) rfl P 26 rfl (HV ns) _ HRG8.out Tryz.underlying68 rfl HIH.out ?_) | (refine wpList_store_mid rfl 68 (Operand.tmp 100) (Operand.tmp 98) rfl P 8 (HV ns).toArray rfl rfl HTH8.out HIH2.out H1C.out ?_))
        go_ret2
        exact HE.out
  refine wp_region_held_drew (S := fun u => u.heap[w1.heap.size]? = some (.cells #[.pointer (some ⟨D, 0, none⟩), .int .i64 sz] 63 (0, 0))) (by kernel_rfl) (HX2.out) (fun hHeld => ?_)
  refine tk (i := 0) (oi := ⟨some 37, .move (.tmp 10), 71, "page.go:44", #[], none⟩) (v := ?_) (Or.inl ⟨by rfl, ?_⟩) ?_
  rotate_left 1
  · (intro u hSw; go_simp; try with_reducible rfl)
  try simp only [Act.put, sA, sB, sC]
  refine tk (i := 1) (oi := ⟨some 38, .load 63 (.tmp 8), 63, "page.go:44", #[], none⟩) (v := ?_) (Or.inl ⟨by rfl, ?_⟩) ?_
  rotate_left 1
  · intro u hSw
    refine exec_load_row 63 (Operand.tmp 8) ?_ u w1.heap.size ?_ #[.pointer (some ⟨D, 0, none⟩), .int .i64 sz] 63 (0, 0) _ hSw Tryz.underlying63 rfl (by rw [HIL.out]; rfl) <;> rfl
  try simp only [Act.put, sA, sB, sC]
  refine tk (i := 3) (oi := ⟨some 40, .move (.tmp 2), 3, "page.go:44", #[], none⟩) (v := ?_) (Or.inl ⟨by rfl, ?_⟩) ?_
  rotate_left 1
  · (intro u hSw; go_simp; try with_reducible rfl)
  try simp only [Act.put, sA, sB, sC]
  refine wpAnyH_ready (rs := [2, 4, 5]) (by kernel_rfl) (by simp) ?_
  refine (AllReadyH.cons (o := ⟨some 39, .makeMap 75 none, 75, "page.go:44", #[], none⟩) rfl (fun K hK => ?_) (AllReadyH.cons (o := ⟨some 41, .call ⟨.value (.func 35), #[.tmp 40], #[3]⟩, 79, "page.go:44", #[⟨3, .data⟩], none⟩) rfl (fun K hK => ?_) (AllReadyH.cons (o := ⟨some 42, .makeMap 76 none, 76, "page.go:44", #[], none⟩) rfl (fun K hK => ?_) AllReadyH.nil)))
  · refine step_of_val rfl (exec_mk rfl run_mkmap_int) ?_
    have hh := HCU.out.mkL (below_map _) _ (Nat.le_refl _) (new_map _)
    try simp only [World.size_alloc] at hh
    replace HCU := hid hh
    clear hh
    refine hK.out _ _ ((heap_alloc_old _ _ (Array.getElem?_eq_some_iff.1 hHeld).1).trans hHeld) (fun hHeld => ?_)
    clear hK K
    try simp only [Act.put, sA, sB, sC]
    refine wpAnyH_ready (rs := [4, 5]) (by kernel_rfl) (by simp) ?_
    refine (AllReadyH.cons (o := ⟨some 41, .call ⟨.value (.func 35), #[.tmp 40], #[3]⟩, 79, "page.go:44", #[⟨3, .data⟩], none⟩) rfl (fun K hK => ?_) (AllReadyH.cons (o := ⟨some 42, .makeMap 76 none, 76, "page.go:44", #[], none⟩) rfl (fun K hK => ?_) AllReadyH.nil))
    · go_simp
      refine (newCache_any hold _).mono ?_
      rintro e u4 ⟨C, rfl, hC1, hC2, hC3, hC4⟩
      replace HCU := hid (HCU.out.mkC hC4 C hC1 hC3)
      have HS4 := hid ((hC4.block _ (Array.getElem?_eq_some_iff.1 hHeld).1).trans hHeld)
      clear hC1 hC2 hC3 hC4
      go_wp2_with fail
      refine hK.out _ _ HS4.out (fun hHeld => ?_)
      clear hK K
      try simp only [Act.put, sA, sB, sC]
      refine wpAnyH_ready (rs := [5]) (by kernel_rfl) (by simp) ?_
      refine (AllReadyH.cons (o := ⟨some 42, .makeMap 76 none, 76, "page.go:44", #[], none⟩) rfl (fun K hK => ?_) AllReadyH.nil)
      refine step_of_val rfl (exec_mk rfl run_mkmap_blk) ?_
      have hh := HCU.out.mkH (below_map _) _ (Nat.le_refl _) (new_map _)
      try simp only [World.size_alloc] at hh
      replace HCU := hid hh
      clear hh
      refine hK.out _ _ ((heap_alloc_old _ _ (Array.getElem?_eq_some_iff.1 hHeld).1).trans hHeld) (fun hHeld => ?_)
      clear hK K
      try simp only [Act.put, sA, sB, sC]
      refine tk (i := 6) (oi := ⟨some 43, .build 82 #[(0, .tmp 37), (1, .tmp 38), (2, .tmp 39), (4, .tmp 41), (7, .tmp 42)], 82, "page.go:44", #[⟨0, .data⟩, ⟨1, .data⟩, ⟨2, .data⟩, ⟨4, .data⟩, ⟨5, .data⟩], none⟩) (v := ?_) (Or.inl ⟨by rfl, ?_⟩) ?_
      rotate_left 1
      · (intro u hSw; go_simp; try with_reducible rfl)
      try simp only [Act.put, sA, sB, sC]
      refine wpAnyH_ready (rs := [7]) (by kernel_rfl) (by simp) ?_
      refine (AllReadyH.cons (o := ⟨some 44, .box 82 (.tmp 43), 30, "page.go:44", #[⟨6, .data⟩], none⟩) rfl (fun K hK => ?_) AllReadyH.nil)
      go_simp
      refine hK.out _ _ ((heap_alloc_old _ _ (Array.getElem?_eq_some_iff.1 hHeld).1).trans hHeld) (fun hHeld => ?_)
      clear hK K
      try simp only [Act.put, sA, sB, sC]
      refine tk (i := 8) (oi := ⟨some 12, .assign (.tmp 44), 30, "page.go:44", #[⟨7, .data⟩, ⟨4, .chain⟩, ⟨0, .phase⟩, ⟨1, .phase⟩, ⟨2, .phase⟩, ⟨3, .phase⟩, ⟨4, .phase⟩, ⟨5, .phase⟩, ⟨6, .phase⟩, ⟨7, .phase⟩], none⟩) (v := ?_) (Or.inl ⟨by rfl, ?_⟩) ?_
      rotate_left 1
      · (intro u hSw; go_simp; try with_reducible rfl)
      try simp only [Act.put, sA, sB, sC]
      refine wpAnyH_done (by kernel_rfl) ?_ _
      refine hK' _ _ ⟨_, _, _, _, rfl, HCU.out.grow ((Below.refl _ _).alloc (Nat.le_refl _) _), new_at2 _ _ _ (by simp), by have h := HCU.out.lo.size; simpa using h⟩
    · refine step_of_val rfl (exec_mk rfl run_mkmap_blk) ?_
      have hh := HCU.out.mkH (below_map _) _ (Nat.le_refl _) (new_map _)
      try simp only [World.size_alloc] at hh
      replace HCU := hid hh
      clear hh
      refine hK.out _ _ ((heap_alloc_old _ _ (Array.getElem?_eq_some_iff.1 hHeld).1).trans hHeld) (fun hHeld => ?_)
      clear hK K
      try simp only [Act.put, sA, sB, sC]
      refine wpAnyH_ready (rs := [4]) (by kernel_rfl) (by simp) ?_
      refine (AllReadyH.cons (o := ⟨some 41, .call ⟨.value (.func 35), #[.tmp 40], #[3]⟩, 79, "page.go:44", #[⟨3, .data⟩], none⟩) rfl (fun K hK => ?_) AllReadyH.nil)
      go_simp
      refine (newCache_any hold _).mono ?_
      rintro e u4 ⟨C, rfl, hC1, hC2, hC3, hC4⟩
      replace HCU := hid (HCU.out.mkC hC4 C hC1 hC3)
      have HS4 := hid ((hC4.block _ (Array.getElem?_eq_some_iff.1 hHeld).1).trans hHeld)
      clear hC1 hC2 hC3 hC4
      go_wp2_with fail
      refine hK.out _ _ HS4.out (fun hHeld => ?_)
      clear hK K
      try simp only [Act.put, sA, sB, sC]
      refine tk (i := 6) (oi := ⟨some 43, .build 82 #[(0, .tmp 37), (1, .tmp 38), (2, .tmp 39), (4, .tmp 41), (7, .tmp 42)], 82, "page.go:44", #[⟨0, .data⟩, ⟨1, .data⟩, ⟨2, .data⟩, ⟨4, .data⟩, ⟨5, .data⟩], none⟩) (v := ?_) (Or.inl ⟨by rfl, ?_⟩) ?_
      rotate_left 1
      · (intro u hSw; go_simp; try with_reducible rfl)
      try simp only [Act.put, sA, sB, sC]
      refine wpAnyH_ready (rs := [7]) (by kernel_rfl) (by simp) ?_
      refine (AllReadyH.cons (o := ⟨some 44, .box 82 (.tmp 43), 30, "page.go:44", #[⟨6, .data⟩], none⟩) rfl (fun K hK => ?_) AllReadyH.nil)
      go_simp
      refine hK.out _ _ ((heap_alloc_old _ _ (Array.getElem?_eq_some_iff.1 hHeld).1).trans hHeld) (fun hHeld => ?_)
      clear hK K
      try simp only [Act.put, sA, sB, sC]
      refine tk (i := 8) (oi := ⟨some 12, .assign (.tmp 44), 30, "page.go:44", #[⟨7, .data⟩, ⟨4, .chain⟩, ⟨0, .phase⟩, ⟨1, .phase⟩, ⟨2, .phase⟩, ⟨3, .phase⟩, ⟨4, .phase⟩, ⟨5, .phase⟩, ⟨6, .phase⟩, ⟨7, .phase⟩], none⟩) (v := ?_) (Or.inl ⟨by rfl, ?_⟩) ?_
      rotate_left 1
      · (intro u hSw; go_simp; try with_reducible rfl)
      try simp only [Act.put, sA, sB, sC]
      refine wpAnyH_done (by kernel_rfl) ?_ _
      refine hK' _ _ ⟨_, _, _, _, rfl, HCU.out.grow ((Below.refl _ _).alloc (Nat.le_refl _) _), new_at2 _ _ _ (by simp), by have h := HCU.out.lo.size; simpa using h⟩
  · go_simp
    refine (newCache_any hold _).mono ?_
    rintro e u4 ⟨C, rfl, hC1, hC2, hC3, hC4⟩
    replace HCU := hid (HCU.out.mkC hC4 C hC1 hC3)
    have HS4 := hid ((hC4.block _ (Array.getElem?_eq_some_iff.1 hHeld).1).trans hHeld)
    clear hC1 hC2 hC3 hC4
    go_wp2_with fail
    refine hK.out _ _ HS4.out (fun hHeld => ?_)
    clear hK K
    try simp only [Act.put, sA, sB, sC]
    refine wpAnyH_ready (rs := [2, 5]) (by kernel_rfl) (by simp) ?_
    refine (AllReadyH.cons (o := ⟨some 39, .makeMap 75 none, 75, "page.go:44", #[], none⟩) rfl (fun K hK => ?_) (AllReadyH.cons (o := ⟨some 42, .makeMap 76 none, 76, "page.go:44", #[], none⟩) rfl (fun K hK => ?_) AllReadyH.nil))
    · refine step_of_val rfl (exec_mk rfl run_mkmap_int) ?_
      have hh := HCU.out.mkL (below_map _) _ (Nat.le_refl _) (new_map _)
      try simp only [World.size_alloc] at hh
      replace HCU := hid hh
      clear hh
      refine hK.out _ _ ((heap_alloc_old _ _ (Array.getElem?_eq_some_iff.1 hHeld).1).trans hHeld) (fun hHeld => ?_)
      clear hK K
      try simp only [Act.put, sA, sB, sC]
      refine wpAnyH_ready (rs := [5]) (by kernel_rfl) (by simp) ?_
      refine (AllReadyH.cons (o := ⟨some 42, .makeMap 76 none, 76, "page.go:44", #[], none⟩) rfl (fun K hK => ?_) AllReadyH.nil)
      refine step_of_val rfl (exec_mk rfl run_mkmap_blk) ?_
      have hh := HCU.out.mkH (below_map _) _ (Nat.le_refl _) (new_map _)
      try simp only [World.size_alloc] at hh
      replace HCU := hid hh
      clear hh
      refine hK.out _ _ ((heap_alloc_old _ _ (Array.getElem?_eq_some_iff.1 hHeld).1).trans hHeld) (fun hHeld => ?_)
      clear hK K
      try simp only [Act.put, sA, sB, sC]
      refine tk (i := 6) (oi := ⟨some 43, .build 82 #[(0, .tmp 37), (1, .tmp 38), (2, .tmp 39), (4, .tmp 41), (7, .tmp 42)], 82, "page.go:44", #[⟨0, .data⟩, ⟨1, .data⟩, ⟨2, .data⟩, ⟨4, .data⟩, ⟨5, .data⟩], none⟩) (v := ?_) (Or.inl ⟨by rfl, ?_⟩) ?_
      rotate_left 1
      · (intro u hSw; go_simp; try with_reducible rfl)
      try simp only [Act.put, sA, sB, sC]
      refine wpAnyH_ready (rs := [7]) (by kernel_rfl) (by simp) ?_
      refine (AllReadyH.cons (o := ⟨some 44, .box 82 (.tmp 43), 30, "page.go:44", #[⟨6, .data⟩], none⟩) rfl (fun K hK => ?_) AllReadyH.nil)
      go_simp
      refine hK.out _ _ ((heap_alloc_old _ _ (Array.getElem?_eq_some_iff.1 hHeld).1).trans hHeld) (fun hHeld => ?_)
      clear hK K
      try simp only [Act.put, sA, sB, sC]
      refine tk (i := 8) (oi := ⟨some 12, .assign (.tmp 44), 30, "page.go:44", #[⟨7, .data⟩, ⟨4, .chain⟩, ⟨0, .phase⟩, ⟨1, .phase⟩, ⟨2, .phase⟩, ⟨3, .phase⟩, ⟨4, .phase⟩, ⟨5, .phase⟩, ⟨6, .phase⟩, ⟨7, .phase⟩], none⟩) (v := ?_) (Or.inl ⟨by rfl, ?_⟩) ?_
      rotate_left 1
      · (intro u hSw; go_simp; try with_reducible rfl)
      try simp only [Act.put, sA, sB, sC]
      refine wpAnyH_done (by kernel_rfl) ?_ _
      refine hK' _ _ ⟨_, _, _, _, rfl, HCU.out.grow ((Below.refl _ _).alloc (Nat.le_refl _) _), new_at2 _ _ _ (by simp), by have h := HCU.out.lo.size; simpa using h⟩
    · refine step_of_val rfl (exec_mk rfl run_mkmap_blk) ?_
      have hh := HCU.out.mkH (below_map _) _ (Nat.le_refl _) (new_map _)
      try simp only [World.size_alloc] at hh
      replace HCU := hid hh
      clear hh
      refine hK.out _ _ ((heap_alloc_old _ _ (Array.getElem?_eq_some_iff.1 hHeld).1).trans hHeld) (fun hHeld => ?_)
      clear hK K
      try simp only [Act.put, sA, sB, sC]
      refine wpAnyH_ready (rs := [2]) (by kernel_rfl) (by simp) ?_
      refine (AllReadyH.cons (o := ⟨some 39, .makeMap 75 none, 75, "page.go:44", #[], none⟩) rfl (fun K hK => ?_) AllReadyH.nil)
      refine step_of_val rfl (exec_mk rfl run_mkmap_int) ?_
      have hh := HCU.out.mkL (below_map _) _ (Nat.le_refl _) (new_map _)
      try simp only [World.size_alloc] at hh
      replace HCU := hid hh
      clear hh
      refine hK.out _ _ ((heap_alloc_old _ _ (Array.getElem?_eq_some_iff.1 hHeld).1).trans hHeld) (fun hHeld => ?_)
      clear hK K
      try simp only [Act.put, sA, sB, sC]
      refine tk (i := 6) (oi := ⟨some 43, .build 82 #[(0, .tmp 37), (1, .tmp 38), (2, .tmp 39), (4, .tmp 41), (7, .tmp 42)], 82, "page.go:44", #[⟨0, .data⟩, ⟨1, .data⟩, ⟨2, .data⟩, ⟨4, .data⟩, ⟨5, .data⟩], none⟩) (v := ?_) (Or.inl ⟨by rfl, ?_⟩) ?_
      rotate_left 1
      · (intro u hSw; go_simp; try with_reducible rfl)
      try simp only [Act.put, sA, sB, sC]
      refine wpAnyH_ready (rs := [7]) (by kernel_rfl) (by simp) ?_
      refine (AllReadyH.cons (o := ⟨some 44, .box 82 (.tmp 43), 30, "page.go:44", #[⟨6, .data⟩], none⟩) rfl (fun K hK => ?_) AllReadyH.nil)
      go_simp
      refine hK.out _ _ ((heap_alloc_old _ _ (Array.getElem?_eq_some_iff.1 hHeld).1).trans hHeld) (fun hHeld => ?_)
      clear hK K
      try simp only [Act.put, sA, sB, sC]
      refine tk (i := 8) (oi := ⟨some 12, .assign (.tmp 44), 30, "page.go:44", #[⟨7, .data⟩, ⟨4, .chain⟩, ⟨0, .phase⟩, ⟨1, .phase⟩, ⟨2, .phase⟩, ⟨3, .phase⟩, ⟨4, .phase⟩, ⟨5, .phase⟩, ⟨6, .phase⟩, ⟨7, .phase⟩], none⟩) (v := ?_) (Or.inl ⟨by rfl, ?_⟩) ?_
      rotate_left 1
      · (intro u hSw; go_simp; try with_reducible rfl)
      try simp only [Act.put, sA, sB, sC]
      refine wpAnyH_done (by kernel_rfl) ?_ _
      refine hK' _ _ ⟨_, _, _, _, rfl, HCU.out.grow ((Below.refl _ _).alloc (Nat.le_refl _) _), new_at2 _ _ _ (by simp), by have h := HCU.out.lo.size; simpa using h⟩
  · refine step_of_val rfl (exec_mk rfl run_mkmap_blk) ?_
    have hh := HCU.out.mkH (below_map _) _ (Nat.le_refl _) (new_map _)
    try simp only [World.size_alloc] at hh
    replace HCU := hid hh
    clear hh
    refine hK.out _ _ ((heap_alloc_old _ _ (Array.getElem?_eq_some_iff.1 hHeld).1).trans hHeld) (fun hHeld => ?_)
    clear hK K
    try simp only [Act.put, sA, sB, sC]
    refine wpAnyH_ready (rs := [2, 4]) (by kernel_rfl) (by simp) ?_
    refine (AllReadyH.cons (o := ⟨some 39, .makeMap 75 none, 75, "page.go:44", #[], none⟩) rfl (fun K hK => ?_) (AllReadyH.cons (o := ⟨some 41, .call ⟨.value (.func 35), #[.tmp 40], #[3]⟩, 79, "page.go:44", #[⟨3, .data⟩], none⟩) rfl (fun K hK => ?_) AllReadyH.nil))
    · refine step_of_val rfl (exec_mk rfl run_mkmap_int) ?_
      have hh := HCU.out.mkL (below_map _) _ (Nat.le_refl _) (new_map _)
      try simp only [World.size_alloc] at hh
      replace HCU := hid hh
      clear hh
      refine hK.out _ _ ((heap_alloc_old _ _ (Array.getElem?_eq_some_iff.1 hHeld).1).trans hHeld) (fun hHeld => ?_)
      clear hK K
      try simp only [Act.put, sA, sB, sC]
      refine wpAnyH_ready (rs := [4]) (by kernel_rfl) (by simp) ?_
      refine (AllReadyH.cons (o := ⟨some 41, .call ⟨.value (.func 35), #[.tmp 40], #[3]⟩, 79, "page.go:44", #[⟨3, .data⟩], none⟩) rfl (fun K hK => ?_) AllReadyH.nil)
      go_simp
      refine (newCache_any hold _).mono ?_
      rintro e u4 ⟨C, rfl, hC1, hC2, hC3, hC4⟩
      replace HCU := hid (HCU.out.mkC hC4 C hC1 hC3)
      have HS4 := hid ((hC4.block _ (Array.getElem?_eq_some_iff.1 hHeld).1).trans hHeld)
      clear hC1 hC2 hC3 hC4
      go_wp2_with fail
      refine hK.out _ _ HS4.out (fun hHeld => ?_)
      clear hK K
      try simp only [Act.put, sA, sB, sC]
      refine tk (i := 6) (oi := ⟨some 43, .build 82 #[(0, .tmp 37), (1, .tmp 38), (2, .tmp 39), (4, .tmp 41), (7, .tmp 42)], 82, "page.go:44", #[⟨0, .data⟩, ⟨1, .data⟩, ⟨2, .data⟩, ⟨4, .data⟩, ⟨5, .data⟩], none⟩) (v := ?_) (Or.inl ⟨by rfl, ?_⟩) ?_
      rotate_left 1
      · (intro u hSw; go_simp; try with_reducible rfl)
      try simp only [Act.put, sA, sB, sC]
      refine wpAnyH_ready (rs := [7]) (by kernel_rfl) (by simp) ?_
      refine (AllReadyH.cons (o := ⟨some 44, .box 82 (.tmp 43), 30, "page.go:44", #[⟨6, .data⟩], none⟩) rfl (fun K hK => ?_) AllReadyH.nil)
      go_simp
      refine hK.out _ _ ((heap_alloc_old _ _ (Array.getElem?_eq_some_iff.1 hHeld).1).trans hHeld) (fun hHeld => ?_)
      clear hK K
      try simp only [Act.put, sA, sB, sC]
      refine tk (i := 8) (oi := ⟨some 12, .assign (.tmp 44), 30, "page.go:44", #[⟨7, .data⟩, ⟨4, .chain⟩, ⟨0, .phase⟩, ⟨1, .phase⟩, ⟨2, .phase⟩, ⟨3, .phase⟩, ⟨4, .phase⟩, ⟨5, .phase⟩, ⟨6, .phase⟩, ⟨7, .phase⟩], none⟩) (v := ?_) (Or.inl ⟨by rfl, ?_⟩) ?_
      rotate_left 1
      · (intro u hSw; go_simp; try with_reducible rfl)
      try simp only [Act.put, sA, sB, sC]
      refine wpAnyH_done (by kernel_rfl) ?_ _
      refine hK' _ _ ⟨_, _, _, _, rfl, HCU.out.grow ((Below.refl _ _).alloc (Nat.le_refl _) _), new_at2 _ _ _ (by simp), by have h := HCU.out.lo.size; simpa using h⟩
    · go_simp
      refine (newCache_any hold _).mono ?_
      rintro e u4 ⟨C, rfl, hC1, hC2, hC3, hC4⟩
      replace HCU := hid (HCU.out.mkC hC4 C hC1 hC3)
      have HS4 := hid ((hC4.block _ (Array.getElem?_eq_some_iff.1 hHeld).1).trans hHeld)
      clear hC1 hC2 hC3 hC4
      go_wp2_with fail
      refine hK.out _ _ HS4.out (fun hHeld => ?_)
      clear hK K
      try simp only [Act.put, sA, sB, sC]
      refine wpAnyH_ready (rs := [2]) (by kernel_rfl) (by simp) ?_
      refine (AllReadyH.cons (o := ⟨some 39, .makeMap 75 none, 75, "page.go:44", #[], none⟩) rfl (fun K hK => ?_) AllReadyH.nil)
      refine step_of_val rfl (exec_mk rfl run_mkmap_int) ?_
      have hh := HCU.out.mkL (below_map _) _ (Nat.le_refl _) (new_map _)
      try simp only [World.size_alloc] at hh
      replace HCU := hid hh
      clear hh
      refine hK.out _ _ ((heap_alloc_old _ _ (Array.getElem?_eq_some_iff.1 hHeld).1).trans hHeld) (fun hHeld => ?_)
      clear hK K
      try simp only [Act.put, sA, sB, sC]
      refine tk (i := 6) (oi := ⟨some 43, .build 82 #[(0, .tmp 37), (1, .tmp 38), (2, .tmp 39), (4, .tmp 41), (7, .tmp 42)], 82, "page.go:44", #[⟨0, .data⟩, ⟨1, .data⟩, ⟨2, .data⟩, ⟨4, .data⟩, ⟨5, .data⟩], none⟩) (v := ?_) (Or.inl ⟨by rfl, ?_⟩) ?_
      rotate_left 1
      · (intro u hSw; go_simp; try with_reducible rfl)
      try simp only [Act.put, sA, sB, sC]
      refine wpAnyH_ready (rs := [7]) (by kernel_rfl) (by simp) ?_
      refine (AllReadyH.cons (o := ⟨some 44, .box 82 (.tmp 43), 30, "page.go:44", #[⟨6, .data⟩], none⟩) rfl (fun K hK => ?_) AllReadyH.nil)
      go_simp
      refine hK.out _ _ ((heap_alloc_old _ _ (Array.getElem?_eq_some_iff.1 hHeld).1).trans hHeld) (fun hHeld => ?_)
      clear hK K
      try simp only [Act.put, sA, sB, sC]
      refine tk (i := 8) (oi := ⟨some 12, .assign (.tmp 44), 30, "page.go:44", #[⟨7, .data⟩, ⟨4, .chain⟩, ⟨0, .phase⟩, ⟨1, .phase⟩, ⟨2, .phase⟩, ⟨3, .phase⟩, ⟨4, .phase⟩, ⟨5, .phase⟩, ⟨6, .phase⟩, ⟨7, .phase⟩], none⟩) (v := ?_) (Or.inl ⟨by rfl, ?_⟩) ?_
      rotate_left 1
      · (intro u hSw; go_simp; try with_reducible rfl)
      try simp only [Act.put, sA, sB, sC]
      refine wpAnyH_done (by kernel_rfl) ?_ _
      refine hK' _ _ ⟨_, _, _, _, rfl, HCU.out.grow ((Below.refl _ _).alloc (Nat.le_refl _) _), new_at2 _ _ _ (by simp), by have h := HCU.out.lo.size; simpa using h⟩
end Go.Proofs.YtdkjkibdncbibaaGreat
