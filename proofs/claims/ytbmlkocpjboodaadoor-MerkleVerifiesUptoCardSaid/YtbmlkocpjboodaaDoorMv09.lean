/- stage 7: visit -/
import Derived.Test.YtbmlkocpjboodaaDoorMv08
namespace Go.Proofs.YtbmlkocpjboodaaDoor
open Go.RowKit
open Go.Lib (hid)
/-- a bound's node -/
def BK (w : World) (S : Nat → Prop) (v : Value) : Option (List Int) → Prop
 | none => v = .pointer none
 | some k => ∃ b kv, v = .pointer (some ⟨b, 0, none⟩) ∧ S b ∧ b < w.heap.size ∧ w.cell? ⟨b, 0, none⟩ = some kv ∧ KIs w S kv k ∧ Rng k
theorem BK.form {w : World} {S : Nat → Prop} {v : Value} {o : Option (List Int)} (h : BK w S v o) : ∃ a, v = .pointer a := by
 cases o with
 | none => exact ⟨_, h⟩
 | some k => obtain ⟨b, kv, h, -⟩ := h; exact ⟨_, h⟩
theorem BK.chg {w w' : World} {S F : Nat → Prop} {v : Value} {o : Option (List Int)} (h : BK w S v o) (hc : Chg F w w') (hn : ∀ b, S b → ¬ F b) : BK w' S v o := by
 cases o with
 | none => exact h
 | some k =>
  obtain ⟨b, kv, e, hs, hl, hx, hk, hr⟩ := h
  exact ⟨b, kv, e, hs, Nat.lt_of_lt_of_le hl hc.size, (World.cell?_of_block (a := ⟨b, 0, none⟩) (hc.block b hl (hn b hs))).trans hx, hk.cg hc (fun b _ hs => hn b hs), hr⟩
/-- what visit makes of a state, where en is what enter does, me what meet does -/
def visitM {σ : Type} (en : σ → MT → Option (List Int) → Option (List Int) → σ × Bool) (me : σ → List Int → Nat → σ) : MT → Option (List Int) → Option (List Int) → σ → σ
 | .nil, lo, hi, s => (en s .nil lo hi).1
 | .cut d, lo, hi, s => (en s (.cut d) lo hi).1
 | .nd k n rk d l r, lo, hi, s => if (en s (.nd k n rk d l r) lo hi).2 = true then visitM en me r (some k) hi (me (visitM en me l lo (some k) (en s (.nd k n rk d l r) lo hi).1) k n) else (en s (.nd k n rk d l r) lo hi).1
/-- a state's step: J are its blocks -/
def Stp {σ : Type} (I : World → σ → (Nat → Prop) → Prop) (J : Nat → Prop) (w w' : World) (s' : σ) : Prop := ∃ J', I w' s' J' ∧ Chg J w w' ∧ ∀ b, J' b → J b ∨ w.heap.size ≤ b
theorem Stp.after {σ : Type} {I : World → σ → (Nat → Prop) → Prop} {J : Nat → Prop} {w w1 w' : World} {s' : σ} (h : Stp I J w1 w' s') (hb : Below w.heap.size w w1) : Stp I J w w' s' := by
 obtain ⟨J', h1, h2, h3⟩ := h
 exact ⟨J', h1, (Chg.fresh hb).trans h2 (fun i hi => .inl hi), fun b hb' => (h3 b hb').imp id (fun h => Nat.le_trans hb.size h)⟩
theorem Stp.blk {σ : Type} {I : World → σ → (Nat → Prop) → Prop} {J : Nat → Prop} {w w' : World} {s' : σ} {b : Nat} {o : Obj} (h : Stp I J w w' s') (hb : w.heap[b]? = some o) (hn : ¬ J b) : w'.heap[b]? = some o := by
 obtain ⟨J', h1, h2, h3⟩ := h
 exact (h2.block b (blk_lt hb) hn).trans hb
theorem Stp.chg {σ : Type} {I : World → σ → (Nat → Prop) → Prop} {J : Nat → Prop} {w w' : World} {s' : σ} (h : Stp I J w w' s') : Chg J w w' := by
 obtain ⟨J', h1, h2, h3⟩ := h
 exact h2
theorem Stp.mis {σ : Type} {I : World → σ → (Nat → Prop) → Prop} {J S : Nat → Prop} {w w' : World} {s' : σ} {p : Value} {t : MT} (h : Stp I J w w' s') (hp : MIs w S p t) (hn : ∀ q, S q → ¬ J q) : MIs w' S p t := hp.chg h.chg.size (fun b hb hs => h.chg.block b hb (hn b hs))
theorem Stp.join {σ : Type} {I : World → σ → (Nat → Prop) → Prop} {J J1 : Nat → Prop} {w u v : World} {s' : σ} (h2 : Chg J w u) (h3 : ∀ b, J1 b → J b ∨ w.heap.size ≤ b) (k : Stp I J1 u v s') : Stp I J w v s' := by
 obtain ⟨J2, k1, k2, k3⟩ := k
 exact ⟨J2, k1, h2.trans k2 (fun i hi => h3 i hi), fun b hb => (k3 b hb).elim (fun hj => h3 b hj) (fun hj => .inr (Nat.le_trans h2.size hj))⟩
theorem Stp.below {σ : Type} {I : World → σ → (Nat → Prop) → Prop} {J : Nat → Prop} {w u v : World} {s : σ} (kp : ∀ w w' s J, I w s J → Below w.heap.size w w' → I w' s J) (h : Stp I J w u s) (hb : Below u.heap.size u v) : Stp I J w v s := by
 obtain ⟨J1, h1, h2, h3⟩ := h
 exact ⟨J1, kp _ _ _ _ h1 hb, h2.trans (Chg.fresh (F := fun _ => False) hb) (fun _ hi => hi.elim), h3⟩
theorem Stp.refl {σ : Type} {I : World → σ → (Nat → Prop) → Prop} {J : Nat → Prop} {w : World} {s : σ} (h : I w s J) : Stp I J w w s := ⟨J, h, Chg.refl _ _, fun _ hb => .inl hb⟩
/-- closures that keep a state -/
structure VS {σ : Type} (S : Nat → Prop) (I : World → σ → (Nat → Prop) → Prop) (en : σ → MT → Option (List Int) → Option (List Int) → σ × Bool) (me : σ → List Int → Nat → σ) (Bd : σ → Prop) (fe fm : FuncId) (ce cm : Array Value) : Prop where
 b1 : ∀ s t lo hi, Bd (en s t lo hi).1 → Bd s
 b2 : ∀ s k n, Bd (me s k n) → Bd s
 goE : ∀ args u, (callFunc fe args).run Tryd.prog u = .ok (.enter fe args) u
 goM : ∀ args u, (callFunc fm args).run Tryd.prog u = .ok (.enter fm args) u
 low : ∀ w s J, I w s J → ∀ b, J b → b < w.heap.size ∧ ¬ S b
 keep : ∀ w w' s J, I w s J → Below w.heap.size w w' → I w' s J
 enter : ∀ w s J p t plo phi lo hi, I w s J → MIs w S p t → t.Good → BK w S plo lo → BK w S phi hi → Bd (en s t lo hi).1 → Calls Tryd.prog fe (#[p, .agg #[plo, phi]] ++ ce) w fun e w' => e = .returned (.bool (en s t lo hi).2) ∧ Stp I J w w' (en s t lo hi).1
 meet : ∀ w s J p k n rk d l r, I w s J → MIs w S p (.nd k n rk d l r) → (MT.nd k n rk d l r).Good → Bd (me s k n) → Calls Tryd.prog fm (#[p] ++ cm) w fun e w' => e = .returned (.tuple #[]) ∧ Stp I J w w' (me s k n)
section
variable {σ : Type} {S : Nat → Prop} {I : World → σ → (Nat → Prop) → Prop} {en : σ → MT → Option (List Int) → Option (List Int) → σ × Bool} {me : σ → List Int → Nat → σ} {Bd : σ → Prop} {fe fm : FuncId} {ce cm : Array Value}
theorem VS.bd (V : VS S I en me Bd fe fm ce cm) : ∀ (t : MT) (lo hi : Option (List Int)) (s : σ), Bd (visitM en me t lo hi s) → Bd s
 | .nil, lo, hi, s, h => V.b1 _ _ _ _ h
 | .cut d, lo, hi, s, h => V.b1 _ _ _ _ h
 | .nd k n rk d l r, lo, hi, s, h => by
  unfold visitM at h
  split at h
  ·exact V.b1 _ _ _ _ (V.bd l _ _ _ (V.b2 _ _ _ (V.bd r _ _ _ h)))
  ·exact V.b1 _ _ _ _ h
theorem VS.bd1 (V : VS S I en me Bd fe fm ce cm) (t : MT) (lo hi : Option (List Int)) (s : σ) (h : Bd (visitM en me t lo hi s)) : Bd (en s t lo hi).1 := by
 cases t with
 | nil => exact h
 | cut d => exact h
 | nd k n rk d l r =>
  unfold visitM at h
  split at h
  ·exact V.bd l _ _ _ (V.b2 _ _ _ (V.bd r _ _ _ h))
  ·exact h
theorem VS.bd2 (V : VS S I en me Bd fe fm ce cm) (k : List Int) (n : Nat) (rk d : List Int) (l r : MT) (lo hi : Option (List Int)) (s : σ) (h : Bd (visitM en me (.nd k n rk d l r) lo hi s)) : (en s (.nd k n rk d l r) lo hi).2 = true → Bd (visitM en me l lo (some k) (en s (.nd k n rk d l r) lo hi).1) ∧ Bd (me (visitM en me l lo (some k) (en s (.nd k n rk d l r) lo hi).1) k n) ∧ Bd (visitM en me r (some k) hi (me (visitM en me l lo (some k) (en s (.nd k n rk d l r) lo hi).1) k n)) := fun e => by
 unfold visitM at h
 rw [if_pos e] at h
 have h2 := V.bd r _ _ _ h
 exact ⟨V.b2 _ _ _ h2, h2, h⟩
end
set_option maxRecDepth 100000 in
set_option maxHeartbeats 8000000 in
theorem visit_any {σ : Type} {S : Nat → Prop} {I : World → σ → (Nat → Prop) → Prop} {en : σ → MT → Option (List Int) → Option (List Int) → σ × Bool} {me : σ → List Int → Nat → σ} {Bd : σ → Prop} {fe fm : FuncId} {ce cm : Array Value} (V : VS S I en me Bd fe fm ce cm) :
  ∀ (t : MT) (w : World) (s : σ) (J : Nat → Prop) (p plo phi : Value) (lo hi : Option (List Int)), I w s J → MIs w S p t → t.Good → BK w S plo lo → BK w S phi hi → Bd (visitM en me t lo hi s) →
  Calls Tryd.prog 83 #[p, .agg #[plo, phi], .func (.func fe) #[] ce, .func (.func fm) #[] cm] w fun e w' => e = .returned (.tuple #[]) ∧ Stp I J w w' (visitM en me t lo hi s) := by
 intro t
 induction t with
 | nil =>
  intro w s J p plo phi lo hi hI hp hg hlo hhi hB
  obtain rfl : p = .pointer none := hp
  obtain ⟨alo, rfl⟩ := hlo.form
  obtain ⟨ahi, rfl⟩ := hhi.form
  have hbb : Below w.heap.size w (w.alloc (.cells #[.pointer alo, .pointer ahi] 142)) := (Below.refl _ _).alloc (Nat.le_refl _) _
  have hI2 := V.keep _ _ _ _ hI hbb
  have hlo2 := hlo.chg (Chg.fresh (F := fun _ => False) hbb) (fun _ _ h => h)
  have hhi2 := hhi.chg (Chg.fresh (F := fun _ => False) hbb) (fun _ _ h => h)
  have HBB := hid hbb
  clear hI hlo hhi hbb
  have HE := hid (V.enter _ s J (.pointer none) .nil (.pointer alo) (.pointer ahi) lo hi hI2 rfl trivial hlo2 hhi2 hB)
  have GE := hid (V.goE)
  clear hI2 hlo2 hhi2 hB
  rw [show visitM en me .nil lo hi s = (en s .nil lo hi).1 from rfl]
  generalize en s .nil lo hi = x at *
  go_enter Tryd.func83, Tryd.ntmps83
  go_wp2_with fail
  rw [GE.out, Oper.upon_enter]
  refine HE.out.mono ?_
  rintro e w1 ⟨rfl, hst⟩
  have HST := hid (hst.after HBB.out)
  clear hst
  obtain ⟨x1, x2⟩ := x
  cases x2 with
  | true =>
   go_wp2_with fail
   refine bodyPost_ret (results_none rfl _ _ _) rfl ?_
   exact ⟨rfl, HST.out⟩
  | false =>
   go_wp2_with fail
   refine bodyPost_ret (results_none rfl _ _ _) rfl ?_
   exact ⟨rfl, HST.out⟩
 | cut d =>
  intro w s J p plo phi lo hi hI hp hg hlo hhi hB
  have hp0 := hp
  obtain ⟨b, rfl, hSb, hd, hx⟩ := hp
  obtain ⟨alo, rfl⟩ := hlo.form
  obtain ⟨ahi, rfl⟩ := hhi.form
  have hbb : Below w.heap.size w (w.alloc (.cells #[.pointer alo, .pointer ahi] 142)) := (Below.refl _ _).alloc (Nat.le_refl _) _
  have hI2 := V.keep _ _ _ _ hI hbb
  have hlo2 := hlo.chg (Chg.fresh (F := fun _ => False) hbb) (fun _ _ h => h)
  have hhi2 := hhi.chg (Chg.fresh (F := fun _ => False) hbb) (fun _ _ h => h)
  have HBB := hid hbb
  clear hI hlo hhi hbb
  have HE := hid (V.enter _ s J (.pointer (some ⟨b, 0, none⟩)) (.cut d) (.pointer alo) (.pointer ahi) lo hi hI2 (hp0.below HBB.out) hg hlo2 hhi2 hB)
  have GE := hid (V.goE)
  have HX := hid (And.intro (fun h => (V.low _ _ _ hI2 b h).2 hSb) ((HBB.out.block b (blk_lt hx)).trans hx))
  have HDL := hid hd
  clear hI2 hlo2 hhi2 hp0 hx hd hSb hB
  rw [show visitM en me (.cut d) lo hi s = (en s (.cut d) lo hi).1 from rfl]
  generalize en s (.cut d) lo hi = x at *
  go_enter Tryd.func83, Tryd.ntmps83
  go_wp2_with fail
  rw [GE.out, Oper.upon_enter]
  refine HE.out.mono ?_
  rintro e w1 ⟨rfl, hst⟩
  have hx1 := hst.blk HX.out.2 HX.out.1
  have c68 := (cell_of_row w1 b 68 _ _ _ hx1).trans (ndC_pr (zeros_len 32) HDL.out)
  have HST := hid (hst.after HBB.out)
  clear hst hx1
  obtain ⟨x1, x2⟩ := x
  cases x2 with
  | true =>
   go_wp2_with fail
   refine bodyPost_ret (results_none rfl _ _ _) rfl ?_
   exact ⟨rfl, HST.out⟩
  | false =>
   go_wp2_with fail
   refine bodyPost_ret (results_none rfl _ _ _) rfl ?_
   exact ⟨rfl, HST.out⟩
 | nd k n rk d l r ihl ihr =>
  intro w s J p plo phi lo hi hI hp hg hlo hhi hB
  have hp0 := hp
  obtain ⟨b, kv, lp, rp, rfl, hSb, h1, h2, hx, hk, hl, hr⟩ := hp
  have hg0 := hg
  obtain ⟨-, gl, gr, -, gk, -⟩ := hg
  obtain ⟨al, rfl⟩ := hl.form
  obtain ⟨ar, rfl⟩ := hr.form
  obtain ⟨alo, rfl⟩ := hlo.form
  obtain ⟨ahi, rfl⟩ := hhi.form
  have hbb : Below w.heap.size w (w.alloc (.cells #[.pointer alo, .pointer ahi] 142)) := (Below.refl _ _).alloc (Nat.le_refl _) _
  have hI2 := V.keep _ _ _ _ hI hbb
  have hlo2 := hlo.chg (Chg.fresh (F := fun _ => False) hbb) (fun _ _ h => h)
  have hhi2 := hhi.chg (Chg.fresh (F := fun _ => False) hbb) (fun _ _ h => h)
  have HBB := hid hbb
  have HE := hid (V.enter _ s J (.pointer (some ⟨b, 0, none⟩)) (.nd k n rk d l r) (.pointer alo) (.pointer ahi) lo hi hI2 (hp0.below HBB.out) hg0 hlo2 hhi2 (V.bd1 _ _ _ _ hB))
  have GE := hid (V.goE)
  have GM := hid (V.goM)
  have hx2 := (HBB.out.block b (blk_lt hx)).trans hx
  have hy2 : (w.alloc (.cells #[.pointer alo, .pointer ahi] 142)).heap[w.heap.size]? = some (.cells #[.pointer alo, .pointer ahi] 142 (0, 0)) := heap_alloc_new _ _
  have hnJ : ¬ J w.heap.size := fun h => by have := (V.low _ _ _ hI _ h).1; omega
  have hJS : ∀ q, S q → ¬ J q := fun q hq h => (V.low _ _ _ hI q h).2 hq
  have hBK : ∀ u, Chg J (w.alloc (.cells #[.pointer alo, .pointer ahi] 142)) u → BK u S (.pointer (some ⟨b, 0, none⟩)) (some k) := fun u hu => by
   have q := (BK.chg (v := .pointer (some ⟨b, 0, none⟩)) (o := some k) ⟨b, kv, rfl, hSb, blk_lt hx2, (cell_of_row _ b 0 _ _ _ hx2).trans ndC_0, hk.below HBB.out, gk⟩ hu (fun q hq => hJS q hq))
   exact q
  have HL := hid (fun u s1 (hu : Stp I J (w.alloc (.cells #[.pointer alo, .pointer ahi] 142)) u s1) (hbd : Bd (visitM en me l lo (some k) s1)) => (show Calls Tryd.prog 83 #[.pointer al, .agg #[.pointer alo, .pointer (some ⟨b, 0, none⟩)], .func (.func fe) #[] ce, .func (.func fm) #[] cm] u fun e w' => e = .returned (.tuple #[]) ∧ Stp I J (w.alloc (.cells #[.pointer alo, .pointer ahi] 142)) w' (visitM en me l lo (some k) s1) from by
   obtain ⟨J1, h1, h2, h3⟩ := id hu
   exact (ihl u s1 J1 _ _ _ lo (some k) h1 (hu.mis (hl.below HBB.out) hJS) gl (hlo2.chg h2 hJS) (hBK u h2) hbd).mono (fun e w' hh => ⟨hh.1, Stp.join h2 h3 hh.2⟩)))
  have HR := hid (fun u s1 (hu : Stp I J (w.alloc (.cells #[.pointer alo, .pointer ahi] 142)) u s1) (hbd : Bd (visitM en me r (some k) hi s1)) => (show Calls Tryd.prog 83 #[.pointer ar, .agg #[.pointer (some ⟨b, 0, none⟩), .pointer ahi], .func (.func fe) #[] ce, .func (.func fm) #[] cm] u fun e w' => e = .returned (.tuple #[]) ∧ Stp I J (w.alloc (.cells #[.pointer alo, .pointer ahi] 142)) w' (visitM en me r (some k) hi s1) from by
   obtain ⟨J1, h1, h2, h3⟩ := id hu
   exact (ihr u s1 J1 _ _ _ (some k) hi h1 (hu.mis (hr.below HBB.out) hJS) gr (hBK u h2) (hhi2.chg h2 hJS) hbd).mono (fun e w' hh => ⟨hh.1, Stp.join h2 h3 hh.2⟩)))
  have HM := hid (fun u s1 (hu : Stp I J (w.alloc (.cells #[.pointer alo, .pointer ahi] 142)) u s1) (hbd : Bd (me s1 k n)) => (show Calls Tryd.prog fm (#[.pointer (some ⟨b, 0, none⟩)] ++ cm) u fun e w' => e = .returned (.tuple #[]) ∧ Stp I J (w.alloc (.cells #[.pointer alo, .pointer ahi] 142)) w' (me s1 k n) from by
   obtain ⟨J1, h1, h2, h3⟩ := id hu
   exact (V.meet u s1 J1 (.pointer (some ⟨b, 0, none⟩)) k n rk d l r h1 (hu.mis (hp0.below HBB.out) hJS) hg0 hbd).mono (fun e w' hh => ⟨hh.1, Stp.join h2 h3 hh.2⟩)))
  have HN := hid (fun u s1 (hu : Stp I J (w.alloc (.cells #[.pointer alo, .pointer ahi] 142)) u s1) => NR.of (hu.blk hx2 (hJS b hSb)) h1)
  have HQ := hid (fun u s1 (hu : Stp I J (w.alloc (.cells #[.pointer alo, .pointer ahi] 142)) u s1) => (show u.cell? ⟨b, 68, none⟩ = some (.bool false) from (cell_of_row u b 68 _ _ _ (hu.blk hx2 (hJS b hSb))).trans (ndC_pr h1 h2)))
  have HY := hid (fun u s1 (hu : Stp I J (w.alloc (.cells #[.pointer alo, .pointer ahi] 142)) u s1) => (show u.cell? ⟨w.heap.size, 0, none⟩ = some (.pointer alo) ∧ u.cell? ⟨w.heap.size, 1, none⟩ = some (.pointer ahi) from ⟨cell_of_row u w.heap.size 0 _ _ _ (hu.blk hy2 hnJ), cell_of_row u w.heap.size 1 _ _ _ (hu.blk hy2 hnJ)⟩))
  have HDR := hid (fun u s1 (hu : Stp I J (w.alloc (.cells #[.pointer alo, .pointer ahi] 142)) u s1) => Stp.below V.keep hu (Below.refl u.heap.size u).drew)
  have HAF := hid (fun u s1 (hu : Stp I J (w.alloc (.cells #[.pointer alo, .pointer ahi] 142)) u s1) => hu.after HBB.out)
  have HBD := hid (V.bd2 k n rk d l r lo hi s hB)
  have HV := hid (show visitM en me (.nd k n rk d l r) lo hi s = if (en s (.nd k n rk d l r) lo hi).2 = true then visitM en me r (some k) hi (me (visitM en me l lo (some k) (en s (.nd k n rk d l r) lo hi).1) k n) else (en s (.nd k n rk d l r) lo hi).1 from rfl)
  clear hI hI2 hlo hhi hlo2 hhi2 hp0 hx hx2 hy2 hSb h1 h2 hk hl hr gl gr hg0 hnJ hJS hBK ihl ihr hbb HBB hB gk
  generalize visitM en me (.nd k n rk d l r) lo hi s = R at *
  generalize en s (.nd k n rk d l r) lo hi = x at *
  go_enter Tryd.func83, Tryd.ntmps83
  go_wp2_with fail
  generalize (w.alloc (.cells #[.pointer alo, .pointer ahi] 142)) = w0 at *
  rw [GE.out, Oper.upon_enter]
  refine HE.out.mono ?_
  rintro e w1 ⟨rfl, hst⟩
  obtain ⟨x1, x2⟩ := x
  cases x2 with
  | false =>
   have HST := hid (HAF.out _ _ hst)
   clear hst
   go_wp2_with fail
   refine bodyPost_ret (results_none rfl _ _ _) rfl ?_
   rw [HV.out]
   exact ⟨rfl, HST.out⟩
  | true =>
   have c68 := HQ.out _ _ hst
   have HST := hid (HDR.out _ _ hst)
   replace HV : Hid (R = visitM en me r (some k) hi (me (visitM en me l lo (some k) x1) k n)) := HV
   have HBS := hid (HBD.out rfl)
   clear hst
   go_wp2_with fail
   have hs1 : Stp I J w0 w1.drew x1 := HST.out
   refine wp_region_held_drew (S := fun u => ∃ s', Stp I J w0 u s') (by kernel_rfl) (⟨_, hs1⟩) (fun hHeld => ?_)
   refine tk (i := 0) (oi := ⟨some 23, .move (.tmp 0), 68, "visit.go:37", #[], none⟩) (v := ?_) (Or.inl ⟨by rfl, ?_⟩) ?_
   rotate_left 1
   ·(intro u hSw; go_simp; try with_reducible rfl)
   try simp only [Act.put, sA, sB, sC]
   refine tk (i := 1) (oi := ⟨some 24, .nilCheck (.tmp 23), 0, "visit.go:37", #[⟨0, .data⟩], none⟩) (v := ?_) (Or.inl ⟨by rfl, ?_⟩) ?_
   rotate_left 1
   ·(intro u hSw; go_simp; try with_reducible rfl)
   try simp only [Act.put, sA, sB, sC]
   refine tk (i := 2) (oi := ⟨some 25, .fieldAddr 115 (.tmp 24) 1, 0, "visit.go:37", #[⟨1, .data⟩], none⟩) (v := ?_) (Or.inl ⟨by rfl, ?_⟩) ?_
   rotate_left 1
   ·(intro u hSw; go_simp; try with_reducible rfl)
   try simp only [Act.put, sA, sB, sC]
   refine tk (i := 3) (oi := ⟨some 26, .load 68 (.tmp 25), 68, "visit.go:37", #[⟨2, .data⟩], none⟩) (v := ?_) (Or.inl ⟨by rfl, ?_⟩) ?_
   rotate_left 1
   ·(intro u hSw; obtain ⟨s', hSw⟩ := hSw; have c34 := (HN.out _ _ hSw).c34; have y0 := (HY.out _ _ hSw).1; go_simp; try with_reducible rfl)
   try simp only [Act.put, sA, sB, sC]
   refine tk (i := 4) (oi := ⟨some 27, .fieldAddr 142 (.tmp 5) 0, 0, "visit.go:37", #[], none⟩) (v := ?_) (Or.inl ⟨by rfl, ?_⟩) ?_
   rotate_left 1
   ·(intro u hSw; go_simp; try with_reducible rfl)
   try simp only [Act.put, sA, sB, sC]
   refine tk (i := 5) (oi := ⟨some 28, .load 68 (.tmp 27), 68, "visit.go:37", #[⟨4, .data⟩], none⟩) (v := ?_) (Or.inl ⟨by rfl, ?_⟩) ?_
   rotate_left 1
   ·(intro u hSw; obtain ⟨s', hSw⟩ := hSw; have c34 := (HN.out _ _ hSw).c34; have y0 := (HY.out _ _ hSw).1; go_simp; try with_reducible rfl)
   try simp only [Act.put, sA, sB, sC]
   refine tk (i := 6) (oi := ⟨some 29, .move (.tmp 0), 68, "visit.go:37", #[], none⟩) (v := ?_) (Or.inl ⟨by rfl, ?_⟩) ?_
   rotate_left 1
   ·(intro u hSw; go_simp; try with_reducible rfl)
   try simp only [Act.put, sA, sB, sC]
   refine tk (i := 7) (oi := ⟨some 30, .build 142 #[(0, .tmp 28), (1, .tmp 29)], 142, "visit.go:37", #[⟨5, .data⟩, ⟨6, .data⟩], none⟩) (v := ?_) (Or.inl ⟨by rfl, ?_⟩) ?_
   rotate_left 1
   ·(intro u hSw; go_simp; try with_reducible rfl)
   try simp only [Act.put, sA, sB, sC]
   refine tk (i := 8) (oi := ⟨some 31, .move (.tmp 2), 143, "visit.go:37", #[], none⟩) (v := ?_) (Or.inl ⟨by rfl, ?_⟩) ?_
   rotate_left 1
   ·(intro u hSw; go_simp; try with_reducible rfl)
   try simp only [Act.put, sA, sB, sC]
   refine tk (i := 9) (oi := ⟨some 32, .move (.tmp 3), 116, "visit.go:37", #[], none⟩) (v := ?_) (Or.inl ⟨by rfl, ?_⟩) ?_
   rotate_left 1
   ·(intro u hSw; go_simp; try with_reducible rfl)
   try simp only [Act.put, sA, sB, sC]
   refine wpAnyH_ready (rs := [10]) (by kernel_rfl) (by simp) ?_
   refine (AllReadyH.cons (o := ⟨some 33, .call ⟨.value (.func 83), #[.tmp 26, .tmp 30, .tmp 31, .tmp 32], #[68, 142, 143, 116]⟩, 0, "visit.go:37", #[⟨3, .data⟩, ⟨7, .data⟩, ⟨8, .data⟩, ⟨9, .data⟩], none⟩) rfl (fun K hK => ?_) AllReadyH.nil)
   go_simp
   refine (HL.out _ _ hs1 HBS.out.1).mono ?_
   rintro e w2 ⟨rfl, hst⟩
   have HS2 := hid hst
   clear hst
   go_wp2_with fail
   refine hK.out _ _ ⟨_, HS2.out⟩ (fun hHeld => ?_)
   clear hK K
   try simp only [Act.put, sA, sB, sC]
   refine wpAnyH_done (by kernel_rfl) ?_ _
   clear hs1
   go_wp2_with fail
   rw [GM.out, Oper.upon_enter]
   refine (HM.out _ _ HS2.out HBS.out.2.1).mono ?_
   rintro e w3 ⟨rfl, hst⟩
   have HS3 := hid hst
   have HS4 := hid (HDR.out _ _ hst)
   clear hst
   go_wp2_with fail
   have hs4 := HS4.out
   refine wp_region_held_drew (S := fun u => ∃ s', Stp I J w0 u s') (by kernel_rfl) (⟨_, hs4⟩) (fun hHeld => ?_)
   refine tk (i := 0) (oi := ⟨some 37, .move (.tmp 0), 68, "visit.go:39", #[], none⟩) (v := ?_) (Or.inl ⟨by rfl, ?_⟩) ?_
   rotate_left 1
   ·(intro u hSw; go_simp; try with_reducible rfl)
   try simp only [Act.put, sA, sB, sC]
   refine tk (i := 1) (oi := ⟨some 38, .nilCheck (.tmp 37), 0, "visit.go:39", #[⟨0, .data⟩], none⟩) (v := ?_) (Or.inl ⟨by rfl, ?_⟩) ?_
   rotate_left 1
   ·(intro u hSw; go_simp; try with_reducible rfl)
   try simp only [Act.put, sA, sB, sC]
   refine tk (i := 2) (oi := ⟨some 39, .fieldAddr 115 (.tmp 38) 2, 0, "visit.go:39", #[⟨1, .data⟩], none⟩) (v := ?_) (Or.inl ⟨by rfl, ?_⟩) ?_
   rotate_left 1
   ·(intro u hSw; go_simp; try with_reducible rfl)
   try simp only [Act.put, sA, sB, sC]
   refine tk (i := 3) (oi := ⟨some 40, .load 68 (.tmp 39), 68, "visit.go:39", #[⟨2, .data⟩], none⟩) (v := ?_) (Or.inl ⟨by rfl, ?_⟩) ?_
   rotate_left 1
   ·(intro u hSw; obtain ⟨s', hSw⟩ := hSw; have c35 := (HN.out _ _ hSw).c35; have y1 := (HY.out _ _ hSw).2; go_simp; try with_reducible rfl)
   try simp only [Act.put, sA, sB, sC]
   refine tk (i := 4) (oi := ⟨some 41, .move (.tmp 0), 68, "visit.go:39", #[], none⟩) (v := ?_) (Or.inl ⟨by rfl, ?_⟩) ?_
   rotate_left 1
   ·(intro u hSw; go_simp; try with_reducible rfl)
   try simp only [Act.put, sA, sB, sC]
   refine tk (i := 5) (oi := ⟨some 42, .fieldAddr 142 (.tmp 5) 1, 0, "visit.go:39", #[], none⟩) (v := ?_) (Or.inl ⟨by rfl, ?_⟩) ?_
   rotate_left 1
   ·(intro u hSw; go_simp; try with_reducible rfl)
   try simp only [Act.put, sA, sB, sC]
   refine tk (i := 6) (oi := ⟨some 43, .load 68 (.tmp 42), 68, "visit.go:39", #[⟨5, .data⟩], none⟩) (v := ?_) (Or.inl ⟨by rfl, ?_⟩) ?_
   rotate_left 1
   ·(intro u hSw; obtain ⟨s', hSw⟩ := hSw; have c35 := (HN.out _ _ hSw).c35; have y1 := (HY.out _ _ hSw).2; go_simp; try with_reducible rfl)
   try simp only [Act.put, sA, sB, sC]
   refine tk (i := 7) (oi := ⟨some 44, .build 142 #[(0, .tmp 41), (1, .tmp 43)], 142, "visit.go:39", #[⟨4, .data⟩, ⟨6, .data⟩], none⟩) (v := ?_) (Or.inl ⟨by rfl, ?_⟩) ?_
   rotate_left 1
   ·(intro u hSw; go_simp; try with_reducible rfl)
   try simp only [Act.put, sA, sB, sC]
   refine tk (i := 8) (oi := ⟨some 45, .move (.tmp 2), 143, "visit.go:39", #[], none⟩) (v := ?_) (Or.inl ⟨by rfl, ?_⟩) ?_
   rotate_left 1
   ·(intro u hSw; go_simp; try with_reducible rfl)
   try simp only [Act.put, sA, sB, sC]
   refine tk (i := 9) (oi := ⟨some 46, .move (.tmp 3), 116, "visit.go:39", #[], none⟩) (v := ?_) (Or.inl ⟨by rfl, ?_⟩) ?_
   rotate_left 1
   ·(intro u hSw; go_simp; try with_reducible rfl)
   try simp only [Act.put, sA, sB, sC]
   refine wpAnyH_ready (rs := [10]) (by kernel_rfl) (by simp) ?_
   refine (AllReadyH.cons (o := ⟨some 47, .call ⟨.value (.func 83), #[.tmp 40, .tmp 44, .tmp 45, .tmp 46], #[68, 142, 143, 116]⟩, 0, "visit.go:39", #[⟨3, .data⟩, ⟨7, .data⟩, ⟨8, .data⟩, ⟨9, .data⟩], none⟩) rfl (fun K hK => ?_) AllReadyH.nil)
   go_simp
   refine (HR.out _ _ hs4 HBS.out.2.2).mono ?_
   rintro e w5 ⟨rfl, hst⟩
   have HS5 := hid (HAF.out _ _ hst)
   have hs5 : ∃ s', Stp I J w0 w5 s' := ⟨_, hst⟩
   clear hst
   go_wp2_with fail
   refine hK.out _ _ hs5 (fun hHeld => ?_)
   clear hK K
   try simp only [Act.put, sA, sB, sC]
   refine wpAnyH_done (by kernel_rfl) ?_ _
   clear hs4 hs5
   go_end0
   rw [HV.out]
   exact ⟨rfl, HS5.out⟩
end Go.Proofs.YtbmlkocpjboodaaDoor
/- stage 7: ranges; Clash -/
namespace Go.Proofs.YtbmlkocpjboodaaDoor
open Go.RowKit
open Go.Lib (hid)
/-- are all keys of a range ahead of one? -/
def endsQ (to : List Int) (e : Bool) (k : List Int) : Bool := e && decide (cmpI to k ≤ 0)
def hasQ (fr to : List Int) (e : Bool) (k : List Int) : Bool := decide (0 ≤ cmpI k fr) && !endsQ to e k
/-- is a tree between bounds outside a range? -/
def outQ (fr to : List Int) (e : Bool) (lo hi : Option (List Int)) : Bool :=
 endsQ to e fr || hi.elim false (fun h => decide (cmpI h fr ≤ 0)) || lo.elim false (fun l => endsQ to e l)
set_option maxRecDepth 100000 in
theorem endsBy_any (fv tv kv : Value) (fr to k : List Int) (e : Bool) (w : World) (hf : Bs w fv fr) (ht : Bs w tv to) (hk : Bs w kv k) (gt : Rng to) (gk : Rng k) :
  Calls Tryd.prog 94 #[.agg #[fv, tv, .bool e], kv] w fun d w' => d = .returned (.bool (endsQ to e k)) ∧ Below w.heap.size w w' := by
 have hbb : Below w.heap.size w (w.alloc (.cells #[fv, tv, .bool e] 74)) := (Below.refl _ _).alloc (Nat.le_refl _) _
 have HC := hid (compare_any tv kv to k _ (ht.below hbb) (hk.below hbb) gt gk)
 have HBB := hid hbb
 have HR := hid (show endsQ to e k = (e && decide (cmpI to k ≤ 0)) from rfl)
 obtain ⟨af, cf, rfl, -, -⟩ := hf
 obtain ⟨at', ct, rfl, -, -⟩ := ht
 obtain ⟨ak, ck, rfl, -, -⟩ := hk
 generalize endsQ to e k = R at *
 generalize cmpI to k = c at *
 clear hbb gt gk
 cases e with
 | false =>
  go_enter Tryd.func94, Tryd.ntmps94
  go_wp2_with fail
  go_ret
  rw [HR.out]
  exact ⟨rfl, HBB.out⟩
 | true =>
  go_enter Tryd.func94, Tryd.ntmps94
  go_wp2_with fail
  refine HC.out.mono ?_
  rintro d w1 ⟨rfl, rfl⟩
  go_wp2_with fail
  go_ret
  rw [HR.out]
  exact ⟨by simp, HBB.out⟩
set_option maxRecDepth 100000 in
theorem has_any (fv tv kv : Value) (fr to k : List Int) (e : Bool) (w : World) (hf : Bs w fv fr) (ht : Bs w tv to) (hk : Bs w kv k) (gf : Rng fr) (gt : Rng to) (gk : Rng k) :
  Calls Tryd.prog 64 #[.agg #[fv, tv, .bool e], kv] w fun d w' => d = .returned (.bool (hasQ fr to e k)) ∧ Below w.heap.size w w' := by
 have hbb : Below w.heap.size w (w.alloc (.cells #[fv, tv, .bool e] 74)) := (Below.refl _ _).alloc (Nat.le_refl _) _
 have HC := hid (compare_any kv fv k fr _ (hk.below hbb) (hf.below hbb) gk gf)
 have HE := hid (endsBy_any fv tv kv fr to k e _ (hf.below hbb) (ht.below hbb) (hk.below hbb) gt gk)
 have HBB := hid hbb
 have HR := hid (show hasQ fr to e k = (decide (0 ≤ cmpI k fr) && !endsQ to e k) from rfl)
 obtain ⟨af, cf, rfl, -, -⟩ := hf
 obtain ⟨at', ct, rfl, -, -⟩ := ht
 obtain ⟨ak, ck, rfl, -, -⟩ := hk
 have HX := hid (heap_alloc_new w (.cells #[.slice af fr.length cf, .slice at' to.length ct, .bool e] 74))
 generalize hasQ fr to e k = R at *
 generalize cmpI k fr = c at *
 generalize endsQ to e k = q at *
 clear hbb gt gk gf
 by_cases h : c ≥ 0
 ·have HD := hid (show decide (0 ≤ c) = true from decide_eq_true h)
  go_enter Tryd.func64, Tryd.ntmps64
  go_wp2_with fail
  refine HC.out.mono ?_
  rintro d w1 ⟨rfl, rfl⟩
  go_wp2_with (refine wpList_load_row rfl 74 (Operand.tmp 2) rfl w.heap.size rfl 74 _ (0, 0) _ HX.out Tryd.underlying74 rfl (by kernel_rfl) ?_)
  refine HE.out.mono ?_
  rintro d w1 ⟨rfl, hb1⟩
  have HB1 := hid (HBB.out.trans (hb1.mono HBB.out.size))
  clear hb1
  go_wp2_with fail
  go_ret
  rw [HR.out, HD.out]
  exact ⟨by simp, HB1.out⟩
 ·have HD := hid (show decide (0 ≤ c) = false from decide_eq_false (by omega))
  go_enter Tryd.func64, Tryd.ntmps64
  go_wp2_with fail
  refine HC.out.mono ?_
  rintro d w1 ⟨rfl, rfl⟩
  go_wp2_with fail
  go_ret
  rw [HR.out, HD.out]
  exact ⟨by simp, HBB.out⟩
/-- what Clash tells -/
def clashO (a b : List Int) : Option (List Int × List Int) :=
 match rdAll a with
 | .inl _ => none
 | .inr x => match rdAll b with
  | .inl _ => none
  | .inr y => clashM x y
set_option maxRecDepth 100000 in
set_option maxHeartbeats 4000000 in
theorem Clash_any (a b : List Int) (w : World) (va vb : Value) (ha : Bs w va a) (hb : Bs w vb b) (ga : Rng a) (gb : Rng b) (hK : KC w) :
  Calls Tryd.prog 25 #[va, vb] w fun e w' => CEnd w e w' (clashO a b) := by
 have H1 := hid (read_any a w va ha ga hK)
 have H2 := hid (fun u (hu : Below w.heap.size w u) => read_any b u vb (hb.below hu) gb (hK.below hu hK.1))
 have HO := hid (And.intro (fun t e => rdAll_ok ga (t := t) e) (fun t e => rdAll_ok gb (t := t) e))
 have HK := hid hK
 have HR := hid (show clashO a b = match rdAll a with
  | .inl _ => none
  | .inr x => match rdAll b with
   | .inl _ => none
   | .inr y => clashM x y from rfl)
 obtain ⟨aa, ca, rfl, -, -⟩ := ha
 obtain ⟨ab, cb, rfl, -, -⟩ := hb
 clear ga gb hK
 generalize clashO a b = R at *
 generalize rdAll a = A at *
 generalize rdAll b = B at *
 go_enter Tryd.func25, Tryd.ntmps25
 go_wp2_with fail
 refine H1.out.mono ?_
 rintro e w1 he
 rcases A with c | x
 ·obtain ⟨hc0, rfl, hb1⟩ := he
  have hne : (c != 0) = true := bne_iff_ne.2 hc0
  have HB1 := hid hb1
  clear hc0 hb1
  go_wp2_with fail
  go_ret3
  rw [HR.out]
  exact ⟨rfl, HB1.out⟩
 ·obtain ⟨p, rfl, hp, hb1⟩ := he
  obtain ⟨ap, rfl⟩ := hp.form
  have HP := hid (And.intro hp hb1)
  have H2' := hid (H2.out w1 hb1)
  clear hp hb1 H2
  go_wp2_with fail
  refine H2'.out.mono ?_
  rintro e w2 he
  rcases B with c | y
  ·obtain ⟨hc0, rfl, hb2⟩ := he
   have hne : (c != 0) = true := bne_iff_ne.2 hc0
   have HB2 := hid (HP.out.2.trans (hb2.mono HP.out.2.size))
   clear hc0 hb2
   go_wp2_with fail
   go_ret3
   rw [HR.out]
   exact ⟨rfl, HB2.out⟩
  ·obtain ⟨q, rfl, hq, hb2⟩ := he
   obtain ⟨aq, rfl⟩ := hq.form
   have HB2 := hid (HP.out.2.trans (hb2.mono HP.out.2.size))
   have HC := hid (clash_any x y w2 _ _ (HP.out.1.below hb2) hq (HO.out.1 x rfl) (HO.out.2 y rfl) (HK.out.below HB2.out HK.out.1))
   clear hq hb2
   go_wp2_with fail
   refine HC.out.mono ?_
   rintro e w3 he
   obtain ⟨v1, v2, rfl, hb3, hcf⟩ := he.form
   have HE := hid (And.intro hb3 hcf)
   clear he hb3 hcf
   go_wp2_with fail
   go_ret3
   rw [HR.out]
   exact CEnd.of rfl (HB2.out.trans (HE.out.1.mono HB2.out.size)) (HE.out.2.base HB2.out.size)
end Go.Proofs.YtbmlkocpjboodaaDoor
