import Derived.Test.YtbhilmgpmebaiaaSh01
import Derived.Maps.Keyed
import Derived.MapKept
namespace Go.Proofs.Ytbhilmgpmebaiaa
open Go.RowKit
/-- the entries of a map of functions -/
def KF (es : List MapEntry) (kvs : List (Int × Value)) : Prop := es.map (fun e => (e.key, e.val)) = kvs.map fun p => (Value.int .i64 p.1, p.2)
def fidx : List (Int × Value) → Int → Option (Nat × Value)
  | [], _ => none
  | p :: r, n => if n = p.1 then some (0, p.2) else (fidx r n).map fun q => (q.1 + 1, q.2)
theorem findNow_F (n : Int) : ∀ (es : List MapEntry) (kvs : List (Int × Value)) (i : Nat), KF es kvs → Instr.findNow (.int .i64) (.int .i64 n) es i = some ((fidx kvs n).map fun q => (i + q.1, q.2))
  | [], [], i, _ => rfl
  | [], _ :: _, _, h => by simp [KF] at h
  | _ :: _, [], _, h => by simp [KF] at h
  | e :: es, p :: r, i, h => by
    simp only [KF, List.map_cons, List.cons.injEq, Prod.mk.injEq] at h
    obtain ⟨⟨h1, h2⟩, h3⟩ := h
    have ih := findNow_F n es r (i + 1) h3
    unfold Instr.findNow
    rw [h1]
    by_cases hn : n = p.1
    · subst hn
      simp [Instr.sameNow, fidx, h2]
    · have hb : (n == p.1) = false := by simpa using hn
      simp only [Instr.sameNow, if_true, hb, ih, fidx, if_neg hn]
      congr 1
      cases fidx r n with
      | none => rfl
      | some q => simp; omega
def MapF (w : World) (M : Nat) (kvs : List (Int × Value)) : Prop := ∃ es clock, w.heap[M]? = some (.map es clock) ∧ KF es.toList kvs
theorem run_findKey_F (w : World) (n : Int) (es : List MapEntry) (kvs : List (Int × Value)) (h : KF es kvs) :
    (Instr.findKey 3 (.int .i64 n) es).run Try.prog w = .ok (fidx kvs n) w := by
  unfold Instr.findKey
  simp only [Sem.run_bind, run_underlying Try.underlying3, Result.andThen_ok, findNow_F n es kvs 0 h, Nat.zero_add, Sem.run_pure]
  cases fidx kvs n <;> rfl
theorem run_checkKeyF (w : World) (em : Bool) (n : Int) : (Instr.checkKey em 10000 3 (.int .i64 n)).run Try.prog w = .ok () w := by
  show (Instr.checkKey em (9999 + 1) 3 (.int .i64 n)).run Try.prog w = _
  unfold Instr.checkKey
  simp only [Sem.run_bind, run_underlying Try.underlying3, Result.andThen_ok]
  rfl
theorem run_lookF {mt e : TypeId} (ht : Try.prog.underlying mt = some (.map 3 e)) (w : World) (M : Nat) (n : Int) (kvs : List (Int × Value)) (h : MapF w M kvs) (q : Nat × Value) (hq : fidx kvs n = some q) (ok : Bool) :
    (Instr.lookup mt (.map (some M)) (.int .i64 n) ok).run Try.prog w = .ok (if ok = true then .tuple #[q.2, .bool true] else q.2) w := by
  obtain ⟨es, clock, hM, hkv⟩ := h
  have hg : (getObj M).run Try.prog w = .ok (.map es clock) w := by simp [getObj, Sem.run, hM]
  unfold Instr.lookup
  simp only [Sem.run_bind, run_underlying ht, Result.andThen_ok, hg, Sem.run_pure, run_checkKeyF, run_findKey_F w n es.toList kvs hkv, hq]
theorem run_missF {mt e : TypeId} (ht : Try.prog.underlying mt = some (.map 3 e)) (z : Value) (hz : ∀ w, (zeroValue e).run Try.prog w = .ok z w) (w : World) (M : Nat) (n : Int) (kvs : List (Int × Value)) (h : MapF w M kvs) (hq : fidx kvs n = none) :
    (Instr.lookup mt (.map (some M)) (.int .i64 n) true).run Try.prog w = .ok (.tuple #[z, .bool false]) w := by
  obtain ⟨es, clock, hM, hkv⟩ := h
  have hg : (getObj M).run Try.prog w = .ok (.map es clock) w := by simp [getObj, Sem.run, hM]
  unfold Instr.lookup
  simp only [Sem.run_bind, run_underlying ht, Result.andThen_ok, hg, Sem.run_pure, run_checkKeyF, run_findKey_F w n es.toList kvs hkv, hq, hz]
  rfl
def putF (w : World) (M : Nat) (o : Obj) : World := { w with heap := w.heap.setIfInBounds M o }
theorem run_updF {mt e : TypeId} (ht : Try.prog.underlying mt = some (.map 3 e)) (w : World) (M : Nat) (n : Int) (v : Value) (kvs : List (Int × Value)) (h : MapF w M kvs) (hq : fidx kvs n = none) :
    ∃ w', (Instr.mapUpdate mt (.map (some M)) (.int .i64 n) v).run Try.prog w = .ok () w' ∧ MapF w' M (kvs ++ [(n, v)]) ∧ w.grownBy w' (some M) ∧ w'.heap.size = w.heap.size := by
  obtain ⟨es, clock, hM, hkv⟩ := h
  have hlt : M < w.heap.size := by rcases Nat.lt_or_ge M w.heap.size with h | h; exact h; rw [Array.getElem?_eq_none h] at hM; cases hM
  have hg : (getObj M).run Try.prog w = .ok (.map es clock) w := by simp [getObj, Sem.run, hM]
  have hset : ∀ o : Obj, (setObj M o).run Try.prog w = .ok () (putF w M o) := fun o => by simp [setObj, Sem.run, hM, putF]
  have hgr : ∀ o : Obj, w.grownBy (putF w M o) (some M) := fun o => ⟨rfl, rfl, rfl, by simp [putF], fun k _ hk => by
    have : M ≠ k := fun e => hk (by rw [e])
    simp [putF, this]⟩
  have hat : ∀ o : Obj, (putF w M o).heap[M]? = some o := fun o => by simp [putF, hlt]
  have hsz : ∀ o : Obj, (putF w M o).heap.size = w.heap.size := fun o => by simp [putF]
  unfold Instr.mapUpdate
  simp only [Sem.run_bind, run_underlying ht, Result.andThen_ok, hg, run_checkKeyF, run_findKey_F w n es.toList kvs hkv, hq]
  refine ⟨_, hset _, ⟨_, _, hat _, ?_⟩, hgr _, hsz _⟩
  simp only [KF, Array.toList_push, List.map_append, List.map_cons, List.map_nil] at hkv ⊢
  rw [hkv]
theorem wpList_insF {mt e : TypeId} (ht : Try.prog.underlying mt = some (.map 3 e)) {ops : Array Oper} {rest : List Oper} {o : Oper} {a : Act} {w : World} {Q : Exit → Act → World → Prop} (hg : o.guard = none)
    (m k x : Operand) (hop : o.op = Op.insert mt m k x) (M : Nat) (hm : a.eval m = .map (some M)) (n : Int) (hk : a.eval k = .int .i64 n) (kvs : List (Int × Value)) (h : MapF w M kvs) (hq : fidx kvs n = none)
    (B : Nat) (w0 : World) (hB : Below B w0 w) (hBM : B ≤ M) (H : ∀ w', MapF w' M (kvs ++ [(n, a.eval x)]) → Below B w0 w' → wpList Try.prog ops Q rest (a.put o.dst undef) w') : wpList Try.prog ops Q (o :: rest) a w := by
  have hlt : M < w.heap.size := by obtain ⟨es, c, hM, _⟩ := h; rcases Nat.lt_or_ge M w.heap.size with h | h; exact h; rw [Array.getElem?_eq_none h] at hM; cases hM
  obtain ⟨w', hr, hf, hgr, hs⟩ := run_updF ht w M n (a.eval x) kvs h hq
  have hb : Below B w0 w' := ⟨hgr.os.trans hB.os, hgr.tape.trans hB.tape, hgr.output.trans hB.output, by rw [hs]; exact hB.size, fun k hk => (hgr.block k (by omega) (fun e => by cases e; omega)).trans (hB.block k hk)⟩
  refine wpList_plain hg fun K hK => ?_
  unfold Oper.wp
  have hx : (execOp a.eval o).run Try.prog w = .ok .skip w' := by
    unfold execOp
    simp [hop, hm, hk, hr, Result.andThen]
  rw [hx]
  exact hK _ _ (H w' hf hb)
theorem mapF_new (w : World) : MapF (w.alloc (.map #[] 0)) w.heap.size [] := ⟨_, _, heap_alloc_new _ _, rfl⟩
theorem calculations_any (w : World) : Calls Try.prog 33 #[] w fun e w' => ∃ M, e = .returned (.map (some M)) ∧ MapF w' M [(4, .func (.func 59) #[] #[]), (5, .func (.func 61) #[] #[]), (6, .func (.func 60) #[] #[]), (7, .func (.func 62) #[] #[]), (8, .func (.func 63) #[] #[]), (9, .func (.func 64) #[] #[])] ∧ Below w.heap.size w w' := by
  have hmm := @run_makeMap Try.prog
  have hF := mapF_new w
  have hB : Below w.heap.size w (w.alloc (.map #[] 0)) := bl_al (Below.refl _ _) _
  go_enter Try.func33, Try.ntmps33
  go_wp2_with (refine wpList_insF Try.underlying54 rfl _ _ _ rfl w.heap.size rfl _ rfl _ (by assumption) rfl w.heap.size w (by assumption) (Nat.le_refl _) ?_; intro w' hF hB)
  go_ret
  refine ⟨_, rfl, ?_, ?_⟩
  · assumption
  · assumption
/-- a map that is being filled, and what its functions have captured -/
def DecS (w : World) (M : Nat) (u : World) (kvs : List (Int × Value)) (caps : List (Nat × Obj)) : Prop := MapF u M kvs ∧ Below w.heap.size w u ∧ w.heap.size ≤ M ∧ ∀ p ∈ caps, p.1 ≠ M ∧ u.heap[p.1]? = some p.2
theorem MapF.lt {w : World} {M : Nat} {kvs : List (Int × Value)} (h : MapF w M kvs) : M < w.heap.size := by
  obtain ⟨es, c, hM, _⟩ := h; rcases Nat.lt_or_ge M w.heap.size with h | h; exact h; rw [Array.getElem?_eq_none h] at hM; cases hM
theorem decS_new (w : World) : DecS w w.heap.size (w.alloc (.map #[] 0)) [] [] := ⟨mapF_new w, bl_al (Below.refl _ _) _, Nat.le_refl _, fun p hp => by simp at hp⟩
theorem DecS.cap {w u : World} {M : Nat} {kvs : List (Int × Value)} {caps : List (Nat × Obj)} (h : DecS w M u kvs caps) (o : Obj) : DecS w M (u.alloc o) kvs ((u.heap.size, o) :: caps) := by
  obtain ⟨h1, h2, h3, h4⟩ := h
  have hl := h1.lt
  obtain ⟨es, c, hM, hk⟩ := h1
  refine ⟨⟨es, c, hp_al hM o, hk⟩, bl_al h2 o, h3, fun p hp => ?_⟩
  rcases List.mem_cons.1 hp with rfl | hp
  · exact ⟨by simp only; omega, heap_alloc_new _ _⟩
  · exact ⟨(h4 p hp).1, hp_al (h4 p hp).2 o⟩
theorem DecS.cap' {w u u' : World} {M : Nat} {kvs : List (Int × Value)} {caps : List (Nat × Obj)} {o : Obj} (h : DecS w M u kvs caps) (hw : u' = u.alloc o) : DecS w M u' kvs ((u.heap.size, o) :: caps) := hw ▸ h.cap o
theorem wpList_insD {mt e : TypeId} (ht : Try.prog.underlying mt = some (.map 3 e)) {ops : Array Oper} {rest : List Oper} {o : Oper} {a : Act} {w : World} {Q : Exit → Act → World → Prop} (hg : o.guard = none)
    (m k x : Operand) (hop : o.op = Op.insert mt m k x) (M : Nat) (hm : a.eval m = .map (some M)) (n : Int) (hk : a.eval k = .int .i64 n) (w0 : World) (kvs : List (Int × Value)) (caps : List (Nat × Obj)) (h : DecS w0 M w kvs caps) (hq : fidx kvs n = none)
    (H : ∀ w', DecS w0 M w' (kvs ++ [(n, a.eval x)]) caps → wpList Try.prog ops Q rest (a.put o.dst undef) w') : wpList Try.prog ops Q (o :: rest) a w := by
  obtain ⟨h1, h2, h3, h4⟩ := h
  obtain ⟨w', hr, hf, hgr, hs⟩ := run_updF ht w M n (a.eval x) kvs h1 hq
  have hl := h1.lt
  have hb : Below w0.heap.size w0 w' := ⟨hgr.os.trans h2.os, hgr.tape.trans h2.tape, hgr.output.trans h2.output, by rw [hs]; exact h2.size, fun k hk => (hgr.block k (by omega) (fun e => by cases e; omega)).trans (h2.block k hk)⟩
  have hc : ∀ p ∈ caps, p.1 ≠ M ∧ w'.heap[p.1]? = some p.2 := fun p hp => by
    obtain ⟨q1, q2⟩ := h4 p hp
    have hlt : p.1 < w.heap.size := by rcases Nat.lt_or_ge p.1 w.heap.size with h | h; exact h; rw [Array.getElem?_eq_none h] at q2; cases q2
    exact ⟨q1, (hgr.block _ hlt (fun e => q1 (Option.some.inj e))).trans q2⟩
  refine wpList_plain hg fun K hK => ?_
  unfold Oper.wp
  have hx : (execOp a.eval o).run Try.prog w = .ok .skip w' := by
    unfold execOp
    simp [hop, hm, hk, hr, Result.andThen]
  rw [hx]
  exact hK _ _ (H w' ⟨hf, hb, h3, hc⟩)
theorem testNull_any (b : Bool) (w : World) : Calls Try.prog 72 #[.bool b] w fun e w' => e = .returned (.func (.func 85) #[] #[.pointer (some ⟨w.heap.size, 0, none⟩)]) ∧ w' = w.alloc (.cells #[.bool b] 4) := by
  go_enter Try.func72, Try.ntmps72
  go_wp2_with fail
  go_ret
  exact ⟨rfl, rfl⟩
theorem decideBy_any (b : Bool) (w : World) : Calls Try.prog 74 #[.bool b] w fun e w' => e = .returned (.func (.func 86) #[] #[.pointer (some ⟨w.heap.size, 0, none⟩)]) ∧ w' = w.alloc (.cells #[.bool b] 4) := by
  go_enter Try.func74, Try.ntmps74
  go_wp2_with fail
  go_ret
  exact ⟨rfl, rfl⟩
theorem extreme_any (n : Int) (w : World) : Calls Try.prog 80 #[.int .i64 n] w fun e w' => e = .returned (.func (.func 89) #[] #[.pointer (some ⟨w.heap.size, 0, none⟩)]) ∧ w' = w.alloc (.cells #[.int .i64 n] 3) := by
  go_enter Try.func80, Try.ntmps80
  go_wp2_with fail
  go_ret
  exact ⟨rfl, rfl⟩
abbrev CF (f : FuncId) (g : Nat) : Value := .func (.func f) #[] #[.pointer (some ⟨g, 0, none⟩)]
abbrev FF (f : FuncId) : Value := .func (.func f) #[] #[]
theorem decisions_any (w : World) : Calls Try.prog 38 #[] w fun e w' => ∃ M g1 g2 g3 g4, e = .returned (.map (some M)) ∧ DecS w M w' [(19, CF 85 g1), (20, CF 85 g2), (16, FF 73), (17, CF 86 g3), (18, CF 86 g4)] [(g4, .cells #[.bool true] 4), (g3, .cells #[.bool false] 4), (g2, .cells #[.bool false] 4), (g1, .cells #[.bool true] 4)] := by
  have hmm := @run_makeMap Try.prog
  have hS := decS_new w
  go_enter Try.func38, Try.ntmps38
  go_wp2_with (first
    | (refine wpList_insD Try.underlying62 rfl _ _ _ rfl w.heap.size rfl _ rfl w _ _ (by assumption) rfl ?_; intro w' hS)
    | (go_at_call 72; refine (testNull_any _ _).mono ?_; rintro e w' ⟨rfl, hw⟩; have hS := hS.cap' hw; clear hw)
    | (go_at_call 74; refine (decideBy_any _ _).mono ?_; rintro e w' ⟨rfl, hw⟩; have hS := hS.cap' hw; clear hw))
  go_ret
  have hsz : (w.alloc (Obj.map #[] 0)).heap.size = w.heap.size + 1 := by simp
  simp only [hsz] at *
  exact ⟨_, _, _, _, _, rfl, by assumption⟩
theorem aggregates_any (w : World) : Calls Try.prog 46 #[] w fun e w' => ∃ M g1 g2, e = .returned (.map (some M)) ∧ DecS w M w' [(21, FF 76), (22, FF 77), (23, FF 79), (24, CF 89 g1), (25, CF 89 g2)] [(g2, .cells #[.int .i64 1] 3), (g1, .cells #[.int .i64 (-1)] 3)] := by
  have hmm := @run_makeMap Try.prog
  have hS := decS_new w
  go_enter Try.func46, Try.ntmps46
  go_wp2_with (first
    | (refine wpList_insD Try.underlying68 rfl _ _ _ rfl w.heap.size rfl _ rfl w _ _ (by assumption) rfl ?_; intro w' hS)
    | (go_at_call 80; refine (extreme_any _ _).mono ?_; rintro e w' ⟨rfl, hw⟩; have hS := hS.cap' hw; clear hw))
  go_ret
  exact ⟨_, _, _, rfl, by assumption⟩
end Go.Proofs.Ytbhilmgpmebaiaa
namespace Go.Proofs.Ytbhilmgpmebaiaa
open Go.RowKit
attribute [local go_sem ↓] eql32_eq neq32_eq
theorem hp_3 (w : World) (a b c : Obj) : (((w.alloc a).alloc b).alloc c).heap[w.heap.size + 1 + 1]? = some c := by
  have := heap_alloc_new ((w.alloc a).alloc b) c
  simpa using this
theorem bx_lt {u : World} {H : Nat} {o : Obj} (h : u.heap[H]? = some o) : H < u.heap.size := by
  rcases Nat.lt_or_ge H u.heap.size with h' | h'; exact h'; rw [Array.getElem?_eq_none h'] at h; cases h
def ofK (a b : Val) (t : Bool) : Val × Int := if smK a.k b.k = false then (nulV, 22) else if a = nulV ∨ b = nulV then (nulV, 0) else (truV t, 0)
end Go.Proofs.Ytbhilmgpmebaiaa
namespace Go.Proofs.Ytbhilmgpmebaiaa
open Go.RowKit
def Tri (w u : World) (x y : Val) : Prop := Two w u x y ∧ ∃ k n s, u.heap[w.heap.size + 1 + 1]? = some (BX k n s)
theorem Tri.al {w u : World} {x y : Val} (h : Tri w u x y) (o : Obj) : Tri w (u.alloc o) x y := by
  obtain ⟨h1, k, n, s, h2⟩ := h; exact ⟨h1.al o, k, n, s, hp_al h2 o⟩
theorem Tri.drew {w u : World} {x y : Val} (h : Tri w u x y) : Tri w u.drew x y := ⟨h.1.drew, h.2⟩
theorem Tri.below {w u v : World} {x y : Val} (h : Tri w u x y) (hb : Below u.heap.size u v) : Tri w v x y := by
  obtain ⟨h1, k, n, s, h2⟩ := h; exact ⟨h1.below hb, k, n, s, (hb.block _ (bx_lt h2)).trans h2⟩
theorem Tri.set1 {w u : World} {x y : Val} (h : Tri w u x y) (a : Val) : Tri w (((u.setCell ⟨w.heap.size, 0, none⟩ (.int .i64 a.k)).setCell ⟨w.heap.size, 1, none⟩ (.int .i64 a.n)).setCell ⟨w.heap.size, 2, none⟩ (.string (str a.s))) a y := by
  obtain ⟨h1, k, n, s, h2⟩ := h; exact ⟨h1.set1 a, k, n, s, (set3_other a (by omega)).trans h2⟩
theorem Tri.set2 {w u : World} {x y : Val} (h : Tri w u x y) (a : Val) : Tri w (((u.setCell ⟨w.heap.size + 1, 0, none⟩ (.int .i64 a.k)).setCell ⟨w.heap.size + 1, 1, none⟩ (.int .i64 a.n)).setCell ⟨w.heap.size + 1, 2, none⟩ (.string (str a.s))) x a := by
  obtain ⟨h1, k, n, s, h2⟩ := h; exact ⟨h1.set2 a, k, n, s, (set3_other a (by omega)).trans h2⟩
theorem Tri.setR {w u : World} {x y : Val} (h : Tri w u x y) (a : Val) : Tri w (((u.setCell ⟨w.heap.size + 1 + 1, 0, none⟩ (.int .i64 a.k)).setCell ⟨w.heap.size + 1 + 1, 1, none⟩ (.int .i64 a.n)).setCell ⟨w.heap.size + 1 + 1, 2, none⟩ (.string (str a.s))) x y := by
  obtain ⟨h1, k, n, s, h2⟩ := h
  exact ⟨⟨(set3_other a (by omega)).trans h1.1, (set3_other a (by omega)).trans h1.2.1, set3_below a h1.2.2 (by omega)⟩, a.k, a.n, str a.s, set3 h2 a⟩
theorem tri_new (w : World) (x y : Val) : Tri w (((w.alloc (BX x.k x.n (str x.s))).alloc (BX y.k y.n (str y.s))).alloc (BX 0 0 ⟨#[]⟩)) x y := ⟨(two_new w x y).al _, 0, 0, ⟨#[]⟩, hp_3 w _ _ _⟩
set_option maxRecDepth 100000 in
set_option maxHeartbeats 3200000 in
theorem do_reg1 (op : Int) (a b : Val) (w u0 : World) (hT : Tri w u0 a b) {Q : Exit → Act → World → Prop}
    (h : ∀ u, Tri w u (normV a) (normV b) → Q .normal ⟨#[.int .i64 op, .agg #[.int .i64 a.k, .int .i64 a.n, .string (str a.s)], .agg #[.int .i64 b.k, .int .i64 b.n, .string (str b.s)], undef, .pointer (some ⟨w.heap.size, 0, none⟩), .pointer (some ⟨w.heap.size + 1, 0, none⟩), .pointer (some ⟨w.heap.size + 1 + 1, 0, none⟩), .int .i64 0, undef, undef, .agg #[.int .i64 a.k, .int .i64 a.n, .string (str a.s)], .agg #[.int .i64 (normV a).k, .int .i64 (normV a).n, .string (str (normV a).s)], .agg #[.int .i64 b.k, .int .i64 b.n, .string (str b.s)], .agg #[.int .i64 (normV b).k, .int .i64 (normV b).n, .string (str (normV b).s)], undef, undef, undef, undef, undef, undef, undef, undef, undef, undef, undef, undef, undef, undef, undef, undef, undef, undef, undef, undef, undef, undef, undef, undef, undef, undef, undef, undef, undef, undef, undef, undef, undef, undef, undef, undef, undef], []⟩ u) :
    Code.wp Try.prog (.region 1 #[({ dst := some 10, op := Op.load 23 (Operand.tmp 4), type := 23, pos := "operators.go:14", after := #[], guard := none } : Oper), ({ dst := some 11, op := Op.call { callee := Callee.value (Operand.func 30), args := #[Operand.tmp 10], argTypes := #[23] }, type := 23, pos := "operators.go:14", after := #[{ on := 0, ground := Ground.data }], guard := none } : Oper), ({ dst := some 12, op := Op.load 23 (Operand.tmp 5), type := 23, pos := "operators.go:14", after := #[], guard := none } : Oper), ({ dst := some 13, op := Op.call { callee := Callee.value (Operand.func 30), args := #[Operand.tmp 12], argTypes := #[23] }, type := 23, pos := "operators.go:14", after := #[{ on := 2, ground := Ground.data }, { on := 1, ground := Ground.chain }], guard := none } : Oper), ({ dst := none, op := Op.store 23 (Operand.tmp 4) (Operand.tmp 11), type := 0, pos := "operators.go:14", after := #[{ on := 1, ground := Ground.data }, { on := 3, ground := Ground.chain }, { on := 0, ground := Ground.phase }, { on := 1, ground := Ground.phase }, { on := 2, ground := Ground.textOnly Departure.lateStores }, { on := 3, ground := Ground.textOnly Departure.lateStoresUnsure }], guard := none } : Oper), ({ dst := none, op := Op.store 23 (Operand.tmp 5) (Operand.tmp 13), type := 0, pos := "operators.go:14", after := #[{ on := 3, ground := Ground.data }, { on := 4, ground := Ground.chain }, { on := 0, ground := Ground.phase }, { on := 1, ground := Ground.phase }, { on := 2, ground := Ground.phase }, { on := 3, ground := Ground.phase }, { on := 4, ground := Ground.phase }], guard := none } : Oper)] true) Q ⟨#[.int .i64 op, .agg #[.int .i64 a.k, .int .i64 a.n, .string (str a.s)], .agg #[.int .i64 b.k, .int .i64 b.n, .string (str b.s)], undef, .pointer (some ⟨w.heap.size, 0, none⟩), .pointer (some ⟨w.heap.size + 1, 0, none⟩), .pointer (some ⟨w.heap.size + 1 + 1, 0, none⟩), .int .i64 0, undef, undef, undef, undef, undef, undef, undef, undef, undef, undef, undef, undef, undef, undef, undef, undef, undef, undef, undef, undef, undef, undef, undef, undef, undef, undef, undef, undef, undef, undef, undef, undef, undef, undef, undef, undef, undef, undef, undef, undef, undef, undef, undef], []⟩ u0 := by
  dsimp only at h ⊢
  have HN := Lib.hid h
  clear h
  obtain ⟨r0, r1, r2⟩ := bx_cells hT.1.1
  obtain ⟨s0, s1, s2⟩ := bx_cells hT.1.2.1
  replace hT := hT.drew
  refine wp_region_held_drew (S := fun u => Tri w u a b ∨ Tri w u (normV a) b ∨ Tri w u (normV a) (normV b)) (by kernel_rfl) ((Or.inl hT)) (fun hHeld => ?_)
  refine wpAnyH_ready (rs := [0, 2]) (by kernel_rfl) (by simp) ?_
  refine (AllReadyH.cons (o := ({ dst := some 10, op := Op.load 23 (Operand.tmp 4), type := 23, pos := "operators.go:14", after := #[], guard := none } : Oper)) rfl (fun K hK => ?_) (AllReadyH.cons (o := ({ dst := some 12, op := Op.load 23 (Operand.tmp 5), type := 23, pos := "operators.go:14", after := #[], guard := none } : Oper)) rfl (fun K hK => ?_) AllReadyH.nil))
  · obtain ⟨p0, p1, p2⟩ := bx_cells hT.1.1
    go_simp
    refine hK.out _ _ (Or.inl hT) (fun hHeld => ?_)
    clear hK K
    try simp only [Act.put, List.setIfInBounds_toArray, List.set_cons_zero, List.set_cons_succ]
    refine wpAnyH_ready (rs := [1, 2]) (by kernel_rfl) (by simp) ?_
    refine (AllReadyH.cons (o := ({ dst := some 11, op := Op.call { callee := Callee.value (Operand.func 30), args := #[Operand.tmp 10], argTypes := #[23] }, type := 23, pos := "operators.go:14", after := #[{ on := 0, ground := Ground.data }], guard := none } : Oper)) rfl (fun K hK => ?_) (AllReadyH.cons (o := ({ dst := some 12, op := Op.load 23 (Operand.tmp 5), type := 23, pos := "operators.go:14", after := #[], guard := none } : Oper)) rfl (fun K hK => ?_) AllReadyH.nil))
    · go_simp
      go_at_call 30
      refine (plain_any a _).mono ?_
      rintro e w' ⟨rfl, hb⟩
      replace hT := hT.below hb
      go_wp2_with fail
      refine hK.out _ _ (Or.inl hT) (fun hHeld => ?_)
      clear hK K
      try simp only [Act.put, List.setIfInBounds_toArray, List.set_cons_zero, List.set_cons_succ]
      refine wpAnyH_ready (rs := [2]) (by kernel_rfl) (by simp) ?_
      refine (AllReadyH.cons (o := ({ dst := some 12, op := Op.load 23 (Operand.tmp 5), type := 23, pos := "operators.go:14", after := #[], guard := none } : Oper)) rfl (fun K hK => ?_) AllReadyH.nil)
      obtain ⟨q0, q1, q2⟩ := bx_cells hT.1.2.1
      go_simp
      refine hK.out _ _ (Or.inl hT) (fun hHeld => ?_)
      clear hK K
      try simp only [Act.put, List.setIfInBounds_toArray, List.set_cons_zero, List.set_cons_succ]
      refine wpAnyH_ready (rs := [3]) (by kernel_rfl) (by simp) ?_
      refine (AllReadyH.cons (o := ({ dst := some 13, op := Op.call { callee := Callee.value (Operand.func 30), args := #[Operand.tmp 12], argTypes := #[23] }, type := 23, pos := "operators.go:14", after := #[{ on := 2, ground := Ground.data }, { on := 1, ground := Ground.chain }], guard := none } : Oper)) rfl (fun K hK => ?_) AllReadyH.nil)
      go_simp
      go_at_call 30
      refine (plain_any b _).mono ?_
      rintro e w' ⟨rfl, hb⟩
      replace hT := hT.below hb
      go_wp2_with fail
      refine hK.out _ _ (Or.inl hT) (fun hHeld => ?_)
      clear hK K
      try simp only [Act.put, List.setIfInBounds_toArray, List.set_cons_zero, List.set_cons_succ]
      refine wpAnyH_ready (rs := [4]) (by kernel_rfl) (by simp) ?_
      refine (AllReadyH.cons (o := ({ dst := none, op := Op.store 23 (Operand.tmp 4) (Operand.tmp 11), type := 0, pos := "operators.go:14", after := #[{ on := 1, ground := Ground.data }, { on := 3, ground := Ground.chain }, { on := 0, ground := Ground.phase }, { on := 1, ground := Ground.phase }, { on := 2, ground := Ground.textOnly Departure.lateStores }, { on := 3, ground := Ground.textOnly Departure.lateStoresUnsure }], guard := none } : Oper)) rfl (fun K hK => ?_) AllReadyH.nil)
      obtain ⟨p0, p1, p2⟩ := bx_cells hT.1.1
      obtain ⟨f0, f1, f2⟩ := bx_free hT.1.1
      replace hT := hT.set1 (normV a)
      go_simp
      refine hK.out _ _ (Or.inr (Or.inl hT)) (fun hHeld => ?_)
      clear hK K
      try simp only [Act.put]
      refine wpAnyH_ready (rs := [5]) (by kernel_rfl) (by simp) ?_
      refine (AllReadyH.cons (o := ({ dst := none, op := Op.store 23 (Operand.tmp 5) (Operand.tmp 13), type := 0, pos := "operators.go:14", after := #[{ on := 3, ground := Ground.data }, { on := 4, ground := Ground.chain }, { on := 0, ground := Ground.phase }, { on := 1, ground := Ground.phase }, { on := 2, ground := Ground.phase }, { on := 3, ground := Ground.phase }, { on := 4, ground := Ground.phase }], guard := none } : Oper)) rfl (fun K hK => ?_) AllReadyH.nil)
      obtain ⟨q0, q1, q2⟩ := bx_cells hT.1.2.1
      obtain ⟨f0, f1, f2⟩ := bx_free hT.1.2.1
      replace hT := hT.set2 (normV b)
      go_simp
      refine hK.out _ _ (Or.inr (Or.inr hT)) (fun hHeld => ?_)
      clear hK K
      try simp only [Act.put]
      refine wpAnyH_done (by kernel_rfl) ?_ _
      exact HN.out _ hT
    · obtain ⟨q0, q1, q2⟩ := bx_cells hT.1.2.1
      go_simp
      refine hK.out _ _ (Or.inl hT) (fun hHeld => ?_)
      clear hK K
      try simp only [Act.put, List.setIfInBounds_toArray, List.set_cons_zero, List.set_cons_succ]
      refine wpAnyH_ready (rs := [1]) (by kernel_rfl) (by simp) ?_
      refine (AllReadyH.cons (o := ({ dst := some 11, op := Op.call { callee := Callee.value (Operand.func 30), args := #[Operand.tmp 10], argTypes := #[23] }, type := 23, pos := "operators.go:14", after := #[{ on := 0, ground := Ground.data }], guard := none } : Oper)) rfl (fun K hK => ?_) AllReadyH.nil)
      go_simp
      go_at_call 30
      refine (plain_any a _).mono ?_
      rintro e w' ⟨rfl, hb⟩
      replace hT := hT.below hb
      go_wp2_with fail
      refine hK.out _ _ (Or.inl hT) (fun hHeld => ?_)
      clear hK K
      try simp only [Act.put, List.setIfInBounds_toArray, List.set_cons_zero, List.set_cons_succ]
      refine wpAnyH_ready (rs := [3]) (by kernel_rfl) (by simp) ?_
      refine (AllReadyH.cons (o := ({ dst := some 13, op := Op.call { callee := Callee.value (Operand.func 30), args := #[Operand.tmp 12], argTypes := #[23] }, type := 23, pos := "operators.go:14", after := #[{ on := 2, ground := Ground.data }, { on := 1, ground := Ground.chain }], guard := none } : Oper)) rfl (fun K hK => ?_) AllReadyH.nil)
      go_simp
      go_at_call 30
      refine (plain_any b _).mono ?_
      rintro e w' ⟨rfl, hb⟩
      replace hT := hT.below hb
      go_wp2_with fail
      refine hK.out _ _ (Or.inl hT) (fun hHeld => ?_)
      clear hK K
      try simp only [Act.put, List.setIfInBounds_toArray, List.set_cons_zero, List.set_cons_succ]
      refine wpAnyH_ready (rs := [4]) (by kernel_rfl) (by simp) ?_
      refine (AllReadyH.cons (o := ({ dst := none, op := Op.store 23 (Operand.tmp 4) (Operand.tmp 11), type := 0, pos := "operators.go:14", after := #[{ on := 1, ground := Ground.data }, { on := 3, ground := Ground.chain }, { on := 0, ground := Ground.phase }, { on := 1, ground := Ground.phase }, { on := 2, ground := Ground.textOnly Departure.lateStores }, { on := 3, ground := Ground.textOnly Departure.lateStoresUnsure }], guard := none } : Oper)) rfl (fun K hK => ?_) AllReadyH.nil)
      obtain ⟨p0, p1, p2⟩ := bx_cells hT.1.1
      obtain ⟨f0, f1, f2⟩ := bx_free hT.1.1
      replace hT := hT.set1 (normV a)
      go_simp
      refine hK.out _ _ (Or.inr (Or.inl hT)) (fun hHeld => ?_)
      clear hK K
      try simp only [Act.put]
      refine wpAnyH_ready (rs := [5]) (by kernel_rfl) (by simp) ?_
      refine (AllReadyH.cons (o := ({ dst := none, op := Op.store 23 (Operand.tmp 5) (Operand.tmp 13), type := 0, pos := "operators.go:14", after := #[{ on := 3, ground := Ground.data }, { on := 4, ground := Ground.chain }, { on := 0, ground := Ground.phase }, { on := 1, ground := Ground.phase }, { on := 2, ground := Ground.phase }, { on := 3, ground := Ground.phase }, { on := 4, ground := Ground.phase }], guard := none } : Oper)) rfl (fun K hK => ?_) AllReadyH.nil)
      obtain ⟨q0, q1, q2⟩ := bx_cells hT.1.2.1
      obtain ⟨f0, f1, f2⟩ := bx_free hT.1.2.1
      replace hT := hT.set2 (normV b)
      go_simp
      refine hK.out _ _ (Or.inr (Or.inr hT)) (fun hHeld => ?_)
      clear hK K
      try simp only [Act.put]
      refine wpAnyH_done (by kernel_rfl) ?_ _
      exact HN.out _ hT
  · obtain ⟨q0, q1, q2⟩ := bx_cells hT.1.2.1
    go_simp
    refine hK.out _ _ (Or.inl hT) (fun hHeld => ?_)
    clear hK K
    try simp only [Act.put, List.setIfInBounds_toArray, List.set_cons_zero, List.set_cons_succ]
    refine wpAnyH_ready (rs := [0]) (by kernel_rfl) (by simp) ?_
    refine (AllReadyH.cons (o := ({ dst := some 10, op := Op.load 23 (Operand.tmp 4), type := 23, pos := "operators.go:14", after := #[], guard := none } : Oper)) rfl (fun K hK => ?_) AllReadyH.nil)
    obtain ⟨p0, p1, p2⟩ := bx_cells hT.1.1
    go_simp
    refine hK.out _ _ (Or.inl hT) (fun hHeld => ?_)
    clear hK K
    try simp only [Act.put, List.setIfInBounds_toArray, List.set_cons_zero, List.set_cons_succ]
    refine wpAnyH_ready (rs := [1]) (by kernel_rfl) (by simp) ?_
    refine (AllReadyH.cons (o := ({ dst := some 11, op := Op.call { callee := Callee.value (Operand.func 30), args := #[Operand.tmp 10], argTypes := #[23] }, type := 23, pos := "operators.go:14", after := #[{ on := 0, ground := Ground.data }], guard := none } : Oper)) rfl (fun K hK => ?_) AllReadyH.nil)
    go_simp
    go_at_call 30
    refine (plain_any a _).mono ?_
    rintro e w' ⟨rfl, hb⟩
    replace hT := hT.below hb
    go_wp2_with fail
    refine hK.out _ _ (Or.inl hT) (fun hHeld => ?_)
    clear hK K
    try simp only [Act.put, List.setIfInBounds_toArray, List.set_cons_zero, List.set_cons_succ]
    refine wpAnyH_ready (rs := [3]) (by kernel_rfl) (by simp) ?_
    refine (AllReadyH.cons (o := ({ dst := some 13, op := Op.call { callee := Callee.value (Operand.func 30), args := #[Operand.tmp 12], argTypes := #[23] }, type := 23, pos := "operators.go:14", after := #[{ on := 2, ground := Ground.data }, { on := 1, ground := Ground.chain }], guard := none } : Oper)) rfl (fun K hK => ?_) AllReadyH.nil)
    go_simp
    go_at_call 30
    refine (plain_any b _).mono ?_
    rintro e w' ⟨rfl, hb⟩
    replace hT := hT.below hb
    go_wp2_with fail
    refine hK.out _ _ (Or.inl hT) (fun hHeld => ?_)
    clear hK K
    try simp only [Act.put, List.setIfInBounds_toArray, List.set_cons_zero, List.set_cons_succ]
    refine wpAnyH_ready (rs := [4]) (by kernel_rfl) (by simp) ?_
    refine (AllReadyH.cons (o := ({ dst := none, op := Op.store 23 (Operand.tmp 4) (Operand.tmp 11), type := 0, pos := "operators.go:14", after := #[{ on := 1, ground := Ground.data }, { on := 3, ground := Ground.chain }, { on := 0, ground := Ground.phase }, { on := 1, ground := Ground.phase }, { on := 2, ground := Ground.textOnly Departure.lateStores }, { on := 3, ground := Ground.textOnly Departure.lateStoresUnsure }], guard := none } : Oper)) rfl (fun K hK => ?_) AllReadyH.nil)
    obtain ⟨p0, p1, p2⟩ := bx_cells hT.1.1
    obtain ⟨f0, f1, f2⟩ := bx_free hT.1.1
    replace hT := hT.set1 (normV a)
    go_simp
    refine hK.out _ _ (Or.inr (Or.inl hT)) (fun hHeld => ?_)
    clear hK K
    try simp only [Act.put]
    refine wpAnyH_ready (rs := [5]) (by kernel_rfl) (by simp) ?_
    refine (AllReadyH.cons (o := ({ dst := none, op := Op.store 23 (Operand.tmp 5) (Operand.tmp 13), type := 0, pos := "operators.go:14", after := #[{ on := 3, ground := Ground.data }, { on := 4, ground := Ground.chain }, { on := 0, ground := Ground.phase }, { on := 1, ground := Ground.phase }, { on := 2, ground := Ground.phase }, { on := 3, ground := Ground.phase }, { on := 4, ground := Ground.phase }], guard := none } : Oper)) rfl (fun K hK => ?_) AllReadyH.nil)
    obtain ⟨q0, q1, q2⟩ := bx_cells hT.1.2.1
    obtain ⟨f0, f1, f2⟩ := bx_free hT.1.2.1
    replace hT := hT.set2 (normV b)
    go_simp
    refine hK.out _ _ (Or.inr (Or.inr hT)) (fun hHeld => ?_)
    clear hK K
    try simp only [Act.put]
    refine wpAnyH_done (by kernel_rfl) ?_ _
    exact HN.out _ hT
end Go.Proofs.Ytbhilmgpmebaiaa
namespace Go.Proofs.Ytbhilmgpmebaiaa
open Go.RowKit
theorem hp_4 (w : World) (a b c d : Obj) : ((((w.alloc a).alloc b).alloc c).alloc d).heap[w.heap.size + 1 + 1 + 1]? = some d := by
  have := heap_alloc_new (((w.alloc a).alloc b).alloc c) d
  simpa using this
def ofR (a b : Val) (q : Int × Int) : Val × Int := if (okK 1 a.k && okK 1 b.k) = false then (nulV, 22) else if a = nulV ∨ b = nulV then (nulV, 0) else if q.2 ≠ 0 then (nulV, q.2) else (numV q.1, 0)
set_option maxHeartbeats 1600000 in
theorem calcOf_add (a b : Val) (w : World) (q : Int × Int) (ha : Rng a.s) (hb : Rng b.s) (hq : ∀ w, Calls Try.prog 61 #[.int .i64 a.n, .int .i64 b.n] w fun e w' => e = .returned (.tuple #[.int .i64 q.1, .int .i64 q.2]) ∧ w' = w) :
    Calls Try.prog 34 #[.func (.func 61) #[] #[], .agg #[.int .i64 a.k, .int .i64 a.n, .string (str a.s)], .agg #[.int .i64 b.k, .int .i64 b.n, .string (str b.s)]] w fun e w' => e = .returned (.tuple #[.agg #[.int .i64 ((ofR a b q).1).k, .int .i64 ((ofR a b q).1).n, .string (str ((ofR a b q).1).s)], .int .i64 (ofR a b q).2]) ∧ Below w.heap.size w w' := by
  obtain ⟨q1, q2⟩ := q
  have HQ := Lib.hid hq
  have HA := fun H T w h => allOf2_any 1 a.k b.k H T w h
  have HNA := fun w => isNull_any a w ha
  have HNB := fun w => isNull_any b w hb
  clear hq
  cases hok : (okK 1 a.k && okK 1 b.k) with
  | false =>
    simp only [hok] at HA
    replace HA := Lib.hid HA
    rw [show ofR a b (q1, q2) = (nulV, 22) by rw [ofR, if_pos hok]]
    clear hok HNA HNB
    go_enter Try.func34, Try.ntmps34
    go_wp2_with (first
      | (go_at_call 55; refine (HA.out _ _ _ (hp_4 _ _ _ _ _)).mono ?_; rintro e w' ⟨rfl, rfl⟩))
    refine bodyPost_ret (v := .tuple #[.agg #[.int .i64 0, .int .i64 0, .string ⟨#[]⟩], .int .i64 22]) (by simp [results, Try.results34, go_sem]) rfl ⟨?_, ?_⟩
    · rfl
    · (repeat (first | exact Below.refl _ _ | refine bl_al ?_ _ | refine Below.setCell ?_ (by first | omega | (simp; done) | (simp; omega)) _))
  | true =>
    simp only [hok] at HA
    replace HA := Lib.hid HA
    by_cases na : a = nulV
    · rw [show ofR a b (q1, q2) = (nulV, 0) by rw [ofR, hok, if_neg (by decide), if_pos (.inl na)]]
      simp only [decide_eq_true na] at HNA
      replace HNA := Lib.hid HNA
      clear hok HNB na
      go_enter Try.func34, Try.ntmps34
      go_wp2_with (first
        | (go_at_call 55; refine (HA.out _ _ _ (hp_4 _ _ _ _ _)).mono ?_; rintro e w' ⟨rfl, rfl⟩)
        | (go_at_call 65; refine (HNA.out _).mono ?_; rintro e w' ⟨rfl, rfl⟩))
      refine bodyPost_ret (v := .tuple #[.agg #[.int .i64 0, .int .i64 0, .string ⟨#[]⟩], .int .i64 0]) (by simp [results, Try.results34, go_sem]) rfl ⟨?_, ?_⟩
      · rfl
      · (repeat (first | exact Below.refl _ _ | refine bl_al ?_ _ | refine Below.setCell ?_ (by first | omega | (simp; done) | (simp; omega)) _))
    simp only [decide_eq_false na] at HNA
    replace HNA := Lib.hid HNA
    by_cases nb : b = nulV
    · rw [show ofR a b (q1, q2) = (nulV, 0) by rw [ofR, hok, if_neg (by decide), if_pos (.inr nb)]]
      simp only [decide_eq_true nb] at HNB
      replace HNB := Lib.hid HNB
      clear hok na nb
      go_enter Try.func34, Try.ntmps34
      go_wp2_with (first
        | (go_at_call 55; refine (HA.out _ _ _ (hp_4 _ _ _ _ _)).mono ?_; rintro e w' ⟨rfl, rfl⟩)
        | (go_at_call 65; refine (HNA.out _).mono ?_; rintro e w' ⟨rfl, rfl⟩; clear HNA)
        | (go_at_call 65; refine (HNB.out _).mono ?_; rintro e w' ⟨rfl, rfl⟩))
      refine bodyPost_ret (v := .tuple #[.agg #[.int .i64 0, .int .i64 0, .string ⟨#[]⟩], .int .i64 0]) (by simp [results, Try.results34, go_sem]) rfl ⟨?_, ?_⟩
      · rfl
      · (repeat (first | exact Below.refl _ _ | refine bl_al ?_ _ | refine Below.setCell ?_ (by first | omega | (simp; done) | (simp; omega)) _))
    simp only [decide_eq_false nb] at HNB
    replace HNB := Lib.hid HNB
    by_cases n2 : q2 = 0
    · subst n2
      rw [show ofR a b (q1, 0) = (numV q1, 0) by rw [ofR, hok, if_neg (by decide), if_neg (by simp [na, nb]), if_neg (by simp)]]
      clear hok na nb
      go_enter Try.func34, Try.ntmps34
      go_wp2_with (first
        | (go_at_call 55; refine (HA.out _ _ _ (hp_4 _ _ _ _ _)).mono ?_; rintro e w' ⟨rfl, rfl⟩)
        | (go_at_call 65; refine (HNA.out _).mono ?_; rintro e w' ⟨rfl, rfl⟩; clear HNA)
        | (go_at_call 65; refine (HNB.out _).mono ?_; rintro e w' ⟨rfl, rfl⟩)
        | (go_at_call 61; refine (HQ.out _).mono ?_; rintro e w' ⟨rfl, rfl⟩)
        | (go_at_call 57; refine (integer_any _ _).mono ?_; rintro e w' ⟨rfl, rfl⟩))
      refine bodyPost_ret (v := .tuple #[.agg #[.int .i64 1, .int .i64 q1, .string ⟨#[]⟩], .int .i64 0]) (by simp [results, Try.results34, go_sem]) rfl ⟨?_, ?_⟩
      · rfl
      · (repeat (first | exact Below.refl _ _ | refine bl_al ?_ _ | refine Below.setCell ?_ (by first | omega | (simp; done) | (simp; omega)) _))
    · rw [show ofR a b (q1, q2) = (nulV, q2) by rw [ofR, hok, if_neg (by decide), if_neg (by simp [na, nb]), if_pos n2]]
      have g : (q2 != 0) = true := bne_iff_ne.2 n2
      clear hok na nb
      go_enter Try.func34, Try.ntmps34
      go_wp2_with (first
        | (go_at_call 55; refine (HA.out _ _ _ (hp_4 _ _ _ _ _)).mono ?_; rintro e w' ⟨rfl, rfl⟩)
        | (go_at_call 65; refine (HNA.out _).mono ?_; rintro e w' ⟨rfl, rfl⟩; clear HNA)
        | (go_at_call 65; refine (HNB.out _).mono ?_; rintro e w' ⟨rfl, rfl⟩)
        | (go_at_call 61; refine (HQ.out _).mono ?_; rintro e w' ⟨rfl, rfl⟩))
      refine bodyPost_ret (v := .tuple #[.agg #[.int .i64 0, .int .i64 0, .string ⟨#[]⟩], .int .i64 q2]) (by simp [results, Try.results34, go_sem]) rfl ⟨?_, ?_⟩
      · rfl
      · (repeat (first | exact Below.refl _ _ | refine bl_al ?_ _ | refine Below.setCell ?_ (by first | omega | (simp; done) | (simp; omega)) _))
end Go.Proofs.Ytbhilmgpmebaiaa
namespace Go.Proofs.Ytbhilmgpmebaiaa
open Go.RowKit
set_option maxHeartbeats 1600000 in
theorem calcOf_divide (a b : Val) (w : World) (q : Int × Int) (ha : Rng a.s) (hb : Rng b.s) (hq : ∀ w, Calls Try.prog 63 #[.int .i64 a.n, .int .i64 b.n] w fun e w' => e = .returned (.tuple #[.int .i64 q.1, .int .i64 q.2]) ∧ w' = w) :
    Calls Try.prog 34 #[.func (.func 63) #[] #[], .agg #[.int .i64 a.k, .int .i64 a.n, .string (str a.s)], .agg #[.int .i64 b.k, .int .i64 b.n, .string (str b.s)]] w fun e w' => e = .returned (.tuple #[.agg #[.int .i64 ((ofR a b q).1).k, .int .i64 ((ofR a b q).1).n, .string (str ((ofR a b q).1).s)], .int .i64 (ofR a b q).2]) ∧ Below w.heap.size w w' := by
  obtain ⟨q1, q2⟩ := q
  have HQ := Lib.hid hq
  have HA := fun H T w h => allOf2_any 1 a.k b.k H T w h
  have HNA := fun w => isNull_any a w ha
  have HNB := fun w => isNull_any b w hb
  clear hq
  cases hok : (okK 1 a.k && okK 1 b.k) with
  | false =>
    simp only [hok] at HA
    replace HA := Lib.hid HA
    rw [show ofR a b (q1, q2) = (nulV, 22) by rw [ofR, if_pos hok]]
    clear hok HNA HNB
    go_enter Try.func34, Try.ntmps34
    go_wp2_with (first
      | (go_at_call 55; refine (HA.out _ _ _ (hp_4 _ _ _ _ _)).mono ?_; rintro e w' ⟨rfl, rfl⟩))
    refine bodyPost_ret (v := .tuple #[.agg #[.int .i64 0, .int .i64 0, .string ⟨#[]⟩], .int .i64 22]) (by simp [results, Try.results34, go_sem]) rfl ⟨?_, ?_⟩
    · rfl
    · (repeat (first | exact Below.refl _ _ | refine bl_al ?_ _ | refine Below.setCell ?_ (by first | omega | (simp; done) | (simp; omega)) _))
  | true =>
    simp only [hok] at HA
    replace HA := Lib.hid HA
    by_cases na : a = nulV
    · rw [show ofR a b (q1, q2) = (nulV, 0) by rw [ofR, hok, if_neg (by decide), if_pos (.inl na)]]
      simp only [decide_eq_true na] at HNA
      replace HNA := Lib.hid HNA
      clear hok HNB na
      go_enter Try.func34, Try.ntmps34
      go_wp2_with (first
        | (go_at_call 55; refine (HA.out _ _ _ (hp_4 _ _ _ _ _)).mono ?_; rintro e w' ⟨rfl, rfl⟩)
        | (go_at_call 65; refine (HNA.out _).mono ?_; rintro e w' ⟨rfl, rfl⟩))
      refine bodyPost_ret (v := .tuple #[.agg #[.int .i64 0, .int .i64 0, .string ⟨#[]⟩], .int .i64 0]) (by simp [results, Try.results34, go_sem]) rfl ⟨?_, ?_⟩
      · rfl
      · (repeat (first | exact Below.refl _ _ | refine bl_al ?_ _ | refine Below.setCell ?_ (by first | omega | (simp; done) | (simp; omega)) _))
    simp only [decide_eq_false na] at HNA
    replace HNA := Lib.hid HNA
    by_cases nb : b = nulV
    · rw [show ofR a b (q1, q2) = (nulV, 0) by rw [ofR, hok, if_neg (by decide), if_pos (.inr nb)]]
      simp only [decide_eq_true nb] at HNB
      replace HNB := Lib.hid HNB
      clear hok na nb
      go_enter Try.func34, Try.ntmps34
      go_wp2_with (first
        | (go_at_call 55; refine (HA.out _ _ _ (hp_4 _ _ _ _ _)).mono ?_; rintro e w' ⟨rfl, rfl⟩)
        | (go_at_call 65; refine (HNA.out _).mono ?_; rintro e w' ⟨rfl, rfl⟩; clear HNA)
        | (go_at_call 65; refine (HNB.out _).mono ?_; rintro e w' ⟨rfl, rfl⟩))
      refine bodyPost_ret (v := .tuple #[.agg #[.int .i64 0, .int .i64 0, .string ⟨#[]⟩], .int .i64 0]) (by simp [results, Try.results34, go_sem]) rfl ⟨?_, ?_⟩
      · rfl
      · (repeat (first | exact Below.refl _ _ | refine bl_al ?_ _ | refine Below.setCell ?_ (by first | omega | (simp; done) | (simp; omega)) _))
    simp only [decide_eq_false nb] at HNB
    replace HNB := Lib.hid HNB
    by_cases n2 : q2 = 0
    · subst n2
      rw [show ofR a b (q1, 0) = (numV q1, 0) by rw [ofR, hok, if_neg (by decide), if_neg (by simp [na, nb]), if_neg (by simp)]]
      clear hok na nb
      go_enter Try.func34, Try.ntmps34
      go_wp2_with (first
        | (go_at_call 55; refine (HA.out _ _ _ (hp_4 _ _ _ _ _)).mono ?_; rintro e w' ⟨rfl, rfl⟩)
        | (go_at_call 65; refine (HNA.out _).mono ?_; rintro e w' ⟨rfl, rfl⟩; clear HNA)
        | (go_at_call 65; refine (HNB.out _).mono ?_; rintro e w' ⟨rfl, rfl⟩)
        | (go_at_call 63; refine (HQ.out _).mono ?_; rintro e w' ⟨rfl, rfl⟩)
        | (go_at_call 57; refine (integer_any _ _).mono ?_; rintro e w' ⟨rfl, rfl⟩))
      refine bodyPost_ret (v := .tuple #[.agg #[.int .i64 1, .int .i64 q1, .string ⟨#[]⟩], .int .i64 0]) (by simp [results, Try.results34, go_sem]) rfl ⟨?_, ?_⟩
      · rfl
      · (repeat (first | exact Below.refl _ _ | refine bl_al ?_ _ | refine Below.setCell ?_ (by first | omega | (simp; done) | (simp; omega)) _))
    · rw [show ofR a b (q1, q2) = (nulV, q2) by rw [ofR, hok, if_neg (by decide), if_neg (by simp [na, nb]), if_pos n2]]
      have g : (q2 != 0) = true := bne_iff_ne.2 n2
      clear hok na nb
      go_enter Try.func34, Try.ntmps34
      go_wp2_with (first
        | (go_at_call 55; refine (HA.out _ _ _ (hp_4 _ _ _ _ _)).mono ?_; rintro e w' ⟨rfl, rfl⟩)
        | (go_at_call 65; refine (HNA.out _).mono ?_; rintro e w' ⟨rfl, rfl⟩; clear HNA)
        | (go_at_call 65; refine (HNB.out _).mono ?_; rintro e w' ⟨rfl, rfl⟩)
        | (go_at_call 63; refine (HQ.out _).mono ?_; rintro e w' ⟨rfl, rfl⟩))
      refine bodyPost_ret (v := .tuple #[.agg #[.int .i64 0, .int .i64 0, .string ⟨#[]⟩], .int .i64 q2]) (by simp [results, Try.results34, go_sem]) rfl ⟨?_, ?_⟩
      · rfl
      · (repeat (first | exact Below.refl _ _ | refine bl_al ?_ _ | refine Below.setCell ?_ (by first | omega | (simp; done) | (simp; omega)) _))
end Go.Proofs.Ytbhilmgpmebaiaa
namespace Go.Proofs.Ytbhilmgpmebaiaa
open Go.RowKit
attribute [local go_sem ↓] eql32_eq neq32_eq
end Go.Proofs.Ytbhilmgpmebaiaa
namespace Go.Proofs.Ytbhilmgpmebaiaa
open Go.RowKit
attribute [local go_sem ↓] eql32_eq neq32_eq
end Go.Proofs.Ytbhilmgpmebaiaa
namespace Go.Proofs.Ytbhilmgpmebaiaa
open Go.RowKit
attribute [local go_sem ↓] eql32_eq neq32_eq
theorem hp_drew {w : World} {H : Nat} {x : Obj} (h : w.heap[H]? = some x) : w.drew.heap[H]? = some x := h
def testV (a : Val) (b : Bool) : Val × Int := (truV (decide (a = nulV) == b), 0)
end Go.Proofs.Ytbhilmgpmebaiaa
namespace Go.Proofs.Ytbhilmgpmebaiaa
open Go.RowKit
attribute [local go_sem ↓] eql32_eq neq32_eq
theorem hp4 (w : World) (a b c d : Obj) : ((((w.alloc a).alloc b).alloc c).alloc d).heap[w.heap.size + 1 + 1 + 1]? = some d := by
  have := heap_alloc_new (((w.alloc a).alloc b).alloc c) d
  simpa using this
theorem run_eqT (u : World) (a : Val) (b : Bool) (ha : Rng a.s) : (eql32 (.agg #[.int .i64 a.k, .int .i64 a.n, .string (str a.s)]) (.agg #[.int .i64 3, .int .i64 (if b = true then 1 else 0), .string ⟨#[]⟩])).run Try.prog u = .ok (.bool (decide (a = truV b))) u := run_eql32 u a (truV b) ha (fun x hx => by simp [truV] at hx)
def notV (a : Val) : Val × Int := if okK 3 a.k = false then (nulV, 22) else if a = nulV then (nulV, 0) else (truV (decide (a = truV false)), 0)
end Go.Proofs.Ytbhilmgpmebaiaa
