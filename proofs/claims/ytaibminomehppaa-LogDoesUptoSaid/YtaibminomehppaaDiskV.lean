import Derived.Test.YtaibminomehppaaDiskR
import Derived.WalkKit
import Derived.ProofKit
import Derived.BigQuiet
import Derived.Deep.QuietTactic
import Derived.WalkSpells
import Derived.WalkLawsBesides
import Derived.Lib.Hide
import Derived.Deep.MidRow
import Derived.Deep.RegionLaw
import Derived.BigRegion
import Derived.Laws.AppendOwnNone
import Derived.Deep.DeepMust
import Derived.Deep.AppendLies
import Derived.RegionTactic
import Derived.Deep.WholeRow
import Derived.BigFrame
import Derived.Deep.RegionWith
import Derived.Deep.RegionHeld3
import Derived.Maps.RangeWalk
import Derived.Laws.CopyOwn
import Derived.StillTailTactics
namespace Go.Proofs.Ytaibminomehppaa
open Go.RowKit
theorem rwL_one (x : RW) : ∀ v ∈ rwL x, v.oneCell' = true := by
  intro v hv
  simp only [rwL, List.mem_cons, List.mem_map] at hv
  rcases hv with rfl | ⟨x, _, rfl⟩ <;> rfl
theorem flatR_snoc (K : List RW) (x : RW) : flatR (K ++ [x]) = flatR K ++ rwL x := by simp [flatR]
theorem info_rw_parts : ∃ i z, Try.prog.info? 134 = some i ∧ i.zero = some z ∧ z.cells.size = 257 ∧ i.size = 257 ∧ i.bytes = 264 := by
  have h : (Try.prog.info? 134).map (fun i => (i.zero.map (fun z => z.cells.size), i.size, i.bytes)) = some (some 257, 257, 264) := by kernel_rfl
  cases hi : Try.prog.info? 134 with
  | none => rw [hi] at h; cases h
  | some i =>
    rw [hi] at h
    simp only [Option.map_some, Option.some.injEq, Prod.mk.injEq] at h
    obtain ⟨h1, h2, h3⟩ := h
    cases hz : i.zero with
    | none => rw [hz] at h1; cases h1
    | some z => rw [hz] at h1; exact ⟨i, z, rfl, hz, by simpa using h1, h2, h3⟩
theorem fill_rw (x : RW) (z : List Int) (hx : x.2.length = 256) (h1 : z.length = 256) :
    Instr.fill (fun k => (#[(0, 1), (1, 256)] : Array (Nat × Nat))[k]?) (rwL (0, z)).toArray [(0, Value.int .i64 x.1), (1, .agg (ArrU8 x.2))] = some (rwL x).toArray := by
  have hl := rwL_len (0, z) h1
  rw [fill_cons 0 [Value.int .i64 x.1] rfl rfl (by rw [List.size_toArray, hl]; simp)]
  rw [fill_cons 1 (x.2.map (Value.int .u8)) rfl (by simp [hx]) (by simp [hx, hl])]
  rw [Instr.fill]
  congr 2
  simp [rwL, hx, h1]
set_option maxRecDepth 100000 in
theorem run_build_rw (u : World) (x : RW) (hx : x.2.length = 256) :
    (Instr.build 134 #[(0, .int .i64 x.1), (1, .agg (ArrU8 x.2))]).run Try.prog u = .ok (.agg (rwL x).toArray) u := by
  have hz : (zeroValue 134).run Try.prog u = .ok (.agg (rwL (0, zeros 256)).toArray) u := by kernel_rfl
  have hpl : ∀ fs, Try.prog.underlying 134 = some (.struct fs) → (fs.mapM fun f => do pure (f.offset, ← sizeOf f.type) : Sem (Array (Nat × Nat))).run Try.prog u = .ok #[(0, 1), (1, 256)] u := by
    intro fs h
    rw [Try.underlying134] at h
    injection h with h
    injection h with h
    subst h
    kernel_rfl
  have hp2 := hpl _ Try.underlying134
  have hf := fill_rw x (zeros 256) hx (zeros_len _)
  generalize (rwL (0, zeros 256)).toArray = Z at *
  unfold Instr.build
  simp only [Sem.run_bind, hz, run_underlying Try.underlying134, Result.andThen_ok, agg_cells, hp2, hf]
  rfl
theorem run_bslice_rw (u : World) (x : RW) (hx : x.2.length = 256) :
    (Instr.buildSlice 75 1 #[(0, .agg (rwL x).toArray)]).run Try.prog u = .ok (.slice (some ⟨u.heap.size, 0, none⟩) 1 1) (u.alloc (.cells (rwL x).toArray 134)) := by
  obtain ⟨ie, z, hie, hz, hzs, hsz, _⟩ := info_rw_parts
  refine run_buildSlice u 75 134 1 _ _ ie z Try.underlying75 hie hz (by rw [hsz]; decide) (by rw [hsz]; decide) ?_
  have hl := rwL_len x hx
  show Instr.fill _ _ [(0, Value.agg (rwL x).toArray)] = _
  rw [fill_cons 0 (rwL x) rfl (by rw [hsz, hl]) (by simp [hsz, hl]), Instr.fill]
  simp [hsz, hl]
theorem run_empty_rw (u : World) : (Instr.buildSlice 75 0 #[]).run Try.prog u = .ok (.slice (some ⟨u.heap.size, 0, none⟩) 0 0) (u.alloc (.cells #[] 134)) := by kernel_rfl
theorem step_empty_rw {ops : Array Oper} {o : Oper} {a : Act} {w : World} {K : Act → World → Prop} {Q : Exit → Act → World → Prop} {E : Prop} (hg : o.guard = none) (ho : o.op = .buildSlice 75 0 #[])
    (hK : ∀ e w', w'.heap[e]? = some (.cells #[] 134 (0, 0)) → Below w.heap.size w w' → w.heap.size ≤ e → K (a.put o.dst (.slice (some ⟨e, 0, none⟩) 0 0)) w') :
    if Region.wanted o (yielded ops a.tmps) = true then Oper.wp Try.prog o a w K Q else E :=
  step_of_run hg (exec_bslice _ _ _ ho #[] (by simp) _ (run_empty_rw w)) (hK _ _ (heap_alloc_new w _) ((Below.refl _ _).alloc (Nat.le_refl _) _) (Nat.le_refl _))
theorem step_one_rw {ops : Array Oper} {o : Oper} {a : Act} {w : World} {K : Act → World → Prop} {Q : Exit → Act → World → Prop} {E : Prop} (hg : o.guard = none) (p : Operand) (ho : o.op = .buildSlice 75 1 #[(0, p)])
    (x : RW) (hx : x.2.length = 256) (hp : a.eval p = .agg (rwL x).toArray)
    (hK : ∀ e w', w'.heap[e]? = some (.cells (rwL x).toArray 134 (0, 0)) → Below w.heap.size w w' → w.heap.size ≤ e → K (a.put o.dst (.slice (some ⟨e, 0, none⟩) 1 1)) w') :
    if Region.wanted o (yielded ops a.tmps) = true then Oper.wp Try.prog o a w K Q else E :=
  step_of_run hg (exec_bslice _ _ _ ho #[(0, .agg (rwL x).toArray)] (by simp [hp]) _ (run_bslice_rw w x hx)) (hK _ _ (heap_alloc_new w _) ((Below.refl _ _).alloc (Nat.le_refl _) _) (Nat.le_refl _))
theorem run_append_rlit (u : World) (ty : TypeId) (B : Nat) (lv : Value) (K : List RW) (h : RLIs u B lv K) (hl : K.length ≤ 268435456) (e : Nat) (he : u.heap[e]? = some (.cells #[] 134 (0, 0))) :
    ∃ v' w', (Builtin.append_ #[75, 75] ty #[.slice (some ⟨e, 0, none⟩) 0 0, lv]).run Try.prog u = .ok v' w' ∧ RLIs w' e v' K ∧ u.grownBy w' (some e) := by
  obtain ⟨i, z, hi, hz, hzs, hsz, hby⟩ := info_rw_parts
  have how : u.ownsRow e 134 257 (.slice (some ⟨e, 0, none⟩) 0 0) 0 [] := ⟨rfl, .inr ⟨e, 0, #[], rfl, Nat.le_refl _, he, Nat.le_refl _, Nat.zero_le _, rfl, rfl⟩⟩
  rcases h.2 with ⟨rfl, h0⟩ | ⟨g, cap, cur, rfl, hb, hg, hrest⟩
  · obtain rfl : K = [] := List.eq_nil_of_length_eq_zero h0
    exact ⟨_, _, run_append_owned_none (P := Try.prog) (w := u) e 75 ty 134 i 257 Try.underlying75 hi _ 0 [] how, how, World.grownBy.refl _ _⟩
  · have h1 : ∀ v ∈ flatR K, v.oneCell' = true := fun v hv => by
      obtain ⟨x, _, hx⟩ := List.mem_flatMap.1 hv
      exact rwL_one _ v hx
    obtain ⟨v', w', hr, h2, h3, _⟩ := run_append_own (P := Try.prog) u e 75 ty 134 i z 257 264 Try.underlying75 hi hz hsz hby hzs (by decide) _ 0 [] how ⟨g, 0, none⟩ K.length cap (flatR K) h.1 (h.cells (g := g) rfl) h1 (by unfold maxLen; omega) (by omega) (Nat.le_of_lt (Array.getElem?_eq_some_iff.1 he).1)
    rw [Nat.zero_add, List.nil_append] at h2
    exact ⟨v', w', hr, h2, h3⟩
theorem RLIs.own {w : World} {B : Nat} {lv : Value} {K : List RW} (h : RLIs w B lv K) : ∀ k, lv.ownBlock = some k → B ≤ k ∧ k < w.heap.size := fun k hk => h.lt k hk
theorem RLIs.kept {w w' : World} {B : Nat} {lv : Value} {K : List RW} (h : RLIs w B lv K) (he : ∀ k, lv.ownBlock = some k → w'.heap[k]? = w.heap[k]?) : RLIs w' B lv K := by
  refine ⟨h.1, ?_⟩
  rcases h.2 with hn | ⟨g, cap, cur, rfl, hb, hgg, rest⟩
  · exact .inl hn
  · exact .inr ⟨g, cap, cur, rfl, hb, (he g rfl).trans hgg, rest⟩
theorem RLIs.lower {w : World} {B B' : Nat} {lv : Value} {K : List RW} (h : RLIs w B lv K) (hB : B' ≤ B) : RLIs w B' lv K := by
  refine ⟨h.1, ?_⟩
  rcases h.2 with h | ⟨g, cap, cur, e, hb, hr⟩
  · exact .inl h
  · exact .inr ⟨g, cap, cur, e, by omega, hr⟩
theorem step_append_rlit {ops : Array Oper} {o : Oper} {a : Act} {w : World} {K : Act → World → Prop} {Q : Exit → Act → World → Prop} {E : Prop}
    (hg : o.guard = none) (s x : Operand) (hop : o.op = Op.call { callee := Callee.builtin Builtin.append, args := #[s, x], argTypes := #[75, 75] }) (e : Nat)
    (hs : a.eval s = .slice (some ⟨e, 0, none⟩) 0 0) (B : Nat) (lv : Value) (L : List RW) (hx : a.eval x = lv) (h : RLIs w B lv L) (hl : L.length ≤ 268435456) (he : w.heap[e]? = some (.cells #[] 134 (0, 0)))
    (hK : ∀ v' w', RLIs w' e v' L → w.grownBy w' (some e) → K (a.put o.dst v') w') :
    if Region.wanted o (yielded ops a.tmps) = true then Oper.wp Try.prog o a w K Q else E := by
  obtain ⟨v', w', hr, r1, r2⟩ := run_append_rlit w o.type B lv L h hl e he
  exact step_of_run hg (exec_append s x _ hop _ _ hs hx hr) (hK v' w' r1 r2)
theorem step_append_rw {ops : Array Oper} {o : Oper} {a : Act} {w : World} {K : Act → World → Prop} {Q : Exit → Act → World → Prop} {E : Prop}
    (hg : o.guard = none) (s x : Operand) (hop : o.op = Op.call { callee := Callee.builtin Builtin.append, args := #[s, x], argTypes := #[75, 75] }) (B : Nat)
    (v : Value) (L : List RW) (hs : a.eval s = v) (hown : RLIs w B v L) (e : Nat) (y : RW) (hy : y.2.length = 256) (hx : a.eval x = .slice (some ⟨e, 0, none⟩) 1 1)
    (he : w.heap[e]? = some (.cells (rwL y).toArray 134 (0, 0))) (hL : L.length ≤ 268435456) (hbase : B ≤ w.heap.size)
    (hK : ∀ v' w', RLIs w' B v' (L ++ [y]) → w.grownBy w' v.ownBlock → K (a.put o.dst v') w') :
    if Region.wanted o (yielded ops a.tmps) = true then Oper.wp Try.prog o a w K Q else E := by
  obtain ⟨i, z, hi, hz, hzs, hsz, hby⟩ := info_rw_parts
  have hc : ∀ j u, (rwL y)[j]? = some u → w.cell? ((⟨e, 0, none⟩ : Addr).add j) = some u := fun j u hu => by
    rw [Addr.add_mid, Nat.zero_add, cell_of_row _ _ j _ _ _ he]; simpa using hu
  obtain ⟨v', w', hr, h2, h3, _⟩ := run_append_own (P := Try.prog) w B 75 o.type 134 i z 257 264 Try.underlying75 hi hz hsz hby hzs (by decide) v L.length (flatR L) hown ⟨e, 0, none⟩ 1 1 (rwL y) (by rw [rwL_len y hy]) hc (rwL_one y) (by unfold maxLen; omega) (by omega) hbase
  exact step_of_run hg (exec_append s x _ hop _ _ hs hx hr) (hK v' w' (by show w'.ownsRow B 134 257 v' (L ++ [y]).length (flatR (L ++ [y])); rw [List.length_append, List.length_singleton, flatR_snoc]; exact h2) h3)
theorem exec_load_rl {ρ : Operand → Value} {o : Oper} {w : World} (x : Operand) (ho : o.op = .load 75 x) (b k : Nat) (hx : ρ x = .pointer (some ⟨b, k, none⟩)) (v : Value) (hc : w.cell? ⟨b, k, none⟩ = some v) :
    (execOp ρ o).run Try.prog w = .ok (.value v) w := by
  unfold execOp
  rw [ho]
  simp only [hx]
  go_simp
def RWriteEnds (R : Nat) (nb rm fz : Int) (dn : Bool) (fv lv : Value) (K : List RW) (n : Int) (b : List Int) (w : World) (e : Ending) (w' : World) : Prop :=
  e = .returned (.int .i64 (wErr nb rm fz n dn)) ∧ ∃ lv', RefIs w' R (RC fv lv' rm (opFz fz dn) (opDn fz dn)) ∧ Chg (fun k => k = R) w w' ∧
    (if wErr nb rm fz n dn = 0 then RLIs w' w.heap.size lv' (K ++ [(n, b)]) else lv' = lv)
set_option maxRecDepth 100000 in
set_option maxHeartbeats 4000000 in
theorem rwrite_any (B R gf nb fcap : Nat) (lv : Value) (rm fz n : Int) (off : Bool) (KK : List RW) (b : List Int) (w : World) (hd : RefIs w R (RC (.slice (some ⟨gf, 0, none⟩) nb fcap) lv rm fz off)) (hf : -1 ≤ fz ∧ fz ≤ 9223372036854775807) (hl : RLIs w B lv KK) (hR : lv.ownBlock ≠ some R) (hb : b.length = 256) (hKl : KK.length ≤ 268435455) :
    Calls Try.prog 39 #[.pointer (some ⟨R, 0, none⟩), .int .i64 n, .agg (ArrU8 b)] w (RWriteEnds R (nb : Int) rm fz off (.slice (some ⟨gf, 0, none⟩) nb fcap) lv KK n b w) := by
  have HL := Lib.hid hl
  have HRR := Lib.hid hR
  have hRlt := hd.lt
  have hbx : (w.alloc (.cells (ArrU8 b) 52)).heap[w.heap.size]? = some (.cells (ArrU8 b) 52 (0, 0)) := heap_alloc_new _ _
  have HBX := Lib.hid hbx
  have hd0 : RefIs (w.alloc (.cells (ArrU8 b) 52)) R (RC (.slice (some ⟨gf, 0, none⟩) nb fcap) lv rm fz off) := (heap_alloc_old _ _ hRlt).trans hd
  have HOF := Lib.hid (off_any R _ lv rm fz off _ hd0 hf.1 hf.2)
  have hKl2 : KK.length ≤ 268435456 := by omega
  clear hd hl hbx hd0
  go_enter Try.func39, Try.ntmps39
  go_wp2_with fail
  refine HOF.out.mono ?_
  rintro e w1 ⟨rfl, hd1, hg1, hs1⟩
  have HD1 := Lib.hid hd1
  have HS1 := Lib.hid hs1
  have HC1 := Lib.hid (show Chg (fun k => k = R) w w1 from ((Chg.refl (fun k => k = R) w).alloc _).trans (G := fun k => k = R) (Chg.grown hg1 (fun k hk => by injection hk with hk; exact hk.symm)) (fun i hi => .inl hi))
  have HB1 := Lib.hid (show w1.heap[w.heap.size]? = some (.cells (ArrU8 b) 52 (0, 0)) from (hg1.block w.heap.size (by simp) (by intro e; injection e with e; omega)).trans HBX.out)
  have HL1 := Lib.hid (show RLIs w1 B lv KK from HL.out.kept (fun k hk => HC1.out.block k (HL.out.own k hk).2 (fun e => HRR.out (by rw [hk, e]))))
  clear hd1 hg1 hs1 HOF HBX
  cases hop : opDn fz off
  case true =>
    have HE := Lib.hid (show wErr nb rm fz n off = 44 from by simp [wErr, opOk, opDn] at hop ⊢; rcases hop with h | h <;> simp [h])
    have HOP := Lib.hid hop
    clear hop
    go_wp2_with fail
    go_ret
    refine ⟨congrArg (fun z => Ending.returned (.int .i64 z)) HE.out.symm, lv, HD1.out, HC1.out, ?_⟩
    rw [HE.out, if_neg (by decide)]
  have hok : opOk fz off = true := by simp [opOk, opDn] at hop ⊢; simp [hop]
  rw [hop] at HD1
  have HOP := Lib.hid hop
  clear hop
  have c0 : w1.cell? ⟨R, 0, none⟩ = some (.slice (some ⟨gf, 0, none⟩) nb fcap) := HD1.out.cell 0
  have c2 : w1.cell? ⟨R, 2, none⟩ = some (.int .i64 rm) := HD1.out.cell 2
  cases hbb : hasB nb n
  · have HE := Lib.hid (show wErr nb rm fz n off = 2 from by simp [wErr, hok, hbb])
    have HN := Lib.hid (show n < 0 ∨ (0 ≤ n ∧ (nb : Int) ≤ n) from by simp [hasB] at hbb; omega)
    clear hok hbb
    rcases HN.out with h1 | ⟨h1, h2⟩
    · go_wp2_with fail
      go_ret
      refine ⟨congrArg (fun z => Ending.returned (.int .i64 z)) HE.out.symm, lv, by rw [HOP.out]; exact HD1.out, HC1.out, ?_⟩
      rw [HE.out, if_neg (by decide)]
    · go_wp2_with fail
      go_ret
      refine ⟨congrArg (fun z => Ending.returned (.int .i64 z)) HE.out.symm, lv, by rw [HOP.out]; exact HD1.out, HC1.out, ?_⟩
      rw [HE.out, if_neg (by decide)]
  have hn : 0 ≤ n ∧ n < nb := by simp [hasB] at hbb; omega
  obtain ⟨h1, h2⟩ := hn
  by_cases hrm : rm ≤ n
  · have HE := Lib.hid (show wErr nb rm fz n off = 42 from by simp [wErr, hok, hbb, hrm])
    clear hok hbb
    go_wp2_with fail
    go_ret
    refine ⟨congrArg (fun z => Ending.returned (.int .i64 z)) HE.out.symm, lv, by rw [HOP.out]; exact HD1.out, HC1.out, ?_⟩
    rw [HE.out, if_neg (by decide)]
  have HE := Lib.hid (show wErr nb rm fz n off = 0 from by simp [wErr, hok, hbb, hrm])
  have hrm2 : n < rm := by omega
  clear hok hbb hrm
  go_wp2_with fail
  have HS := Lib.hid (show Below w1.heap.size w1 w1.drew from (Below.refl _ _).drew)
  have C1 := Lib.hid (show w1.cell? ⟨R, 1, none⟩ = some lv from HD1.out.cell 1)
  have hR1 : R < w1.heap.size := HD1.out.lt
  have hX1 : w.heap.size < w1.heap.size := by rw [HS1.out]; simp
  have HBL := Lib.hid hb
  have HI35 := Lib.hid (show (Try.prog.info? 52).map (·.size) = some (ArrU8 b).size by rw [ArrU8_size, hb]; kernel_rfl)
  clear c0 c2 h1 h2 hrm2
  refine wp_region_held_drew (S := fun u => Chg (fun k => k = R) w1 u) (by kernel_rfl) (Chg.fresh HS.out) (fun hHeld => ?_)
  refine wpAnyH_take (i := 0) (oi := ({ dst := some 28, op := Op.move (Operand.tmp 0), type := 27, pos := "ref.go:72", after := #[], guard := none } : Oper)) (v := ?_) rfl (by kernel_rfl) (by kernel_rfl) (by kernel_rfl) (fun _ _ _ h => h) (Or.inl ⟨by rfl, ?_⟩) (by assumption) ?_
  rotate_left 1
  · (intro u hSw; go_simp; try with_reducible rfl)
  try simp only [Act.put, List.setIfInBounds_toArray, List.set_cons_zero, List.set_cons_succ]
  refine wpAnyH_take (i := 2) (oi := ({ dst := some 30, op := Op.move (Operand.tmp 0), type := 27, pos := "ref.go:72", after := #[], guard := none } : Oper)) (v := ?_) rfl (by kernel_rfl) (by kernel_rfl) (by kernel_rfl) (fun _ _ _ h => h) (Or.inl ⟨by rfl, ?_⟩) (by assumption) ?_
  rotate_left 1
  · (intro u hSw; go_simp; try with_reducible rfl)
  try simp only [Act.put, List.setIfInBounds_toArray, List.set_cons_zero, List.set_cons_succ]
  refine wpAnyH_take (i := 3) (oi := ({ dst := some 31, op := Op.nilCheck (Operand.tmp 30), type := 0, pos := "ref.go:72", after := #[{ on := 2, ground := Ground.data }], guard := none } : Oper)) (v := ?_) rfl (by kernel_rfl) (by kernel_rfl) (by kernel_rfl) (fun _ _ _ h => h) (Or.inl ⟨by rfl, ?_⟩) (by assumption) ?_
  rotate_left 1
  · (intro u hSw; go_simp; try with_reducible rfl)
  try simp only [Act.put, List.setIfInBounds_toArray, List.set_cons_zero, List.set_cons_succ]
  refine wpAnyH_take (i := 4) (oi := ({ dst := some 32, op := Op.fieldAddr 77 (Operand.tmp 31) 1, type := 0, pos := "ref.go:72", after := #[{ on := 3, ground := Ground.data }], guard := none } : Oper)) (v := ?_) rfl (by kernel_rfl) (by kernel_rfl) (by kernel_rfl) (fun _ _ _ h => h) (Or.inl ⟨by rfl, ?_⟩) (by assumption) ?_
  rotate_left 1
  · (intro u hSw; go_simp; try with_reducible rfl)
  try simp only [Act.put, List.setIfInBounds_toArray, List.set_cons_zero, List.set_cons_succ]
  refine wpAnyH_take (i := 7) (oi := ({ dst := some 35, op := Op.move (Operand.tmp 1), type := 3, pos := "ref.go:72", after := #[], guard := none } : Oper)) (v := ?_) rfl (by kernel_rfl) (by kernel_rfl) (by kernel_rfl) (fun _ _ _ h => h) (Or.inl ⟨by rfl, ?_⟩) (by assumption) ?_
  rotate_left 1
  · (intro u hSw; go_simp; try with_reducible rfl)
  try simp only [Act.put, List.setIfInBounds_toArray, List.set_cons_zero, List.set_cons_succ]
  refine wpAnyH_take (i := 8) (oi := ({ dst := some 36, op := Op.load 52 (Operand.tmp 5), type := 52, pos := "ref.go:72", after := #[], guard := none } : Oper)) (v := .agg (ArrU8 b)) rfl (by kernel_rfl) (by kernel_rfl) (by kernel_rfl) (fun _ _ _ h => h) (Or.inl ⟨by rfl, ?_⟩) (by assumption) ?_
  · intro u hSw
    exact exec_load_row 52 (Operand.tmp 5) rfl u w.heap.size rfl (ArrU8 b) 52 (0, 0) _ ((hSw.block w.heap.size hX1 (fun e => by omega)).trans HB1.out) Try.underlying52 rfl HI35.out
  try simp only [Act.put, List.setIfInBounds_toArray, List.set_cons_zero, List.set_cons_succ]
  refine wpAnyH_take (i := 9) (oi := ({ dst := some 37, op := Op.build 134 #[(0, Operand.tmp 35), (1, Operand.tmp 36)], type := 134, pos := "ref.go:72", after := #[{ on := 7, ground := Ground.data }, { on := 8, ground := Ground.data }], guard := none } : Oper)) (v := .agg (rwL (n, b)).toArray) rfl (by kernel_rfl) (by kernel_rfl) (by kernel_rfl) (fun _ _ _ h => h) (Or.inl ⟨by rfl, ?_⟩) (by assumption) ?_
  · intro u hSw
    exact exec_build 134 #[(0, Operand.tmp 35), (1, Operand.tmp 36)] rfl #[(0, .int .i64 n), (1, .agg (ArrU8 b))] (by simp only [List.map_toArray, List.map_cons, List.map_nil]; rfl) _ (run_build_rw u (n, b) HBL.out)
  try simp only [Act.put, List.setIfInBounds_toArray, List.set_cons_zero, List.set_cons_succ]
  refine wpAnyH_ready (rs := [1, 5, 10]) (by kernel_rfl) (by simp) ?_
  refine (AllReadyH.cons (o := ({ dst := some 29, op := Op.buildSlice 75 0 #[], type := 75, pos := "ref.go:72", after := #[], guard := none } : Oper)) rfl (fun K hK => ?_) (AllReadyH.cons (o := ({ dst := some 33, op := Op.load 75 (Operand.tmp 32), type := 75, pos := "ref.go:72", after := #[{ on := 4, ground := Ground.data }], guard := none } : Oper)) rfl (fun K hK => ?_) (AllReadyH.cons (o := ({ dst := some 38, op := Op.buildSlice 75 1 #[(0, Operand.tmp 37)], type := 75, pos := "ref.go:72", after := #[{ on := 9, ground := Ground.data }], guard := none } : Oper)) rfl (fun K hK => ?_) AllReadyH.nil)))
  · refine step_empty_rw (by rfl) (by rfl) ?_
    intro e u1 he hbu hle
    have HE1 := Lib.hid he
    try (have hxne : x ≠ e := (by have := (Array.getElem?_eq_some_iff.1 HX1.out).1; omega))
    have hes : e < u1.heap.size := (Array.getElem?_eq_some_iff.1 he).1
    have hle1 : w1.heap.size ≤ e := by have := HS.out.size; omega
    try (have hx' := HX1.out; have hxlt := (Array.getElem?_eq_some_iff.1 hx').1; replace HX1 := Lib.hid ((hbu.block _ hxlt).trans hx'); clear hx' hxlt)
    replace HS := Lib.hid (HS.out.trans (hbu.mono HS.out.size))
    clear he hbu hle
    refine hK.out _ _ (Chg.fresh HS.out) (fun hHeld => ?_)
    clear hK K
    try simp only [Act.put, List.setIfInBounds_toArray, List.set_cons_zero, List.set_cons_succ]
    refine wpAnyH_ready (rs := [5, 10]) (by kernel_rfl) (by simp) ?_
    refine (AllReadyH.cons (o := ({ dst := some 33, op := Op.load 75 (Operand.tmp 32), type := 75, pos := "ref.go:72", after := #[{ on := 4, ground := Ground.data }], guard := none } : Oper)) rfl (fun K hK => ?_) (AllReadyH.cons (o := ({ dst := some 38, op := Op.buildSlice 75 1 #[(0, Operand.tmp 37)], type := 75, pos := "ref.go:72", after := #[{ on := 9, ground := Ground.data }], guard := none } : Oper)) rfl (fun K hK => ?_) AllReadyH.nil))
    · refine step_of_run (by rfl) (exec_load_rl (Operand.tmp 32) rfl R 1 rfl lv ((HS.out.cell (p := ⟨R, 1, none⟩) hR1).trans C1.out)) ?_
      refine hK.out _ _ (Chg.fresh HS.out) (fun hHeld => ?_)
      clear hK K
      try simp only [Act.put, List.setIfInBounds_toArray, List.set_cons_zero, List.set_cons_succ]
      refine wpAnyH_ready (rs := [6, 10]) (by kernel_rfl) (by simp) ?_
      refine (AllReadyH.cons (o := ({ dst := some 34, op := Op.call { callee := Callee.builtin Builtin.append, args := #[Operand.tmp 29, Operand.tmp 33], argTypes := #[75, 75] }, type := 75, pos := "ref.go:72", after := #[{ on := 1, ground := Ground.data }, { on := 5, ground := Ground.data }], guard := none } : Oper)) rfl (fun K hK => ?_) (AllReadyH.cons (o := ({ dst := some 38, op := Op.buildSlice 75 1 #[(0, Operand.tmp 37)], type := 75, pos := "ref.go:72", after := #[{ on := 9, ground := Ground.data }], guard := none } : Oper)) rfl (fun K hK => ?_) AllReadyH.nil))
      · refine step_append_rlit (by rfl) (Operand.tmp 29) (Operand.tmp 33) (by rfl) e (by rfl) B lv KK (by rfl) (HL1.out.kept (fun k hk => HS.out.block k (HL1.out.own k hk).2)) hKl2 HE1.out ?_
        intro v2 u2 hr2 hg2
        have HR2 := Lib.hid hr2
        have hOW := (fun k hk => (hr2.own k hk).1 : ∀ k, v2.ownBlock = some k → e ≤ k)
        have HOW := Lib.hid hOW
        clear hOW
        try (have hx' := HX1.out; have hxlt := (Array.getElem?_eq_some_iff.1 hx').1; replace HX1 := Lib.hid ((hg2.block _ hxlt (by intro hh; injection hh with hh; exact hxne hh)).trans hx'); clear hx' hxlt)
        replace hes : e < u2.heap.size := by have := hg2.size; omega
        replace HS := Lib.hid (HS.out.grown hg2 HS.out.size (fun k hk => by injection hk with hk; omega))
        clear hr2 hg2
        refine hK.out _ _ (Chg.fresh HS.out) (fun hHeld => ?_)
        clear hK K
        try simp only [Act.put, List.setIfInBounds_toArray, List.set_cons_zero, List.set_cons_succ]
        refine wpAnyH_ready (rs := [10]) (by kernel_rfl) (by simp) ?_
        refine (AllReadyH.cons (o := ({ dst := some 38, op := Op.buildSlice 75 1 #[(0, Operand.tmp 37)], type := 75, pos := "ref.go:72", after := #[{ on := 9, ground := Ground.data }], guard := none } : Oper)) rfl (fun K hK => ?_) AllReadyH.nil)
        refine step_one_rw (by rfl) (Operand.tmp 37) (by rfl) (n, b) HBL.out (by rfl) ?_
        intro x u3 hx3 hb3 hlx
        have HX1 := Lib.hid hx3
        try (have he' := HE1.out; have helt := (Array.getElem?_eq_some_iff.1 he').1; have hxne : x ≠ e := (by omega); replace HE1 := Lib.hid ((hb3.block _ helt).trans he'); clear he' helt)
        try (replace HR2 := Lib.hid (HR2.out.kept (fun k hk => hb3.block k (HR2.out.own k hk).2)))
        try (replace hes : e < u3.heap.size := (by have := hb3.size; omega))
        replace HS := Lib.hid (HS.out.trans (hb3.mono HS.out.size))
        clear hx3 hb3 hlx
        refine hK.out _ _ (Chg.fresh HS.out) (fun hHeld => ?_)
        clear hK K
        try simp only [Act.put, List.setIfInBounds_toArray, List.set_cons_zero, List.set_cons_succ]
        refine wpAnyH_ready (rs := [11]) (by kernel_rfl) (by simp) ?_
        refine (AllReadyH.cons (o := ({ dst := some 39, op := Op.call { callee := Callee.builtin Builtin.append, args := #[Operand.tmp 34, Operand.tmp 38], argTypes := #[75, 75] }, type := 75, pos := "ref.go:72", after := #[{ on := 6, ground := Ground.data }, { on := 10, ground := Ground.data }, { on := 6, ground := Ground.chain }], guard := none } : Oper)) rfl (fun K hK => ?_) AllReadyH.nil)
        refine step_append_rw (by rfl) (Operand.tmp 34) (Operand.tmp 38) (by rfl) e v2 KK (by rfl) HR2.out x (n, b) HBL.out (by rfl) HX1.out hKl2 (Nat.le_of_lt hes) ?_
        intro v4 u4 hr4 hg4
        have HR4 := Lib.hid hr4
        replace HS := Lib.hid (HS.out.grown hg4 HS.out.size (fun k hk => by have := HOW.out k hk; omega))
        clear hr4 hg4
        obtain ⟨sa, sc, hv4⟩ := HR4.out.shape
        generalize (KK ++ [(n, b)]).length = sn at hv4
        subst hv4
        refine hK.out _ _ (Chg.fresh HS.out) (fun hHeld => ?_)
        clear hK K
        try simp only [Act.put, List.setIfInBounds_toArray, List.set_cons_zero, List.set_cons_succ]
        refine wpAnyH_take (i := 12) (oi := ({ dst := some 40, op := Op.nilCheck (Operand.tmp 28), type := 0, pos := "ref.go:72", after := #[{ on := 0, ground := Ground.data }, { on := 0, ground := Ground.phase }, { on := 1, ground := Ground.phase }, { on := 2, ground := Ground.phase }, { on := 3, ground := Ground.phase }, { on := 4, ground := Ground.phase }, { on := 5, ground := Ground.phase }, { on := 6, ground := Ground.phase }, { on := 7, ground := Ground.phase }, { on := 8, ground := Ground.phase }, { on := 9, ground := Ground.phase }, { on := 10, ground := Ground.phase }, { on := 11, ground := Ground.phase }], guard := none } : Oper)) (v := ?_) rfl (by kernel_rfl) (by kernel_rfl) (by kernel_rfl) (fun _ _ _ h => h) (Or.inl ⟨by rfl, ?_⟩) (by assumption) ?_
        rotate_left 1
        · (intro u hSw; go_simp; try with_reducible rfl)
        try simp only [Act.put, List.setIfInBounds_toArray, List.set_cons_zero, List.set_cons_succ]
        refine wpAnyH_take (i := 13) (oi := ({ dst := some 41, op := Op.fieldAddr 77 (Operand.tmp 40) 1, type := 0, pos := "ref.go:72", after := #[{ on := 12, ground := Ground.data }, { on := 0, ground := Ground.phase }, { on := 1, ground := Ground.phase }, { on := 2, ground := Ground.phase }, { on := 3, ground := Ground.phase }, { on := 4, ground := Ground.phase }, { on := 5, ground := Ground.phase }, { on := 6, ground := Ground.phase }, { on := 7, ground := Ground.phase }, { on := 8, ground := Ground.phase }, { on := 9, ground := Ground.phase }, { on := 10, ground := Ground.phase }, { on := 11, ground := Ground.phase }], guard := none } : Oper)) (v := ?_) rfl (by kernel_rfl) (by kernel_rfl) (by kernel_rfl) (fun _ _ _ h => h) (Or.inl ⟨by rfl, ?_⟩) (by assumption) ?_
        rotate_left 1
        · (intro u hSw; go_simp; try with_reducible rfl)
        try simp only [Act.put, List.setIfInBounds_toArray, List.set_cons_zero, List.set_cons_succ]
        refine wpAnyH_ready (rs := [14]) (by kernel_rfl) (by simp) ?_
        refine (AllReadyH.cons (o := ({ dst := none, op := Op.store 75 (Operand.tmp 41) (Operand.tmp 39), type := 0, pos := "ref.go:72", after := #[{ on := 13, ground := Ground.data }, { on := 11, ground := Ground.data }, { on := 11, ground := Ground.chain }, { on := 0, ground := Ground.phase }, { on := 1, ground := Ground.phase }, { on := 2, ground := Ground.phase }, { on := 3, ground := Ground.phase }, { on := 4, ground := Ground.phase }, { on := 5, ground := Ground.phase }, { on := 6, ground := Ground.phase }, { on := 7, ground := Ground.phase }, { on := 8, ground := Ground.phase }, { on := 9, ground := Ground.phase }, { on := 10, ground := Ground.phase }, { on := 11, ground := Ground.phase }], guard := none } : Oper)) rfl (fun K hK => ?_) AllReadyH.nil)
        have hD4 : RefIs u4 R _ := (HS.out.block R hR1).trans HD1.out
        have c1' : u4.cell? ⟨R, 1, none⟩ = some lv := hD4.cell 1
        have f1' := hD4.frozen 1
        have HD4 := Lib.hid (hD4.set 1 (.slice sa sn sc))
        have HR5 := Lib.hid (show RLIs (u4.setCell ⟨R, 1, none⟩ (.slice sa sn sc)) e (.slice sa sn sc) (KK ++ [(n, b)]) from HR4.out.kept (fun k hk => Below.heap_setCell _ _ _ _ (fun e' => by
          have e' : k = R := e'
          have := (HR4.out.own k hk).1
          omega)))
        have HC5 := Lib.hid (show Chg (fun k => k = R) w (u4.setCell ⟨R, 1, none⟩ (.slice sa sn sc)) from (HC1.out.trans (Chg.fresh (F := fun k => k = R) HS.out) (fun i hi => .inl hi)).setCell ⟨R, 1, none⟩ _ (.inl rfl))
        clear hD4
        have hUS : w1.heap.size ≤ e := hle1
        go_simp
        refine hK.out _ _ ((Chg.fresh (F := fun k => k = R) HS.out).setCell ⟨R, 1, none⟩ _ (.inl rfl)) (fun hHeld => ?_)
        clear hK K
        try simp only [Act.put]
        refine wpAnyH_done (by kernel_rfl) ?_ _
        go_wp2_with fail
        go_ret
        refine ⟨congrArg (fun z => Ending.returned (.int .i64 z)) HE.out.symm, .slice sa sn sc, by rw [HOP.out]; exact HD4.out, HC5.out, ?_⟩
        rw [HE.out, if_pos rfl]
        exact HR5.out.lower (by omega)
      · refine step_one_rw (by rfl) (Operand.tmp 37) (by rfl) (n, b) HBL.out (by rfl) ?_
        intro x u3 hx3 hb3 hlx
        have HX1 := Lib.hid hx3
        try (have he' := HE1.out; have helt := (Array.getElem?_eq_some_iff.1 he').1; have hxne : x ≠ e := (by omega); replace HE1 := Lib.hid ((hb3.block _ helt).trans he'); clear he' helt)
        try (replace HR2 := Lib.hid (HR2.out.kept (fun k hk => hb3.block k (HR2.out.own k hk).2)))
        try (replace hes : e < u3.heap.size := (by have := hb3.size; omega))
        replace HS := Lib.hid (HS.out.trans (hb3.mono HS.out.size))
        clear hx3 hb3 hlx
        refine hK.out _ _ (Chg.fresh HS.out) (fun hHeld => ?_)
        clear hK K
        try simp only [Act.put, List.setIfInBounds_toArray, List.set_cons_zero, List.set_cons_succ]
        refine wpAnyH_ready (rs := [6]) (by kernel_rfl) (by simp) ?_
        refine (AllReadyH.cons (o := ({ dst := some 34, op := Op.call { callee := Callee.builtin Builtin.append, args := #[Operand.tmp 29, Operand.tmp 33], argTypes := #[75, 75] }, type := 75, pos := "ref.go:72", after := #[{ on := 1, ground := Ground.data }, { on := 5, ground := Ground.data }], guard := none } : Oper)) rfl (fun K hK => ?_) AllReadyH.nil)
        refine step_append_rlit (by rfl) (Operand.tmp 29) (Operand.tmp 33) (by rfl) e (by rfl) B lv KK (by rfl) (HL1.out.kept (fun k hk => HS.out.block k (HL1.out.own k hk).2)) hKl2 HE1.out ?_
        intro v2 u2 hr2 hg2
        have HR2 := Lib.hid hr2
        have hOW := (fun k hk => (hr2.own k hk).1 : ∀ k, v2.ownBlock = some k → e ≤ k)
        have HOW := Lib.hid hOW
        clear hOW
        try (have hx' := HX1.out; have hxlt := (Array.getElem?_eq_some_iff.1 hx').1; replace HX1 := Lib.hid ((hg2.block _ hxlt (by intro hh; injection hh with hh; exact hxne hh)).trans hx'); clear hx' hxlt)
        replace hes : e < u2.heap.size := by have := hg2.size; omega
        replace HS := Lib.hid (HS.out.grown hg2 HS.out.size (fun k hk => by injection hk with hk; omega))
        clear hr2 hg2
        refine hK.out _ _ (Chg.fresh HS.out) (fun hHeld => ?_)
        clear hK K
        try simp only [Act.put, List.setIfInBounds_toArray, List.set_cons_zero, List.set_cons_succ]
        refine wpAnyH_ready (rs := [11]) (by kernel_rfl) (by simp) ?_
        refine (AllReadyH.cons (o := ({ dst := some 39, op := Op.call { callee := Callee.builtin Builtin.append, args := #[Operand.tmp 34, Operand.tmp 38], argTypes := #[75, 75] }, type := 75, pos := "ref.go:72", after := #[{ on := 6, ground := Ground.data }, { on := 10, ground := Ground.data }, { on := 6, ground := Ground.chain }], guard := none } : Oper)) rfl (fun K hK => ?_) AllReadyH.nil)
        refine step_append_rw (by rfl) (Operand.tmp 34) (Operand.tmp 38) (by rfl) e v2 KK (by rfl) HR2.out x (n, b) HBL.out (by rfl) HX1.out hKl2 (Nat.le_of_lt hes) ?_
        intro v4 u4 hr4 hg4
        have HR4 := Lib.hid hr4
        replace HS := Lib.hid (HS.out.grown hg4 HS.out.size (fun k hk => by have := HOW.out k hk; omega))
        clear hr4 hg4
        obtain ⟨sa, sc, hv4⟩ := HR4.out.shape
        generalize (KK ++ [(n, b)]).length = sn at hv4
        subst hv4
        refine hK.out _ _ (Chg.fresh HS.out) (fun hHeld => ?_)
        clear hK K
        try simp only [Act.put, List.setIfInBounds_toArray, List.set_cons_zero, List.set_cons_succ]
        refine wpAnyH_take (i := 12) (oi := ({ dst := some 40, op := Op.nilCheck (Operand.tmp 28), type := 0, pos := "ref.go:72", after := #[{ on := 0, ground := Ground.data }, { on := 0, ground := Ground.phase }, { on := 1, ground := Ground.phase }, { on := 2, ground := Ground.phase }, { on := 3, ground := Ground.phase }, { on := 4, ground := Ground.phase }, { on := 5, ground := Ground.phase }, { on := 6, ground := Ground.phase }, { on := 7, ground := Ground.phase }, { on := 8, ground := Ground.phase }, { on := 9, ground := Ground.phase }, { on := 10, ground := Ground.phase }, { on := 11, ground := Ground.phase }], guard := none } : Oper)) (v := ?_) rfl (by kernel_rfl) (by kernel_rfl) (by kernel_rfl) (fun _ _ _ h => h) (Or.inl ⟨by rfl, ?_⟩) (by assumption) ?_
        rotate_left 1
        · (intro u hSw; go_simp; try with_reducible rfl)
        try simp only [Act.put, List.setIfInBounds_toArray, List.set_cons_zero, List.set_cons_succ]
        refine wpAnyH_take (i := 13) (oi := ({ dst := some 41, op := Op.fieldAddr 77 (Operand.tmp 40) 1, type := 0, pos := "ref.go:72", after := #[{ on := 12, ground := Ground.data }, { on := 0, ground := Ground.phase }, { on := 1, ground := Ground.phase }, { on := 2, ground := Ground.phase }, { on := 3, ground := Ground.phase }, { on := 4, ground := Ground.phase }, { on := 5, ground := Ground.phase }, { on := 6, ground := Ground.phase }, { on := 7, ground := Ground.phase }, { on := 8, ground := Ground.phase }, { on := 9, ground := Ground.phase }, { on := 10, ground := Ground.phase }, { on := 11, ground := Ground.phase }], guard := none } : Oper)) (v := ?_) rfl (by kernel_rfl) (by kernel_rfl) (by kernel_rfl) (fun _ _ _ h => h) (Or.inl ⟨by rfl, ?_⟩) (by assumption) ?_
        rotate_left 1
        · (intro u hSw; go_simp; try with_reducible rfl)
        try simp only [Act.put, List.setIfInBounds_toArray, List.set_cons_zero, List.set_cons_succ]
        refine wpAnyH_ready (rs := [14]) (by kernel_rfl) (by simp) ?_
        refine (AllReadyH.cons (o := ({ dst := none, op := Op.store 75 (Operand.tmp 41) (Operand.tmp 39), type := 0, pos := "ref.go:72", after := #[{ on := 13, ground := Ground.data }, { on := 11, ground := Ground.data }, { on := 11, ground := Ground.chain }, { on := 0, ground := Ground.phase }, { on := 1, ground := Ground.phase }, { on := 2, ground := Ground.phase }, { on := 3, ground := Ground.phase }, { on := 4, ground := Ground.phase }, { on := 5, ground := Ground.phase }, { on := 6, ground := Ground.phase }, { on := 7, ground := Ground.phase }, { on := 8, ground := Ground.phase }, { on := 9, ground := Ground.phase }, { on := 10, ground := Ground.phase }, { on := 11, ground := Ground.phase }], guard := none } : Oper)) rfl (fun K hK => ?_) AllReadyH.nil)
        have hD4 : RefIs u4 R _ := (HS.out.block R hR1).trans HD1.out
        have c1' : u4.cell? ⟨R, 1, none⟩ = some lv := hD4.cell 1
        have f1' := hD4.frozen 1
        have HD4 := Lib.hid (hD4.set 1 (.slice sa sn sc))
        have HR5 := Lib.hid (show RLIs (u4.setCell ⟨R, 1, none⟩ (.slice sa sn sc)) e (.slice sa sn sc) (KK ++ [(n, b)]) from HR4.out.kept (fun k hk => Below.heap_setCell _ _ _ _ (fun e' => by
          have e' : k = R := e'
          have := (HR4.out.own k hk).1
          omega)))
        have HC5 := Lib.hid (show Chg (fun k => k = R) w (u4.setCell ⟨R, 1, none⟩ (.slice sa sn sc)) from (HC1.out.trans (Chg.fresh (F := fun k => k = R) HS.out) (fun i hi => .inl hi)).setCell ⟨R, 1, none⟩ _ (.inl rfl))
        clear hD4
        have hUS : w1.heap.size ≤ e := hle1
        go_simp
        refine hK.out _ _ ((Chg.fresh (F := fun k => k = R) HS.out).setCell ⟨R, 1, none⟩ _ (.inl rfl)) (fun hHeld => ?_)
        clear hK K
        try simp only [Act.put]
        refine wpAnyH_done (by kernel_rfl) ?_ _
        go_wp2_with fail
        go_ret
        refine ⟨congrArg (fun z => Ending.returned (.int .i64 z)) HE.out.symm, .slice sa sn sc, by rw [HOP.out]; exact HD4.out, HC5.out, ?_⟩
        rw [HE.out, if_pos rfl]
        exact HR5.out.lower (by omega)
    · refine step_one_rw (by rfl) (Operand.tmp 37) (by rfl) (n, b) HBL.out (by rfl) ?_
      intro x u3 hx3 hb3 hlx
      have HX1 := Lib.hid hx3
      try (have he' := HE1.out; have helt := (Array.getElem?_eq_some_iff.1 he').1; have hxne : x ≠ e := (by omega); replace HE1 := Lib.hid ((hb3.block _ helt).trans he'); clear he' helt)
      try (replace HR2 := Lib.hid (HR2.out.kept (fun k hk => hb3.block k (HR2.out.own k hk).2)))
      try (replace hes : e < u3.heap.size := (by have := hb3.size; omega))
      replace HS := Lib.hid (HS.out.trans (hb3.mono HS.out.size))
      clear hx3 hb3 hlx
      refine hK.out _ _ (Chg.fresh HS.out) (fun hHeld => ?_)
      clear hK K
      try simp only [Act.put, List.setIfInBounds_toArray, List.set_cons_zero, List.set_cons_succ]
      refine wpAnyH_ready (rs := [5]) (by kernel_rfl) (by simp) ?_
      refine (AllReadyH.cons (o := ({ dst := some 33, op := Op.load 75 (Operand.tmp 32), type := 75, pos := "ref.go:72", after := #[{ on := 4, ground := Ground.data }], guard := none } : Oper)) rfl (fun K hK => ?_) AllReadyH.nil)
      refine step_of_run (by rfl) (exec_load_rl (Operand.tmp 32) rfl R 1 rfl lv ((HS.out.cell (p := ⟨R, 1, none⟩) hR1).trans C1.out)) ?_
      refine hK.out _ _ (Chg.fresh HS.out) (fun hHeld => ?_)
      clear hK K
      try simp only [Act.put, List.setIfInBounds_toArray, List.set_cons_zero, List.set_cons_succ]
      refine wpAnyH_ready (rs := [6]) (by kernel_rfl) (by simp) ?_
      refine (AllReadyH.cons (o := ({ dst := some 34, op := Op.call { callee := Callee.builtin Builtin.append, args := #[Operand.tmp 29, Operand.tmp 33], argTypes := #[75, 75] }, type := 75, pos := "ref.go:72", after := #[{ on := 1, ground := Ground.data }, { on := 5, ground := Ground.data }], guard := none } : Oper)) rfl (fun K hK => ?_) AllReadyH.nil)
      refine step_append_rlit (by rfl) (Operand.tmp 29) (Operand.tmp 33) (by rfl) e (by rfl) B lv KK (by rfl) (HL1.out.kept (fun k hk => HS.out.block k (HL1.out.own k hk).2)) hKl2 HE1.out ?_
      intro v2 u2 hr2 hg2
      have HR2 := Lib.hid hr2
      have hOW := (fun k hk => (hr2.own k hk).1 : ∀ k, v2.ownBlock = some k → e ≤ k)
      have HOW := Lib.hid hOW
      clear hOW
      try (have hx' := HX1.out; have hxlt := (Array.getElem?_eq_some_iff.1 hx').1; replace HX1 := Lib.hid ((hg2.block _ hxlt (by intro hh; injection hh with hh; exact hxne hh)).trans hx'); clear hx' hxlt)
      replace hes : e < u2.heap.size := by have := hg2.size; omega
      replace HS := Lib.hid (HS.out.grown hg2 HS.out.size (fun k hk => by injection hk with hk; omega))
      clear hr2 hg2
      refine hK.out _ _ (Chg.fresh HS.out) (fun hHeld => ?_)
      clear hK K
      try simp only [Act.put, List.setIfInBounds_toArray, List.set_cons_zero, List.set_cons_succ]
      refine wpAnyH_ready (rs := [11]) (by kernel_rfl) (by simp) ?_
      refine (AllReadyH.cons (o := ({ dst := some 39, op := Op.call { callee := Callee.builtin Builtin.append, args := #[Operand.tmp 34, Operand.tmp 38], argTypes := #[75, 75] }, type := 75, pos := "ref.go:72", after := #[{ on := 6, ground := Ground.data }, { on := 10, ground := Ground.data }, { on := 6, ground := Ground.chain }], guard := none } : Oper)) rfl (fun K hK => ?_) AllReadyH.nil)
      refine step_append_rw (by rfl) (Operand.tmp 34) (Operand.tmp 38) (by rfl) e v2 KK (by rfl) HR2.out x (n, b) HBL.out (by rfl) HX1.out hKl2 (Nat.le_of_lt hes) ?_
      intro v4 u4 hr4 hg4
      have HR4 := Lib.hid hr4
      replace HS := Lib.hid (HS.out.grown hg4 HS.out.size (fun k hk => by have := HOW.out k hk; omega))
      clear hr4 hg4
      obtain ⟨sa, sc, hv4⟩ := HR4.out.shape
      generalize (KK ++ [(n, b)]).length = sn at hv4
      subst hv4
      refine hK.out _ _ (Chg.fresh HS.out) (fun hHeld => ?_)
      clear hK K
      try simp only [Act.put, List.setIfInBounds_toArray, List.set_cons_zero, List.set_cons_succ]
      refine wpAnyH_take (i := 12) (oi := ({ dst := some 40, op := Op.nilCheck (Operand.tmp 28), type := 0, pos := "ref.go:72", after := #[{ on := 0, ground := Ground.data }, { on := 0, ground := Ground.phase }, { on := 1, ground := Ground.phase }, { on := 2, ground := Ground.phase }, { on := 3, ground := Ground.phase }, { on := 4, ground := Ground.phase }, { on := 5, ground := Ground.phase }, { on := 6, ground := Ground.phase }, { on := 7, ground := Ground.phase }, { on := 8, ground := Ground.phase }, { on := 9, ground := Ground.phase }, { on := 10, ground := Ground.phase }, { on := 11, ground := Ground.phase }], guard := none } : Oper)) (v := ?_) rfl (by kernel_rfl) (by kernel_rfl) (by kernel_rfl) (fun _ _ _ h => h) (Or.inl ⟨by rfl, ?_⟩) (by assumption) ?_
      rotate_left 1
      · (intro u hSw; go_simp; try with_reducible rfl)
      try simp only [Act.put, List.setIfInBounds_toArray, List.set_cons_zero, List.set_cons_succ]
      refine wpAnyH_take (i := 13) (oi := ({ dst := some 41, op := Op.fieldAddr 77 (Operand.tmp 40) 1, type := 0, pos := "ref.go:72", after := #[{ on := 12, ground := Ground.data }, { on := 0, ground := Ground.phase }, { on := 1, ground := Ground.phase }, { on := 2, ground := Ground.phase }, { on := 3, ground := Ground.phase }, { on := 4, ground := Ground.phase }, { on := 5, ground := Ground.phase }, { on := 6, ground := Ground.phase }, { on := 7, ground := Ground.phase }, { on := 8, ground := Ground.phase }, { on := 9, ground := Ground.phase }, { on := 10, ground := Ground.phase }, { on := 11, ground := Ground.phase }], guard := none } : Oper)) (v := ?_) rfl (by kernel_rfl) (by kernel_rfl) (by kernel_rfl) (fun _ _ _ h => h) (Or.inl ⟨by rfl, ?_⟩) (by assumption) ?_
      rotate_left 1
      · (intro u hSw; go_simp; try with_reducible rfl)
      try simp only [Act.put, List.setIfInBounds_toArray, List.set_cons_zero, List.set_cons_succ]
      refine wpAnyH_ready (rs := [14]) (by kernel_rfl) (by simp) ?_
      refine (AllReadyH.cons (o := ({ dst := none, op := Op.store 75 (Operand.tmp 41) (Operand.tmp 39), type := 0, pos := "ref.go:72", after := #[{ on := 13, ground := Ground.data }, { on := 11, ground := Ground.data }, { on := 11, ground := Ground.chain }, { on := 0, ground := Ground.phase }, { on := 1, ground := Ground.phase }, { on := 2, ground := Ground.phase }, { on := 3, ground := Ground.phase }, { on := 4, ground := Ground.phase }, { on := 5, ground := Ground.phase }, { on := 6, ground := Ground.phase }, { on := 7, ground := Ground.phase }, { on := 8, ground := Ground.phase }, { on := 9, ground := Ground.phase }, { on := 10, ground := Ground.phase }, { on := 11, ground := Ground.phase }], guard := none } : Oper)) rfl (fun K hK => ?_) AllReadyH.nil)
      have hD4 : RefIs u4 R _ := (HS.out.block R hR1).trans HD1.out
      have c1' : u4.cell? ⟨R, 1, none⟩ = some lv := hD4.cell 1
      have f1' := hD4.frozen 1
      have HD4 := Lib.hid (hD4.set 1 (.slice sa sn sc))
      have HR5 := Lib.hid (show RLIs (u4.setCell ⟨R, 1, none⟩ (.slice sa sn sc)) e (.slice sa sn sc) (KK ++ [(n, b)]) from HR4.out.kept (fun k hk => Below.heap_setCell _ _ _ _ (fun e' => by
        have e' : k = R := e'
        have := (HR4.out.own k hk).1
        omega)))
      have HC5 := Lib.hid (show Chg (fun k => k = R) w (u4.setCell ⟨R, 1, none⟩ (.slice sa sn sc)) from (HC1.out.trans (Chg.fresh (F := fun k => k = R) HS.out) (fun i hi => .inl hi)).setCell ⟨R, 1, none⟩ _ (.inl rfl))
      clear hD4
      have hUS : w1.heap.size ≤ e := hle1
      go_simp
      refine hK.out _ _ ((Chg.fresh (F := fun k => k = R) HS.out).setCell ⟨R, 1, none⟩ _ (.inl rfl)) (fun hHeld => ?_)
      clear hK K
      try simp only [Act.put]
      refine wpAnyH_done (by kernel_rfl) ?_ _
      go_wp2_with fail
      go_ret
      refine ⟨congrArg (fun z => Ending.returned (.int .i64 z)) HE.out.symm, .slice sa sn sc, by rw [HOP.out]; exact HD4.out, HC5.out, ?_⟩
      rw [HE.out, if_pos rfl]
      exact HR5.out.lower (by omega)
  · refine step_of_run (by rfl) (exec_load_rl (Operand.tmp 32) rfl R 1 rfl lv ((HS.out.cell (p := ⟨R, 1, none⟩) hR1).trans C1.out)) ?_
    refine hK.out _ _ (Chg.fresh HS.out) (fun hHeld => ?_)
    clear hK K
    try simp only [Act.put, List.setIfInBounds_toArray, List.set_cons_zero, List.set_cons_succ]
    refine wpAnyH_ready (rs := [1, 10]) (by kernel_rfl) (by simp) ?_
    refine (AllReadyH.cons (o := ({ dst := some 29, op := Op.buildSlice 75 0 #[], type := 75, pos := "ref.go:72", after := #[], guard := none } : Oper)) rfl (fun K hK => ?_) (AllReadyH.cons (o := ({ dst := some 38, op := Op.buildSlice 75 1 #[(0, Operand.tmp 37)], type := 75, pos := "ref.go:72", after := #[{ on := 9, ground := Ground.data }], guard := none } : Oper)) rfl (fun K hK => ?_) AllReadyH.nil))
    · refine step_empty_rw (by rfl) (by rfl) ?_
      intro e u1 he hbu hle
      have HE1 := Lib.hid he
      try (have hxne : x ≠ e := (by have := (Array.getElem?_eq_some_iff.1 HX1.out).1; omega))
      have hes : e < u1.heap.size := (Array.getElem?_eq_some_iff.1 he).1
      have hle1 : w1.heap.size ≤ e := by have := HS.out.size; omega
      try (have hx' := HX1.out; have hxlt := (Array.getElem?_eq_some_iff.1 hx').1; replace HX1 := Lib.hid ((hbu.block _ hxlt).trans hx'); clear hx' hxlt)
      replace HS := Lib.hid (HS.out.trans (hbu.mono HS.out.size))
      clear he hbu hle
      refine hK.out _ _ (Chg.fresh HS.out) (fun hHeld => ?_)
      clear hK K
      try simp only [Act.put, List.setIfInBounds_toArray, List.set_cons_zero, List.set_cons_succ]
      refine wpAnyH_ready (rs := [6, 10]) (by kernel_rfl) (by simp) ?_
      refine (AllReadyH.cons (o := ({ dst := some 34, op := Op.call { callee := Callee.builtin Builtin.append, args := #[Operand.tmp 29, Operand.tmp 33], argTypes := #[75, 75] }, type := 75, pos := "ref.go:72", after := #[{ on := 1, ground := Ground.data }, { on := 5, ground := Ground.data }], guard := none } : Oper)) rfl (fun K hK => ?_) (AllReadyH.cons (o := ({ dst := some 38, op := Op.buildSlice 75 1 #[(0, Operand.tmp 37)], type := 75, pos := "ref.go:72", after := #[{ on := 9, ground := Ground.data }], guard := none } : Oper)) rfl (fun K hK => ?_) AllReadyH.nil))
      · refine step_append_rlit (by rfl) (Operand.tmp 29) (Operand.tmp 33) (by rfl) e (by rfl) B lv KK (by rfl) (HL1.out.kept (fun k hk => HS.out.block k (HL1.out.own k hk).2)) hKl2 HE1.out ?_
        intro v2 u2 hr2 hg2
        have HR2 := Lib.hid hr2
        have hOW := (fun k hk => (hr2.own k hk).1 : ∀ k, v2.ownBlock = some k → e ≤ k)
        have HOW := Lib.hid hOW
        clear hOW
        try (have hx' := HX1.out; have hxlt := (Array.getElem?_eq_some_iff.1 hx').1; replace HX1 := Lib.hid ((hg2.block _ hxlt (by intro hh; injection hh with hh; exact hxne hh)).trans hx'); clear hx' hxlt)
        replace hes : e < u2.heap.size := by have := hg2.size; omega
        replace HS := Lib.hid (HS.out.grown hg2 HS.out.size (fun k hk => by injection hk with hk; omega))
        clear hr2 hg2
        refine hK.out _ _ (Chg.fresh HS.out) (fun hHeld => ?_)
        clear hK K
        try simp only [Act.put, List.setIfInBounds_toArray, List.set_cons_zero, List.set_cons_succ]
        refine wpAnyH_ready (rs := [10]) (by kernel_rfl) (by simp) ?_
        refine (AllReadyH.cons (o := ({ dst := some 38, op := Op.buildSlice 75 1 #[(0, Operand.tmp 37)], type := 75, pos := "ref.go:72", after := #[{ on := 9, ground := Ground.data }], guard := none } : Oper)) rfl (fun K hK => ?_) AllReadyH.nil)
        refine step_one_rw (by rfl) (Operand.tmp 37) (by rfl) (n, b) HBL.out (by rfl) ?_
        intro x u3 hx3 hb3 hlx
        have HX1 := Lib.hid hx3
        try (have he' := HE1.out; have helt := (Array.getElem?_eq_some_iff.1 he').1; have hxne : x ≠ e := (by omega); replace HE1 := Lib.hid ((hb3.block _ helt).trans he'); clear he' helt)
        try (replace HR2 := Lib.hid (HR2.out.kept (fun k hk => hb3.block k (HR2.out.own k hk).2)))
        try (replace hes : e < u3.heap.size := (by have := hb3.size; omega))
        replace HS := Lib.hid (HS.out.trans (hb3.mono HS.out.size))
        clear hx3 hb3 hlx
        refine hK.out _ _ (Chg.fresh HS.out) (fun hHeld => ?_)
        clear hK K
        try simp only [Act.put, List.setIfInBounds_toArray, List.set_cons_zero, List.set_cons_succ]
        refine wpAnyH_ready (rs := [11]) (by kernel_rfl) (by simp) ?_
        refine (AllReadyH.cons (o := ({ dst := some 39, op := Op.call { callee := Callee.builtin Builtin.append, args := #[Operand.tmp 34, Operand.tmp 38], argTypes := #[75, 75] }, type := 75, pos := "ref.go:72", after := #[{ on := 6, ground := Ground.data }, { on := 10, ground := Ground.data }, { on := 6, ground := Ground.chain }], guard := none } : Oper)) rfl (fun K hK => ?_) AllReadyH.nil)
        refine step_append_rw (by rfl) (Operand.tmp 34) (Operand.tmp 38) (by rfl) e v2 KK (by rfl) HR2.out x (n, b) HBL.out (by rfl) HX1.out hKl2 (Nat.le_of_lt hes) ?_
        intro v4 u4 hr4 hg4
        have HR4 := Lib.hid hr4
        replace HS := Lib.hid (HS.out.grown hg4 HS.out.size (fun k hk => by have := HOW.out k hk; omega))
        clear hr4 hg4
        obtain ⟨sa, sc, hv4⟩ := HR4.out.shape
        generalize (KK ++ [(n, b)]).length = sn at hv4
        subst hv4
        refine hK.out _ _ (Chg.fresh HS.out) (fun hHeld => ?_)
        clear hK K
        try simp only [Act.put, List.setIfInBounds_toArray, List.set_cons_zero, List.set_cons_succ]
        refine wpAnyH_take (i := 12) (oi := ({ dst := some 40, op := Op.nilCheck (Operand.tmp 28), type := 0, pos := "ref.go:72", after := #[{ on := 0, ground := Ground.data }, { on := 0, ground := Ground.phase }, { on := 1, ground := Ground.phase }, { on := 2, ground := Ground.phase }, { on := 3, ground := Ground.phase }, { on := 4, ground := Ground.phase }, { on := 5, ground := Ground.phase }, { on := 6, ground := Ground.phase }, { on := 7, ground := Ground.phase }, { on := 8, ground := Ground.phase }, { on := 9, ground := Ground.phase }, { on := 10, ground := Ground.phase }, { on := 11, ground := Ground.phase }], guard := none } : Oper)) (v := ?_) rfl (by kernel_rfl) (by kernel_rfl) (by kernel_rfl) (fun _ _ _ h => h) (Or.inl ⟨by rfl, ?_⟩) (by assumption) ?_
        rotate_left 1
        · (intro u hSw; go_simp; try with_reducible rfl)
        try simp only [Act.put, List.setIfInBounds_toArray, List.set_cons_zero, List.set_cons_succ]
        refine wpAnyH_take (i := 13) (oi := ({ dst := some 41, op := Op.fieldAddr 77 (Operand.tmp 40) 1, type := 0, pos := "ref.go:72", after := #[{ on := 12, ground := Ground.data }, { on := 0, ground := Ground.phase }, { on := 1, ground := Ground.phase }, { on := 2, ground := Ground.phase }, { on := 3, ground := Ground.phase }, { on := 4, ground := Ground.phase }, { on := 5, ground := Ground.phase }, { on := 6, ground := Ground.phase }, { on := 7, ground := Ground.phase }, { on := 8, ground := Ground.phase }, { on := 9, ground := Ground.phase }, { on := 10, ground := Ground.phase }, { on := 11, ground := Ground.phase }], guard := none } : Oper)) (v := ?_) rfl (by kernel_rfl) (by kernel_rfl) (by kernel_rfl) (fun _ _ _ h => h) (Or.inl ⟨by rfl, ?_⟩) (by assumption) ?_
        rotate_left 1
        · (intro u hSw; go_simp; try with_reducible rfl)
        try simp only [Act.put, List.setIfInBounds_toArray, List.set_cons_zero, List.set_cons_succ]
        refine wpAnyH_ready (rs := [14]) (by kernel_rfl) (by simp) ?_
        refine (AllReadyH.cons (o := ({ dst := none, op := Op.store 75 (Operand.tmp 41) (Operand.tmp 39), type := 0, pos := "ref.go:72", after := #[{ on := 13, ground := Ground.data }, { on := 11, ground := Ground.data }, { on := 11, ground := Ground.chain }, { on := 0, ground := Ground.phase }, { on := 1, ground := Ground.phase }, { on := 2, ground := Ground.phase }, { on := 3, ground := Ground.phase }, { on := 4, ground := Ground.phase }, { on := 5, ground := Ground.phase }, { on := 6, ground := Ground.phase }, { on := 7, ground := Ground.phase }, { on := 8, ground := Ground.phase }, { on := 9, ground := Ground.phase }, { on := 10, ground := Ground.phase }, { on := 11, ground := Ground.phase }], guard := none } : Oper)) rfl (fun K hK => ?_) AllReadyH.nil)
        have hD4 : RefIs u4 R _ := (HS.out.block R hR1).trans HD1.out
        have c1' : u4.cell? ⟨R, 1, none⟩ = some lv := hD4.cell 1
        have f1' := hD4.frozen 1
        have HD4 := Lib.hid (hD4.set 1 (.slice sa sn sc))
        have HR5 := Lib.hid (show RLIs (u4.setCell ⟨R, 1, none⟩ (.slice sa sn sc)) e (.slice sa sn sc) (KK ++ [(n, b)]) from HR4.out.kept (fun k hk => Below.heap_setCell _ _ _ _ (fun e' => by
          have e' : k = R := e'
          have := (HR4.out.own k hk).1
          omega)))
        have HC5 := Lib.hid (show Chg (fun k => k = R) w (u4.setCell ⟨R, 1, none⟩ (.slice sa sn sc)) from (HC1.out.trans (Chg.fresh (F := fun k => k = R) HS.out) (fun i hi => .inl hi)).setCell ⟨R, 1, none⟩ _ (.inl rfl))
        clear hD4
        have hUS : w1.heap.size ≤ e := hle1
        go_simp
        refine hK.out _ _ ((Chg.fresh (F := fun k => k = R) HS.out).setCell ⟨R, 1, none⟩ _ (.inl rfl)) (fun hHeld => ?_)
        clear hK K
        try simp only [Act.put]
        refine wpAnyH_done (by kernel_rfl) ?_ _
        go_wp2_with fail
        go_ret
        refine ⟨congrArg (fun z => Ending.returned (.int .i64 z)) HE.out.symm, .slice sa sn sc, by rw [HOP.out]; exact HD4.out, HC5.out, ?_⟩
        rw [HE.out, if_pos rfl]
        exact HR5.out.lower (by omega)
      · refine step_one_rw (by rfl) (Operand.tmp 37) (by rfl) (n, b) HBL.out (by rfl) ?_
        intro x u3 hx3 hb3 hlx
        have HX1 := Lib.hid hx3
        try (have he' := HE1.out; have helt := (Array.getElem?_eq_some_iff.1 he').1; have hxne : x ≠ e := (by omega); replace HE1 := Lib.hid ((hb3.block _ helt).trans he'); clear he' helt)
        try (replace HR2 := Lib.hid (HR2.out.kept (fun k hk => hb3.block k (HR2.out.own k hk).2)))
        try (replace hes : e < u3.heap.size := (by have := hb3.size; omega))
        replace HS := Lib.hid (HS.out.trans (hb3.mono HS.out.size))
        clear hx3 hb3 hlx
        refine hK.out _ _ (Chg.fresh HS.out) (fun hHeld => ?_)
        clear hK K
        try simp only [Act.put, List.setIfInBounds_toArray, List.set_cons_zero, List.set_cons_succ]
        refine wpAnyH_ready (rs := [6]) (by kernel_rfl) (by simp) ?_
        refine (AllReadyH.cons (o := ({ dst := some 34, op := Op.call { callee := Callee.builtin Builtin.append, args := #[Operand.tmp 29, Operand.tmp 33], argTypes := #[75, 75] }, type := 75, pos := "ref.go:72", after := #[{ on := 1, ground := Ground.data }, { on := 5, ground := Ground.data }], guard := none } : Oper)) rfl (fun K hK => ?_) AllReadyH.nil)
        refine step_append_rlit (by rfl) (Operand.tmp 29) (Operand.tmp 33) (by rfl) e (by rfl) B lv KK (by rfl) (HL1.out.kept (fun k hk => HS.out.block k (HL1.out.own k hk).2)) hKl2 HE1.out ?_
        intro v2 u2 hr2 hg2
        have HR2 := Lib.hid hr2
        have hOW := (fun k hk => (hr2.own k hk).1 : ∀ k, v2.ownBlock = some k → e ≤ k)
        have HOW := Lib.hid hOW
        clear hOW
        try (have hx' := HX1.out; have hxlt := (Array.getElem?_eq_some_iff.1 hx').1; replace HX1 := Lib.hid ((hg2.block _ hxlt (by intro hh; injection hh with hh; exact hxne hh)).trans hx'); clear hx' hxlt)
        replace hes : e < u2.heap.size := by have := hg2.size; omega
        replace HS := Lib.hid (HS.out.grown hg2 HS.out.size (fun k hk => by injection hk with hk; omega))
        clear hr2 hg2
        refine hK.out _ _ (Chg.fresh HS.out) (fun hHeld => ?_)
        clear hK K
        try simp only [Act.put, List.setIfInBounds_toArray, List.set_cons_zero, List.set_cons_succ]
        refine wpAnyH_ready (rs := [11]) (by kernel_rfl) (by simp) ?_
        refine (AllReadyH.cons (o := ({ dst := some 39, op := Op.call { callee := Callee.builtin Builtin.append, args := #[Operand.tmp 34, Operand.tmp 38], argTypes := #[75, 75] }, type := 75, pos := "ref.go:72", after := #[{ on := 6, ground := Ground.data }, { on := 10, ground := Ground.data }, { on := 6, ground := Ground.chain }], guard := none } : Oper)) rfl (fun K hK => ?_) AllReadyH.nil)
        refine step_append_rw (by rfl) (Operand.tmp 34) (Operand.tmp 38) (by rfl) e v2 KK (by rfl) HR2.out x (n, b) HBL.out (by rfl) HX1.out hKl2 (Nat.le_of_lt hes) ?_
        intro v4 u4 hr4 hg4
        have HR4 := Lib.hid hr4
        replace HS := Lib.hid (HS.out.grown hg4 HS.out.size (fun k hk => by have := HOW.out k hk; omega))
        clear hr4 hg4
        obtain ⟨sa, sc, hv4⟩ := HR4.out.shape
        generalize (KK ++ [(n, b)]).length = sn at hv4
        subst hv4
        refine hK.out _ _ (Chg.fresh HS.out) (fun hHeld => ?_)
        clear hK K
        try simp only [Act.put, List.setIfInBounds_toArray, List.set_cons_zero, List.set_cons_succ]
        refine wpAnyH_take (i := 12) (oi := ({ dst := some 40, op := Op.nilCheck (Operand.tmp 28), type := 0, pos := "ref.go:72", after := #[{ on := 0, ground := Ground.data }, { on := 0, ground := Ground.phase }, { on := 1, ground := Ground.phase }, { on := 2, ground := Ground.phase }, { on := 3, ground := Ground.phase }, { on := 4, ground := Ground.phase }, { on := 5, ground := Ground.phase }, { on := 6, ground := Ground.phase }, { on := 7, ground := Ground.phase }, { on := 8, ground := Ground.phase }, { on := 9, ground := Ground.phase }, { on := 10, ground := Ground.phase }, { on := 11, ground := Ground.phase }], guard := none } : Oper)) (v := ?_) rfl (by kernel_rfl) (by kernel_rfl) (by kernel_rfl) (fun _ _ _ h => h) (Or.inl ⟨by rfl, ?_⟩) (by assumption) ?_
        rotate_left 1
        · (intro u hSw; go_simp; try with_reducible rfl)
        try simp only [Act.put, List.setIfInBounds_toArray, List.set_cons_zero, List.set_cons_succ]
        refine wpAnyH_take (i := 13) (oi := ({ dst := some 41, op := Op.fieldAddr 77 (Operand.tmp 40) 1, type := 0, pos := "ref.go:72", after := #[{ on := 12, ground := Ground.data }, { on := 0, ground := Ground.phase }, { on := 1, ground := Ground.phase }, { on := 2, ground := Ground.phase }, { on := 3, ground := Ground.phase }, { on := 4, ground := Ground.phase }, { on := 5, ground := Ground.phase }, { on := 6, ground := Ground.phase }, { on := 7, ground := Ground.phase }, { on := 8, ground := Ground.phase }, { on := 9, ground := Ground.phase }, { on := 10, ground := Ground.phase }, { on := 11, ground := Ground.phase }], guard := none } : Oper)) (v := ?_) rfl (by kernel_rfl) (by kernel_rfl) (by kernel_rfl) (fun _ _ _ h => h) (Or.inl ⟨by rfl, ?_⟩) (by assumption) ?_
        rotate_left 1
        · (intro u hSw; go_simp; try with_reducible rfl)
        try simp only [Act.put, List.setIfInBounds_toArray, List.set_cons_zero, List.set_cons_succ]
        refine wpAnyH_ready (rs := [14]) (by kernel_rfl) (by simp) ?_
        refine (AllReadyH.cons (o := ({ dst := none, op := Op.store 75 (Operand.tmp 41) (Operand.tmp 39), type := 0, pos := "ref.go:72", after := #[{ on := 13, ground := Ground.data }, { on := 11, ground := Ground.data }, { on := 11, ground := Ground.chain }, { on := 0, ground := Ground.phase }, { on := 1, ground := Ground.phase }, { on := 2, ground := Ground.phase }, { on := 3, ground := Ground.phase }, { on := 4, ground := Ground.phase }, { on := 5, ground := Ground.phase }, { on := 6, ground := Ground.phase }, { on := 7, ground := Ground.phase }, { on := 8, ground := Ground.phase }, { on := 9, ground := Ground.phase }, { on := 10, ground := Ground.phase }, { on := 11, ground := Ground.phase }], guard := none } : Oper)) rfl (fun K hK => ?_) AllReadyH.nil)
        have hD4 : RefIs u4 R _ := (HS.out.block R hR1).trans HD1.out
        have c1' : u4.cell? ⟨R, 1, none⟩ = some lv := hD4.cell 1
        have f1' := hD4.frozen 1
        have HD4 := Lib.hid (hD4.set 1 (.slice sa sn sc))
        have HR5 := Lib.hid (show RLIs (u4.setCell ⟨R, 1, none⟩ (.slice sa sn sc)) e (.slice sa sn sc) (KK ++ [(n, b)]) from HR4.out.kept (fun k hk => Below.heap_setCell _ _ _ _ (fun e' => by
          have e' : k = R := e'
          have := (HR4.out.own k hk).1
          omega)))
        have HC5 := Lib.hid (show Chg (fun k => k = R) w (u4.setCell ⟨R, 1, none⟩ (.slice sa sn sc)) from (HC1.out.trans (Chg.fresh (F := fun k => k = R) HS.out) (fun i hi => .inl hi)).setCell ⟨R, 1, none⟩ _ (.inl rfl))
        clear hD4
        have hUS : w1.heap.size ≤ e := hle1
        go_simp
        refine hK.out _ _ ((Chg.fresh (F := fun k => k = R) HS.out).setCell ⟨R, 1, none⟩ _ (.inl rfl)) (fun hHeld => ?_)
        clear hK K
        try simp only [Act.put]
        refine wpAnyH_done (by kernel_rfl) ?_ _
        go_wp2_with fail
        go_ret
        refine ⟨congrArg (fun z => Ending.returned (.int .i64 z)) HE.out.symm, .slice sa sn sc, by rw [HOP.out]; exact HD4.out, HC5.out, ?_⟩
        rw [HE.out, if_pos rfl]
        exact HR5.out.lower (by omega)
    · refine step_one_rw (by rfl) (Operand.tmp 37) (by rfl) (n, b) HBL.out (by rfl) ?_
      intro x u3 hx3 hb3 hlx
      have HX1 := Lib.hid hx3
      try (have he' := HE1.out; have helt := (Array.getElem?_eq_some_iff.1 he').1; have hxne : x ≠ e := (by omega); replace HE1 := Lib.hid ((hb3.block _ helt).trans he'); clear he' helt)
      try (replace HR2 := Lib.hid (HR2.out.kept (fun k hk => hb3.block k (HR2.out.own k hk).2)))
      try (replace hes : e < u3.heap.size := (by have := hb3.size; omega))
      replace HS := Lib.hid (HS.out.trans (hb3.mono HS.out.size))
      clear hx3 hb3 hlx
      refine hK.out _ _ (Chg.fresh HS.out) (fun hHeld => ?_)
      clear hK K
      try simp only [Act.put, List.setIfInBounds_toArray, List.set_cons_zero, List.set_cons_succ]
      refine wpAnyH_ready (rs := [1]) (by kernel_rfl) (by simp) ?_
      refine (AllReadyH.cons (o := ({ dst := some 29, op := Op.buildSlice 75 0 #[], type := 75, pos := "ref.go:72", after := #[], guard := none } : Oper)) rfl (fun K hK => ?_) AllReadyH.nil)
      refine step_empty_rw (by rfl) (by rfl) ?_
      intro e u1 he hbu hle
      have HE1 := Lib.hid he
      try (have hxne : x ≠ e := (by have := (Array.getElem?_eq_some_iff.1 HX1.out).1; omega))
      have hes : e < u1.heap.size := (Array.getElem?_eq_some_iff.1 he).1
      have hle1 : w1.heap.size ≤ e := by have := HS.out.size; omega
      try (have hx' := HX1.out; have hxlt := (Array.getElem?_eq_some_iff.1 hx').1; replace HX1 := Lib.hid ((hbu.block _ hxlt).trans hx'); clear hx' hxlt)
      replace HS := Lib.hid (HS.out.trans (hbu.mono HS.out.size))
      clear he hbu hle
      refine hK.out _ _ (Chg.fresh HS.out) (fun hHeld => ?_)
      clear hK K
      try simp only [Act.put, List.setIfInBounds_toArray, List.set_cons_zero, List.set_cons_succ]
      refine wpAnyH_ready (rs := [6]) (by kernel_rfl) (by simp) ?_
      refine (AllReadyH.cons (o := ({ dst := some 34, op := Op.call { callee := Callee.builtin Builtin.append, args := #[Operand.tmp 29, Operand.tmp 33], argTypes := #[75, 75] }, type := 75, pos := "ref.go:72", after := #[{ on := 1, ground := Ground.data }, { on := 5, ground := Ground.data }], guard := none } : Oper)) rfl (fun K hK => ?_) AllReadyH.nil)
      refine step_append_rlit (by rfl) (Operand.tmp 29) (Operand.tmp 33) (by rfl) e (by rfl) B lv KK (by rfl) (HL1.out.kept (fun k hk => HS.out.block k (HL1.out.own k hk).2)) hKl2 HE1.out ?_
      intro v2 u2 hr2 hg2
      have HR2 := Lib.hid hr2
      have hOW := (fun k hk => (hr2.own k hk).1 : ∀ k, v2.ownBlock = some k → e ≤ k)
      have HOW := Lib.hid hOW
      clear hOW
      try (have hx' := HX1.out; have hxlt := (Array.getElem?_eq_some_iff.1 hx').1; replace HX1 := Lib.hid ((hg2.block _ hxlt (by intro hh; injection hh with hh; exact hxne hh)).trans hx'); clear hx' hxlt)
      replace hes : e < u2.heap.size := by have := hg2.size; omega
      replace HS := Lib.hid (HS.out.grown hg2 HS.out.size (fun k hk => by injection hk with hk; omega))
      clear hr2 hg2
      refine hK.out _ _ (Chg.fresh HS.out) (fun hHeld => ?_)
      clear hK K
      try simp only [Act.put, List.setIfInBounds_toArray, List.set_cons_zero, List.set_cons_succ]
      refine wpAnyH_ready (rs := [11]) (by kernel_rfl) (by simp) ?_
      refine (AllReadyH.cons (o := ({ dst := some 39, op := Op.call { callee := Callee.builtin Builtin.append, args := #[Operand.tmp 34, Operand.tmp 38], argTypes := #[75, 75] }, type := 75, pos := "ref.go:72", after := #[{ on := 6, ground := Ground.data }, { on := 10, ground := Ground.data }, { on := 6, ground := Ground.chain }], guard := none } : Oper)) rfl (fun K hK => ?_) AllReadyH.nil)
      refine step_append_rw (by rfl) (Operand.tmp 34) (Operand.tmp 38) (by rfl) e v2 KK (by rfl) HR2.out x (n, b) HBL.out (by rfl) HX1.out hKl2 (Nat.le_of_lt hes) ?_
      intro v4 u4 hr4 hg4
      have HR4 := Lib.hid hr4
      replace HS := Lib.hid (HS.out.grown hg4 HS.out.size (fun k hk => by have := HOW.out k hk; omega))
      clear hr4 hg4
      obtain ⟨sa, sc, hv4⟩ := HR4.out.shape
      generalize (KK ++ [(n, b)]).length = sn at hv4
      subst hv4
      refine hK.out _ _ (Chg.fresh HS.out) (fun hHeld => ?_)
      clear hK K
      try simp only [Act.put, List.setIfInBounds_toArray, List.set_cons_zero, List.set_cons_succ]
      refine wpAnyH_take (i := 12) (oi := ({ dst := some 40, op := Op.nilCheck (Operand.tmp 28), type := 0, pos := "ref.go:72", after := #[{ on := 0, ground := Ground.data }, { on := 0, ground := Ground.phase }, { on := 1, ground := Ground.phase }, { on := 2, ground := Ground.phase }, { on := 3, ground := Ground.phase }, { on := 4, ground := Ground.phase }, { on := 5, ground := Ground.phase }, { on := 6, ground := Ground.phase }, { on := 7, ground := Ground.phase }, { on := 8, ground := Ground.phase }, { on := 9, ground := Ground.phase }, { on := 10, ground := Ground.phase }, { on := 11, ground := Ground.phase }], guard := none } : Oper)) (v := ?_) rfl (by kernel_rfl) (by kernel_rfl) (by kernel_rfl) (fun _ _ _ h => h) (Or.inl ⟨by rfl, ?_⟩) (by assumption) ?_
      rotate_left 1
      · (intro u hSw; go_simp; try with_reducible rfl)
      try simp only [Act.put, List.setIfInBounds_toArray, List.set_cons_zero, List.set_cons_succ]
      refine wpAnyH_take (i := 13) (oi := ({ dst := some 41, op := Op.fieldAddr 77 (Operand.tmp 40) 1, type := 0, pos := "ref.go:72", after := #[{ on := 12, ground := Ground.data }, { on := 0, ground := Ground.phase }, { on := 1, ground := Ground.phase }, { on := 2, ground := Ground.phase }, { on := 3, ground := Ground.phase }, { on := 4, ground := Ground.phase }, { on := 5, ground := Ground.phase }, { on := 6, ground := Ground.phase }, { on := 7, ground := Ground.phase }, { on := 8, ground := Ground.phase }, { on := 9, ground := Ground.phase }, { on := 10, ground := Ground.phase }, { on := 11, ground := Ground.phase }], guard := none } : Oper)) (v := ?_) rfl (by kernel_rfl) (by kernel_rfl) (by kernel_rfl) (fun _ _ _ h => h) (Or.inl ⟨by rfl, ?_⟩) (by assumption) ?_
      rotate_left 1
      · (intro u hSw; go_simp; try with_reducible rfl)
      try simp only [Act.put, List.setIfInBounds_toArray, List.set_cons_zero, List.set_cons_succ]
      refine wpAnyH_ready (rs := [14]) (by kernel_rfl) (by simp) ?_
      refine (AllReadyH.cons (o := ({ dst := none, op := Op.store 75 (Operand.tmp 41) (Operand.tmp 39), type := 0, pos := "ref.go:72", after := #[{ on := 13, ground := Ground.data }, { on := 11, ground := Ground.data }, { on := 11, ground := Ground.chain }, { on := 0, ground := Ground.phase }, { on := 1, ground := Ground.phase }, { on := 2, ground := Ground.phase }, { on := 3, ground := Ground.phase }, { on := 4, ground := Ground.phase }, { on := 5, ground := Ground.phase }, { on := 6, ground := Ground.phase }, { on := 7, ground := Ground.phase }, { on := 8, ground := Ground.phase }, { on := 9, ground := Ground.phase }, { on := 10, ground := Ground.phase }, { on := 11, ground := Ground.phase }], guard := none } : Oper)) rfl (fun K hK => ?_) AllReadyH.nil)
      have hD4 : RefIs u4 R _ := (HS.out.block R hR1).trans HD1.out
      have c1' : u4.cell? ⟨R, 1, none⟩ = some lv := hD4.cell 1
      have f1' := hD4.frozen 1
      have HD4 := Lib.hid (hD4.set 1 (.slice sa sn sc))
      have HR5 := Lib.hid (show RLIs (u4.setCell ⟨R, 1, none⟩ (.slice sa sn sc)) e (.slice sa sn sc) (KK ++ [(n, b)]) from HR4.out.kept (fun k hk => Below.heap_setCell _ _ _ _ (fun e' => by
        have e' : k = R := e'
        have := (HR4.out.own k hk).1
        omega)))
      have HC5 := Lib.hid (show Chg (fun k => k = R) w (u4.setCell ⟨R, 1, none⟩ (.slice sa sn sc)) from (HC1.out.trans (Chg.fresh (F := fun k => k = R) HS.out) (fun i hi => .inl hi)).setCell ⟨R, 1, none⟩ _ (.inl rfl))
      clear hD4
      have hUS : w1.heap.size ≤ e := hle1
      go_simp
      refine hK.out _ _ ((Chg.fresh (F := fun k => k = R) HS.out).setCell ⟨R, 1, none⟩ _ (.inl rfl)) (fun hHeld => ?_)
      clear hK K
      try simp only [Act.put]
      refine wpAnyH_done (by kernel_rfl) ?_ _
      go_wp2_with fail
      go_ret
      refine ⟨congrArg (fun z => Ending.returned (.int .i64 z)) HE.out.symm, .slice sa sn sc, by rw [HOP.out]; exact HD4.out, HC5.out, ?_⟩
      rw [HE.out, if_pos rfl]
      exact HR5.out.lower (by omega)
  · refine step_one_rw (by rfl) (Operand.tmp 37) (by rfl) (n, b) HBL.out (by rfl) ?_
    intro x u3 hx3 hb3 hlx
    have HX1 := Lib.hid hx3
    try (have he' := HE1.out; have helt := (Array.getElem?_eq_some_iff.1 he').1; have hxne : x ≠ e := (by omega); replace HE1 := Lib.hid ((hb3.block _ helt).trans he'); clear he' helt)
    try (replace HR2 := Lib.hid (HR2.out.kept (fun k hk => hb3.block k (HR2.out.own k hk).2)))
    try (replace hes : e < u3.heap.size := (by have := hb3.size; omega))
    replace HS := Lib.hid (HS.out.trans (hb3.mono HS.out.size))
    clear hx3 hb3 hlx
    refine hK.out _ _ (Chg.fresh HS.out) (fun hHeld => ?_)
    clear hK K
    try simp only [Act.put, List.setIfInBounds_toArray, List.set_cons_zero, List.set_cons_succ]
    refine wpAnyH_ready (rs := [1, 5]) (by kernel_rfl) (by simp) ?_
    refine (AllReadyH.cons (o := ({ dst := some 29, op := Op.buildSlice 75 0 #[], type := 75, pos := "ref.go:72", after := #[], guard := none } : Oper)) rfl (fun K hK => ?_) (AllReadyH.cons (o := ({ dst := some 33, op := Op.load 75 (Operand.tmp 32), type := 75, pos := "ref.go:72", after := #[{ on := 4, ground := Ground.data }], guard := none } : Oper)) rfl (fun K hK => ?_) AllReadyH.nil))
    · refine step_empty_rw (by rfl) (by rfl) ?_
      intro e u1 he hbu hle
      have HE1 := Lib.hid he
      try (have hxne : x ≠ e := (by have := (Array.getElem?_eq_some_iff.1 HX1.out).1; omega))
      have hes : e < u1.heap.size := (Array.getElem?_eq_some_iff.1 he).1
      have hle1 : w1.heap.size ≤ e := by have := HS.out.size; omega
      try (have hx' := HX1.out; have hxlt := (Array.getElem?_eq_some_iff.1 hx').1; replace HX1 := Lib.hid ((hbu.block _ hxlt).trans hx'); clear hx' hxlt)
      replace HS := Lib.hid (HS.out.trans (hbu.mono HS.out.size))
      clear he hbu hle
      refine hK.out _ _ (Chg.fresh HS.out) (fun hHeld => ?_)
      clear hK K
      try simp only [Act.put, List.setIfInBounds_toArray, List.set_cons_zero, List.set_cons_succ]
      refine wpAnyH_ready (rs := [5]) (by kernel_rfl) (by simp) ?_
      refine (AllReadyH.cons (o := ({ dst := some 33, op := Op.load 75 (Operand.tmp 32), type := 75, pos := "ref.go:72", after := #[{ on := 4, ground := Ground.data }], guard := none } : Oper)) rfl (fun K hK => ?_) AllReadyH.nil)
      refine step_of_run (by rfl) (exec_load_rl (Operand.tmp 32) rfl R 1 rfl lv ((HS.out.cell (p := ⟨R, 1, none⟩) hR1).trans C1.out)) ?_
      refine hK.out _ _ (Chg.fresh HS.out) (fun hHeld => ?_)
      clear hK K
      try simp only [Act.put, List.setIfInBounds_toArray, List.set_cons_zero, List.set_cons_succ]
      refine wpAnyH_ready (rs := [6]) (by kernel_rfl) (by simp) ?_
      refine (AllReadyH.cons (o := ({ dst := some 34, op := Op.call { callee := Callee.builtin Builtin.append, args := #[Operand.tmp 29, Operand.tmp 33], argTypes := #[75, 75] }, type := 75, pos := "ref.go:72", after := #[{ on := 1, ground := Ground.data }, { on := 5, ground := Ground.data }], guard := none } : Oper)) rfl (fun K hK => ?_) AllReadyH.nil)
      refine step_append_rlit (by rfl) (Operand.tmp 29) (Operand.tmp 33) (by rfl) e (by rfl) B lv KK (by rfl) (HL1.out.kept (fun k hk => HS.out.block k (HL1.out.own k hk).2)) hKl2 HE1.out ?_
      intro v2 u2 hr2 hg2
      have HR2 := Lib.hid hr2
      have hOW := (fun k hk => (hr2.own k hk).1 : ∀ k, v2.ownBlock = some k → e ≤ k)
      have HOW := Lib.hid hOW
      clear hOW
      try (have hx' := HX1.out; have hxlt := (Array.getElem?_eq_some_iff.1 hx').1; replace HX1 := Lib.hid ((hg2.block _ hxlt (by intro hh; injection hh with hh; exact hxne hh)).trans hx'); clear hx' hxlt)
      replace hes : e < u2.heap.size := by have := hg2.size; omega
      replace HS := Lib.hid (HS.out.grown hg2 HS.out.size (fun k hk => by injection hk with hk; omega))
      clear hr2 hg2
      refine hK.out _ _ (Chg.fresh HS.out) (fun hHeld => ?_)
      clear hK K
      try simp only [Act.put, List.setIfInBounds_toArray, List.set_cons_zero, List.set_cons_succ]
      refine wpAnyH_ready (rs := [11]) (by kernel_rfl) (by simp) ?_
      refine (AllReadyH.cons (o := ({ dst := some 39, op := Op.call { callee := Callee.builtin Builtin.append, args := #[Operand.tmp 34, Operand.tmp 38], argTypes := #[75, 75] }, type := 75, pos := "ref.go:72", after := #[{ on := 6, ground := Ground.data }, { on := 10, ground := Ground.data }, { on := 6, ground := Ground.chain }], guard := none } : Oper)) rfl (fun K hK => ?_) AllReadyH.nil)
      refine step_append_rw (by rfl) (Operand.tmp 34) (Operand.tmp 38) (by rfl) e v2 KK (by rfl) HR2.out x (n, b) HBL.out (by rfl) HX1.out hKl2 (Nat.le_of_lt hes) ?_
      intro v4 u4 hr4 hg4
      have HR4 := Lib.hid hr4
      replace HS := Lib.hid (HS.out.grown hg4 HS.out.size (fun k hk => by have := HOW.out k hk; omega))
      clear hr4 hg4
      obtain ⟨sa, sc, hv4⟩ := HR4.out.shape
      generalize (KK ++ [(n, b)]).length = sn at hv4
      subst hv4
      refine hK.out _ _ (Chg.fresh HS.out) (fun hHeld => ?_)
      clear hK K
      try simp only [Act.put, List.setIfInBounds_toArray, List.set_cons_zero, List.set_cons_succ]
      refine wpAnyH_take (i := 12) (oi := ({ dst := some 40, op := Op.nilCheck (Operand.tmp 28), type := 0, pos := "ref.go:72", after := #[{ on := 0, ground := Ground.data }, { on := 0, ground := Ground.phase }, { on := 1, ground := Ground.phase }, { on := 2, ground := Ground.phase }, { on := 3, ground := Ground.phase }, { on := 4, ground := Ground.phase }, { on := 5, ground := Ground.phase }, { on := 6, ground := Ground.phase }, { on := 7, ground := Ground.phase }, { on := 8, ground := Ground.phase }, { on := 9, ground := Ground.phase }, { on := 10, ground := Ground.phase }, { on := 11, ground := Ground.phase }], guard := none } : Oper)) (v := ?_) rfl (by kernel_rfl) (by kernel_rfl) (by kernel_rfl) (fun _ _ _ h => h) (Or.inl ⟨by rfl, ?_⟩) (by assumption) ?_
      rotate_left 1
      · (intro u hSw; go_simp; try with_reducible rfl)
      try simp only [Act.put, List.setIfInBounds_toArray, List.set_cons_zero, List.set_cons_succ]
      refine wpAnyH_take (i := 13) (oi := ({ dst := some 41, op := Op.fieldAddr 77 (Operand.tmp 40) 1, type := 0, pos := "ref.go:72", after := #[{ on := 12, ground := Ground.data }, { on := 0, ground := Ground.phase }, { on := 1, ground := Ground.phase }, { on := 2, ground := Ground.phase }, { on := 3, ground := Ground.phase }, { on := 4, ground := Ground.phase }, { on := 5, ground := Ground.phase }, { on := 6, ground := Ground.phase }, { on := 7, ground := Ground.phase }, { on := 8, ground := Ground.phase }, { on := 9, ground := Ground.phase }, { on := 10, ground := Ground.phase }, { on := 11, ground := Ground.phase }], guard := none } : Oper)) (v := ?_) rfl (by kernel_rfl) (by kernel_rfl) (by kernel_rfl) (fun _ _ _ h => h) (Or.inl ⟨by rfl, ?_⟩) (by assumption) ?_
      rotate_left 1
      · (intro u hSw; go_simp; try with_reducible rfl)
      try simp only [Act.put, List.setIfInBounds_toArray, List.set_cons_zero, List.set_cons_succ]
      refine wpAnyH_ready (rs := [14]) (by kernel_rfl) (by simp) ?_
      refine (AllReadyH.cons (o := ({ dst := none, op := Op.store 75 (Operand.tmp 41) (Operand.tmp 39), type := 0, pos := "ref.go:72", after := #[{ on := 13, ground := Ground.data }, { on := 11, ground := Ground.data }, { on := 11, ground := Ground.chain }, { on := 0, ground := Ground.phase }, { on := 1, ground := Ground.phase }, { on := 2, ground := Ground.phase }, { on := 3, ground := Ground.phase }, { on := 4, ground := Ground.phase }, { on := 5, ground := Ground.phase }, { on := 6, ground := Ground.phase }, { on := 7, ground := Ground.phase }, { on := 8, ground := Ground.phase }, { on := 9, ground := Ground.phase }, { on := 10, ground := Ground.phase }, { on := 11, ground := Ground.phase }], guard := none } : Oper)) rfl (fun K hK => ?_) AllReadyH.nil)
      have hD4 : RefIs u4 R _ := (HS.out.block R hR1).trans HD1.out
      have c1' : u4.cell? ⟨R, 1, none⟩ = some lv := hD4.cell 1
      have f1' := hD4.frozen 1
      have HD4 := Lib.hid (hD4.set 1 (.slice sa sn sc))
      have HR5 := Lib.hid (show RLIs (u4.setCell ⟨R, 1, none⟩ (.slice sa sn sc)) e (.slice sa sn sc) (KK ++ [(n, b)]) from HR4.out.kept (fun k hk => Below.heap_setCell _ _ _ _ (fun e' => by
        have e' : k = R := e'
        have := (HR4.out.own k hk).1
        omega)))
      have HC5 := Lib.hid (show Chg (fun k => k = R) w (u4.setCell ⟨R, 1, none⟩ (.slice sa sn sc)) from (HC1.out.trans (Chg.fresh (F := fun k => k = R) HS.out) (fun i hi => .inl hi)).setCell ⟨R, 1, none⟩ _ (.inl rfl))
      clear hD4
      have hUS : w1.heap.size ≤ e := hle1
      go_simp
      refine hK.out _ _ ((Chg.fresh (F := fun k => k = R) HS.out).setCell ⟨R, 1, none⟩ _ (.inl rfl)) (fun hHeld => ?_)
      clear hK K
      try simp only [Act.put]
      refine wpAnyH_done (by kernel_rfl) ?_ _
      go_wp2_with fail
      go_ret
      refine ⟨congrArg (fun z => Ending.returned (.int .i64 z)) HE.out.symm, .slice sa sn sc, by rw [HOP.out]; exact HD4.out, HC5.out, ?_⟩
      rw [HE.out, if_pos rfl]
      exact HR5.out.lower (by omega)
    · refine step_of_run (by rfl) (exec_load_rl (Operand.tmp 32) rfl R 1 rfl lv ((HS.out.cell (p := ⟨R, 1, none⟩) hR1).trans C1.out)) ?_
      refine hK.out _ _ (Chg.fresh HS.out) (fun hHeld => ?_)
      clear hK K
      try simp only [Act.put, List.setIfInBounds_toArray, List.set_cons_zero, List.set_cons_succ]
      refine wpAnyH_ready (rs := [1]) (by kernel_rfl) (by simp) ?_
      refine (AllReadyH.cons (o := ({ dst := some 29, op := Op.buildSlice 75 0 #[], type := 75, pos := "ref.go:72", after := #[], guard := none } : Oper)) rfl (fun K hK => ?_) AllReadyH.nil)
      refine step_empty_rw (by rfl) (by rfl) ?_
      intro e u1 he hbu hle
      have HE1 := Lib.hid he
      try (have hxne : x ≠ e := (by have := (Array.getElem?_eq_some_iff.1 HX1.out).1; omega))
      have hes : e < u1.heap.size := (Array.getElem?_eq_some_iff.1 he).1
      have hle1 : w1.heap.size ≤ e := by have := HS.out.size; omega
      try (have hx' := HX1.out; have hxlt := (Array.getElem?_eq_some_iff.1 hx').1; replace HX1 := Lib.hid ((hbu.block _ hxlt).trans hx'); clear hx' hxlt)
      replace HS := Lib.hid (HS.out.trans (hbu.mono HS.out.size))
      clear he hbu hle
      refine hK.out _ _ (Chg.fresh HS.out) (fun hHeld => ?_)
      clear hK K
      try simp only [Act.put, List.setIfInBounds_toArray, List.set_cons_zero, List.set_cons_succ]
      refine wpAnyH_ready (rs := [6]) (by kernel_rfl) (by simp) ?_
      refine (AllReadyH.cons (o := ({ dst := some 34, op := Op.call { callee := Callee.builtin Builtin.append, args := #[Operand.tmp 29, Operand.tmp 33], argTypes := #[75, 75] }, type := 75, pos := "ref.go:72", after := #[{ on := 1, ground := Ground.data }, { on := 5, ground := Ground.data }], guard := none } : Oper)) rfl (fun K hK => ?_) AllReadyH.nil)
      refine step_append_rlit (by rfl) (Operand.tmp 29) (Operand.tmp 33) (by rfl) e (by rfl) B lv KK (by rfl) (HL1.out.kept (fun k hk => HS.out.block k (HL1.out.own k hk).2)) hKl2 HE1.out ?_
      intro v2 u2 hr2 hg2
      have HR2 := Lib.hid hr2
      have hOW := (fun k hk => (hr2.own k hk).1 : ∀ k, v2.ownBlock = some k → e ≤ k)
      have HOW := Lib.hid hOW
      clear hOW
      try (have hx' := HX1.out; have hxlt := (Array.getElem?_eq_some_iff.1 hx').1; replace HX1 := Lib.hid ((hg2.block _ hxlt (by intro hh; injection hh with hh; exact hxne hh)).trans hx'); clear hx' hxlt)
      replace hes : e < u2.heap.size := by have := hg2.size; omega
      replace HS := Lib.hid (HS.out.grown hg2 HS.out.size (fun k hk => by injection hk with hk; omega))
      clear hr2 hg2
      refine hK.out _ _ (Chg.fresh HS.out) (fun hHeld => ?_)
      clear hK K
      try simp only [Act.put, List.setIfInBounds_toArray, List.set_cons_zero, List.set_cons_succ]
      refine wpAnyH_ready (rs := [11]) (by kernel_rfl) (by simp) ?_
      refine (AllReadyH.cons (o := ({ dst := some 39, op := Op.call { callee := Callee.builtin Builtin.append, args := #[Operand.tmp 34, Operand.tmp 38], argTypes := #[75, 75] }, type := 75, pos := "ref.go:72", after := #[{ on := 6, ground := Ground.data }, { on := 10, ground := Ground.data }, { on := 6, ground := Ground.chain }], guard := none } : Oper)) rfl (fun K hK => ?_) AllReadyH.nil)
      refine step_append_rw (by rfl) (Operand.tmp 34) (Operand.tmp 38) (by rfl) e v2 KK (by rfl) HR2.out x (n, b) HBL.out (by rfl) HX1.out hKl2 (Nat.le_of_lt hes) ?_
      intro v4 u4 hr4 hg4
      have HR4 := Lib.hid hr4
      replace HS := Lib.hid (HS.out.grown hg4 HS.out.size (fun k hk => by have := HOW.out k hk; omega))
      clear hr4 hg4
      obtain ⟨sa, sc, hv4⟩ := HR4.out.shape
      generalize (KK ++ [(n, b)]).length = sn at hv4
      subst hv4
      refine hK.out _ _ (Chg.fresh HS.out) (fun hHeld => ?_)
      clear hK K
      try simp only [Act.put, List.setIfInBounds_toArray, List.set_cons_zero, List.set_cons_succ]
      refine wpAnyH_take (i := 12) (oi := ({ dst := some 40, op := Op.nilCheck (Operand.tmp 28), type := 0, pos := "ref.go:72", after := #[{ on := 0, ground := Ground.data }, { on := 0, ground := Ground.phase }, { on := 1, ground := Ground.phase }, { on := 2, ground := Ground.phase }, { on := 3, ground := Ground.phase }, { on := 4, ground := Ground.phase }, { on := 5, ground := Ground.phase }, { on := 6, ground := Ground.phase }, { on := 7, ground := Ground.phase }, { on := 8, ground := Ground.phase }, { on := 9, ground := Ground.phase }, { on := 10, ground := Ground.phase }, { on := 11, ground := Ground.phase }], guard := none } : Oper)) (v := ?_) rfl (by kernel_rfl) (by kernel_rfl) (by kernel_rfl) (fun _ _ _ h => h) (Or.inl ⟨by rfl, ?_⟩) (by assumption) ?_
      rotate_left 1
      · (intro u hSw; go_simp; try with_reducible rfl)
      try simp only [Act.put, List.setIfInBounds_toArray, List.set_cons_zero, List.set_cons_succ]
      refine wpAnyH_take (i := 13) (oi := ({ dst := some 41, op := Op.fieldAddr 77 (Operand.tmp 40) 1, type := 0, pos := "ref.go:72", after := #[{ on := 12, ground := Ground.data }, { on := 0, ground := Ground.phase }, { on := 1, ground := Ground.phase }, { on := 2, ground := Ground.phase }, { on := 3, ground := Ground.phase }, { on := 4, ground := Ground.phase }, { on := 5, ground := Ground.phase }, { on := 6, ground := Ground.phase }, { on := 7, ground := Ground.phase }, { on := 8, ground := Ground.phase }, { on := 9, ground := Ground.phase }, { on := 10, ground := Ground.phase }, { on := 11, ground := Ground.phase }], guard := none } : Oper)) (v := ?_) rfl (by kernel_rfl) (by kernel_rfl) (by kernel_rfl) (fun _ _ _ h => h) (Or.inl ⟨by rfl, ?_⟩) (by assumption) ?_
      rotate_left 1
      · (intro u hSw; go_simp; try with_reducible rfl)
      try simp only [Act.put, List.setIfInBounds_toArray, List.set_cons_zero, List.set_cons_succ]
      refine wpAnyH_ready (rs := [14]) (by kernel_rfl) (by simp) ?_
      refine (AllReadyH.cons (o := ({ dst := none, op := Op.store 75 (Operand.tmp 41) (Operand.tmp 39), type := 0, pos := "ref.go:72", after := #[{ on := 13, ground := Ground.data }, { on := 11, ground := Ground.data }, { on := 11, ground := Ground.chain }, { on := 0, ground := Ground.phase }, { on := 1, ground := Ground.phase }, { on := 2, ground := Ground.phase }, { on := 3, ground := Ground.phase }, { on := 4, ground := Ground.phase }, { on := 5, ground := Ground.phase }, { on := 6, ground := Ground.phase }, { on := 7, ground := Ground.phase }, { on := 8, ground := Ground.phase }, { on := 9, ground := Ground.phase }, { on := 10, ground := Ground.phase }, { on := 11, ground := Ground.phase }], guard := none } : Oper)) rfl (fun K hK => ?_) AllReadyH.nil)
      have hD4 : RefIs u4 R _ := (HS.out.block R hR1).trans HD1.out
      have c1' : u4.cell? ⟨R, 1, none⟩ = some lv := hD4.cell 1
      have f1' := hD4.frozen 1
      have HD4 := Lib.hid (hD4.set 1 (.slice sa sn sc))
      have HR5 := Lib.hid (show RLIs (u4.setCell ⟨R, 1, none⟩ (.slice sa sn sc)) e (.slice sa sn sc) (KK ++ [(n, b)]) from HR4.out.kept (fun k hk => Below.heap_setCell _ _ _ _ (fun e' => by
        have e' : k = R := e'
        have := (HR4.out.own k hk).1
        omega)))
      have HC5 := Lib.hid (show Chg (fun k => k = R) w (u4.setCell ⟨R, 1, none⟩ (.slice sa sn sc)) from (HC1.out.trans (Chg.fresh (F := fun k => k = R) HS.out) (fun i hi => .inl hi)).setCell ⟨R, 1, none⟩ _ (.inl rfl))
      clear hD4
      have hUS : w1.heap.size ≤ e := hle1
      go_simp
      refine hK.out _ _ ((Chg.fresh (F := fun k => k = R) HS.out).setCell ⟨R, 1, none⟩ _ (.inl rfl)) (fun hHeld => ?_)
      clear hK K
      try simp only [Act.put]
      refine wpAnyH_done (by kernel_rfl) ?_ _
      go_wp2_with fail
      go_ret
      refine ⟨congrArg (fun z => Ending.returned (.int .i64 z)) HE.out.symm, .slice sa sn sc, by rw [HOP.out]; exact HD4.out, HC5.out, ?_⟩
      rw [HE.out, if_pos rfl]
      exact HR5.out.lower (by omega)
end Go.Proofs.Ytaibminomehppaa
