import Derived.Test.YtoedmhgbnjmejaaDiskV
import Derived.WalkKit
import Derived.ProofKit
import Derived.BigQuiet
import Derived.Deep.QuietTactic
import Derived.WalkSpells
import Derived.WalkLawsBesides
import Derived.Lib.Hide
import Derived.Deep.MidRow
import Derived.Deep.RegionLaw
import Derived.BigRegion
import Derived.Laws.AppendOwnNone
import Derived.Deep.DeepMust
import Derived.Deep.AppendLies
import Derived.RegionTactic
import Derived.Deep.WholeRow
import Derived.BigFrame
import Derived.Deep.RegionWith
import Derived.Deep.RegionHeld3
import Derived.Maps.RangeWalk
import Derived.Laws.CopyOwn
import Derived.StillTailTactics
namespace Go.Proofs.Ytoedmhgbnjmejaa
open Go.RowKit
theorem step_empty_bk {ops : Array Oper} {o : Oper} {a : Act} {w : World} {K : Act → World → Prop} {Q : Exit → Act → World → Prop} {E : Prop} (hg : o.guard = none) (ho : o.op = .buildSlice 41 0 #[])
    (hK : ∀ e w', w'.heap[e]? = some (.cells #[] 35 (0, 0)) → Below w.heap.size w w' → w.heap.size ≤ e → K (a.put o.dst (.slice (some ⟨e, 0, none⟩) 0 0)) w') :
    if Region.wanted o (yielded ops a.tmps) = true then Oper.wp Try.prog o a w K Q else E :=
  step_of_run hg (exec_bslice _ _ _ ho #[] (by simp) _ (run_empty_blocks w)) (hK _ _ (heap_alloc_new w _) ((Below.refl _ _).alloc (Nat.le_refl _) _) (Nat.le_refl _))
theorem run_append_blocks2 (u : World) (ty : TypeId) (B g : Nat) (v : Value) (bs : List (List Int)) (h : BkC u B g v bs) (h0 : 0 < bs.length) (hl : bs.length ≤ 4096) (e : Nat) (he : u.heap[e]? = some (.cells #[] 35 (0, 0))) :
    ∃ cap g' w', (Builtin.append_ #[41, 41] ty #[.slice (some ⟨e, 0, none⟩) 0 0, v]).run Try.prog u = .ok (.slice (some ⟨g', 0, none⟩) bs.length cap) w' ∧ BkC w' e g' (.slice (some ⟨g', 0, none⟩) bs.length cap) bs ∧ u.grownBy w' (some e) ∧ e ≤ g' ∧ ∃ c, w'.heap[g']? = some (.cells c 35 (0, 0)) := by
  obtain ⟨i, z, hi, hz, hs, hby, hzs⟩ : ∃ i z, Try.prog.info? 35 = some i ∧ i.zero = some z ∧ i.size = 256 ∧ i.bytes = 256 ∧ z.cells.size = 256 := by
    have h1 : (Try.prog.info? 35).map (fun ie => (ie.zero.map fun z => z.cells.size, ie.size, ie.bytes)) = some (some 256, 256, 256) := by kernel_rfl
    cases hie : Try.prog.info? 35 with
    | none => rw [hie] at h1; cases h1
    | some ie =>
      rw [hie] at h1
      simp only [Option.map_some, Option.some.injEq, Prod.mk.injEq] at h1
      cases hz : ie.zero with
      | none => rw [hz] at h1; exact absurd h1.1 (by simp)
      | some z => rw [hz] at h1; exact ⟨ie, z, rfl, hz, h1.2.1, h1.2.2, by simpa using h1.1⟩
  have hc := h.cells
  have hb : ∀ l ∈ bs, l.length = 256 := fun l hl => by obtain ⟨i, hi⟩ := List.mem_iff_getElem?.1 hl; exact (h.2.2.2.1 i l hi).1
  obtain ⟨⟨cap, rfl⟩, _⟩ := h
  have how : u.ownsRow e 35 256 (.slice (some ⟨e, 0, none⟩) 0 0) 0 [] := ⟨rfl, .inr ⟨e, 0, #[], rfl, Nat.le_refl _, he, Nat.le_refl _, Nat.zero_le _, rfl, rfl⟩⟩
  have h1 : ∀ v ∈ flatB bs, v.oneCell' = true := fun v hv => by
    obtain ⟨l, _, hv⟩ := List.mem_flatMap.1 hv
    obtain ⟨x, _, rfl⟩ := List.mem_map.1 hv
    rfl
  obtain ⟨v', w', hr, h2, h3, _⟩ := run_append_own (P := Try.prog) u e 41 ty 35 i z 256 256 Try.underlying41 hi hz hs hby hzs (by decide) _ 0 [] how ⟨g, 0, none⟩ bs.length cap (flatB bs) (flatB_len bs hb) hc h1 (by unfold maxLen; omega) (by omega) (Nat.le_of_lt (Array.getElem?_eq_some_iff.1 he).1)
  rw [Nat.zero_add, List.nil_append] at h2
  obtain ⟨g', hg'⟩ := BkC.owned hb h0 h2
  obtain ⟨⟨cap', hv'⟩, a2, a3⟩ := hg'
  subst hv'
  rcases h2.2 with ⟨_, e0⟩ | ⟨q, cap2, cur, hq, hbg, hgq, _⟩
  · omega
  · injection hq with hq _ _
    injection hq with hq
    injection hq with hq _ _
    subst hq
    exact ⟨cap', g', w', hr, ⟨⟨cap', rfl⟩, a2, a3⟩, h3, a2, cur, hgq⟩
theorem step_append_blit {ops : Array Oper} {o : Oper} {a : Act} {w : World} {K : Act → World → Prop} {Q : Exit → Act → World → Prop} {E : Prop}
    (hg : o.guard = none) (s x : Operand) (hop : o.op = Op.call { callee := Callee.builtin Builtin.append, args := #[s, x], argTypes := #[41, 41] }) (e : Nat)
    (hs : a.eval s = .slice (some ⟨e, 0, none⟩) 0 0) (B g : Nat) (v : Value) (bs : List (List Int)) (hx : a.eval x = v) (h : BkC w B g v bs) (h0 : 0 < bs.length) (hl : bs.length ≤ 4096) (he : w.heap[e]? = some (.cells #[] 35 (0, 0)))
    (hK : ∀ cap g' w', BkC w' e g' (.slice (some ⟨g', 0, none⟩) bs.length cap) bs → w.grownBy w' (some e) → e ≤ g' → (∃ c, w'.heap[g']? = some (.cells c 35 (0, 0))) → K (a.put o.dst (.slice (some ⟨g', 0, none⟩) bs.length cap)) w') :
    if Region.wanted o (yielded ops a.tmps) = true then Oper.wp Try.prog o a w K Q else E := by
  obtain ⟨cap, g', w', hr, r1, r2, r3, r4⟩ := run_append_blocks2 w o.type B g v bs h h0 hl e he
  exact step_of_run hg (exec_append s x _ hop _ _ hs hx hr) (hK cap g' w' r1 r2 r3 r4)
theorem exec_load_bk {ρ : Operand → Value} {o : Oper} {w : World} (x : Operand) (ho : o.op = .load 41 x) (b k : Nat) (hx : ρ x = .pointer (some ⟨b, k, none⟩)) (v : Value) (hc : w.cell? ⟨b, k, none⟩ = some v) :
    (execOp ρ o).run Try.prog w = .ok (.value v) w := by
  unfold execOp
  rw [ho]
  simp only [hx]
  go_simp
def RCopyEnds (B : Nat) (nb : Nat) (rm fz : Int) (off : Bool) (bs : List (List Int)) (KK : List RW) (w : World) (e : Ending) (w' : World) : Prop :=
  ∃ R' gf' cap' lv', e = .returned (.pointer (some ⟨R', 0, none⟩)) ∧ RefIs w' R' (RC (.slice (some ⟨gf', 0, none⟩) nb cap') lv' rm fz off) ∧ BkC w' w.heap.size gf' (.slice (some ⟨gf', 0, none⟩) nb cap') bs ∧ RLIs w' w.heap.size lv' KK ∧ Below B w w' ∧
    R' ≠ gf' ∧ lv'.ownBlock ≠ some R' ∧ lv'.ownBlock ≠ some gf' ∧ w.heap.size ≤ R'
set_option maxRecDepth 100000 in
set_option maxHeartbeats 4000000 in
theorem rcopy_any (B R gf nb fcap : Nat) (lv : Value) (rm fz : Int) (off : Bool) (bs : List (List Int)) (KK : List RW) (w : World) (hd : RefIs w R (RC (.slice (some ⟨gf, 0, none⟩) nb fcap) lv rm fz off)) (hb : BkC w B gf (.slice (some ⟨gf, 0, none⟩) nb fcap) bs) (hl : RLIs w B lv KK) (hKl : KK.length ≤ 268435456) (h0 : 0 < nb) (h4 : nb ≤ 4096) :
    Calls Try.prog 15 #[.pointer (some ⟨R, 0, none⟩)] w (RCopyEnds w.heap.size nb rm fz off bs KK w) := by
  have hlen : bs.length = nb := by obtain ⟨⟨c, e⟩, _⟩ := hb; injection e with _ e _; exact e.symm
  subst hlen
  have HD := Lib.hid hd
  have HB := Lib.hid hb
  have HL := Lib.hid hl
  have hRlt := hd.lt
  have hglt := hb.2.2.1
  have HS := Lib.hid (show Below w.heap.size w w.drew from (Below.refl _ _).drew)
  clear hd hb hl
  go_enter Try.func15, Try.ntmps15
  go_wp2_with fail
  refine wp_region_held_drew (S := fun u => Below w.heap.size w u) (by kernel_rfl) (HS.out) (fun hHeld => ?_)
  refine wpAnyH_take (i := 1) (oi := ({ dst := some 4, op := Op.move (Operand.tmp 0), type := 26, pos := "ref.go:130", after := #[], guard := none } : Oper)) (v := ?_) rfl (by kernel_rfl) (by kernel_rfl) (by kernel_rfl) (fun _ _ _ h => h) (Or.inl ⟨by rfl, ?_⟩) (by assumption) ?_
  rotate_left 1
  · (intro u hSw; go_simp; try with_reducible rfl)
  try simp only [Act.put, List.setIfInBounds_toArray, List.set_cons_zero, List.set_cons_succ]
  refine wpAnyH_take (i := 2) (oi := ({ dst := some 5, op := Op.nilCheck (Operand.tmp 4), type := 0, pos := "ref.go:130", after := #[{ on := 1, ground := Ground.data }], guard := none } : Oper)) (v := ?_) rfl (by kernel_rfl) (by kernel_rfl) (by kernel_rfl) (fun _ _ _ h => h) (Or.inl ⟨by rfl, ?_⟩) (by assumption) ?_
  rotate_left 1
  · (intro u hSw; go_simp; try with_reducible rfl)
  try simp only [Act.put, List.setIfInBounds_toArray, List.set_cons_zero, List.set_cons_succ]
  refine wpAnyH_take (i := 3) (oi := ({ dst := some 6, op := Op.fieldAddr 44 (Operand.tmp 5) 0, type := 0, pos := "ref.go:130", after := #[{ on := 2, ground := Ground.data }], guard := none } : Oper)) (v := ?_) rfl (by kernel_rfl) (by kernel_rfl) (by kernel_rfl) (fun _ _ _ h => h) (Or.inl ⟨by rfl, ?_⟩) (by assumption) ?_
  rotate_left 1
  · (intro u hSw; go_simp; try with_reducible rfl)
  try simp only [Act.put, List.setIfInBounds_toArray, List.set_cons_zero, List.set_cons_succ]
  refine wpAnyH_take (i := 4) (oi := ({ dst := some 7, op := Op.load 41 (Operand.tmp 6), type := 41, pos := "ref.go:130", after := #[{ on := 3, ground := Ground.data }], guard := none } : Oper)) (v := .slice (some ⟨gf, 0, none⟩) bs.length fcap) rfl (by kernel_rfl) (by kernel_rfl) (by kernel_rfl) (fun _ _ _ h => h) (Or.inl ⟨by rfl, ?_⟩) (by assumption) ?_
  · intro u hSw
    exact exec_load_bk (Operand.tmp 6) rfl R 0 rfl _ ((hSw.cell (p := ⟨R, 0, none⟩) hRlt).trans (HD.out.cell 0))
  try simp only [Act.put, List.setIfInBounds_toArray, List.set_cons_zero, List.set_cons_succ]
  refine wpAnyH_take (i := 7) (oi := ({ dst := some 10, op := Op.move (Operand.tmp 0), type := 26, pos := "ref.go:130", after := #[], guard := none } : Oper)) (v := ?_) rfl (by kernel_rfl) (by kernel_rfl) (by kernel_rfl) (fun _ _ _ h => h) (Or.inl ⟨by rfl, ?_⟩) (by assumption) ?_
  rotate_left 1
  · (intro u hSw; go_simp; try with_reducible rfl)
  try simp only [Act.put, List.setIfInBounds_toArray, List.set_cons_zero, List.set_cons_succ]
  refine wpAnyH_take (i := 8) (oi := ({ dst := some 11, op := Op.nilCheck (Operand.tmp 10), type := 0, pos := "ref.go:130", after := #[{ on := 7, ground := Ground.data }], guard := none } : Oper)) (v := ?_) rfl (by kernel_rfl) (by kernel_rfl) (by kernel_rfl) (fun _ _ _ h => h) (Or.inl ⟨by rfl, ?_⟩) (by assumption) ?_
  rotate_left 1
  · (intro u hSw; go_simp; try with_reducible rfl)
  try simp only [Act.put, List.setIfInBounds_toArray, List.set_cons_zero, List.set_cons_succ]
  refine wpAnyH_take (i := 9) (oi := ({ dst := some 12, op := Op.fieldAddr 44 (Operand.tmp 11) 1, type := 0, pos := "ref.go:130", after := #[{ on := 8, ground := Ground.data }], guard := none } : Oper)) (v := ?_) rfl (by kernel_rfl) (by kernel_rfl) (by kernel_rfl) (fun _ _ _ h => h) (Or.inl ⟨by rfl, ?_⟩) (by assumption) ?_
  rotate_left 1
  · (intro u hSw; go_simp; try with_reducible rfl)
  try simp only [Act.put, List.setIfInBounds_toArray, List.set_cons_zero, List.set_cons_succ]
  refine wpAnyH_take (i := 10) (oi := ({ dst := some 13, op := Op.load 42 (Operand.tmp 12), type := 42, pos := "ref.go:130", after := #[{ on := 9, ground := Ground.data }], guard := none } : Oper)) (v := lv) rfl (by kernel_rfl) (by kernel_rfl) (by kernel_rfl) (fun _ _ _ h => h) (Or.inl ⟨by rfl, ?_⟩) (by assumption) ?_
  · intro u hSw
    exact exec_load_rl (Operand.tmp 12) rfl R 1 rfl lv ((hSw.cell (p := ⟨R, 1, none⟩) hRlt).trans (HD.out.cell 1))
  try simp only [Act.put, List.setIfInBounds_toArray, List.set_cons_zero, List.set_cons_succ]
  refine wpAnyH_take (i := 12) (oi := ({ dst := some 15, op := Op.move (Operand.tmp 0), type := 26, pos := "ref.go:130", after := #[], guard := none } : Oper)) (v := ?_) rfl (by kernel_rfl) (by kernel_rfl) (by kernel_rfl) (fun _ _ _ h => h) (Or.inl ⟨by rfl, ?_⟩) (by assumption) ?_
  rotate_left 1
  · (intro u hSw; go_simp; try with_reducible rfl)
  try simp only [Act.put, List.setIfInBounds_toArray, List.set_cons_zero, List.set_cons_succ]
  refine wpAnyH_take (i := 13) (oi := ({ dst := some 16, op := Op.nilCheck (Operand.tmp 15), type := 0, pos := "ref.go:130", after := #[{ on := 12, ground := Ground.data }], guard := none } : Oper)) (v := ?_) rfl (by kernel_rfl) (by kernel_rfl) (by kernel_rfl) (fun _ _ _ h => h) (Or.inl ⟨by rfl, ?_⟩) (by assumption) ?_
  rotate_left 1
  · (intro u hSw; go_simp; try with_reducible rfl)
  try simp only [Act.put, List.setIfInBounds_toArray, List.set_cons_zero, List.set_cons_succ]
  refine wpAnyH_take (i := 14) (oi := ({ dst := some 17, op := Op.fieldAddr 44 (Operand.tmp 16) 2, type := 0, pos := "ref.go:130", after := #[{ on := 13, ground := Ground.data }], guard := none } : Oper)) (v := ?_) rfl (by kernel_rfl) (by kernel_rfl) (by kernel_rfl) (fun _ _ _ h => h) (Or.inl ⟨by rfl, ?_⟩) (by assumption) ?_
  rotate_left 1
  · (intro u hSw; go_simp; try with_reducible rfl)
  try simp only [Act.put, List.setIfInBounds_toArray, List.set_cons_zero, List.set_cons_succ]
  refine wpAnyH_take (i := 15) (oi := ({ dst := some 18, op := Op.load 3 (Operand.tmp 17), type := 3, pos := "ref.go:130", after := #[{ on := 14, ground := Ground.data }], guard := none } : Oper)) (v := ?_) rfl (by kernel_rfl) (by kernel_rfl) (by kernel_rfl) (fun _ _ _ h => h) (Or.inl ⟨by rfl, ?_⟩) (by assumption) ?_
  rotate_left 1
  · intro u hSw
    have h : u.cell? ⟨R, 2, none⟩ = some (.int .i64 rm) := (hSw.cell (p := ⟨R, 2, none⟩) hRlt).trans (HD.out.cell 2)
    go_simp
    try with_reducible rfl
  try simp only [Act.put, List.setIfInBounds_toArray, List.set_cons_zero, List.set_cons_succ]
  refine wpAnyH_take (i := 16) (oi := ({ dst := some 19, op := Op.move (Operand.tmp 0), type := 26, pos := "ref.go:130", after := #[], guard := none } : Oper)) (v := ?_) rfl (by kernel_rfl) (by kernel_rfl) (by kernel_rfl) (fun _ _ _ h => h) (Or.inl ⟨by rfl, ?_⟩) (by assumption) ?_
  rotate_left 1
  · (intro u hSw; go_simp; try with_reducible rfl)
  try simp only [Act.put, List.setIfInBounds_toArray, List.set_cons_zero, List.set_cons_succ]
  refine wpAnyH_take (i := 17) (oi := ({ dst := some 20, op := Op.nilCheck (Operand.tmp 19), type := 0, pos := "ref.go:130", after := #[{ on := 16, ground := Ground.data }], guard := none } : Oper)) (v := ?_) rfl (by kernel_rfl) (by kernel_rfl) (by kernel_rfl) (fun _ _ _ h => h) (Or.inl ⟨by rfl, ?_⟩) (by assumption) ?_
  rotate_left 1
  · (intro u hSw; go_simp; try with_reducible rfl)
  try simp only [Act.put, List.setIfInBounds_toArray, List.set_cons_zero, List.set_cons_succ]
  refine wpAnyH_take (i := 18) (oi := ({ dst := some 21, op := Op.fieldAddr 44 (Operand.tmp 20) 3, type := 0, pos := "ref.go:130", after := #[{ on := 17, ground := Ground.data }], guard := none } : Oper)) (v := ?_) rfl (by kernel_rfl) (by kernel_rfl) (by kernel_rfl) (fun _ _ _ h => h) (Or.inl ⟨by rfl, ?_⟩) (by assumption) ?_
  rotate_left 1
  · (intro u hSw; go_simp; try with_reducible rfl)
  try simp only [Act.put, List.setIfInBounds_toArray, List.set_cons_zero, List.set_cons_succ]
  refine wpAnyH_take (i := 19) (oi := ({ dst := some 22, op := Op.load 3 (Operand.tmp 21), type := 3, pos := "ref.go:130", after := #[{ on := 18, ground := Ground.data }], guard := none } : Oper)) (v := ?_) rfl (by kernel_rfl) (by kernel_rfl) (by kernel_rfl) (fun _ _ _ h => h) (Or.inl ⟨by rfl, ?_⟩) (by assumption) ?_
  rotate_left 1
  · intro u hSw
    have h : u.cell? ⟨R, 3, none⟩ = some (.int .i64 fz) := (hSw.cell (p := ⟨R, 3, none⟩) hRlt).trans (HD.out.cell 3)
    go_simp
    try with_reducible rfl
  try simp only [Act.put, List.setIfInBounds_toArray, List.set_cons_zero, List.set_cons_succ]
  refine wpAnyH_take (i := 20) (oi := ({ dst := some 23, op := Op.move (Operand.tmp 0), type := 26, pos := "ref.go:130", after := #[], guard := none } : Oper)) (v := ?_) rfl (by kernel_rfl) (by kernel_rfl) (by kernel_rfl) (fun _ _ _ h => h) (Or.inl ⟨by rfl, ?_⟩) (by assumption) ?_
  rotate_left 1
  · (intro u hSw; go_simp; try with_reducible rfl)
  try simp only [Act.put, List.setIfInBounds_toArray, List.set_cons_zero, List.set_cons_succ]
  refine wpAnyH_take (i := 21) (oi := ({ dst := some 24, op := Op.nilCheck (Operand.tmp 23), type := 0, pos := "ref.go:130", after := #[{ on := 20, ground := Ground.data }], guard := none } : Oper)) (v := ?_) rfl (by kernel_rfl) (by kernel_rfl) (by kernel_rfl) (fun _ _ _ h => h) (Or.inl ⟨by rfl, ?_⟩) (by assumption) ?_
  rotate_left 1
  · (intro u hSw; go_simp; try with_reducible rfl)
  try simp only [Act.put, List.setIfInBounds_toArray, List.set_cons_zero, List.set_cons_succ]
  refine wpAnyH_take (i := 22) (oi := ({ dst := some 25, op := Op.fieldAddr 44 (Operand.tmp 24) 4, type := 0, pos := "ref.go:130", after := #[{ on := 21, ground := Ground.data }], guard := none } : Oper)) (v := ?_) rfl (by kernel_rfl) (by kernel_rfl) (by kernel_rfl) (fun _ _ _ h => h) (Or.inl ⟨by rfl, ?_⟩) (by assumption) ?_
  rotate_left 1
  · (intro u hSw; go_simp; try with_reducible rfl)
  try simp only [Act.put, List.setIfInBounds_toArray, List.set_cons_zero, List.set_cons_succ]
  refine wpAnyH_take (i := 23) (oi := ({ dst := some 26, op := Op.load 4 (Operand.tmp 25), type := 4, pos := "ref.go:130", after := #[{ on := 22, ground := Ground.data }], guard := none } : Oper)) (v := ?_) rfl (by kernel_rfl) (by kernel_rfl) (by kernel_rfl) (fun _ _ _ h => h) (Or.inl ⟨by rfl, ?_⟩) (by assumption) ?_
  rotate_left 1
  · intro u hSw
    have h : u.cell? ⟨R, 4, none⟩ = some (.bool off) := (hSw.cell (p := ⟨R, 4, none⟩) hRlt).trans (HD.out.cell 4)
    go_simp
    try with_reducible rfl
  try simp only [Act.put, List.setIfInBounds_toArray, List.set_cons_zero, List.set_cons_succ]
  refine wpAnyH_ready (rs := [0, 6]) (by kernel_rfl) (by simp) ?_
  refine (AllReadyH.cons (o := ({ dst := some 3, op := Op.buildSlice 41 0 #[], type := 41, pos := "ref.go:130", after := #[], guard := none } : Oper)) rfl (fun K hK => ?_) (AllReadyH.cons (o := ({ dst := some 9, op := Op.buildSlice 42 0 #[], type := 42, pos := "ref.go:130", after := #[], guard := none } : Oper)) rfl (fun K hK => ?_) AllReadyH.nil))
  · refine step_empty_bk (by rfl) (by rfl) ?_
    intro e u1 he hbu hle
    have HE1 := Lib.hid he
    have hes : e < u1.heap.size := (Array.getElem?_eq_some_iff.1 he).1
    have hle1 : w.heap.size ≤ e := by have := HS.out.size; omega
    try (have hxne : x ≠ e := (by have := (Array.getElem?_eq_some_iff.1 HX1.out).1; omega))
    try (have hx' := HX1.out; have hxlt := (Array.getElem?_eq_some_iff.1 hx').1; replace HX1 := Lib.hid ((hbu.block _ hxlt).trans hx'); clear hx' hxlt)
    replace HS := Lib.hid (HS.out.trans (hbu.mono HS.out.size))
    clear he hbu hle
    refine hK.out _ _ HS.out (fun hHeld => ?_)
    clear hK K
    try simp only [Act.put, List.setIfInBounds_toArray, List.set_cons_zero, List.set_cons_succ]
    refine wpAnyH_ready (rs := [5, 6]) (by kernel_rfl) (by simp) ?_
    refine (AllReadyH.cons (o := ({ dst := some 8, op := Op.call { callee := Callee.builtin Builtin.append, args := #[Operand.tmp 3, Operand.tmp 7], argTypes := #[41, 41] }, type := 41, pos := "ref.go:130", after := #[{ on := 0, ground := Ground.data }, { on := 4, ground := Ground.data }], guard := none } : Oper)) rfl (fun K hK => ?_) (AllReadyH.cons (o := ({ dst := some 9, op := Op.buildSlice 42 0 #[], type := 42, pos := "ref.go:130", after := #[], guard := none } : Oper)) rfl (fun K hK => ?_) AllReadyH.nil))
    · refine step_append_blit (by rfl) (Operand.tmp 3) (Operand.tmp 7) (by rfl) e (by rfl) B gf _ bs (by rfl) (HB.out.of (HS.out.block gf hglt) (Nat.lt_of_lt_of_le hglt HS.out.size)) h0 h4 HE1.out ?_
      intro cap2 g2 u2 hb2 hg2 hle2 ht2
      obtain ⟨ct, ht2⟩ := ht2
      try (have hx' := HX1.out; have hxlt := (Array.getElem?_eq_some_iff.1 hx').1; replace HX1 := Lib.hid ((hg2.block _ hxlt (by intro hh; injection hh with hh; exact hxne hh)).trans hx'); clear hx' hxlt)
      have HB2 := Lib.hid hb2
      have HT2 := Lib.hid ht2
      replace HS := Lib.hid (HS.out.grown hg2 HS.out.size (fun k hk => by injection hk with hk; omega))
      clear hb2 hg2 ht2
      refine hK.out _ _ HS.out (fun hHeld => ?_)
      clear hK K
      try simp only [Act.put, List.setIfInBounds_toArray, List.set_cons_zero, List.set_cons_succ]
      refine wpAnyH_ready (rs := [6]) (by kernel_rfl) (by simp) ?_
      refine (AllReadyH.cons (o := ({ dst := some 9, op := Op.buildSlice 42 0 #[], type := 42, pos := "ref.go:130", after := #[], guard := none } : Oper)) rfl (fun K hK => ?_) AllReadyH.nil)
      refine step_empty_rw (by rfl) (by rfl) ?_
      intro x u3 hx3 hb3 hlx
      have HX1 := Lib.hid hx3
      have hlx1 : w.heap.size ≤ x := by have := HS.out.size; omega
      try (have hxne : x ≠ e := (by omega))
      try (have he' := HE1.out; have helt := (Array.getElem?_eq_some_iff.1 he').1; replace HE1 := Lib.hid ((hb3.block _ helt).trans he'); clear he' helt)
      try (replace HT2 := Lib.hid ((hb3.block _ HB2.out.2.2.1).trans HT2.out))
      try (replace HB2 := Lib.hid (HB2.out.of (hb3.block _ HB2.out.2.2.1) (Nat.lt_of_lt_of_le HB2.out.2.2.1 hb3.size)))
      replace HS := Lib.hid (HS.out.trans (hb3.mono HS.out.size))
      clear hx3 hb3 hlx
      refine hK.out _ _ HS.out (fun hHeld => ?_)
      clear hK K
      try simp only [Act.put, List.setIfInBounds_toArray, List.set_cons_zero, List.set_cons_succ]
      refine wpAnyH_ready (rs := [11]) (by kernel_rfl) (by simp) ?_
      refine (AllReadyH.cons (o := ({ dst := some 14, op := Op.call { callee := Callee.builtin Builtin.append, args := #[Operand.tmp 9, Operand.tmp 13], argTypes := #[42, 42] }, type := 42, pos := "ref.go:130", after := #[{ on := 6, ground := Ground.data }, { on := 10, ground := Ground.data }, { on := 5, ground := Ground.chain }], guard := none } : Oper)) rfl (fun K hK => ?_) AllReadyH.nil)
      refine step_append_rlit (by rfl) (Operand.tmp 9) (Operand.tmp 13) (by rfl) x (by rfl) B lv KK (by rfl) (HL.out.kept (fun k hk => HS.out.block k (HL.out.own k hk).2)) hKl HX1.out ?_
      intro v4 u4 hr4 hg4
      have hgx : g2 ≠ x := fun hh => by
        have h1 := HT2.out
        rw [hh, HX1.out] at h1
        injection h1 with h1
        injection h1 with _ h1 _
        exact absurd h1 (by decide)
      have HR4 := Lib.hid hr4
      replace HT2 := Lib.hid ((hg4.block _ HB2.out.2.2.1 (by intro hh; injection hh with hh; exact hgx hh)).trans HT2.out)
      replace HB2 := Lib.hid (HB2.out.of (hg4.block _ HB2.out.2.2.1 (by intro hh; injection hh with hh; exact hgx hh)) (Nat.lt_of_lt_of_le HB2.out.2.2.1 hg4.size))
      replace HS := Lib.hid (HS.out.grown hg4 HS.out.size (fun k hk => by injection hk with hk; omega))
      clear hr4 hg4
      obtain ⟨sa, sc, hv4⟩ := HR4.out.shape
      generalize hKKn : KK.length = sn at hv4
      have HKN := Lib.hid hKKn
      clear hKKn
      subst hv4
      have hbd : ∀ u : World, (Instr.build 44 #[(0, .slice (some ⟨g2, 0, none⟩) bs.length cap2), (1, .slice sa sn sc), (2, .int .i64 rm), (3, .int .i64 fz), (4, .bool off)]).run Try.prog u = .ok (.agg (RC (.slice (some ⟨g2, 0, none⟩) bs.length cap2) (.slice sa sn sc) rm fz off)) u := fun _ => by kernel_rfl
      refine hK.out _ _ HS.out (fun hHeld => ?_)
      clear hK K
      try simp only [Act.put, List.setIfInBounds_toArray, List.set_cons_zero, List.set_cons_succ]
      refine wpAnyH_take (i := 24) (oi := ({ dst := some 27, op := Op.build 44 #[(0, Operand.tmp 8), (1, Operand.tmp 14), (2, Operand.tmp 18), (3, Operand.tmp 22), (4, Operand.tmp 26)], type := 44, pos := "ref.go:130", after := #[{ on := 5, ground := Ground.data }, { on := 11, ground := Ground.data }, { on := 15, ground := Ground.data }, { on := 19, ground := Ground.data }, { on := 23, ground := Ground.data }], guard := none } : Oper)) (v := .agg (RC (.slice (some ⟨g2, 0, none⟩) bs.length cap2) (.slice sa sn sc) rm fz off)) rfl (by kernel_rfl) (by kernel_rfl) (by kernel_rfl) (fun _ _ _ h => h) (Or.inl ⟨by rfl, ?_⟩) (by assumption) ?_
      · intro u hSw
        exact exec_build 44 #[(0, Operand.tmp 8), (1, Operand.tmp 14), (2, Operand.tmp 18), (3, Operand.tmp 22), (4, Operand.tmp 26)] rfl #[(0, .slice (some ⟨g2, 0, none⟩) bs.length cap2), (1, .slice sa sn sc), (2, .int .i64 rm), (3, .int .i64 fz), (4, .bool off)] (by simp only [List.map_toArray, List.map_cons, List.map_nil]; rfl) _ (hbd u)
      try simp only [Act.put, List.setIfInBounds_toArray, List.set_cons_zero, List.set_cons_succ]
      refine wpAnyH_ready (rs := [25]) (by kernel_rfl) (by simp) ?_
      refine (AllReadyH.cons (o := ({ dst := some 28, op := Op.box 44 (Operand.tmp 27), type := 26, pos := "ref.go:130", after := #[{ on := 24, ground := Ground.data }], guard := none } : Oper)) rfl (fun K hK => ?_) AllReadyH.nil)
      clear hbd
      go_simp
      refine hK.out _ _ (HS.out.alloc HS.out.size _) (fun hHeld => ?_)
      clear hK K
      try simp only [Act.put, List.setIfInBounds_toArray, List.set_cons_zero, List.set_cons_succ]
      refine wpAnyH_take (i := 26) (oi := ({ dst := some 2, op := Op.assign (Operand.tmp 28), type := 26, pos := "ref.go:130", after := #[{ on := 25, ground := Ground.data }, { on := 11, ground := Ground.chain }, { on := 0, ground := Ground.phase }, { on := 1, ground := Ground.phase }, { on := 2, ground := Ground.phase }, { on := 3, ground := Ground.phase }, { on := 4, ground := Ground.phase }, { on := 5, ground := Ground.phase }, { on := 6, ground := Ground.phase }, { on := 7, ground := Ground.phase }, { on := 8, ground := Ground.phase }, { on := 9, ground := Ground.phase }, { on := 10, ground := Ground.phase }, { on := 11, ground := Ground.phase }, { on := 12, ground := Ground.phase }, { on := 13, ground := Ground.phase }, { on := 14, ground := Ground.phase }, { on := 15, ground := Ground.phase }, { on := 16, ground := Ground.phase }, { on := 17, ground := Ground.phase }, { on := 18, ground := Ground.phase }, { on := 19, ground := Ground.phase }, { on := 20, ground := Ground.phase }, { on := 21, ground := Ground.phase }, { on := 22, ground := Ground.phase }, { on := 23, ground := Ground.phase }, { on := 24, ground := Ground.phase }, { on := 25, ground := Ground.phase }], guard := none } : Oper)) (v := ?_) rfl (by kernel_rfl) (by kernel_rfl) (by kernel_rfl) (fun _ _ _ h => h) (Or.inl ⟨by rfl, ?_⟩) (by assumption) ?_
      rotate_left 1
      · (intro u hSw; go_simp; try with_reducible rfl)
      try simp only [Act.put, List.setIfInBounds_toArray, List.set_cons_zero, List.set_cons_succ]
      refine wpAnyH_done (by kernel_rfl) ?_ _
      go_wp2_with fail
      go_ret
      have hbl := Below.heap_alloc u4 (.cells (RC (.slice (some ⟨g2, 0, none⟩) bs.length cap2) (.slice sa sn sc) rm fz off) 44)
      have hown : ∀ k, (Value.slice sa sn sc).ownBlock = some k → x ≤ k ∧ k < u4.heap.size := fun k hk => HR4.out.own k hk
      refine ⟨u4.heap.size, g2, cap2, .slice sa sn sc, rfl, heap_alloc_new u4 _, HB2.out.of (hbl _ HB2.out.2.2.1) (by simp; have := HB2.out.2.2.1; omega) |> (fun h => ?_), (HR4.out.kept (fun k hk => hbl k (hown k hk).2)).lower hlx1, HS.out.alloc HS.out.size _, by have := HB2.out.2.2.1; omega, fun h => by have := (hown _ h).2; omega, fun h => ?_, HS.out.size⟩
      · exact ⟨h.1, by have := h.2.1; omega, h.2.2⟩
      · have hcon : ∀ q, (Value.slice sa sn sc).ownBlock = some q → ∃ c, u4.heap[q]? = some (.cells c 100 (0, 0)) := fun q hq => by
          rcases HR4.out.2 with ⟨e1, _⟩ | ⟨q', cp, cur, e1, _, hgg, _⟩
          · rw [e1] at hq; cases hq
          · rw [e1] at hq; injection hq with hq; subst hq; exact ⟨cur, hgg⟩
        obtain ⟨c, hc⟩ := hcon _ h
        rw [HT2.out] at hc
        injection hc with hc
        injection hc with _ hc _
        exact absurd hc (by decide)
    · refine step_empty_rw (by rfl) (by rfl) ?_
      intro x u3 hx3 hb3 hlx
      have HX1 := Lib.hid hx3
      have hlx1 : w.heap.size ≤ x := by have := HS.out.size; omega
      try (have hxne : x ≠ e := (by omega))
      try (have he' := HE1.out; have helt := (Array.getElem?_eq_some_iff.1 he').1; replace HE1 := Lib.hid ((hb3.block _ helt).trans he'); clear he' helt)
      try (replace HT2 := Lib.hid ((hb3.block _ HB2.out.2.2.1).trans HT2.out))
      try (replace HB2 := Lib.hid (HB2.out.of (hb3.block _ HB2.out.2.2.1) (Nat.lt_of_lt_of_le HB2.out.2.2.1 hb3.size)))
      replace HS := Lib.hid (HS.out.trans (hb3.mono HS.out.size))
      clear hx3 hb3 hlx
      refine hK.out _ _ HS.out (fun hHeld => ?_)
      clear hK K
      try simp only [Act.put, List.setIfInBounds_toArray, List.set_cons_zero, List.set_cons_succ]
      refine wpAnyH_ready (rs := [5]) (by kernel_rfl) (by simp) ?_
      refine (AllReadyH.cons (o := ({ dst := some 8, op := Op.call { callee := Callee.builtin Builtin.append, args := #[Operand.tmp 3, Operand.tmp 7], argTypes := #[41, 41] }, type := 41, pos := "ref.go:130", after := #[{ on := 0, ground := Ground.data }, { on := 4, ground := Ground.data }], guard := none } : Oper)) rfl (fun K hK => ?_) AllReadyH.nil)
      refine step_append_blit (by rfl) (Operand.tmp 3) (Operand.tmp 7) (by rfl) e (by rfl) B gf _ bs (by rfl) (HB.out.of (HS.out.block gf hglt) (Nat.lt_of_lt_of_le hglt HS.out.size)) h0 h4 HE1.out ?_
      intro cap2 g2 u2 hb2 hg2 hle2 ht2
      obtain ⟨ct, ht2⟩ := ht2
      try (have hx' := HX1.out; have hxlt := (Array.getElem?_eq_some_iff.1 hx').1; replace HX1 := Lib.hid ((hg2.block _ hxlt (by intro hh; injection hh with hh; exact hxne hh)).trans hx'); clear hx' hxlt)
      have HB2 := Lib.hid hb2
      have HT2 := Lib.hid ht2
      replace HS := Lib.hid (HS.out.grown hg2 HS.out.size (fun k hk => by injection hk with hk; omega))
      clear hb2 hg2 ht2
      refine hK.out _ _ HS.out (fun hHeld => ?_)
      clear hK K
      try simp only [Act.put, List.setIfInBounds_toArray, List.set_cons_zero, List.set_cons_succ]
      refine wpAnyH_ready (rs := [11]) (by kernel_rfl) (by simp) ?_
      refine (AllReadyH.cons (o := ({ dst := some 14, op := Op.call { callee := Callee.builtin Builtin.append, args := #[Operand.tmp 9, Operand.tmp 13], argTypes := #[42, 42] }, type := 42, pos := "ref.go:130", after := #[{ on := 6, ground := Ground.data }, { on := 10, ground := Ground.data }, { on := 5, ground := Ground.chain }], guard := none } : Oper)) rfl (fun K hK => ?_) AllReadyH.nil)
      refine step_append_rlit (by rfl) (Operand.tmp 9) (Operand.tmp 13) (by rfl) x (by rfl) B lv KK (by rfl) (HL.out.kept (fun k hk => HS.out.block k (HL.out.own k hk).2)) hKl HX1.out ?_
      intro v4 u4 hr4 hg4
      have hgx : g2 ≠ x := fun hh => by
        have h1 := HT2.out
        rw [hh, HX1.out] at h1
        injection h1 with h1
        injection h1 with _ h1 _
        exact absurd h1 (by decide)
      have HR4 := Lib.hid hr4
      replace HT2 := Lib.hid ((hg4.block _ HB2.out.2.2.1 (by intro hh; injection hh with hh; exact hgx hh)).trans HT2.out)
      replace HB2 := Lib.hid (HB2.out.of (hg4.block _ HB2.out.2.2.1 (by intro hh; injection hh with hh; exact hgx hh)) (Nat.lt_of_lt_of_le HB2.out.2.2.1 hg4.size))
      replace HS := Lib.hid (HS.out.grown hg4 HS.out.size (fun k hk => by injection hk with hk; omega))
      clear hr4 hg4
      obtain ⟨sa, sc, hv4⟩ := HR4.out.shape
      generalize hKKn : KK.length = sn at hv4
      have HKN := Lib.hid hKKn
      clear hKKn
      subst hv4
      have hbd : ∀ u : World, (Instr.build 44 #[(0, .slice (some ⟨g2, 0, none⟩) bs.length cap2), (1, .slice sa sn sc), (2, .int .i64 rm), (3, .int .i64 fz), (4, .bool off)]).run Try.prog u = .ok (.agg (RC (.slice (some ⟨g2, 0, none⟩) bs.length cap2) (.slice sa sn sc) rm fz off)) u := fun _ => by kernel_rfl
      refine hK.out _ _ HS.out (fun hHeld => ?_)
      clear hK K
      try simp only [Act.put, List.setIfInBounds_toArray, List.set_cons_zero, List.set_cons_succ]
      refine wpAnyH_take (i := 24) (oi := ({ dst := some 27, op := Op.build 44 #[(0, Operand.tmp 8), (1, Operand.tmp 14), (2, Operand.tmp 18), (3, Operand.tmp 22), (4, Operand.tmp 26)], type := 44, pos := "ref.go:130", after := #[{ on := 5, ground := Ground.data }, { on := 11, ground := Ground.data }, { on := 15, ground := Ground.data }, { on := 19, ground := Ground.data }, { on := 23, ground := Ground.data }], guard := none } : Oper)) (v := .agg (RC (.slice (some ⟨g2, 0, none⟩) bs.length cap2) (.slice sa sn sc) rm fz off)) rfl (by kernel_rfl) (by kernel_rfl) (by kernel_rfl) (fun _ _ _ h => h) (Or.inl ⟨by rfl, ?_⟩) (by assumption) ?_
      · intro u hSw
        exact exec_build 44 #[(0, Operand.tmp 8), (1, Operand.tmp 14), (2, Operand.tmp 18), (3, Operand.tmp 22), (4, Operand.tmp 26)] rfl #[(0, .slice (some ⟨g2, 0, none⟩) bs.length cap2), (1, .slice sa sn sc), (2, .int .i64 rm), (3, .int .i64 fz), (4, .bool off)] (by simp only [List.map_toArray, List.map_cons, List.map_nil]; rfl) _ (hbd u)
      try simp only [Act.put, List.setIfInBounds_toArray, List.set_cons_zero, List.set_cons_succ]
      refine wpAnyH_ready (rs := [25]) (by kernel_rfl) (by simp) ?_
      refine (AllReadyH.cons (o := ({ dst := some 28, op := Op.box 44 (Operand.tmp 27), type := 26, pos := "ref.go:130", after := #[{ on := 24, ground := Ground.data }], guard := none } : Oper)) rfl (fun K hK => ?_) AllReadyH.nil)
      clear hbd
      go_simp
      refine hK.out _ _ (HS.out.alloc HS.out.size _) (fun hHeld => ?_)
      clear hK K
      try simp only [Act.put, List.setIfInBounds_toArray, List.set_cons_zero, List.set_cons_succ]
      refine wpAnyH_take (i := 26) (oi := ({ dst := some 2, op := Op.assign (Operand.tmp 28), type := 26, pos := "ref.go:130", after := #[{ on := 25, ground := Ground.data }, { on := 11, ground := Ground.chain }, { on := 0, ground := Ground.phase }, { on := 1, ground := Ground.phase }, { on := 2, ground := Ground.phase }, { on := 3, ground := Ground.phase }, { on := 4, ground := Ground.phase }, { on := 5, ground := Ground.phase }, { on := 6, ground := Ground.phase }, { on := 7, ground := Ground.phase }, { on := 8, ground := Ground.phase }, { on := 9, ground := Ground.phase }, { on := 10, ground := Ground.phase }, { on := 11, ground := Ground.phase }, { on := 12, ground := Ground.phase }, { on := 13, ground := Ground.phase }, { on := 14, ground := Ground.phase }, { on := 15, ground := Ground.phase }, { on := 16, ground := Ground.phase }, { on := 17, ground := Ground.phase }, { on := 18, ground := Ground.phase }, { on := 19, ground := Ground.phase }, { on := 20, ground := Ground.phase }, { on := 21, ground := Ground.phase }, { on := 22, ground := Ground.phase }, { on := 23, ground := Ground.phase }, { on := 24, ground := Ground.phase }, { on := 25, ground := Ground.phase }], guard := none } : Oper)) (v := ?_) rfl (by kernel_rfl) (by kernel_rfl) (by kernel_rfl) (fun _ _ _ h => h) (Or.inl ⟨by rfl, ?_⟩) (by assumption) ?_
      rotate_left 1
      · (intro u hSw; go_simp; try with_reducible rfl)
      try simp only [Act.put, List.setIfInBounds_toArray, List.set_cons_zero, List.set_cons_succ]
      refine wpAnyH_done (by kernel_rfl) ?_ _
      go_wp2_with fail
      go_ret
      have hbl := Below.heap_alloc u4 (.cells (RC (.slice (some ⟨g2, 0, none⟩) bs.length cap2) (.slice sa sn sc) rm fz off) 44)
      have hown : ∀ k, (Value.slice sa sn sc).ownBlock = some k → x ≤ k ∧ k < u4.heap.size := fun k hk => HR4.out.own k hk
      refine ⟨u4.heap.size, g2, cap2, .slice sa sn sc, rfl, heap_alloc_new u4 _, HB2.out.of (hbl _ HB2.out.2.2.1) (by simp; have := HB2.out.2.2.1; omega) |> (fun h => ?_), (HR4.out.kept (fun k hk => hbl k (hown k hk).2)).lower hlx1, HS.out.alloc HS.out.size _, by have := HB2.out.2.2.1; omega, fun h => by have := (hown _ h).2; omega, fun h => ?_, HS.out.size⟩
      · exact ⟨h.1, by have := h.2.1; omega, h.2.2⟩
      · have hcon : ∀ q, (Value.slice sa sn sc).ownBlock = some q → ∃ c, u4.heap[q]? = some (.cells c 100 (0, 0)) := fun q hq => by
          rcases HR4.out.2 with ⟨e1, _⟩ | ⟨q', cp, cur, e1, _, hgg, _⟩
          · rw [e1] at hq; cases hq
          · rw [e1] at hq; injection hq with hq; subst hq; exact ⟨cur, hgg⟩
        obtain ⟨c, hc⟩ := hcon _ h
        rw [HT2.out] at hc
        injection hc with hc
        injection hc with _ hc _
        exact absurd hc (by decide)
  · refine step_empty_rw (by rfl) (by rfl) ?_
    intro x u3 hx3 hb3 hlx
    have HX1 := Lib.hid hx3
    have hlx1 : w.heap.size ≤ x := by have := HS.out.size; omega
    try (have hxne : x ≠ e := (by omega))
    try (have he' := HE1.out; have helt := (Array.getElem?_eq_some_iff.1 he').1; replace HE1 := Lib.hid ((hb3.block _ helt).trans he'); clear he' helt)
    try (replace HT2 := Lib.hid ((hb3.block _ HB2.out.2.2.1).trans HT2.out))
    try (replace HB2 := Lib.hid (HB2.out.of (hb3.block _ HB2.out.2.2.1) (Nat.lt_of_lt_of_le HB2.out.2.2.1 hb3.size)))
    replace HS := Lib.hid (HS.out.trans (hb3.mono HS.out.size))
    clear hx3 hb3 hlx
    refine hK.out _ _ HS.out (fun hHeld => ?_)
    clear hK K
    try simp only [Act.put, List.setIfInBounds_toArray, List.set_cons_zero, List.set_cons_succ]
    refine wpAnyH_ready (rs := [0]) (by kernel_rfl) (by simp) ?_
    refine (AllReadyH.cons (o := ({ dst := some 3, op := Op.buildSlice 41 0 #[], type := 41, pos := "ref.go:130", after := #[], guard := none } : Oper)) rfl (fun K hK => ?_) AllReadyH.nil)
    refine step_empty_bk (by rfl) (by rfl) ?_
    intro e u1 he hbu hle
    have HE1 := Lib.hid he
    have hes : e < u1.heap.size := (Array.getElem?_eq_some_iff.1 he).1
    have hle1 : w.heap.size ≤ e := by have := HS.out.size; omega
    try (have hxne : x ≠ e := (by have := (Array.getElem?_eq_some_iff.1 HX1.out).1; omega))
    try (have hx' := HX1.out; have hxlt := (Array.getElem?_eq_some_iff.1 hx').1; replace HX1 := Lib.hid ((hbu.block _ hxlt).trans hx'); clear hx' hxlt)
    replace HS := Lib.hid (HS.out.trans (hbu.mono HS.out.size))
    clear he hbu hle
    refine hK.out _ _ HS.out (fun hHeld => ?_)
    clear hK K
    try simp only [Act.put, List.setIfInBounds_toArray, List.set_cons_zero, List.set_cons_succ]
    refine wpAnyH_ready (rs := [5]) (by kernel_rfl) (by simp) ?_
    refine (AllReadyH.cons (o := ({ dst := some 8, op := Op.call { callee := Callee.builtin Builtin.append, args := #[Operand.tmp 3, Operand.tmp 7], argTypes := #[41, 41] }, type := 41, pos := "ref.go:130", after := #[{ on := 0, ground := Ground.data }, { on := 4, ground := Ground.data }], guard := none } : Oper)) rfl (fun K hK => ?_) AllReadyH.nil)
    refine step_append_blit (by rfl) (Operand.tmp 3) (Operand.tmp 7) (by rfl) e (by rfl) B gf _ bs (by rfl) (HB.out.of (HS.out.block gf hglt) (Nat.lt_of_lt_of_le hglt HS.out.size)) h0 h4 HE1.out ?_
    intro cap2 g2 u2 hb2 hg2 hle2 ht2
    obtain ⟨ct, ht2⟩ := ht2
    try (have hx' := HX1.out; have hxlt := (Array.getElem?_eq_some_iff.1 hx').1; replace HX1 := Lib.hid ((hg2.block _ hxlt (by intro hh; injection hh with hh; exact hxne hh)).trans hx'); clear hx' hxlt)
    have HB2 := Lib.hid hb2
    have HT2 := Lib.hid ht2
    replace HS := Lib.hid (HS.out.grown hg2 HS.out.size (fun k hk => by injection hk with hk; omega))
    clear hb2 hg2 ht2
    refine hK.out _ _ HS.out (fun hHeld => ?_)
    clear hK K
    try simp only [Act.put, List.setIfInBounds_toArray, List.set_cons_zero, List.set_cons_succ]
    refine wpAnyH_ready (rs := [11]) (by kernel_rfl) (by simp) ?_
    refine (AllReadyH.cons (o := ({ dst := some 14, op := Op.call { callee := Callee.builtin Builtin.append, args := #[Operand.tmp 9, Operand.tmp 13], argTypes := #[42, 42] }, type := 42, pos := "ref.go:130", after := #[{ on := 6, ground := Ground.data }, { on := 10, ground := Ground.data }, { on := 5, ground := Ground.chain }], guard := none } : Oper)) rfl (fun K hK => ?_) AllReadyH.nil)
    refine step_append_rlit (by rfl) (Operand.tmp 9) (Operand.tmp 13) (by rfl) x (by rfl) B lv KK (by rfl) (HL.out.kept (fun k hk => HS.out.block k (HL.out.own k hk).2)) hKl HX1.out ?_
    intro v4 u4 hr4 hg4
    have hgx : g2 ≠ x := fun hh => by
      have h1 := HT2.out
      rw [hh, HX1.out] at h1
      injection h1 with h1
      injection h1 with _ h1 _
      exact absurd h1 (by decide)
    have HR4 := Lib.hid hr4
    replace HT2 := Lib.hid ((hg4.block _ HB2.out.2.2.1 (by intro hh; injection hh with hh; exact hgx hh)).trans HT2.out)
    replace HB2 := Lib.hid (HB2.out.of (hg4.block _ HB2.out.2.2.1 (by intro hh; injection hh with hh; exact hgx hh)) (Nat.lt_of_lt_of_le HB2.out.2.2.1 hg4.size))
    replace HS := Lib.hid (HS.out.grown hg4 HS.out.size (fun k hk => by injection hk with hk; omega))
    clear hr4 hg4
    obtain ⟨sa, sc, hv4⟩ := HR4.out.shape
    generalize hKKn : KK.length = sn at hv4
    have HKN := Lib.hid hKKn
    clear hKKn
    subst hv4
    have hbd : ∀ u : World, (Instr.build 44 #[(0, .slice (some ⟨g2, 0, none⟩) bs.length cap2), (1, .slice sa sn sc), (2, .int .i64 rm), (3, .int .i64 fz), (4, .bool off)]).run Try.prog u = .ok (.agg (RC (.slice (some ⟨g2, 0, none⟩) bs.length cap2) (.slice sa sn sc) rm fz off)) u := fun _ => by kernel_rfl
    refine hK.out _ _ HS.out (fun hHeld => ?_)
    clear hK K
    try simp only [Act.put, List.setIfInBounds_toArray, List.set_cons_zero, List.set_cons_succ]
    refine wpAnyH_take (i := 24) (oi := ({ dst := some 27, op := Op.build 44 #[(0, Operand.tmp 8), (1, Operand.tmp 14), (2, Operand.tmp 18), (3, Operand.tmp 22), (4, Operand.tmp 26)], type := 44, pos := "ref.go:130", after := #[{ on := 5, ground := Ground.data }, { on := 11, ground := Ground.data }, { on := 15, ground := Ground.data }, { on := 19, ground := Ground.data }, { on := 23, ground := Ground.data }], guard := none } : Oper)) (v := .agg (RC (.slice (some ⟨g2, 0, none⟩) bs.length cap2) (.slice sa sn sc) rm fz off)) rfl (by kernel_rfl) (by kernel_rfl) (by kernel_rfl) (fun _ _ _ h => h) (Or.inl ⟨by rfl, ?_⟩) (by assumption) ?_
    · intro u hSw
      exact exec_build 44 #[(0, Operand.tmp 8), (1, Operand.tmp 14), (2, Operand.tmp 18), (3, Operand.tmp 22), (4, Operand.tmp 26)] rfl #[(0, .slice (some ⟨g2, 0, none⟩) bs.length cap2), (1, .slice sa sn sc), (2, .int .i64 rm), (3, .int .i64 fz), (4, .bool off)] (by simp only [List.map_toArray, List.map_cons, List.map_nil]; rfl) _ (hbd u)
    try simp only [Act.put, List.setIfInBounds_toArray, List.set_cons_zero, List.set_cons_succ]
    refine wpAnyH_ready (rs := [25]) (by kernel_rfl) (by simp) ?_
    refine (AllReadyH.cons (o := ({ dst := some 28, op := Op.box 44 (Operand.tmp 27), type := 26, pos := "ref.go:130", after := #[{ on := 24, ground := Ground.data }], guard := none } : Oper)) rfl (fun K hK => ?_) AllReadyH.nil)
    clear hbd
    go_simp
    refine hK.out _ _ (HS.out.alloc HS.out.size _) (fun hHeld => ?_)
    clear hK K
    try simp only [Act.put, List.setIfInBounds_toArray, List.set_cons_zero, List.set_cons_succ]
    refine wpAnyH_take (i := 26) (oi := ({ dst := some 2, op := Op.assign (Operand.tmp 28), type := 26, pos := "ref.go:130", after := #[{ on := 25, ground := Ground.data }, { on := 11, ground := Ground.chain }, { on := 0, ground := Ground.phase }, { on := 1, ground := Ground.phase }, { on := 2, ground := Ground.phase }, { on := 3, ground := Ground.phase }, { on := 4, ground := Ground.phase }, { on := 5, ground := Ground.phase }, { on := 6, ground := Ground.phase }, { on := 7, ground := Ground.phase }, { on := 8, ground := Ground.phase }, { on := 9, ground := Ground.phase }, { on := 10, ground := Ground.phase }, { on := 11, ground := Ground.phase }, { on := 12, ground := Ground.phase }, { on := 13, ground := Ground.phase }, { on := 14, ground := Ground.phase }, { on := 15, ground := Ground.phase }, { on := 16, ground := Ground.phase }, { on := 17, ground := Ground.phase }, { on := 18, ground := Ground.phase }, { on := 19, ground := Ground.phase }, { on := 20, ground := Ground.phase }, { on := 21, ground := Ground.phase }, { on := 22, ground := Ground.phase }, { on := 23, ground := Ground.phase }, { on := 24, ground := Ground.phase }, { on := 25, ground := Ground.phase }], guard := none } : Oper)) (v := ?_) rfl (by kernel_rfl) (by kernel_rfl) (by kernel_rfl) (fun _ _ _ h => h) (Or.inl ⟨by rfl, ?_⟩) (by assumption) ?_
    rotate_left 1
    · (intro u hSw; go_simp; try with_reducible rfl)
    try simp only [Act.put, List.setIfInBounds_toArray, List.set_cons_zero, List.set_cons_succ]
    refine wpAnyH_done (by kernel_rfl) ?_ _
    go_wp2_with fail
    go_ret
    have hbl := Below.heap_alloc u4 (.cells (RC (.slice (some ⟨g2, 0, none⟩) bs.length cap2) (.slice sa sn sc) rm fz off) 44)
    have hown : ∀ k, (Value.slice sa sn sc).ownBlock = some k → x ≤ k ∧ k < u4.heap.size := fun k hk => HR4.out.own k hk
    refine ⟨u4.heap.size, g2, cap2, .slice sa sn sc, rfl, heap_alloc_new u4 _, HB2.out.of (hbl _ HB2.out.2.2.1) (by simp; have := HB2.out.2.2.1; omega) |> (fun h => ?_), (HR4.out.kept (fun k hk => hbl k (hown k hk).2)).lower hlx1, HS.out.alloc HS.out.size _, by have := HB2.out.2.2.1; omega, fun h => by have := (hown _ h).2; omega, fun h => ?_, HS.out.size⟩
    · exact ⟨h.1, by have := h.2.1; omega, h.2.2⟩
    · have hcon : ∀ q, (Value.slice sa sn sc).ownBlock = some q → ∃ c, u4.heap[q]? = some (.cells c 100 (0, 0)) := fun q hq => by
        rcases HR4.out.2 with ⟨e1, _⟩ | ⟨q', cp, cur, e1, _, hgg, _⟩
        · rw [e1] at hq; cases hq
        · rw [e1] at hq; injection hq with hq; subst hq; exact ⟨cur, hgg⟩
      obtain ⟨c, hc⟩ := hcon _ h
      rw [HT2.out] at hc
      injection hc with hc
      injection hc with _ hc _
      exact absurd hc (by decide)
end Go.Proofs.Ytoedmhgbnjmejaa
