/- stage 7: the reader of a proof: tree, read -/
import Derived.Test.YtbmlkocpjboodaaDoorMv07
namespace Go.Proofs.YtbmlkocpjboodaaDoor
open Go.RowKit
open Go.Lib (hid)
set_option maxRecDepth 100000 in
set_option maxHeartbeats 4000000 in
theorem tree_any {S : Nat → Prop} (X : Nat) (hX : ¬ S X) (hg : 1 ≠ X) : ∀ d : Nat, d ≤ 4097 → TDo S X (4097 - (d : Int)) (rdT d) := by
 intro d
 induction d with
 | zero =>
  intro _ l w _ _ _ _
  obtain ⟨m, hm⟩ : ∃ m : Int, m = 4097 := ⟨_, rfl⟩
  rw [show (4097 - ((0 : Nat) : Int)) = m by omega]
  have hm2 : m > 4096 := by omega
  clear hm
  rw [show rdT 0 l = .inl 13 from rfl]
  go_enter Tryd.func74, Tryd.ntmps74
  go_wp2_with fail
  go_ret2
  exact ⟨by decide, rfl, Chg.refl _ _⟩
 | succ d ih =>
  intro hd l w h hr hK hS
  obtain ⟨m, hm⟩ : ∃ m : Int, m = 4096 - (d : Int) := ⟨_, rfl⟩
  have ihm := ih (by omega)
  rw [show (4097 - (d : Int)) = m + 1 by omega] at ihm
  rw [show (4097 - ((d + 1 : Nat) : Int)) = m by omega]
  have hm0 : 0 ≤ m := by omega
  have hm1 : m ≤ 4096 := by omega
  have HD := hid ihm
  clear ih ihm hm hd
  have HH := hid (And.intro hr (And.intro hK (And.intro hS hX)))
  have HG := hid hg
  have HTA := hid (take_any X l 1 w h hX)
  have HOK := hid (rdT_ok d)
  clear h hr hK hS hX hg
  cases l with
  | nil =>
   rw [show rdT (d + 1) [] = .inl 6 from rfl]
   go_enter Tryd.func74, Tryd.ntmps74
   go_wp2_with fail
   refine HTA.out.mono ?_
   rintro e w1 (⟨h2, -⟩ | ⟨h2, rfl, rfl⟩)
   ·exact absurd h2 (by decide)
   ·go_wp2_with fail
    go_ret2
    exact ⟨by decide, rfl, Chg.refl _ _⟩
  | cons x r =>
   have HRT := hid (show rdT (d + 1) (x :: r) = if x = 0 then .inr (.nil, r) else if x = 1 then rdP r else if x = 2 then rdNd (rdT d) r else .inl 5 from rfl)
   have hx := HH.out.1 x (List.mem_cons_self ..)
   have hx0 : 0 ≤ x := hx.1
   have hx1 : x ≤ 255 := by have := hx.2; omega
   clear hx
   generalize rdT (d + 1) (x :: r) = R at *
   go_enter Tryd.func74, Tryd.ntmps74
   go_wp2_with fail
   refine HTA.out.mono ?_
   rintro e w1 (⟨h2, a, c, rfl, hk, hri, hc⟩ | ⟨h2, -, -⟩)
   ·obtain ⟨b, o, rfl, hrg⟩ := kis_rng hk (by simp)
    have c0 : w1.cell? ⟨b, o, none⟩ = some (.int .u8 x) := hrg 0 (.int .u8 x) rfl
    replace hri : RIs w1 X S r := hri
    have HC := hid hc
    have HR := hid hri
    have HHP := hid (pruned_any X r w1 hri HH.out.2.2.2 (fun b hb => HH.out.2.2.1 b (Nat.le_trans hc.size hb)))
    have HHN := hid (node_any X m (rdT d) HOK.out HD.out hm0 hm1 HH.out.2.2.2 HG.out r w1 hri (fun y hy => HH.out.1 y (List.mem_cons_of_mem _ hy)) (HH.out.2.1.chg hc HG.out) (fun b hb => HH.out.2.2.1 b (Nat.le_trans hc.size hb)))
    clear hk hri hc h2 hrg HTA HD HOK
    by_cases e0 : x = 0
    ·subst e0
     rw [if_pos rfl] at HRT
     go_wp2_with fail
     go_ret2
     rw [HRT.out]
     exact ⟨_, rfl, rfl, HR.out, HC.out⟩
    ·rw [if_neg e0] at HRT
     have n0 : (x == 0) = false := beq_false_of_ne e0
     by_cases e1 : x = 1
     ·subst e1
      rw [if_pos rfl] at HRT
      go_wp2_with fail
      refine HHP.out.mono ?_
      rintro e w2 he
      rw [← HRT.out] at he
      rcases R with c' | ⟨t, r'⟩
      ·obtain ⟨hc0, rfl, hc2⟩ := he
       have H2 := hid (And.intro hc0 hc2)
       clear hc0 hc2
       go_wp2_with fail
       go_ret2
       exact ⟨H2.out.1, rfl, HC.out.trans H2.out.2 (fun i hi => .inl hi)⟩
      ·obtain ⟨p, rfl, hp, hr2, hc2⟩ := he
       obtain ⟨ap, rfl⟩ := hp.form
       have H2 := hid (And.intro hp (And.intro hr2 hc2))
       clear hp hr2 hc2
       go_wp2_with fail
       go_ret2
       exact ⟨_, rfl, H2.out.1, H2.out.2.1, HC.out.trans H2.out.2.2 (fun i hi => .inl hi)⟩
     ·rw [if_neg e1] at HRT
      have n1 : (x == 1) = false := beq_false_of_ne e1
      by_cases e2 : x = 2
      ·subst e2
       rw [if_pos rfl] at HRT
       go_wp2_with fail
       refine HHN.out.mono ?_
       rintro e w2 he
       rw [← HRT.out] at he
       rcases R with c' | ⟨t, r'⟩
       ·obtain ⟨hc0, rfl, hc2⟩ := he
        have H2 := hid (And.intro hc0 hc2)
        clear hc0 hc2
        go_wp2_with fail
        go_ret2
        exact ⟨H2.out.1, rfl, HC.out.trans H2.out.2 (fun i hi => .inl hi)⟩
       ·obtain ⟨p, rfl, hp, hr2, hc2⟩ := he
        obtain ⟨ap, rfl⟩ := hp.form
        have H2 := hid (And.intro hp (And.intro hr2 hc2))
        clear hp hr2 hc2
        go_wp2_with fail
        go_ret2
        exact ⟨_, rfl, H2.out.1, H2.out.2.1, HC.out.trans H2.out.2.2 (fun i hi => .inl hi)⟩
      ·rw [if_neg e2] at HRT
       have n2 : (x == 2) = false := beq_false_of_ne e2
       go_wp2_with fail
       go_ret2
       rw [HRT.out]
       exact ⟨by decide, rfl, HC.out⟩
   ·exact absurd h2 (by simp)
/-- what read makes of a proof: an error's number, or a tree -/
def rdAll (l : List Int) : Int ⊕ MT :=
 match rdT 4097 l with
 | .inl c => .inl c
 | .inr (t, r) => if r = [] then .inr t else .inl 7
theorem rdAll_ok {l : List Int} (h : Rng l) {t : MT} (e : rdAll l = .inr t) : t.Good := by
 have h0 := rdT_ok 4097 l h
 unfold rdAll at e
 generalize rdT 4097 l = T at *
 cases T with
 | inl c => cases e
 | inr x =>
  obtain ⟨t', r⟩ := x
  have h1 := h0 t' r rfl
  dsimp only at e
  split at e
  ·injection e with e
   subst e
   exact h1.1
  ·cases e
theorem Bs.kis {w : World} {v : Value} {l : List Int} (h : Bs w v l) : KIs w (fun b => b < w.heap.size) v l := by
 refine ⟨h, fun b o n c e h0 => ?_⟩
 obtain ⟨a, cap, hv, h1, h2⟩ := h
 obtain ⟨b', o', ha, hb, -⟩ := h2 h0
 subst ha
 rw [hv] at e
 injection e with e
 injection e with e
 injection e with e
 omega
/-- how read ends -/
def REnd (w : World) (e : Ending) (w' : World) : Int ⊕ MT → Prop
 | .inl c => c ≠ 0 ∧ e = .returned (.tuple #[.pointer none, .int .i64 c]) ∧ Below w.heap.size w w'
 | .inr t => ∃ p, e = .returned (.tuple #[p, .int .i64 0]) ∧ MIs w' (fun _ => True) p t ∧ Below w.heap.size w w'
theorem Chg.new {w w1 w' : World} {X : Nat} (h : Chg (fun q => q = X) w1 w') (hb : Below w.heap.size w w1) (hX : w.heap.size ≤ X) : Below w.heap.size w w' := hb.trans (h.below (fun k e => by omega) hb.size)
set_option maxRecDepth 100000 in
set_option maxHeartbeats 4000000 in
theorem read_any (l : List Int) (w : World) (v : Value) (hv : Bs w v l) (hr : Rng l) (hK : KC w) :
  Calls Tryd.prog 46 #[v] w fun e w' => REnd w e w' (rdAll l) := by
 have hk := hv.kis
 obtain ⟨a, c, rfl, -, -⟩ := hv
 have hbb : Below w.heap.size w (w.alloc (.cells #[.slice a l.length c] 130)) := (Below.refl _ _).alloc (Nat.le_refl _) _
 have hx : (w.alloc (.cells #[.slice a l.length c] 130)).heap[w.heap.size]? = some (.cells #[.slice a l.length c] 130 (0, 0)) := heap_alloc_new _ _
 have hri : RIs (w.alloc (.cells #[.slice a l.length c] 130)) w.heap.size (fun b => b ≠ w.heap.size) l := ⟨a, c, hx, (hk.below hbb).mono (fun b hb e => by omega)⟩
 have HT := hid (tree_any (S := fun b => b ≠ w.heap.size) w.heap.size (fun h => h rfl) (by have := hK.1; omega) 4097 (Nat.le_refl _) l _ hri hr (hK.below hbb hK.1) (fun b hb e => by rw [World.size_alloc] at hb; omega))
 have HA := hid (show rdAll l = match rdT 4097 l with | .inl c => .inl c | .inr (t, r) => if r = [] then .inr t else .inl 7 from rfl)
 have HBB := hid hbb
 generalize rdAll l = R at *
 generalize rdT 4097 l = T at *
 clear hk hbb hx hri hr hK
 go_enter Tryd.func46, Tryd.ntmps46
 go_wp2_with fail
 generalize w.alloc (.cells #[.slice a l.length c] 130) = w1 at *
 refine HT.out.mono ?_
 rintro e w2 he
 rcases T with c | ⟨t, r⟩
 ·obtain ⟨hc0, rfl, hc⟩ := he
  have hne : (c != 0) = true := bne_iff_ne.2 hc0
  have hne2 : (c == 0) = false := beq_false_of_ne hc0
  have HC := hid (And.intro hc0 hc)
  clear hc0 hc
  go_wp2_with fail
  go_ret2
  rw [HA.out]
  exact ⟨HC.out.1, rfl, HC.out.2.new HBB.out (Nat.le_refl _)⟩
 ·obtain ⟨p, rfl, hp, ⟨a2, c2, hx2, hk2⟩, hc⟩ := he
  obtain ⟨ap, rfl⟩ := hp.form
  have c0 := cell_of_row _ w.heap.size 0 _ _ _ hx2
  have HC := hid (And.intro hp hc)
  clear hp hc hk2 hx2
  cases r with
  | nil =>
   go_wp2_with fail
   go_ret2
   rw [HA.out]
   exact ⟨_, rfl, HC.out.1.mono (fun _ _ => trivial), HC.out.2.new HBB.out (Nat.le_refl _)⟩
  | cons x r =>
   have hg : (((x :: r).length : Nat) : Int) > 0 := by simp
   go_wp2_with fail
   go_ret2
   rw [HA.out]
   exact ⟨by decide, rfl, HC.out.2.new HBB.out (Nat.le_refl _)⟩
end Go.Proofs.YtbmlkocpjboodaaDoor
/- stage 7: clash -/
namespace Go.Proofs.YtbmlkocpjboodaaDoor
open Go.RowKit
open Go.Lib (hid)
theorem run_neq_bytes {P : Program} (w : World) (t e n : Nat) (i : TypeInfo) (ht : P.underlying t = some (.array n e)) (hi : P.info? e = some i) (he : P.underlying e = some (.int .u8)) (hk : P.plainKey e = true) (hc : P.cellsOf e = 1)
  (xs ys : List Int) (hx : xs.length = n) (hy : ys.length = n) : (binOp .neq t (.agg (ArrU8 xs)) (.agg (ArrU8 ys))).run P w = .ok (.bool (!decide (xs = ys))) w := by
 have h := run_eql_bytes w t e n i ht hi he hk hc xs ys hx hy
 have h1 : (do pure (Value.bool (← Op.equal t (.agg (ArrU8 xs)) (.agg (ArrU8 ys)))) : Sem Value).run P w = .ok (.bool (decide (xs = ys))) w := h
 show (do pure (Value.bool (!(← Op.equal t (.agg (ArrU8 xs)) (.agg (ArrU8 ys))))) : Sem Value).run P w = _
 simp only [Sem.run_bind, Sem.run_pure] at h1 ⊢
 cases hr : (Op.equal t (.agg (ArrU8 xs)) (.agg (ArrU8 ys))).run P w with
 | ok b w' => rw [hr] at h1; simp only [Result.andThen_ok] at h1 ⊢; injection h1 with h2 h3; injection h2 with h2; rw [h2, h3]
 | halt x w' => rw [hr] at h1; cases h1
theorem info_u8 : ∃ i, Tryd.prog.info? 5 = some i := by
 have h : (Tryd.prog.info? 5).isSome = true := by kernel_rfl
 exact Option.isSome_iff_exists.1 h
set_option maxRecDepth 100000 in
theorem run_eql_dg (w : World) (xs ys : List Int) (hx : xs.length = 32) (hy : ys.length = 32) : (binOp .eql 36 (.agg (ArrU8 xs)) (.agg (ArrU8 ys))).run Tryd.prog w = .ok (.bool (decide (xs = ys))) w := by
 obtain ⟨i, hi⟩ := info_u8
 exact run_eql_bytes w 36 5 32 i Tryd.underlying36 hi Tryd.underlying5 (by kernel_rfl) (by kernel_rfl) xs ys hx hy
set_option maxRecDepth 100000 in
theorem run_neq_dg (w : World) (xs ys : List Int) (hx : xs.length = 32) (hy : ys.length = 32) : (binOp .neq 36 (.agg (ArrU8 xs)) (.agg (ArrU8 ys))).run Tryd.prog w = .ok (.bool (!decide (xs = ys))) w := by
 obtain ⟨i, hi⟩ := info_u8
 exact run_neq_bytes w 36 5 32 i Tryd.underlying36 hi Tryd.underlying5 (by kernel_rfl) (by kernel_rfl) xs ys hx hy
set_option maxRecDepth 100000 in
theorem exec_eql_dg {ρ : Operand → Value} {o : Oper} {w : World} (x y : Operand) (U : TypeId) (ho : o.op = .binOp .eql 36 x y U) (xs ys : List Int) (hx : ρ x = .agg (ArrU8 xs)) (hy : ρ y = .agg (ArrU8 ys)) (lx : xs.length = 32) (ly : ys.length = 32) (b : Bool) (hb : decide (xs = ys) = b) :
  (execOp ρ o).run Tryd.prog w = .ok (.value (.bool b)) w := by
 unfold execOp
 rw [ho]
 simp only [hx, hy]
 show ((binOp .eql 36 (.agg (ArrU8 xs)) (.agg (ArrU8 ys))) >>= fun v => pure (Next.value v) : Sem Next).run Tryd.prog w = _
 simp only [Sem.run_bind, run_eql_dg w xs ys lx ly, Result.andThen_ok, hb, Sem.run_pure]
set_option maxRecDepth 100000 in
theorem exec_neq_dg {ρ : Operand → Value} {o : Oper} {w : World} (x y : Operand) (U : TypeId) (ho : o.op = .binOp .neq 36 x y U) (xs ys : List Int) (hx : ρ x = .agg (ArrU8 xs)) (hy : ρ y = .agg (ArrU8 ys)) (lx : xs.length = 32) (ly : ys.length = 32) (b : Bool) (hb : (!decide (xs = ys)) = b) :
  (execOp ρ o).run Tryd.prog w = .ok (.value (.bool b)) w := by
 unfold execOp
 rw [ho]
 simp only [hx, hy]
 show ((binOp .neq 36 (.agg (ArrU8 xs)) (.agg (ArrU8 ys))) >>= fun v => pure (Next.value v) : Sem Next).run Tryd.prog w = _
 simp only [Sem.run_bind, run_neq_dg w xs ys lx ly, Result.andThen_ok, hb, Sem.run_pure]
/-! ### the calls, by the state of a disk -/
/-- is a tree pruned? -/
def MT.cutQ : MT → Bool
 | .cut _ => true
 | _ => false
theorem isPruned_any {S : Nat → Prop} (w : World) (p : Value) (t : MT) (hp : MIs w S p t) :
  Calls Tryd.prog 75 #[p] w fun e w' => e = .returned (.bool t.cutQ) ∧ w' = w := by
 cases t with
 | nil =>
  obtain rfl : p = .pointer none := hp
  go_enter Tryd.func75, Tryd.ntmps75
  go_wp2_with fail
  go_ret
  exact ⟨rfl, rfl⟩
 | cut d =>
  obtain ⟨b, rfl, -, hd, hx⟩ := hp
  have c68 := (cell_of_row w b 68 _ _ _ hx).trans (ndC_pr (zeros_len 32) hd)
  clear hx
  go_enter Tryd.func75, Tryd.ntmps75
  go_wp2_with fail
  go_ret
  exact ⟨rfl, rfl⟩
 | nd k n rk d l r =>
  obtain ⟨b, kv, lp, rp, rfl, -, h1, h2, hx, -, -, -⟩ := hp
  have c68 := (cell_of_row w b 68 _ _ _ hx).trans (ndC_pr h1 h2)
  clear hx
  go_enter Tryd.func75, Tryd.ntmps75
  go_wp2_with fail
  go_ret
  exact ⟨rfl, rfl⟩
theorem text_any {S : Nat → Prop} (w : World) (p : Value) (t : MT) (hp : MIs w S p t) (hg : t.Good) (hK : KC w) (hc : t.cutQ = false) :
  Calls Tryd.prog 65 #[p] w fun e w' => ∃ v', e = .returned v' ∧ KIs w' (fun b => w.heap.size ≤ b) v' t.txt ∧ Below w.heap.size w w' := by
 cases t with
 | nil =>
  obtain rfl : p = .pointer none := hp
  exact ntext_nil w
 | cut d => cases hc
 | nd k n rk d l r =>
  obtain ⟨b, kv, lp, rp, rfl, -, h1, h2, hx, hk, hl, hr⟩ := hp
  obtain ⟨-, gl, gr, hkl, -, hn, -, -⟩ := hg
  exact ntext_blk w b kv lp rp k n rk d l r false hx h1 hk hl hr gl gr hK hkl hn
theorem MT.Good.drng : ∀ {t : MT}, t.Good → t.dg.length = 32 ∧ Rng t.dg
 | .nil, _ => ⟨sha_len _, sha_rng _⟩
 | .cut _, h => h
 | .nd .., h => by
  obtain ⟨e, -⟩ := h
  subst e
  exact ⟨sha_len _, sha_rng _⟩
/-- the first two texts that are different but have the same digest -/
def clashM : MT → MT → Option (List Int × List Int)
 | .cut _, _ => none
 | _, .cut _ => none
 | .nil, .nil => none
 | .nil, .nd k n rk d l r => if sha txt0 = d then some (txt0, (MT.nd k n rk d l r).txt) else none
 | .nd k n rk d l r, .nil => if d = sha txt0 then some ((MT.nd k n rk d l r).txt, txt0) else none
 | .nd k n rk d l r, .nd k' n' rk' d' l' r' => if (MT.nd k n rk d l r).txt = (MT.nd k' n' rk' d' l' r').txt then (match clashM l l' with | some p => some p | none => clashM r r') else if d = d' then some ((MT.nd k n rk d l r).txt, (MT.nd k' n' rk' d' l' r').txt) else none
/-- how clash ends -/
def CEnd (w : World) (e : Ending) (w' : World) : Option (List Int × List Int) → Prop
 | none => e = .returned (.tuple #[.slice none 0 0, .slice none 0 0, .bool false]) ∧ Below w.heap.size w w'
 | some (a, b) => ∃ va vb, e = .returned (.tuple #[va, vb, .bool true]) ∧ KIs w' (fun q => w.heap.size ≤ q) va a ∧ KIs w' (fun q => w.heap.size ≤ q) vb b ∧ Below w.heap.size w w'
end Go.Proofs.YtbmlkocpjboodaaDoor
/- stage 7: clash, its contract -/
namespace Go.Proofs.YtbmlkocpjboodaaDoor
open Go.RowKit
open Go.Lib (hid)
/-- what clash makes of two trees that are not pruned and have the same text -/
theorem clash_cut {S S' : Nat → Prop} (x y : MT) (w : World) (p q : Value) (hp : MIs w S p x) (hq : MIs w S' q y) (h : x.cutQ = true ∨ y.cutQ = true) :
  Calls Tryd.prog 47 #[p, q] w fun e w' => CEnd w e w' none := by
 have HP1 := hid (isPruned_any w p x hp)
 have HP2 := hid (isPruned_any w q y hq)
 obtain ⟨ap, rfl⟩ := hp.form
 obtain ⟨aq, rfl⟩ := hq.form
 have HH := hid h
 clear hp hq h
 generalize x.cutQ = bx at *
 generalize y.cutQ = by' at *
 cases bx with
 | true =>
  go_enter Tryd.func47, Tryd.ntmps47
  go_wp2_with fail
  refine HP1.out.mono ?_
  rintro e w1 ⟨rfl, rfl⟩
  go_wp2_with fail
  go_ret3
  exact ⟨rfl, Below.refl _ _⟩
 | false =>
  obtain rfl : by' = true := by simpa using HH.out
  go_enter Tryd.func47, Tryd.ntmps47
  go_wp2_with fail
  refine HP1.out.mono ?_
  rintro e w1 ⟨rfl, rfl⟩
  go_wp2_with fail
  refine HP2.out.mono ?_
  rintro e w1 ⟨rfl, rfl⟩
  go_wp2_with fail
  go_ret3
  exact ⟨rfl, Below.refl _ _⟩
set_option maxRecDepth 100000 in
set_option maxHeartbeats 8000000 in
/-- texts that differ -/
theorem clash_ne {S S' : Nat → Prop} (x y : MT) (w : World) (p q : Value) (hp : MIs w S p x) (hq : MIs w S' q y) (gx : x.Good) (gy : y.Good) (hK : KC w) (hx : x.cutQ = false) (hy : y.cutQ = false) (hne : x.txt ≠ y.txt) (rx : Rng x.txt) (ry : Rng y.txt) :
  Calls Tryd.prog 47 #[p, q] w fun e w' => CEnd w e w' (if x.dg = y.dg then some (x.txt, y.txt) else none) := by
 have HP1 := hid (isPruned_any w p x hp)
 have HP2 := hid (isPruned_any w q y hq)
 rw [hx] at HP1
 rw [hy] at HP2
 have HT1 := hid (text_any w p x hp gx hK hx)
 have HT2 := hid (fun u (hu : Below w.heap.size w u) => text_any u q y (hq.below hu) gy (hK.below hu hK.1) hy)
 have HS1 := hid (fun u (hu : Below w.heap.size w u) => nsum_any u (hp.below hu) (hK.below hu hK.1))
 have HS2 := hid (fun u (hu : Below w.heap.size w u) => nsum_any u (hq.below hu) (hK.below hu hK.1))
 have HD := hid (And.intro gx.drng gy.drng)
 have HE := hid (And.intro rx ry)
 have HNE := hid (show decide (x.txt = y.txt) = false from decide_eq_false hne)
 obtain ⟨ap, rfl⟩ := hp.form
 obtain ⟨aq, rfl⟩ := hq.form
 clear hp hq gx gy hK hx hy hne rx ry
 obtain ⟨R, hR⟩ : ∃ R, R = if x.dg = y.dg then some (x.txt, y.txt) else none := ⟨_, rfl⟩
 rw [← hR]
 have HR := hid hR
 clear hR
 generalize x.txt = a at *
 generalize y.txt = b at *
 generalize x.dg = da at *
 generalize y.dg = db at *
 go_enter Tryd.func47, Tryd.ntmps47
 go_wp2_with fail
 refine HP1.out.mono ?_
 rintro e w1 ⟨rfl, rfl⟩
 go_wp2_with fail
 refine HP2.out.mono ?_
 rintro e w1 ⟨rfl, rfl⟩
 go_wp2_with fail
 refine HT1.out.mono ?_
 rintro e w2 ⟨va, rfl, hka, hb2⟩
 obtain ⟨aa, ca, rfl⟩ := hka.form
 have HT2' := hid (HT2.out w2 hb2)
 have HA := hid (And.intro hka hb2)
 clear hka hb2 HT2
 go_wp2_with fail
 refine HT2'.out.mono ?_
 rintro e w3 ⟨vb, rfl, hkb, hb3⟩
 obtain ⟨ab, cb, rfl⟩ := hkb.form
 have hka3 := HA.out.1.below hb3
 have hb03 := HA.out.2.trans (hb3.mono HA.out.2.size)
 have HQ := hid (equal_any _ _ a b w3 hka3.1 hkb.1 HE.out.1 HE.out.2)
 rw [HNE.out] at HQ
 have HB := hid (And.intro hka3 (And.intro (hkb.mono (fun q hq => Nat.le_trans HA.out.2.size hq)) hb03))
 clear hkb hb3 hka3 hb03
 go_wp2_with fail
 refine HQ.out.mono ?_
 rintro e w4 ⟨rfl, rfl⟩
 go_wp2_with fail
 refine (HS1.out w4 HB.out.2.2).mono ?_
 rintro e w5 ⟨rfl, hb5⟩
 have hb05 := HB.out.2.2.trans (hb5.mono HB.out.2.2.size)
 have HS2' := hid (HS2.out w5 hb05)
 have HB5 := hid (And.intro hb5 hb05)
 clear hb5 hb05 HS2
 go_wp2_with fail
 refine HS2'.out.mono ?_
 rintro e w6 ⟨rfl, hb6⟩
 have hb46 := HB5.out.1.trans (hb6.mono HB5.out.1.size)
 have HB6 := hid (And.intro (HB.out.1.below hb46) (And.intro (HB.out.2.1.below hb46) (HB5.out.2.trans (hb6.mono HB5.out.2.size))))
 clear hb6 hb46
 have hq6 := fun u => run_eql_dg u da db HD.out.1.1 HD.out.2.1
 by_cases hd : da = db
 ·subst hd
  replace HR : Hid (R = some (a, b)) := hid (HR.out.trans (if_pos rfl))
  have hq7 : decide (da = da) = true := decide_eq_true rfl
  rw [hq7] at hq6
  have HQ6 := hid hq6
  clear hq6 hq7
  go_wp2_with (refine wpList_of_run (o := ⟨some 30, _, _, _, _, _⟩) rfl (exec_eql_dg (Operand.tmp 27) (Operand.tmp 29) _ rfl da da rfl rfl HD.out.1.1 HD.out.1.1 true (decide_eq_true rfl)) ?_)
  go_ret3
  rw [HR.out]
  exact ⟨_, _, rfl, HB6.out.1, HB6.out.2.1, HB6.out.2.2⟩
 ·replace HR : Hid (R = none) := hid (HR.out.trans (if_neg hd))
  clear hq6
  go_wp2_with (refine wpList_of_run (o := ⟨some 30, _, _, _, _, _⟩) rfl (exec_eql_dg (Operand.tmp 27) (Operand.tmp 29) _ rfl da db rfl rfl HD.out.1.1 HD.out.2.1 false (decide_eq_false hd)) ?_)
  go_ret3
  rw [HR.out]
  exact ⟨rfl, HB6.out.2.2⟩
end Go.Proofs.YtbmlkocpjboodaaDoor
/- stage 7: clash, whole; Clash -/
namespace Go.Proofs.YtbmlkocpjboodaaDoor
open Go.RowKit
open Go.Lib (hid)
/-- what clash's two slices are -/
def CF (B : Nat) (w' : World) (va vb : Value) : Option (List Int × List Int) → Prop
 | none => va = .slice none 0 0 ∧ vb = .slice none 0 0
 | some (a, b) => KIs w' (fun q => B ≤ q) va a ∧ KIs w' (fun q => B ≤ q) vb b
theorem CF.base {B B' : Nat} {w' : World} {va vb : Value} {R : Option (List Int × List Int)} (h : CF B w' va vb R) (hB : B' ≤ B) : CF B' w' va vb R := by
 cases R with
 | none => exact h
 | some ab => exact ⟨h.1.mono (fun q hq => Nat.le_trans hB hq), h.2.mono (fun q hq => Nat.le_trans hB hq)⟩
theorem CEnd.form {w w' : World} {e : Ending} {R : Option (List Int × List Int)} (h : CEnd w e w' R) : ∃ va vb, e = .returned (.tuple #[va, vb, .bool R.isSome]) ∧ Below w.heap.size w w' ∧ CF w.heap.size w' va vb R := by
 cases R with
 | none => exact ⟨_, _, h.1, h.2, rfl, rfl⟩
 | some ab =>
  obtain ⟨a, b⟩ := ab
  obtain ⟨va, vb, h1, h2, h3, h4⟩ := h
  exact ⟨va, vb, h1, h4, h2, h3⟩
theorem CEnd.of {w w' : World} {va vb : Value} {e : Ending} {R : Option (List Int × List Int)} (he : e = .returned (.tuple #[va, vb, .bool R.isSome])) (h : Below w.heap.size w w') (hc : CF w.heap.size w' va vb R) : CEnd w e w' R := by
 subst he
 cases R with
 | none =>
  obtain ⟨rfl, rfl⟩ := hc
  exact ⟨rfl, h⟩
 | some ab => exact ⟨va, vb, rfl, hc.1, hc.2, h⟩
theorem joinB_rng (ps : List (List Int)) (h : ∀ p ∈ ps, Rng p) : Rng (joinB ps) := fun x hx => by
 unfold joinB at hx
 obtain ⟨p, hp, hx⟩ := List.mem_flatMap.1 hx
 rw [List.mem_append] at hx
 rcases hx with hx | hx
 ·exact be8_rng _ x hx
 ·exact h p hp x hx
theorem joined_rng {ps : List (List Int)} (h : ∀ p ∈ ps, Rng p) : Rng (joined ps) := fun x hx => by
 unfold joined at hx
 rw [List.mem_append] at hx
 rcases hx with hx | hx
 ·exact be8_rng _ x hx
 ·exact joinB_rng ps h x hx
theorem txt0_rng : Rng txt0 := joined_rng (fun p hp => by
 simp only [List.mem_cons, List.not_mem_nil, or_false] at hp
 subst hp
 intro x hx
 simp only [List.mem_cons, List.not_mem_nil, or_false] at hx
 omega)
theorem txtN_rng {k : List Int} {n : Nat} {dl dr : List Int} (hk : Rng k) (h1 : Rng dl) (h2 : Rng dr) : Rng (txtN k n dl dr) := joined_rng (fun p hp => by
 simp only [List.mem_cons, List.not_mem_nil, or_false] at hp
 rcases hp with rfl | rfl | rfl | rfl | rfl
 ·intro x hx
  simp only [List.mem_cons, List.not_mem_nil, or_false] at hx
  omega
 ·exact h1
 ·exact hk
 ·exact be8_rng n
 ·exact h2)
theorem MT.Good.trng : ∀ {t : MT}, t.Good → t.cutQ = false → Rng t.txt
 | .nil, _, _ => txt0_rng
 | .cut _, _, h => by cases h
 | .nd .., g, _ => by
  obtain ⟨-, gl, gr, -, hk, -⟩ := g
  exact txtN_rng hk gl.drng.2 gr.drng.2
theorem txt0_ne (k : List Int) (n : Nat) (dl dr : List Int) : txt0 ≠ txtN k n dl dr := fun e => by
 have h := congrArg List.length e
 have h0 : txt0.length = 21 := by unfold txt0; rw [joined_len]; rfl
 rw [txtN_len, h0] at h
 omega
set_option maxRecDepth 100000 in
set_option maxHeartbeats 8000000 in
theorem clash_nil (w : World) :
  Calls Tryd.prog 47 #[.pointer none, .pointer none] w fun e w' => CEnd w e w' none := by
 have HP1 := hid (isPruned_any (S := fun _ => True) w (.pointer none) .nil rfl)
 have HP2 := hid (isPruned_any (S := fun _ => True) w (.pointer none) .nil rfl)
 rw [show MT.nil.cutQ = false from rfl] at HP1 HP2
 have HT1 := hid (ntext_nil w)
 have HT2 := hid (fun u (hu : Below w.heap.size w u) => ntext_nil u)
 have HE := hid txt0_rng
 generalize txt0 = a at *
 go_enter Tryd.func47, Tryd.ntmps47
 go_wp2_with fail
 refine HP1.out.mono ?_
 rintro e w1 ⟨rfl, rfl⟩
 go_wp2_with fail
 refine HP2.out.mono ?_
 rintro e w1 ⟨rfl, rfl⟩
 go_wp2_with fail
 refine HT1.out.mono ?_
 rintro e w2 ⟨va, rfl, hka, hb2⟩
 obtain ⟨aa, ca, rfl⟩ := hka.form
 have HT2' := hid (HT2.out w2 hb2)
 have HA := hid (And.intro hka hb2)
 clear hka hb2 HT2
 go_wp2_with fail
 refine HT2'.out.mono ?_
 rintro e w3 ⟨vb, rfl, hkb, hb3⟩
 obtain ⟨ab, cb, rfl⟩ := hkb.form
 have hb03 := HA.out.2.trans (hb3.mono HA.out.2.size)
 have HQ := hid (equal_any _ _ a a w3 (HA.out.1.below hb3).1 hkb.1 HE.out HE.out)
 rw [show decide (a = a) = true from decide_eq_true rfl] at HQ
 have HB := hid hb03
 clear hkb hb3 hb03
 go_wp2_with fail
 refine HQ.out.mono ?_
 rintro e w4 ⟨rfl, rfl⟩
 go_wp2_with fail
 go_ret3
 exact ⟨rfl, HB.out⟩
set_option maxRecDepth 100000 in
set_option maxHeartbeats 8000000 in
theorem clash_any {S S' : Nat → Prop} : ∀ (x y : MT) (w : World) (p q : Value), MIs w S p x → MIs w S' q y → x.Good → y.Good → KC w →
  Calls Tryd.prog 47 #[p, q] w fun e w' => CEnd w e w' (clashM x y) := by
 intro x
 induction x with
 | nil =>
  intro y w p q hp hq gx gy hK
  cases y with
  | nil =>
   obtain rfl : p = .pointer none := hp
   obtain rfl : q = .pointer none := hq
   exact clash_nil w
  | cut d => exact clash_cut _ _ w p q hp hq (.inr rfl)
  | nd k n rk d l r => exact clash_ne _ _ w p q hp hq gx gy hK rfl rfl (txt0_ne _ _ _ _) txt0_rng (gy.trng rfl)
 | cut d =>
  intro y w p q hp hq gx gy hK
  have e : clashM (.cut d) y = none := by cases y <;> rfl
  rw [e]
  exact clash_cut _ _ w p q hp hq (.inl rfl)
 | nd k n rk d l r ihl ihr =>
  intro y w p q hp hq gx gy hK
  cases y with
  | nil => exact clash_ne _ _ w p q hp hq gx gy hK rfl rfl (fun e => txt0_ne _ _ _ _ e.symm) (gx.trng rfl) txt0_rng
  | cut d => exact clash_cut _ _ w p q hp hq (.inr rfl)
  | nd k' n' rk' d' l' r' =>
   by_cases ht : (MT.nd k n rk d l r).txt = (MT.nd k' n' rk' d' l' r').txt
   ·have hR : clashM (.nd k n rk d l r) (.nd k' n' rk' d' l' r') = (match clashM l l' with | some p => some p | none => clashM r r') := by
     rw [clashM, if_pos ht]
     all_goals (cases clashM l l' <;> rfl)
    have HP1 := hid (isPruned_any w p _ hp)
    have HP2 := hid (isPruned_any w q _ hq)
    rw [show (MT.nd k n rk d l r).cutQ = false from rfl] at HP1
    rw [show (MT.nd k' n' rk' d' l' r').cutQ = false from rfl] at HP2
    have HT1 := hid (text_any w p _ hp gx hK rfl)
    have HT2 := hid (fun u (hu : Below w.heap.size w u) => text_any u q _ (hq.below hu) gy (hK.below hu hK.1) rfl)
    have HE := hid (gx.trng rfl)
    rw [← ht] at HT2
    obtain ⟨b, kv, lp, rp, rfl, -, h1, h2, hx, -, hl, hr⟩ := hp
    obtain ⟨b', kv', lp', rp', rfl, -, h1', h2', hx', -, hl', hr'⟩ := hq
    obtain ⟨-, gl, gr, -⟩ := gx
    obtain ⟨-, gl', gr', -⟩ := gy
    have HN := hid (NR.of hx h1)
    have HN' := hid (NR.of hx' h1')
    have HIL := hid (fun u (hu : Below w.heap.size w u) => ihl l' u lp lp' (hl.below hu) (hl'.below hu) gl gl' (hK.below hu hK.1))
    have HIR := hid (fun u (hu : Below w.heap.size w u) => ihr r' u rp rp' (hr.below hu) (hr'.below hu) gr gr' (hK.below hu hK.1))
    obtain ⟨al, rfl⟩ := hl.form
    obtain ⟨ar, rfl⟩ := hr.form
    obtain ⟨al', rfl⟩ := hl'.form
    obtain ⟨ar', rfl⟩ := hr'.form
    have HR := hid hR
    generalize clashM (.nd k n rk d l r) (.nd k' n' rk' d' l' r') = R at *
    generalize (MT.nd k n rk d l r).txt = a at *
    generalize clashM l l' = RL at *
    generalize clashM r r' = RR at *
    clear hR ht h1 h2 hx hl hr h1' h2' hx' hl' hr' gl gr gl' gr' ihl ihr hK
    go_enter Tryd.func47, Tryd.ntmps47
    go_wp2_with fail
    refine HP1.out.mono ?_
    rintro e w1 ⟨rfl, rfl⟩
    go_wp2_with fail
    refine HP2.out.mono ?_
    rintro e w1 ⟨rfl, rfl⟩
    go_wp2_with fail
    refine HT1.out.mono ?_
    rintro e w2 ⟨va, rfl, hka, hb2⟩
    obtain ⟨aa, ca, rfl⟩ := hka.form
    have HT2' := hid (HT2.out w2 hb2)
    have HA := hid (And.intro hka hb2)
    clear hka hb2 HT2
    go_wp2_with fail
    refine HT2'.out.mono ?_
    rintro e w3 ⟨vb, rfl, hkb, hb3⟩
    obtain ⟨ab, cb, rfl⟩ := hkb.form
    have hb03 := HA.out.2.trans (hb3.mono HA.out.2.size)
    have HQ := hid (equal_any _ _ a a w3 (HA.out.1.below hb3).1 hkb.1 HE.out HE.out)
    rw [show decide (a = a) = true from decide_eq_true rfl] at HQ
    have HB := hid hb03
    clear hkb hb3 hb03
    go_wp2_with fail
    refine HQ.out.mono ?_
    rintro e w4 ⟨rfl, rfl⟩
    go_wp2_with fail
    have HB0 := hid HB.out.drew
    have hb0 := HB.out.drew
    refine wp_region_held_drew (S := fun u => Below w1.heap.size w1 u) (by kernel_rfl) (hb0) (fun hHeld => ?_)
    refine tk (i := 0) (oi := ⟨some 40, .move (.tmp 0), 68, "proof.go:62", #[], none⟩) (v := ?_) (Or.inl ⟨by rfl, ?_⟩) ?_
    rotate_left 1
    ·(intro u hSw; go_simp; try with_reducible rfl)
    try simp only [Act.put, sA, sB, sC]
    refine tk (i := 1) (oi := ⟨some 41, .nilCheck (.tmp 40), 0, "proof.go:62", #[⟨0, .data⟩], none⟩) (v := ?_) (Or.inl ⟨by rfl, ?_⟩) ?_
    rotate_left 1
    ·(intro u hSw; go_simp; try with_reducible rfl)
    try simp only [Act.put, sA, sB, sC]
    refine tk (i := 2) (oi := ⟨some 42, .fieldAddr 115 (.tmp 41) 1, 0, "proof.go:62", #[⟨1, .data⟩], none⟩) (v := ?_) (Or.inl ⟨by rfl, ?_⟩) ?_
    rotate_left 1
    ·(intro u hSw; go_simp; try with_reducible rfl)
    try simp only [Act.put, sA, sB, sC]
    refine tk (i := 3) (oi := ⟨some 43, .load 68 (.tmp 42), 68, "proof.go:62", #[⟨2, .data⟩], none⟩) (v := ?_) (Or.inl ⟨by rfl, ?_⟩) ?_
    rotate_left 1
    ·(intro u hSw; have c34 := (HN.out.below hSw).c34; have d34 := (HN'.out.below hSw).c34; go_simp; try with_reducible rfl)
    try simp only [Act.put, sA, sB, sC]
    refine tk (i := 4) (oi := ⟨some 44, .move (.tmp 1), 68, "proof.go:62", #[], none⟩) (v := ?_) (Or.inl ⟨by rfl, ?_⟩) ?_
    rotate_left 1
    ·(intro u hSw; go_simp; try with_reducible rfl)
    try simp only [Act.put, sA, sB, sC]
    refine tk (i := 5) (oi := ⟨some 45, .nilCheck (.tmp 44), 0, "proof.go:62", #[⟨4, .data⟩], none⟩) (v := ?_) (Or.inl ⟨by rfl, ?_⟩) ?_
    rotate_left 1
    ·(intro u hSw; go_simp; try with_reducible rfl)
    try simp only [Act.put, sA, sB, sC]
    refine tk (i := 6) (oi := ⟨some 46, .fieldAddr 115 (.tmp 45) 1, 0, "proof.go:62", #[⟨5, .data⟩], none⟩) (v := ?_) (Or.inl ⟨by rfl, ?_⟩) ?_
    rotate_left 1
    ·(intro u hSw; go_simp; try with_reducible rfl)
    try simp only [Act.put, sA, sB, sC]
    refine tk (i := 7) (oi := ⟨some 47, .load 68 (.tmp 46), 68, "proof.go:62", #[⟨6, .data⟩], none⟩) (v := ?_) (Or.inl ⟨by rfl, ?_⟩) ?_
    rotate_left 1
    ·(intro u hSw; have c34 := (HN.out.below hSw).c34; have d34 := (HN'.out.below hSw).c34; go_simp; try with_reducible rfl)
    try simp only [Act.put, sA, sB, sC]
    refine wpAnyH_ready (rs := [8]) (by kernel_rfl) (by simp) ?_
    refine (AllReadyH.cons (o := ⟨some 48, .call ⟨.value (.func 47), #[.tmp 43, .tmp 47], #[68, 68]⟩, 55, "proof.go:62", #[⟨3, .data⟩, ⟨7, .data⟩], none⟩) rfl (fun K hK => ?_) AllReadyH.nil)
    go_simp
    refine (HIL.out _ hb0).mono ?_
    rintro e w6 he
    obtain ⟨va, vb, rfl, hb6, hcf⟩ := he.form
    have HCF := hid hcf
    have hb6' := hb0.trans (hb6.mono hb0.size)
    clear hcf hb6 he
    go_wp2_with fail
    refine hK.out _ _ hb6' (fun hHeld => ?_)
    clear hK K
    try simp only [Act.put, sA, sB, sC]
    refine tk (i := 9) (oi := ⟨some 39, .move (.tmp 48), 55, "proof.go:62", #[⟨8, .data⟩], none⟩) (v := ?_) (Or.inl ⟨by rfl, ?_⟩) ?_
    rotate_left 1
    ·(intro u hSw; go_simp; try with_reducible rfl)
    try simp only [Act.put, sA, sB, sC]
    refine tk (i := 10) (oi := ⟨some 49, .extract (.tmp 39) 0, 31, "proof.go:62", #[⟨9, .data⟩], none⟩) (v := ?_) (Or.inl ⟨by rfl, ?_⟩) ?_
    rotate_left 1
    ·(intro u hSw; go_simp; try with_reducible rfl)
    try simp only [Act.put, sA, sB, sC]
    refine tk (i := 11) (oi := ⟨some 50, .extract (.tmp 39) 1, 31, "proof.go:62", #[⟨9, .data⟩, ⟨13, .gcOnly Departure.lateStores⟩], none⟩) (v := ?_) (Or.inl ⟨by rfl, ?_⟩) ?_
    rotate_left 1
    ·(intro u hSw; go_simp; try with_reducible rfl)
    try simp only [Act.put, sA, sB, sC]
    refine tk (i := 12) (oi := ⟨some 51, .extract (.tmp 39) 2, 4, "proof.go:62", #[⟨9, .data⟩, ⟨14, .gcOnly Departure.lateStores⟩], none⟩) (v := ?_) (Or.inl ⟨by rfl, ?_⟩) ?_
    rotate_left 1
    ·(intro u hSw; go_simp; try with_reducible rfl)
    try simp only [Act.put, sA, sB, sC]
    refine tk (i := 13) (oi := ⟨some 9, .assign (.tmp 49), 31, "proof.go:62", #[⟨10, .data⟩, ⟨8, .chain⟩, ⟨0, .phase⟩, ⟨1, .phase⟩, ⟨2, .phase⟩, ⟨3, .phase⟩, ⟨4, .phase⟩, ⟨5, .phase⟩, ⟨6, .phase⟩, ⟨7, .phase⟩, ⟨8, .phase⟩, ⟨9, .phase⟩, ⟨10, .phase⟩, ⟨11, .textOnly Departure.lateStores⟩, ⟨12, .textOnly Departure.lateStores⟩], none⟩) (v := ?_) (Or.inl ⟨by rfl, ?_⟩) ?_
    rotate_left 1
    ·(intro u hSw; go_simp; try with_reducible rfl)
    try simp only [Act.put, sA, sB, sC]
    refine tk (i := 14) (oi := ⟨some 10, .assign (.tmp 50), 31, "proof.go:62", #[⟨11, .data⟩, ⟨13, .chain⟩, ⟨0, .phase⟩, ⟨1, .phase⟩, ⟨2, .phase⟩, ⟨3, .phase⟩, ⟨4, .phase⟩, ⟨5, .phase⟩, ⟨6, .phase⟩, ⟨7, .phase⟩, ⟨8, .phase⟩, ⟨9, .phase⟩, ⟨10, .phase⟩, ⟨11, .phase⟩, ⟨12, .textOnly Departure.lateStores⟩, ⟨13, .phase⟩], none⟩) (v := ?_) (Or.inl ⟨by rfl, ?_⟩) ?_
    rotate_left 1
    ·(intro u hSw; go_simp; try with_reducible rfl)
    try simp only [Act.put, sA, sB, sC]
    refine tk (i := 15) (oi := ⟨some 11, .assign (.tmp 51), 4, "proof.go:62", #[⟨12, .data⟩, ⟨14, .chain⟩, ⟨0, .phase⟩, ⟨1, .phase⟩, ⟨2, .phase⟩, ⟨3, .phase⟩, ⟨4, .phase⟩, ⟨5, .phase⟩, ⟨6, .phase⟩, ⟨7, .phase⟩, ⟨8, .phase⟩, ⟨9, .phase⟩, ⟨10, .phase⟩, ⟨11, .phase⟩, ⟨12, .phase⟩, ⟨13, .phase⟩, ⟨14, .phase⟩], none⟩) (v := ?_) (Or.inl ⟨by rfl, ?_⟩) ?_
    rotate_left 1
    ·(intro u hSw; go_simp; try with_reducible rfl)
    try simp only [Act.put, sA, sB, sC]
    refine wpAnyH_done (by kernel_rfl) ?_ _
    have HB6 := hid hb6'
    have hb7 := hb6'.drew
    clear hb6'
    cases RL with
    | some ab =>
     go_wp2_with fail
     go_ret3
     rw [HR.out]
     exact CEnd.of rfl HB6.out (HCF.out.base HB0.out.size)
    | none =>
     go_wp2_with fail
     refine wp_region_held_drew (S := fun u => Below w1.heap.size w1 u) (by kernel_rfl) (hb7) (fun hHeld => ?_)
     refine tk (i := 0) (oi := ⟨some 55, .move (.tmp 0), 68, "proof.go:65", #[], none⟩) (v := ?_) (Or.inl ⟨by rfl, ?_⟩) ?_
     rotate_left 1
     ·(intro u hSw; go_simp; try with_reducible rfl)
     try simp only [Act.put, sA, sB, sC]
     refine tk (i := 1) (oi := ⟨some 56, .nilCheck (.tmp 55), 0, "proof.go:65", #[⟨0, .data⟩], none⟩) (v := ?_) (Or.inl ⟨by rfl, ?_⟩) ?_
     rotate_left 1
     ·(intro u hSw; go_simp; try with_reducible rfl)
     try simp only [Act.put, sA, sB, sC]
     refine tk (i := 2) (oi := ⟨some 57, .fieldAddr 115 (.tmp 56) 2, 0, "proof.go:65", #[⟨1, .data⟩], none⟩) (v := ?_) (Or.inl ⟨by rfl, ?_⟩) ?_
     rotate_left 1
     ·(intro u hSw; go_simp; try with_reducible rfl)
     try simp only [Act.put, sA, sB, sC]
     refine tk (i := 3) (oi := ⟨some 58, .load 68 (.tmp 57), 68, "proof.go:65", #[⟨2, .data⟩], none⟩) (v := ?_) (Or.inl ⟨by rfl, ?_⟩) ?_
     rotate_left 1
     ·(intro u hSw; have c35 := (HN.out.below hSw).c35; have d35 := (HN'.out.below hSw).c35; go_simp; try with_reducible rfl)
     try simp only [Act.put, sA, sB, sC]
     refine tk (i := 4) (oi := ⟨some 59, .move (.tmp 1), 68, "proof.go:65", #[], none⟩) (v := ?_) (Or.inl ⟨by rfl, ?_⟩) ?_
     rotate_left 1
     ·(intro u hSw; go_simp; try with_reducible rfl)
     try simp only [Act.put, sA, sB, sC]
     refine tk (i := 5) (oi := ⟨some 60, .nilCheck (.tmp 59), 0, "proof.go:65", #[⟨4, .data⟩], none⟩) (v := ?_) (Or.inl ⟨by rfl, ?_⟩) ?_
     rotate_left 1
     ·(intro u hSw; go_simp; try with_reducible rfl)
     try simp only [Act.put, sA, sB, sC]
     refine tk (i := 6) (oi := ⟨some 61, .fieldAddr 115 (.tmp 60) 2, 0, "proof.go:65", #[⟨5, .data⟩], none⟩) (v := ?_) (Or.inl ⟨by rfl, ?_⟩) ?_
     rotate_left 1
     ·(intro u hSw; go_simp; try with_reducible rfl)
     try simp only [Act.put, sA, sB, sC]
     refine tk (i := 7) (oi := ⟨some 62, .load 68 (.tmp 61), 68, "proof.go:65", #[⟨6, .data⟩], none⟩) (v := ?_) (Or.inl ⟨by rfl, ?_⟩) ?_
     rotate_left 1
     ·(intro u hSw; have c35 := (HN.out.below hSw).c35; have d35 := (HN'.out.below hSw).c35; go_simp; try with_reducible rfl)
     try simp only [Act.put, sA, sB, sC]
     refine wpAnyH_ready (rs := [8]) (by kernel_rfl) (by simp) ?_
     refine (AllReadyH.cons (o := ⟨some 63, .call ⟨.value (.func 47), #[.tmp 58, .tmp 62], #[68, 68]⟩, 55, "proof.go:65", #[⟨3, .data⟩, ⟨7, .data⟩], none⟩) rfl (fun K hK => ?_) AllReadyH.nil)
     go_simp
     refine (HIR.out _ hb7).mono ?_
     rintro e w8 he
     obtain ⟨va', vb', rfl, hb8, hcf⟩ := he.form
     have HCF8 := hid hcf
     have hb8' := hb7.trans (hb8.mono hb7.size)
     clear hcf hb8 he
     go_wp2_with fail
     refine hK.out _ _ hb8' (fun hHeld => ?_)
     clear hK K
     try simp only [Act.put, sA, sB, sC]
     refine tk (i := 9) (oi := ⟨some 64, .extract (.tmp 63) 0, 31, "proof.go:65", #[⟨8, .data⟩], none⟩) (v := ?_) (Or.inl ⟨by rfl, ?_⟩) ?_
     rotate_left 1
     ·(intro u hSw; go_simp; try with_reducible rfl)
     try simp only [Act.put, sA, sB, sC]
     refine tk (i := 10) (oi := ⟨some 65, .extract (.tmp 63) 1, 31, "proof.go:65", #[⟨8, .data⟩], none⟩) (v := ?_) (Or.inl ⟨by rfl, ?_⟩) ?_
     rotate_left 1
     ·(intro u hSw; go_simp; try with_reducible rfl)
     try simp only [Act.put, sA, sB, sC]
     refine tk (i := 11) (oi := ⟨some 66, .extract (.tmp 63) 2, 4, "proof.go:65", #[⟨8, .data⟩], none⟩) (v := ?_) (Or.inl ⟨by rfl, ?_⟩) ?_
     rotate_left 1
     ·(intro u hSw; go_simp; try with_reducible rfl)
     try simp only [Act.put, sA, sB, sC]
     refine tk (i := 12) (oi := ⟨some 4, .assign (.tmp 64), 31, "proof.go:65", #[⟨9, .data⟩, ⟨8, .chain⟩, ⟨0, .phase⟩, ⟨1, .phase⟩, ⟨2, .phase⟩, ⟨3, .phase⟩, ⟨4, .phase⟩, ⟨5, .phase⟩, ⟨6, .phase⟩, ⟨7, .phase⟩, ⟨8, .phase⟩, ⟨9, .phase⟩, ⟨10, .phase⟩, ⟨11, .phase⟩], none⟩) (v := ?_) (Or.inl ⟨by rfl, ?_⟩) ?_
     rotate_left 1
     ·(intro u hSw; go_simp; try with_reducible rfl)
     try simp only [Act.put, sA, sB, sC]
     refine tk (i := 13) (oi := ⟨some 5, .assign (.tmp 65), 31, "proof.go:65", #[⟨10, .data⟩, ⟨12, .chain⟩, ⟨0, .phase⟩, ⟨1, .phase⟩, ⟨2, .phase⟩, ⟨3, .phase⟩, ⟨4, .phase⟩, ⟨5, .phase⟩, ⟨6, .phase⟩, ⟨7, .phase⟩, ⟨8, .phase⟩, ⟨9, .phase⟩, ⟨10, .phase⟩, ⟨11, .phase⟩, ⟨12, .phase⟩], none⟩) (v := ?_) (Or.inl ⟨by rfl, ?_⟩) ?_
     rotate_left 1
     ·(intro u hSw; go_simp; try with_reducible rfl)
     try simp only [Act.put, sA, sB, sC]
     refine tk (i := 14) (oi := ⟨some 6, .assign (.tmp 66), 4, "proof.go:65", #[⟨11, .data⟩, ⟨13, .chain⟩, ⟨0, .phase⟩, ⟨1, .phase⟩, ⟨2, .phase⟩, ⟨3, .phase⟩, ⟨4, .phase⟩, ⟨5, .phase⟩, ⟨6, .phase⟩, ⟨7, .phase⟩, ⟨8, .phase⟩, ⟨9, .phase⟩, ⟨10, .phase⟩, ⟨11, .phase⟩, ⟨12, .phase⟩, ⟨13, .phase⟩], none⟩) (v := ?_) (Or.inl ⟨by rfl, ?_⟩) ?_
     rotate_left 1
     ·(intro u hSw; go_simp; try with_reducible rfl)
     try simp only [Act.put, sA, sB, sC]
     refine wpAnyH_done (by kernel_rfl) ?_ _
     go_wp2_with fail
     go_ret3
     rw [HR.out]
     exact CEnd.of rfl hb8' (HCF8.out.base hb7.size)
   ·have hR : clashM (.nd k n rk d l r) (.nd k' n' rk' d' l' r') = if d = d' then some ((MT.nd k n rk d l r).txt, (MT.nd k' n' rk' d' l' r').txt) else none := by
     rw [clashM, if_neg ht]
    rw [hR]
    exact clash_ne _ _ w p q hp hq gx gy hK rfl rfl ht (gx.trng rfl) (gy.trng rfl)
end Go.Proofs.YtbmlkocpjboodaaDoor
