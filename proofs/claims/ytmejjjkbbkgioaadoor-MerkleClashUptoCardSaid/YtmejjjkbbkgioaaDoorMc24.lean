/- stage 7: MerkleClash -/
import Derived.Test.YtmejjjkbbkgioaaDoorMc23
import Derived.WalkKit
import Derived.ProofKit
import Derived.BigQuiet
import Derived.Deep.QuietTactic
import Derived.WalkSpells
import Derived.WalkLawsBesides
import Derived.Lib.Hide
import Derived.Deep.MidRow
import Derived.Deep.RegionLaw
import Derived.BigRegion
import Derived.Laws.AppendOwnNone
import Derived.Deep.DeepMust
import Derived.Deep.AppendLies
import Derived.RegionTactic
import Derived.Deep.WholeRow
import Derived.BigFrame
import Derived.Deep.RegionWith
import Derived.Deep.RegionHeld3
import Derived.Maps.RangeWalk
import Derived.Laws.CopyOwn
import Derived.StillTailTactics
namespace Go.Proofs.YtmejjjkbbkgioaaDoor
open Go.RowKit
/-- the entries are set one by one -/
def putE (t : MT) (x : List Int × Int) : MT := if x.1.length ≤ 65535 ∧ 0 ≤ x.2 then t.put x.1 x.2.toNat (rnk x.1) else t
def putsE : List (List Int × Int) → MT → MT
  | [], t => t
  | x :: l, t => putsE l (putE t x)
theorem putsE_snoc (x : List Int × Int) : ∀ (l : List (List Int × Int)) (t : MT), putsE (l ++ [x]) t = putE (putsE l t) x
  | [], _ => rfl
  | y :: l, t => putsE_snoc x l (putE t y)
/-- a tree that is whole -/
structure Wh (t : MT) (n : Nat) : Prop where
  g : t.Good
  f : t.Full
  p : t.Pos
  s : t.size ≤ n
theorem putE_wh {t : MT} {n : Nat} (h : Wh t n) {x : List Int × Int} (hx : EOk x) : Wh (putE t x) (n + 1) := by
  unfold putE
  split
  · rename_i hc
    have hn : x.2.toNat < 9223372036854775808 := by have := hx.2.2.2; omega
    obtain ⟨h1, h2, h3⟩ := MT.put_ok x.1 x.2.toNat (rnk x.1) hc.1 hx.1 hn (rnk_len _) (rnk_rng _) t h.g h.f
    exact ⟨h1, h2, MT.put_pos _ _ _ t h.p, by have := h.s; omega⟩
  · exact ⟨h.g, h.f, h.p, Nat.le_succ_of_le h.s⟩
theorem wh_nil : Wh .nil 0 := ⟨trivial, trivial, trivial, Nat.le_refl _⟩
theorem putsE_step {l : List (List Int × Int)} {j : Nat} {x : List Int × Int} (h : l[j]? = some x) : putsE (l.take (j + 1)) .nil = putE (putsE (l.take j) .nil) x := by
  rw [List.take_add_one, h]
  exact putsE_snoc x _ _
/-- Set, of any entry -/
theorem treeSet_both {S : Nat → Prop} (X : Nat) (t : MT) (x : List Int × Int) (kv : Value) (w : World) (p : Value) (hS : ∀ b, b ≠ X → S b) (ht : TIs w X p) (hp : MIs w S p t) (hg : t.Good) (hf : t.Full) (hK : KC w) (hk : Bs w kv x.1) (hx : EOk x) (hX0 : 1 < X) (hX : ¬ S X) :
    Calls Tryd.prog 20 #[.pointer (some ⟨X, 0, none⟩), kv, .int .i64 x.2] w fun e w' => e = .returned (.bool (decide (x.1.length ≤ 65535 ∧ 0 ≤ x.2))) ∧ ∃ p', TIs w' X p' ∧ MIs w' S p' (putE t x) ∧ Chg (fun q => q = X) w w' := by
  by_cases hc : x.1.length ≤ 65535 ∧ 0 ≤ x.2
  · obtain ⟨n, hn⟩ : ∃ n : Nat, x.2 = (n : Int) := ⟨x.2.toNat, by omega⟩
    have hnn : n < 9223372036854775808 := by have := hx.2.2.2; omega
    have hXlt := blk_lt ht
    have h := treeSet_any (S := S) x.1 n hc.1 hx.1 hnn X kv t w p (fun b hb => hS b (by omega)) hX ht hp hf hg hK hk hX0
    rw [← hn] at h
    refine h.mono ?_
    rintro e w' ⟨rfl, p', h1, h2, h3⟩
    refine ⟨by rw [decide_eq_true hc], p', h1, ?_, h3⟩
    unfold putE
    rw [if_pos hc, hn, Int.toNat_natCast]
    exact h2
  · refine (treeSet_no w X kv x.1 x.2 hk (by omega)).mono ?_
    rintro e w' ⟨rfl, rfl⟩
    refine ⟨by rw [decide_eq_false hc], p, ht, ?_, Chg.refl _ _⟩
    unfold putE
    rw [if_neg hc]
    exact hp
set_option maxRecDepth 100000 in
theorem exec_neq_32 {ρ : Operand → Value} {o : Oper} {w : World} (x y : Operand) (U : TypeId) (ho : o.op = .binOp .neq 35 x y U) (xs ys : List Int) (hx : ρ x = .agg (ArrU8 xs)) (hy : ρ y = .agg (ArrU8 ys)) (lx : xs.length = 32) (ly : ys.length = 32) (b : Bool) (hb : (!decide (xs = ys)) = b) :
    (execOp ρ o).run Tryd.prog w = .ok (.value (.bool b)) w := by
  obtain ⟨i, hi⟩ := info_u8
  have h := run_neq_bytes w 35 5 32 i Tryd.underlying35 hi Tryd.underlying5 (by kernel_rfl) (by kernel_rfl) xs ys lx ly
  unfold execOp
  rw [ho]
  simp only [hx, hy]
  show ((binOp .neq 35 (.agg (ArrU8 xs)) (.agg (ArrU8 ys))) >>= fun v => pure (Next.value v) : Sem Next).run Tryd.prog w = _
  simp only [Sem.run_bind, h, Result.andThen_ok, hb, Sem.run_pure]
/-- the tree of a law under way, behind j entries -/
def TU (w : World) (X : Nat) (l : List (List Int × Int)) (j : Nat) (u : World) : Prop :=
  ∃ x, TIs u X x ∧ MIs u (fun q => q ≠ X) x (putsE (l.take j) .nil) ∧ Wh (putsE (l.take j) .nil) j ∧ KC u ∧ Below w.heap.size w u
set_option maxRecDepth 100000 in
set_option maxHeartbeats 8000000 in
theorem clash_walk (w : World) (va vb vl : Value) (a b : List Int) (l : List (List Int × Int)) (fr to : List Int) (e : Bool) (fr' to' : List Int) (e' : Bool) (ha : Bs w va a) (hb : Bs w vb b) (hl : RfS w vl l) (ga : Rng a) (gb : Rng b) (gl : ∀ x ∈ l, EOk x) (g1 : Rng fr) (g2 : Rng to) (g3 : Rng fr') (g4 : Rng to') (hK : KC w) :
    Calls Tryd.prog 8 #[va, vb, vl, .agg #[.string (str fr), .string (str to), .bool e], .agg #[.string (str fr'), .string (str to'), .bool e']] w fun d w' => d = .returned (.bool true) ∧ Below w.heap.size w w' := by
  have hab := ha
  have hbb := hb
  have hlb := hl
  obtain ⟨aa, ca, rfl, -, -⟩ := hab
  obtain ⟨ab, cb, rfl, -, -⟩ := hbb
  obtain ⟨al, cl, rfl, -⟩ := hlb
  have hw0 : Below w.heap.size w ((w.alloc (.cells #[.string (str fr), .string (str to), .bool e] 24)).alloc (.cells #[.string (str fr'), .string (str to'), .bool e'] 24)) := ((Below.refl _ _).alloc (Nat.le_refl _) _).alloc (by simp) _
  have hx0 : ((w.alloc (.cells #[.string (str fr), .string (str to), .bool e] 24)).alloc (.cells #[.string (str fr'), .string (str to'), .bool e'] 24)).heap[w.heap.size]? = some (.cells #[.string (str fr), .string (str to), .bool e] 24 (0, 0)) := (heap_alloc_old _ _ (by simp)).trans (heap_alloc_new _ _)
  have hx1 : ((w.alloc (.cells #[.string (str fr), .string (str to), .bool e] 24)).alloc (.cells #[.string (str fr'), .string (str to'), .bool e'] 24)).heap[w.heap.size + 1]? = some (.cells #[.string (str fr'), .string (str to'), .bool e'] 24 (0, 0)) := by
    have e := heap_alloc_new (w.alloc (.cells #[.string (str fr), .string (str to), .bool e] 24)) (.cells #[.string (str fr'), .string (str to'), .bool e'] 24)
    rwa [World.size_alloc] at e
  generalize hW0 : (w.alloc (.cells #[.string (str fr), .string (str to), .bool e] 24)).alloc (.cells #[.string (str fr'), .string (str to'), .bool e'] 24) = w0 at *
  have HFX := Lib.hid (fixed_any w0 (hK.below hw0 hK.1))
  have H0 := Lib.hid (And.intro hw0 (And.intro hx0 (And.intro hx1 (And.intro ha (And.intro hb (And.intro hl hK))))))
  have HG := Lib.hid (And.intro ga (And.intro gb (And.intro gl (And.intro g1 (And.intro g2 (And.intro g3 g4))))))
  clear hw0 hx0 hx1 ha hb hl hK ga gb gl g1 g2 g3 g4
  go_enter Tryd.func8, Tryd.ntmps8
  go_wp2_with fail
  refine HFX.out.mono ?_
  rintro d w1 ⟨rfl, hb1⟩
  have hK0 : KC w0 := H0.out.2.2.2.2.2.2.below H0.out.1 H0.out.2.2.2.2.2.2.1
  have HK0 := Lib.hid hK0
  have hCL := Clash_any a b w1 (.slice aa a.length ca) (.slice ab b.length cb) ((H0.out.2.2.2.1.below H0.out.1).below hb1) ((H0.out.2.2.2.2.1.below H0.out.1).below hb1) HG.out.1 HG.out.2.1 (hK0.below hb1 hK0.1)
  have HCL := Lib.hid hCL
  have H1 := Lib.hid (And.intro hb1 (hK0.below hb1 hK0.1))
  clear hb1 hK0 hCL HFX
  go_wp2_with fail
  refine HCL.out.mono ?_
  rintro d w2 hce
  clear HCL
  cases hcc : clashO a b with
  | none =>
    rw [hcc] at hce
    obtain ⟨rfl, hb2⟩ := hce
    have HK3 := Lib.hid (And.intro (H1.out.1.trans (hb2.mono H1.out.1.size)) (H1.out.2.below hb2 H1.out.2.1))
    have HBN := Lib.hid (build_nil w2)
    clear hb2 hcc H1
    go_wp2_with fail
    refine HBN.out.mono ?_
    rintro d w4 ⟨X, rfl, hx4, hX, hb4⟩
    have HT0 := Lib.hid (show TU w0 X l 0 w4 from ⟨.pointer none, hx4, rfl, wh_nil, (HK3.out.2.below hb4 HK3.out.2.1), HK3.out.1.trans (hb4.mono HK3.out.1.size)⟩)
    have hXw : w0.heap.size ≤ X := Nat.le_trans HK3.out.1.size hX
    have hKX : 1 < X := Nat.lt_of_lt_of_le HK0.out.1 hXw
    clear hx4 hX hb4 HBN HK3
    go_wp2_with fail
    go_loopw [15] (fun iv wr => ∃ j : Nat, j ≤ l.length ∧ j ≤ 100 ∧ iv = .int .i64 (j : Int) ∧ TU w0 X l j wr) (fun iv _ => l.length - (intOf iv).toNat)
    case atStart => exact ⟨0, Nat.zero_le _, Nat.zero_le _, rfl, HT0.out⟩
    case round =>
      obtain ⟨j, hj, hj100, rfl, htu⟩ := hrel
      by_cases hjl : j < l.length ∧ j < 100
      · obtain ⟨hjl, hjc⟩ := hjl
        have hx : l[j]? = some (l[j]'hjl) := List.getElem?_eq_getElem hjl
        generalize l[j]'hjl = x at hx
        have hxo := HG.out.2.2.1 x (List.mem_of_getElem? hx)
        obtain ⟨a', c', he, hall⟩ := H0.out.2.2.2.2.2.1
        injection he with e1 _ e2
        subst e1 e2
        obtain ⟨g, o, hag, hgl, hc0, hc1⟩ := hall j x hx
        subst hag
        have hgl0 : g < w0.heap.size := Nat.lt_of_lt_of_le hgl H0.out.1.size
        have HC0 := Lib.hid (fun u (hu : Below w0.heap.size w0 u) => (show u.cell? ⟨g, o + j * 2, none⟩ = some (.string (str x.1)) from (World.cell?_of_block (a := ⟨g, o + j * 2, none⟩) (hu.block g hgl0)).trans ((World.cell?_of_block (a := ⟨g, o + j * 2, none⟩) (H0.out.1.block g hgl)).trans hc0)))
        have HC1 := Lib.hid (fun u (hu : Below w0.heap.size w0 u) => (show u.cell? ⟨g, o + j * 2 + 1, none⟩ = some (.int .i64 x.2) from (World.cell?_of_block (a := ⟨g, o + j * 2 + 1, none⟩) (hu.block g hgl0)).trans ((World.cell?_of_block (a := ⟨g, o + j * 2 + 1, none⟩) (H0.out.1.block g hgl)).trans hc1)))
        have hj0 : (0 : Int) ≤ (j : Int) := by omega
        have hj1 : (j : Int) < (l.length : Int) := by omega
        have hj2 : (j : Int) < 100 := by omega
        obtain ⟨px, ht, hm, hwh, hkc, hb⟩ := htu
        have HXX := Lib.hid (And.intro hx (And.intro hxo hwh))
        have HNX := Lib.hid (And.intro hjl hjc)
        have hb := hb.drew
        have hkc : KC wr.drew := ⟨hkc.1, hkc.2⟩
        have ht : TIs wr.drew X px := ht
        have hm : MIs wr.drew (fun q => q ≠ X) px (putsE (l.take j) .nil) := hm.below ((Below.refl _ _).drew)
        clear hx hxo hwh hgl hc0 hc1 hall hjl hjc
        go_wp2_with fail
        refine wp_region_held_drew (S := fun u => Below w0.heap.size w0 u) (by kernel_rfl) (hb) (fun hHeld => ?_)
        refine wpAnyH_take (i := 0) (oi := ({ dst := some 63, op := Op.move (Operand.tmp 14), type := 28, pos := "law.go:191", after := #[], guard := none } : Oper)) (v := ?_) rfl (by kernel_rfl) (by kernel_rfl) (by kernel_rfl) (fun _ _ _ h => h) (Or.inl ⟨by rfl, ?_⟩) (by assumption) ?_
        rotate_left 1
        · (intro u hSw; go_simp; try with_reducible rfl)
        try simp only [Act.put, List.setIfInBounds_toArray, List.set_cons_zero, List.set_cons_succ]
        refine wpAnyH_take (i := 1) (oi := ({ dst := some 64, op := Op.move (Operand.tmp 2), type := 22, pos := "law.go:191", after := #[], guard := none } : Oper)) (v := ?_) rfl (by kernel_rfl) (by kernel_rfl) (by kernel_rfl) (fun _ _ _ h => h) (Or.inl ⟨by rfl, ?_⟩) (by assumption) ?_
        rotate_left 1
        · (intro u hSw; go_simp; try with_reducible rfl)
        try simp only [Act.put, List.setIfInBounds_toArray, List.set_cons_zero, List.set_cons_succ]
        refine wpAnyH_take (i := 2) (oi := ({ dst := some 65, op := Op.move (Operand.tmp 15), type := 3, pos := "law.go:191", after := #[], guard := none } : Oper)) (v := ?_) rfl (by kernel_rfl) (by kernel_rfl) (by kernel_rfl) (fun _ _ _ h => h) (Or.inl ⟨by rfl, ?_⟩) (by assumption) ?_
        rotate_left 1
        · (intro u hSw; go_simp; try with_reducible rfl)
        try simp only [Act.put, List.setIfInBounds_toArray, List.set_cons_zero, List.set_cons_succ]
        refine wpAnyH_take (i := 3) (oi := ({ dst := some 66, op := Op.indexAddr 22 (Operand.tmp 64) (Operand.tmp 65), type := 0, pos := "law.go:191", after := #[{ on := 1, ground := Ground.data }, { on := 2, ground := Ground.data }], guard := none } : Oper)) (v := ?_) rfl (by kernel_rfl) (by kernel_rfl) (by kernel_rfl) (fun _ _ _ h => h) (Or.inl ⟨by rfl, ?_⟩) (by assumption) ?_
        rotate_left 1
        · (intro u hSw; go_simp; try with_reducible rfl)
        try simp only [Act.put, List.setIfInBounds_toArray, List.set_cons_zero, List.set_cons_succ]
        refine wpAnyH_take (i := 4) (oi := ({ dst := some 67, op := Op.fieldAddr 45 (Operand.tmp 66) 0, type := 0, pos := "law.go:191", after := #[{ on := 3, ground := Ground.data }], guard := none } : Oper)) (v := ?_) rfl (by kernel_rfl) (by kernel_rfl) (by kernel_rfl) (fun _ _ _ h => h) (Or.inl ⟨by rfl, ?_⟩) (by assumption) ?_
        rotate_left 1
        · (intro u hSw; go_simp; try with_reducible rfl)
        try simp only [Act.put, List.setIfInBounds_toArray, List.set_cons_zero, List.set_cons_succ]
        refine wpAnyH_take (i := 5) (oi := ({ dst := some 68, op := Op.load 9 (Operand.tmp 67), type := 9, pos := "law.go:191", after := #[{ on := 4, ground := Ground.data }], guard := none } : Oper)) (v := ?_) rfl (by kernel_rfl) (by kernel_rfl) (by kernel_rfl) (fun _ _ _ h => h) (Or.inl ⟨by rfl, ?_⟩) (by assumption) ?_
        rotate_left 1
        · (intro u hSw; have y0 := HC0.out _ hSw; have y1 := HC1.out _ hSw; go_simp; try with_reducible rfl)
        try simp only [Act.put, List.setIfInBounds_toArray, List.set_cons_zero, List.set_cons_succ]
        refine wpAnyH_take (i := 7) (oi := ({ dst := some 70, op := Op.move (Operand.tmp 2), type := 22, pos := "law.go:191", after := #[], guard := none } : Oper)) (v := ?_) rfl (by kernel_rfl) (by kernel_rfl) (by kernel_rfl) (fun _ _ _ h => h) (Or.inl ⟨by rfl, ?_⟩) (by assumption) ?_
        rotate_left 1
        · (intro u hSw; go_simp; try with_reducible rfl)
        try simp only [Act.put, List.setIfInBounds_toArray, List.set_cons_zero, List.set_cons_succ]
        refine wpAnyH_take (i := 8) (oi := ({ dst := some 71, op := Op.move (Operand.tmp 15), type := 3, pos := "law.go:191", after := #[], guard := none } : Oper)) (v := ?_) rfl (by kernel_rfl) (by kernel_rfl) (by kernel_rfl) (fun _ _ _ h => h) (Or.inl ⟨by rfl, ?_⟩) (by assumption) ?_
        rotate_left 1
        · (intro u hSw; go_simp; try with_reducible rfl)
        try simp only [Act.put, List.setIfInBounds_toArray, List.set_cons_zero, List.set_cons_succ]
        refine wpAnyH_take (i := 9) (oi := ({ dst := some 72, op := Op.indexAddr 22 (Operand.tmp 70) (Operand.tmp 71), type := 0, pos := "law.go:191", after := #[{ on := 7, ground := Ground.data }, { on := 8, ground := Ground.data }], guard := none } : Oper)) (v := ?_) rfl (by kernel_rfl) (by kernel_rfl) (by kernel_rfl) (fun _ _ _ h => h) (Or.inl ⟨by rfl, ?_⟩) (by assumption) ?_
        rotate_left 1
        · (intro u hSw; go_simp; try with_reducible rfl)
        try simp only [Act.put, List.setIfInBounds_toArray, List.set_cons_zero, List.set_cons_succ]
        refine wpAnyH_take (i := 10) (oi := ({ dst := some 73, op := Op.fieldAddr 45 (Operand.tmp 72) 1, type := 0, pos := "law.go:191", after := #[{ on := 9, ground := Ground.data }], guard := none } : Oper)) (v := ?_) rfl (by kernel_rfl) (by kernel_rfl) (by kernel_rfl) (fun _ _ _ h => h) (Or.inl ⟨by rfl, ?_⟩) (by assumption) ?_
        rotate_left 1
        · (intro u hSw; go_simp; try with_reducible rfl)
        try simp only [Act.put, List.setIfInBounds_toArray, List.set_cons_zero, List.set_cons_succ]
        refine wpAnyH_take (i := 11) (oi := ({ dst := some 74, op := Op.load 2 (Operand.tmp 73), type := 2, pos := "law.go:191", after := #[{ on := 10, ground := Ground.data }], guard := none } : Oper)) (v := ?_) rfl (by kernel_rfl) (by kernel_rfl) (by kernel_rfl) (fun _ _ _ h => h) (Or.inl ⟨by rfl, ?_⟩) (by assumption) ?_
        rotate_left 1
        · (intro u hSw; have y0 := HC0.out _ hSw; have y1 := HC1.out _ hSw; go_simp; try with_reducible rfl)
        try simp only [Act.put, List.setIfInBounds_toArray, List.set_cons_zero, List.set_cons_succ]
        refine wpAnyH_ready (rs := [6]) (by kernel_rfl) (by simp) ?_
        refine (AllReadyH.cons (o := ({ dst := some 69, op := Op.convert 9 31 (Operand.tmp 68), type := 31, pos := "law.go:191", after := #[{ on := 5, ground := Ground.data }], guard := none } : Oper)) rfl (fun K hK => ?_) AllReadyH.nil)
        try (generalize World.drew wr = ud at *)
        obtain ⟨W1, a1, c1, q1, b1, k1⟩ := conv_str ud x.1 HXX.out.2.1.1
        refine step_of_runP (by rfl) (exec_convP 9 31 (Operand.tmp 68) (by rfl) _ (by rfl) _ q1) ?_
        have hb := hb.trans (b1.mono hb.size)
        have ht := (b1.block X (blk_lt ht)).trans ht
        have hm := hm.below b1
        have hkc := hkc.below b1 hkc.1
        clear q1 b1
        refine hK.out _ _ hb (fun hHeld => ?_)
        clear hK K
        try simp only [Act.put, List.setIfInBounds_toArray, List.set_cons_zero, List.set_cons_succ]
        refine wpAnyH_ready (rs := [12]) (by kernel_rfl) (by simp) ?_
        refine (AllReadyH.cons (o := ({ dst := some 75, op := Op.call { callee := Callee.value (Operand.func 20), args := #[Operand.tmp 63, Operand.tmp 69, Operand.tmp 74], argTypes := #[28, 31, 2] }, type := 4, pos := "law.go:191", after := #[{ on := 0, ground := Ground.data }, { on := 6, ground := Ground.data }, { on := 11, ground := Ground.data }], guard := none } : Oper)) rfl (fun K hK => ?_) AllReadyH.nil)
        go_simp
        refine (treeSet_both X _ x _ W1 px (fun _ => id) ht hm HXX.out.2.2.g HXX.out.2.2.f hkc k1 HXX.out.2.1 hKX (fun h => h rfl)).mono ?_
        rintro e w5 ⟨rfl, p5, ht5, hm5, hc5⟩
        have hb := hb.trans (hc5.below (fun q e => by omega) hb.size)
        have hkc := hkc.chg hc5 (by omega)
        clear ht hm hc5 k1
        go_wp2_with fail
        refine hK.out _ _ hb (fun hHeld => ?_)
        clear hK K
        try simp only [Act.put, List.setIfInBounds_toArray, List.set_cons_zero, List.set_cons_succ]
        refine wpAnyH_done (by kernel_rfl) ?_ _
        have hr := putsE_step (HXX.out.1)
        have HR := Lib.hid (show TU w0 X l (j + 1) w5 from ⟨p5, ht5, by rw [hr]; exact hm5, by rw [hr]; exact putE_wh HXX.out.2.2 HXX.out.2.1, hkc, hb⟩)
        clear ht5 hm5 hkc hb hr
        go_wp2_with fail
        go_roundw
        case rel => exact ⟨j + 1, HNX.out.1, HNX.out.2, by go_num, HR.out⟩
        case measure => have := HNX.out.1; simp [intOf]; omega
      · obtain ⟨px, ht, hm, hwh, hkc, hb⟩ := htu
        have H5 := Lib.hid (And.intro ht (And.intro hm (And.intro hwh (And.intro hkc hb))))
        generalize putsE (l.take j) .nil = t at *
        have hpr := fun (f1 f2 : List Int) (e1 : Bool) => prove_len f1 f2 e1 t H5.out.2.2.1.g
        have hdp := MT.depth_le t
        have hsz := H5.out.2.2.1.s
        have hlen : ∀ (f1 f2 : List Int) (e1 : Bool), (t.prove f1 f2 e1).length ≤ 1099511627776 := fun f1 f2 e1 => by have := hpr f1 f2 e1; omega
        have HCO := Lib.hid (clashO_pr fr to e fr' to' e' t H5.out.2.2.1.g H5.out.2.2.1.f H5.out.2.2.1.p (by omega))
        have HLE := Lib.hid hlen
        have HZZ := Lib.hid (fun u (hu : Below w0.heap.size w0 u) => (show u.heap[w.heap.size]? = some (.cells #[.string (str fr), .string (str to), .bool e] 24 (0, 0)) ∧ u.heap[w.heap.size + 1]? = some (.cells #[.string (str fr'), .string (str to'), .bool e'] 24 (0, 0)) from ⟨(hu.block _ (blk_lt H0.out.2.1)).trans H0.out.2.1, (hu.block _ (blk_lt H0.out.2.2.1)).trans H0.out.2.2.1⟩))
        have hb := hb.drew
        have ht : TIs wr.drew X px := ht
        have hm : MIs wr.drew (fun q => q ≠ X) px t := hm.below ((Below.refl _ _).drew)
        have hkc : KC wr.drew := ⟨hkc.1, hkc.2⟩
        clear hwh hpr hdp hsz hlen
        have hcond : ¬ ((j : Int) < (l.length : Int)) ∨ ¬ ((j : Int) < 100) := by omega
        have hgo : ∀ (K : Prop), ((¬ ((j : Int) < (l.length : Int)) → K) ∧ ((j : Int) < (l.length : Int) → ¬ ((j : Int) < 100) → K)) → K := fun K h => by
          by_cases h1 : (j : Int) < (l.length : Int)
          · exact h.2 h1 (hcond.resolve_left (fun h => h h1))
          · exact h.1 h1
        clear hcond hjl hj hj100
        refine hgo _ ⟨fun hj1 => ?_, fun hj1 hj2 => ?_⟩
        all_goals
          clear hgo
          go_wp2_with fail
          refine wp_region_held_drew (S := fun u => Below w0.heap.size w0 u) (by kernel_rfl) (hb) (fun hHeld => ?_)
          refine wpAnyH_take (i := 0) (oi := ({ dst := some 77, op := Op.move (Operand.tmp 14), type := 28, pos := "law.go:193", after := #[], guard := none } : Oper)) (v := ?_) rfl (by kernel_rfl) (by kernel_rfl) (by kernel_rfl) (fun _ _ _ h => h) (Or.inl ⟨by rfl, ?_⟩) (by assumption) ?_
          rotate_left 1
          · (intro u hSw; go_simp; try with_reducible rfl)
          try simp only [Act.put, List.setIfInBounds_toArray, List.set_cons_zero, List.set_cons_succ]
          refine wpAnyH_take (i := 1) (oi := ({ dst := some 78, op := Op.load 24 (Operand.tmp 8), type := 24, pos := "law.go:193", after := #[], guard := none } : Oper)) (v := ?_) rfl (by kernel_rfl) (by kernel_rfl) (by kernel_rfl) (fun _ _ _ h => h) (Or.inl ⟨by rfl, ?_⟩) (by assumption) ?_
          rotate_left 1
          · (intro u hSw; have y0 := cell_of_row u w.heap.size 0 _ _ _ (HZZ.out _ hSw).1; have y1 := cell_of_row u w.heap.size 1 _ _ _ (HZZ.out _ hSw).1; have y2 := cell_of_row u w.heap.size 2 _ _ _ (HZZ.out _ hSw).1; have y3 := cell_of_row u (w.heap.size + 1) 0 _ _ _ (HZZ.out _ hSw).2; have y4 := cell_of_row u (w.heap.size + 1) 1 _ _ _ (HZZ.out _ hSw).2; have y5 := cell_of_row u (w.heap.size + 1) 2 _ _ _ (HZZ.out _ hSw).2; go_simp; try with_reducible rfl)
          try simp only [Act.put, List.setIfInBounds_toArray, List.set_cons_zero, List.set_cons_succ]
          refine wpAnyH_take (i := 3) (oi := ({ dst := some 80, op := Op.move (Operand.tmp 14), type := 28, pos := "law.go:193", after := #[], guard := none } : Oper)) (v := ?_) rfl (by kernel_rfl) (by kernel_rfl) (by kernel_rfl) (fun _ _ _ h => h) (Or.inl ⟨by rfl, ?_⟩) (by assumption) ?_
          rotate_left 1
          · (intro u hSw; go_simp; try with_reducible rfl)
          try simp only [Act.put, List.setIfInBounds_toArray, List.set_cons_zero, List.set_cons_succ]
          refine wpAnyH_take (i := 4) (oi := ({ dst := some 81, op := Op.load 24 (Operand.tmp 9), type := 24, pos := "law.go:193", after := #[], guard := none } : Oper)) (v := ?_) rfl (by kernel_rfl) (by kernel_rfl) (by kernel_rfl) (fun _ _ _ h => h) (Or.inl ⟨by rfl, ?_⟩) (by assumption) ?_
          rotate_left 1
          · (intro u hSw; have y0 := cell_of_row u w.heap.size 0 _ _ _ (HZZ.out _ hSw).1; have y1 := cell_of_row u w.heap.size 1 _ _ _ (HZZ.out _ hSw).1; have y2 := cell_of_row u w.heap.size 2 _ _ _ (HZZ.out _ hSw).1; have y3 := cell_of_row u (w.heap.size + 1) 0 _ _ _ (HZZ.out _ hSw).2; have y4 := cell_of_row u (w.heap.size + 1) 1 _ _ _ (HZZ.out _ hSw).2; have y5 := cell_of_row u (w.heap.size + 1) 2 _ _ _ (HZZ.out _ hSw).2; go_simp; try with_reducible rfl)
          try simp only [Act.put, List.setIfInBounds_toArray, List.set_cons_zero, List.set_cons_succ]
          refine wpAnyH_ready (rs := [2]) (by kernel_rfl) (by simp) ?_
          refine (AllReadyH.cons (o := ({ dst := some 79, op := Op.call { callee := Callee.value (Operand.func 15), args := #[Operand.tmp 77, Operand.tmp 78], argTypes := #[28, 24] }, type := 31, pos := "law.go:193", after := #[{ on := 0, ground := Ground.data }, { on := 1, ground := Ground.data }], guard := none } : Oper)) rfl (fun K hK => ?_) AllReadyH.nil)
          try (generalize World.drew wr = ud at *)
          go_simp
          refine (lawProve_any X ud px fr to e t ht hm H5.out.2.2.1.g HG.out.2.2.2.1 HG.out.2.2.2.2.1 (HLE.out _ _ _)).mono ?_
          rintro d5 w5 ⟨v5, rfl, ho5, hb5⟩
          obtain ⟨a5, n5, c5, rfl⟩ := ho5.slc
          have hb := hb.trans (hb5.mono hb.size)
          have ht := (hb5.block X (blk_lt ht)).trans ht
          have hm := hm.below hb5
          have hkc := hkc.below hb5 hkc.1
          have k5 := ho5.bs
          clear hb5 ho5
          go_wp2_with fail
          refine hK.out _ _ hb (fun hHeld => ?_)
          clear hK K
          try simp only [Act.put, List.setIfInBounds_toArray, List.set_cons_zero, List.set_cons_succ]
          refine wpAnyH_ready (rs := [5]) (by kernel_rfl) (by simp) ?_
          refine (AllReadyH.cons (o := ({ dst := some 82, op := Op.call { callee := Callee.value (Operand.func 15), args := #[Operand.tmp 80, Operand.tmp 81], argTypes := #[28, 24] }, type := 31, pos := "law.go:193", after := #[{ on := 3, ground := Ground.data }, { on := 4, ground := Ground.data }, { on := 2, ground := Ground.chain }], guard := none } : Oper)) rfl (fun K hK => ?_) AllReadyH.nil)
          go_simp
          refine (lawProve_any X _ px fr' to' e' t ht hm H5.out.2.2.1.g HG.out.2.2.2.2.2.1 HG.out.2.2.2.2.2.2 (HLE.out _ _ _)).mono ?_
          rintro d6 w6 ⟨v6, rfl, ho6, hb6⟩
          obtain ⟨a6, n6, c6, rfl⟩ := ho6.slc
          have hb := hb.trans (hb6.mono hb.size)
          have hkc := hkc.below hb6 hkc.1
          have k5 := k5.below hb6
          have k6 := ho6.bs
          clear hb6 ho6
          go_wp2_with fail
          refine hK.out _ _ hb (fun hHeld => ?_)
          clear hK K
          try simp only [Act.put, List.setIfInBounds_toArray, List.set_cons_zero, List.set_cons_succ]
          refine wpAnyH_ready (rs := [6]) (by kernel_rfl) (by simp) ?_
          refine (AllReadyH.cons (o := ({ dst := some 83, op := Op.call { callee := Callee.value (Operand.func 25), args := #[Operand.tmp 79, Operand.tmp 82], argTypes := #[31, 31] }, type := 55, pos := "law.go:193", after := #[{ on := 2, ground := Ground.data }, { on := 5, ground := Ground.data }, { on := 5, ground := Ground.chain }], guard := none } : Oper)) rfl (fun K hK => ?_) AllReadyH.nil)
          have hcl := Clash_any _ _ _ _ _ k5 k6 (prove_rng fr to e t H5.out.2.2.1.g) (prove_rng fr' to' e' t H5.out.2.2.1.g) hkc
          rw [HCO.out] at hcl
          go_simp
          refine hcl.mono ?_
          rintro d7 w7 ⟨rfl, hb7⟩
          have hb := hb.trans (hb7.mono hb.size)
          clear hb7 hcl k5 k6 hkc ht hm
          go_wp2_with fail
          refine hK.out _ _ hb (fun hHeld => ?_)
          clear hK K
          try simp only [Act.put, List.setIfInBounds_toArray, List.set_cons_zero, List.set_cons_succ]
          refine wpAnyH_take (i := 7) (oi := ({ dst := some 76, op := Op.move (Operand.tmp 83), type := 55, pos := "law.go:193", after := #[{ on := 6, ground := Ground.data }], guard := none } : Oper)) (v := ?_) rfl (by kernel_rfl) (by kernel_rfl) (by kernel_rfl) (fun _ _ _ h => h) (Or.inl ⟨by rfl, ?_⟩) (by assumption) ?_
          rotate_left 1
          · (intro u hSw; go_simp; try with_reducible rfl)
          try simp only [Act.put, List.setIfInBounds_toArray, List.set_cons_zero, List.set_cons_succ]
          refine wpAnyH_take (i := 8) (oi := ({ dst := some 84, op := Op.extract (Operand.tmp 76) 0, type := 31, pos := "law.go:193", after := #[{ on := 7, ground := Ground.data }], guard := none } : Oper)) (v := ?_) rfl (by kernel_rfl) (by kernel_rfl) (by kernel_rfl) (fun _ _ _ h => h) (Or.inl ⟨by rfl, ?_⟩) (by assumption) ?_
          rotate_left 1
          · (intro u hSw; go_simp; try with_reducible rfl)
          try simp only [Act.put, List.setIfInBounds_toArray, List.set_cons_zero, List.set_cons_succ]
          refine wpAnyH_take (i := 9) (oi := ({ dst := some 85, op := Op.extract (Operand.tmp 76) 1, type := 31, pos := "law.go:193", after := #[{ on := 7, ground := Ground.data }, { on := 11, ground := Ground.gcOnly Departure.lateStores }], guard := none } : Oper)) (v := ?_) rfl (by kernel_rfl) (by kernel_rfl) (by kernel_rfl) (fun _ _ _ h => h) (Or.inl ⟨by rfl, ?_⟩) (by assumption) ?_
          rotate_left 1
          · (intro u hSw; go_simp; try with_reducible rfl)
          try simp only [Act.put, List.setIfInBounds_toArray, List.set_cons_zero, List.set_cons_succ]
          refine wpAnyH_take (i := 10) (oi := ({ dst := some 86, op := Op.extract (Operand.tmp 76) 2, type := 4, pos := "law.go:193", after := #[{ on := 7, ground := Ground.data }, { on := 12, ground := Ground.gcOnly Departure.lateStores }], guard := none } : Oper)) (v := ?_) rfl (by kernel_rfl) (by kernel_rfl) (by kernel_rfl) (fun _ _ _ h => h) (Or.inl ⟨by rfl, ?_⟩) (by assumption) ?_
          rotate_left 1
          · (intro u hSw; go_simp; try with_reducible rfl)
          try simp only [Act.put, List.setIfInBounds_toArray, List.set_cons_zero, List.set_cons_succ]
          refine wpAnyH_take (i := 11) (oi := ({ dst := some 11, op := Op.assign (Operand.tmp 84), type := 31, pos := "law.go:193", after := #[{ on := 8, ground := Ground.data }, { on := 6, ground := Ground.chain }, { on := 0, ground := Ground.phase }, { on := 1, ground := Ground.phase }, { on := 2, ground := Ground.phase }, { on := 3, ground := Ground.phase }, { on := 4, ground := Ground.phase }, { on := 5, ground := Ground.phase }, { on := 6, ground := Ground.phase }, { on := 7, ground := Ground.phase }, { on := 8, ground := Ground.phase }, { on := 9, ground := Ground.textOnly Departure.lateStores }, { on := 10, ground := Ground.textOnly Departure.lateStores }], guard := none } : Oper)) (v := ?_) rfl (by kernel_rfl) (by kernel_rfl) (by kernel_rfl) (fun _ _ _ h => h) (Or.inl ⟨by rfl, ?_⟩) (by assumption) ?_
          rotate_left 1
          · (intro u hSw; go_simp; try with_reducible rfl)
          try simp only [Act.put, List.setIfInBounds_toArray, List.set_cons_zero, List.set_cons_succ]
          refine wpAnyH_take (i := 12) (oi := ({ dst := some 12, op := Op.assign (Operand.tmp 85), type := 31, pos := "law.go:193", after := #[{ on := 9, ground := Ground.data }, { on := 11, ground := Ground.chain }, { on := 0, ground := Ground.phase }, { on := 1, ground := Ground.phase }, { on := 2, ground := Ground.phase }, { on := 3, ground := Ground.phase }, { on := 4, ground := Ground.phase }, { on := 5, ground := Ground.phase }, { on := 6, ground := Ground.phase }, { on := 7, ground := Ground.phase }, { on := 8, ground := Ground.phase }, { on := 9, ground := Ground.phase }, { on := 10, ground := Ground.textOnly Departure.lateStores }, { on := 11, ground := Ground.phase }], guard := none } : Oper)) (v := ?_) rfl (by kernel_rfl) (by kernel_rfl) (by kernel_rfl) (fun _ _ _ h => h) (Or.inl ⟨by rfl, ?_⟩) (by assumption) ?_
          rotate_left 1
          · (intro u hSw; go_simp; try with_reducible rfl)
          try simp only [Act.put, List.setIfInBounds_toArray, List.set_cons_zero, List.set_cons_succ]
          refine wpAnyH_take (i := 13) (oi := ({ dst := some 13, op := Op.assign (Operand.tmp 86), type := 4, pos := "law.go:193", after := #[{ on := 10, ground := Ground.data }, { on := 12, ground := Ground.chain }, { on := 0, ground := Ground.phase }, { on := 1, ground := Ground.phase }, { on := 2, ground := Ground.phase }, { on := 3, ground := Ground.phase }, { on := 4, ground := Ground.phase }, { on := 5, ground := Ground.phase }, { on := 6, ground := Ground.phase }, { on := 7, ground := Ground.phase }, { on := 8, ground := Ground.phase }, { on := 9, ground := Ground.phase }, { on := 10, ground := Ground.phase }, { on := 11, ground := Ground.phase }, { on := 12, ground := Ground.phase }], guard := none } : Oper)) (v := ?_) rfl (by kernel_rfl) (by kernel_rfl) (by kernel_rfl) (fun _ _ _ h => h) (Or.inl ⟨by rfl, ?_⟩) (by assumption) ?_
          rotate_left 1
          · (intro u hSw; go_simp; try with_reducible rfl)
          try simp only [Act.put, List.setIfInBounds_toArray, List.set_cons_zero, List.set_cons_succ]
          refine wpAnyH_done (by kernel_rfl) ?_ _
          have HBE := Lib.hid (H0.out.1.trans (hb.mono H0.out.1.size))
          clear hb
          go_wp2_with fail
          go_ret
          exact ⟨rfl, HBE.out⟩
  | some z =>
    obtain ⟨p, q⟩ := z
    rw [hcc] at hce
    obtain ⟨v1, v2, rfl, k1, k2, hb2⟩ := hce
    obtain ⟨q1, q2, q3, q4, q5, q6⟩ := clashO_ok HG.out.1 HG.out.2.1 hcc
    obtain ⟨a1, c1, rfl⟩ := k1.form
    obtain ⟨a2, c2, rfl⟩ := k2.form
    have HNE := Lib.hid q1
    have hne : ((str p).toList == (str q).toList) = false := by rw [str_beq q3 q4]; exact decide_eq_false q1
    have HS1 := Lib.hid (refSum_any (.slice a1 p.length c1) p w2 k1.1 (by omega))
    have HS2 := Lib.hid (fun u (hu : Below w2.heap.size w2 u) => refSum_any (.slice a2 q.length c2) q u (k2.1.below hu) (by omega))
    rw [q2] at HS1
    have HDL := Lib.hid (sha_len q)
    have HV1 := Lib.hid (conv_bs w2 a1 p.length c1 p k1.1)
    have HV2 := Lib.hid (conv_bs w2 a2 q.length c2 q k2.1)
    have H2 := Lib.hid (And.intro (H1.out.1.trans (hb2.mono H1.out.1.size)) (H1.out.2.below hb2 H1.out.2.1))
    clear hb2 hcc q1 q2 q3 q4 q5 q6 k1 k2 H1
    generalize sha q = dq at *
    go_wp2_with (first
      | (refine wpList_of_runG (o := ⟨some 28, _, _, _, _, _⟩) rfl (exec_convP 31 9 (Operand.tmp 27) rfl _ rfl _ HV1.out) ?_)
      | (refine wpList_of_runG (o := ⟨some 30, _, _, _, _, _⟩) rfl (exec_convP 31 9 (Operand.tmp 29) rfl _ rfl _ HV2.out) ?_))
    refine HS1.out.mono ?_
    rintro d w5 ⟨rfl, hb5⟩
    have HB5 := Lib.hid hb5
    clear hb5 HS1
    go_wp2_with fail
    refine (HS2.out w5 HB5.out).mono ?_
    rintro d w6 ⟨rfl, hb6⟩
    have hb26 := HB5.out.trans (hb6.mono HB5.out.size)
    have HK3 := Lib.hid (And.intro (H2.out.1.trans (hb26.mono H2.out.1.size)) (H2.out.2.below hb26 H2.out.2.1))
    have HBN := Lib.hid (build_nil w6)
    clear hb6 hb26 HS2 H2 HB5
    go_wp2_with (first
      | (refine wpList_of_runG (o := ⟨some 37, _, _, _, _, _⟩) rfl (exec_neq_32 (Operand.tmp 34) (Operand.tmp 36) _ rfl dq dq rfl rfl HDL.out HDL.out false (by simp)) ?_))
    refine HBN.out.mono ?_
    rintro d w4 ⟨X, rfl, hx4, hX, hb4⟩
    have HT0 := Lib.hid (show TU w0 X l 0 w4 from ⟨.pointer none, hx4, rfl, wh_nil, (HK3.out.2.below hb4 HK3.out.2.1), HK3.out.1.trans (hb4.mono HK3.out.1.size)⟩)
    have hXw : w0.heap.size ≤ X := Nat.le_trans HK3.out.1.size hX
    have hKX : 1 < X := Nat.lt_of_lt_of_le HK0.out.1 hXw
    clear hx4 hX hb4 HBN HK3
    go_wp2_with fail
    go_loopw [15] (fun iv wr => ∃ j : Nat, j ≤ l.length ∧ j ≤ 100 ∧ iv = .int .i64 (j : Int) ∧ TU w0 X l j wr) (fun iv _ => l.length - (intOf iv).toNat)
    case atStart => exact ⟨0, Nat.zero_le _, Nat.zero_le _, rfl, HT0.out⟩
    case round =>
      obtain ⟨j, hj, hj100, rfl, htu⟩ := hrel
      by_cases hjl : j < l.length ∧ j < 100
      · obtain ⟨hjl, hjc⟩ := hjl
        have hx : l[j]? = some (l[j]'hjl) := List.getElem?_eq_getElem hjl
        generalize l[j]'hjl = x at hx
        have hxo := HG.out.2.2.1 x (List.mem_of_getElem? hx)
        obtain ⟨a', c', he, hall⟩ := H0.out.2.2.2.2.2.1
        injection he with e1 _ e2
        subst e1 e2
        obtain ⟨g, o, hag, hgl, hc0, hc1⟩ := hall j x hx
        subst hag
        have hgl0 : g < w0.heap.size := Nat.lt_of_lt_of_le hgl H0.out.1.size
        have HC0 := Lib.hid (fun u (hu : Below w0.heap.size w0 u) => (show u.cell? ⟨g, o + j * 2, none⟩ = some (.string (str x.1)) from (World.cell?_of_block (a := ⟨g, o + j * 2, none⟩) (hu.block g hgl0)).trans ((World.cell?_of_block (a := ⟨g, o + j * 2, none⟩) (H0.out.1.block g hgl)).trans hc0)))
        have HC1 := Lib.hid (fun u (hu : Below w0.heap.size w0 u) => (show u.cell? ⟨g, o + j * 2 + 1, none⟩ = some (.int .i64 x.2) from (World.cell?_of_block (a := ⟨g, o + j * 2 + 1, none⟩) (hu.block g hgl0)).trans ((World.cell?_of_block (a := ⟨g, o + j * 2 + 1, none⟩) (H0.out.1.block g hgl)).trans hc1)))
        have hj0 : (0 : Int) ≤ (j : Int) := by omega
        have hj1 : (j : Int) < (l.length : Int) := by omega
        have hj2 : (j : Int) < 100 := by omega
        obtain ⟨px, ht, hm, hwh, hkc, hb⟩ := htu
        have HXX := Lib.hid (And.intro hx (And.intro hxo hwh))
        have HNX := Lib.hid (And.intro hjl hjc)
        have hb := hb.drew
        have hkc : KC wr.drew := ⟨hkc.1, hkc.2⟩
        have ht : TIs wr.drew X px := ht
        have hm : MIs wr.drew (fun q => q ≠ X) px (putsE (l.take j) .nil) := hm.below ((Below.refl _ _).drew)
        clear hx hxo hwh hgl hc0 hc1 hall hjl hjc
        go_wp2_with fail
        refine wp_region_held_drew (S := fun u => Below w0.heap.size w0 u) (by kernel_rfl) (hb) (fun hHeld => ?_)
        refine wpAnyH_take (i := 0) (oi := ({ dst := some 63, op := Op.move (Operand.tmp 14), type := 28, pos := "law.go:191", after := #[], guard := none } : Oper)) (v := ?_) rfl (by kernel_rfl) (by kernel_rfl) (by kernel_rfl) (fun _ _ _ h => h) (Or.inl ⟨by rfl, ?_⟩) (by assumption) ?_
        rotate_left 1
        · (intro u hSw; go_simp; try with_reducible rfl)
        try simp only [Act.put, List.setIfInBounds_toArray, List.set_cons_zero, List.set_cons_succ]
        refine wpAnyH_take (i := 1) (oi := ({ dst := some 64, op := Op.move (Operand.tmp 2), type := 22, pos := "law.go:191", after := #[], guard := none } : Oper)) (v := ?_) rfl (by kernel_rfl) (by kernel_rfl) (by kernel_rfl) (fun _ _ _ h => h) (Or.inl ⟨by rfl, ?_⟩) (by assumption) ?_
        rotate_left 1
        · (intro u hSw; go_simp; try with_reducible rfl)
        try simp only [Act.put, List.setIfInBounds_toArray, List.set_cons_zero, List.set_cons_succ]
        refine wpAnyH_take (i := 2) (oi := ({ dst := some 65, op := Op.move (Operand.tmp 15), type := 3, pos := "law.go:191", after := #[], guard := none } : Oper)) (v := ?_) rfl (by kernel_rfl) (by kernel_rfl) (by kernel_rfl) (fun _ _ _ h => h) (Or.inl ⟨by rfl, ?_⟩) (by assumption) ?_
        rotate_left 1
        · (intro u hSw; go_simp; try with_reducible rfl)
        try simp only [Act.put, List.setIfInBounds_toArray, List.set_cons_zero, List.set_cons_succ]
        refine wpAnyH_take (i := 3) (oi := ({ dst := some 66, op := Op.indexAddr 22 (Operand.tmp 64) (Operand.tmp 65), type := 0, pos := "law.go:191", after := #[{ on := 1, ground := Ground.data }, { on := 2, ground := Ground.data }], guard := none } : Oper)) (v := ?_) rfl (by kernel_rfl) (by kernel_rfl) (by kernel_rfl) (fun _ _ _ h => h) (Or.inl ⟨by rfl, ?_⟩) (by assumption) ?_
        rotate_left 1
        · (intro u hSw; go_simp; try with_reducible rfl)
        try simp only [Act.put, List.setIfInBounds_toArray, List.set_cons_zero, List.set_cons_succ]
        refine wpAnyH_take (i := 4) (oi := ({ dst := some 67, op := Op.fieldAddr 45 (Operand.tmp 66) 0, type := 0, pos := "law.go:191", after := #[{ on := 3, ground := Ground.data }], guard := none } : Oper)) (v := ?_) rfl (by kernel_rfl) (by kernel_rfl) (by kernel_rfl) (fun _ _ _ h => h) (Or.inl ⟨by rfl, ?_⟩) (by assumption) ?_
        rotate_left 1
        · (intro u hSw; go_simp; try with_reducible rfl)
        try simp only [Act.put, List.setIfInBounds_toArray, List.set_cons_zero, List.set_cons_succ]
        refine wpAnyH_take (i := 5) (oi := ({ dst := some 68, op := Op.load 9 (Operand.tmp 67), type := 9, pos := "law.go:191", after := #[{ on := 4, ground := Ground.data }], guard := none } : Oper)) (v := ?_) rfl (by kernel_rfl) (by kernel_rfl) (by kernel_rfl) (fun _ _ _ h => h) (Or.inl ⟨by rfl, ?_⟩) (by assumption) ?_
        rotate_left 1
        · (intro u hSw; have y0 := HC0.out _ hSw; have y1 := HC1.out _ hSw; go_simp; try with_reducible rfl)
        try simp only [Act.put, List.setIfInBounds_toArray, List.set_cons_zero, List.set_cons_succ]
        refine wpAnyH_take (i := 7) (oi := ({ dst := some 70, op := Op.move (Operand.tmp 2), type := 22, pos := "law.go:191", after := #[], guard := none } : Oper)) (v := ?_) rfl (by kernel_rfl) (by kernel_rfl) (by kernel_rfl) (fun _ _ _ h => h) (Or.inl ⟨by rfl, ?_⟩) (by assumption) ?_
        rotate_left 1
        · (intro u hSw; go_simp; try with_reducible rfl)
        try simp only [Act.put, List.setIfInBounds_toArray, List.set_cons_zero, List.set_cons_succ]
        refine wpAnyH_take (i := 8) (oi := ({ dst := some 71, op := Op.move (Operand.tmp 15), type := 3, pos := "law.go:191", after := #[], guard := none } : Oper)) (v := ?_) rfl (by kernel_rfl) (by kernel_rfl) (by kernel_rfl) (fun _ _ _ h => h) (Or.inl ⟨by rfl, ?_⟩) (by assumption) ?_
        rotate_left 1
        · (intro u hSw; go_simp; try with_reducible rfl)
        try simp only [Act.put, List.setIfInBounds_toArray, List.set_cons_zero, List.set_cons_succ]
        refine wpAnyH_take (i := 9) (oi := ({ dst := some 72, op := Op.indexAddr 22 (Operand.tmp 70) (Operand.tmp 71), type := 0, pos := "law.go:191", after := #[{ on := 7, ground := Ground.data }, { on := 8, ground := Ground.data }], guard := none } : Oper)) (v := ?_) rfl (by kernel_rfl) (by kernel_rfl) (by kernel_rfl) (fun _ _ _ h => h) (Or.inl ⟨by rfl, ?_⟩) (by assumption) ?_
        rotate_left 1
        · (intro u hSw; go_simp; try with_reducible rfl)
        try simp only [Act.put, List.setIfInBounds_toArray, List.set_cons_zero, List.set_cons_succ]
        refine wpAnyH_take (i := 10) (oi := ({ dst := some 73, op := Op.fieldAddr 45 (Operand.tmp 72) 1, type := 0, pos := "law.go:191", after := #[{ on := 9, ground := Ground.data }], guard := none } : Oper)) (v := ?_) rfl (by kernel_rfl) (by kernel_rfl) (by kernel_rfl) (fun _ _ _ h => h) (Or.inl ⟨by rfl, ?_⟩) (by assumption) ?_
        rotate_left 1
        · (intro u hSw; go_simp; try with_reducible rfl)
        try simp only [Act.put, List.setIfInBounds_toArray, List.set_cons_zero, List.set_cons_succ]
        refine wpAnyH_take (i := 11) (oi := ({ dst := some 74, op := Op.load 2 (Operand.tmp 73), type := 2, pos := "law.go:191", after := #[{ on := 10, ground := Ground.data }], guard := none } : Oper)) (v := ?_) rfl (by kernel_rfl) (by kernel_rfl) (by kernel_rfl) (fun _ _ _ h => h) (Or.inl ⟨by rfl, ?_⟩) (by assumption) ?_
        rotate_left 1
        · (intro u hSw; have y0 := HC0.out _ hSw; have y1 := HC1.out _ hSw; go_simp; try with_reducible rfl)
        try simp only [Act.put, List.setIfInBounds_toArray, List.set_cons_zero, List.set_cons_succ]
        refine wpAnyH_ready (rs := [6]) (by kernel_rfl) (by simp) ?_
        refine (AllReadyH.cons (o := ({ dst := some 69, op := Op.convert 9 31 (Operand.tmp 68), type := 31, pos := "law.go:191", after := #[{ on := 5, ground := Ground.data }], guard := none } : Oper)) rfl (fun K hK => ?_) AllReadyH.nil)
        try (generalize World.drew wr = ud at *)
        obtain ⟨W1, a1, c1, q1, b1, k1⟩ := conv_str ud x.1 HXX.out.2.1.1
        refine step_of_runP (by rfl) (exec_convP 9 31 (Operand.tmp 68) (by rfl) _ (by rfl) _ q1) ?_
        have hb := hb.trans (b1.mono hb.size)
        have ht := (b1.block X (blk_lt ht)).trans ht
        have hm := hm.below b1
        have hkc := hkc.below b1 hkc.1
        clear q1 b1
        refine hK.out _ _ hb (fun hHeld => ?_)
        clear hK K
        try simp only [Act.put, List.setIfInBounds_toArray, List.set_cons_zero, List.set_cons_succ]
        refine wpAnyH_ready (rs := [12]) (by kernel_rfl) (by simp) ?_
        refine (AllReadyH.cons (o := ({ dst := some 75, op := Op.call { callee := Callee.value (Operand.func 20), args := #[Operand.tmp 63, Operand.tmp 69, Operand.tmp 74], argTypes := #[28, 31, 2] }, type := 4, pos := "law.go:191", after := #[{ on := 0, ground := Ground.data }, { on := 6, ground := Ground.data }, { on := 11, ground := Ground.data }], guard := none } : Oper)) rfl (fun K hK => ?_) AllReadyH.nil)
        go_simp
        refine (treeSet_both X _ x _ W1 px (fun _ => id) ht hm HXX.out.2.2.g HXX.out.2.2.f hkc k1 HXX.out.2.1 hKX (fun h => h rfl)).mono ?_
        rintro e w5 ⟨rfl, p5, ht5, hm5, hc5⟩
        have hb := hb.trans (hc5.below (fun q e => by omega) hb.size)
        have hkc := hkc.chg hc5 (by omega)
        clear ht hm hc5 k1
        go_wp2_with fail
        refine hK.out _ _ hb (fun hHeld => ?_)
        clear hK K
        try simp only [Act.put, List.setIfInBounds_toArray, List.set_cons_zero, List.set_cons_succ]
        refine wpAnyH_done (by kernel_rfl) ?_ _
        have hr := putsE_step (HXX.out.1)
        have HR := Lib.hid (show TU w0 X l (j + 1) w5 from ⟨p5, ht5, by rw [hr]; exact hm5, by rw [hr]; exact putE_wh HXX.out.2.2 HXX.out.2.1, hkc, hb⟩)
        clear ht5 hm5 hkc hb hr
        go_wp2_with fail
        go_roundw
        case rel => exact ⟨j + 1, HNX.out.1, HNX.out.2, by go_num, HR.out⟩
        case measure => have := HNX.out.1; simp [intOf]; omega
      · obtain ⟨px, ht, hm, hwh, hkc, hb⟩ := htu
        have H5 := Lib.hid (And.intro ht (And.intro hm (And.intro hwh (And.intro hkc hb))))
        generalize putsE (l.take j) .nil = t at *
        have hpr := fun (f1 f2 : List Int) (e1 : Bool) => prove_len f1 f2 e1 t H5.out.2.2.1.g
        have hdp := MT.depth_le t
        have hsz := H5.out.2.2.1.s
        have hlen : ∀ (f1 f2 : List Int) (e1 : Bool), (t.prove f1 f2 e1).length ≤ 1099511627776 := fun f1 f2 e1 => by have := hpr f1 f2 e1; omega
        have HCO := Lib.hid (clashO_pr fr to e fr' to' e' t H5.out.2.2.1.g H5.out.2.2.1.f H5.out.2.2.1.p (by omega))
        have HLE := Lib.hid hlen
        have HZZ := Lib.hid (fun u (hu : Below w0.heap.size w0 u) => (show u.heap[w.heap.size]? = some (.cells #[.string (str fr), .string (str to), .bool e] 24 (0, 0)) ∧ u.heap[w.heap.size + 1]? = some (.cells #[.string (str fr'), .string (str to'), .bool e'] 24 (0, 0)) from ⟨(hu.block _ (blk_lt H0.out.2.1)).trans H0.out.2.1, (hu.block _ (blk_lt H0.out.2.2.1)).trans H0.out.2.2.1⟩))
        have hb := hb.drew
        have ht : TIs wr.drew X px := ht
        have hm : MIs wr.drew (fun q => q ≠ X) px t := hm.below ((Below.refl _ _).drew)
        have hkc : KC wr.drew := ⟨hkc.1, hkc.2⟩
        clear hwh hpr hdp hsz hlen
        have hcond : ¬ ((j : Int) < (l.length : Int)) ∨ ¬ ((j : Int) < 100) := by omega
        have hgo : ∀ (K : Prop), ((¬ ((j : Int) < (l.length : Int)) → K) ∧ ((j : Int) < (l.length : Int) → ¬ ((j : Int) < 100) → K)) → K := fun K h => by
          by_cases h1 : (j : Int) < (l.length : Int)
          · exact h.2 h1 (hcond.resolve_left (fun h => h h1))
          · exact h.1 h1
        clear hcond hjl hj hj100
        refine hgo _ ⟨fun hj1 => ?_, fun hj1 hj2 => ?_⟩
        all_goals
          clear hgo
          go_wp2_with fail
          refine wp_region_held_drew (S := fun u => Below w0.heap.size w0 u) (by kernel_rfl) (hb) (fun hHeld => ?_)
          refine wpAnyH_take (i := 0) (oi := ({ dst := some 77, op := Op.move (Operand.tmp 14), type := 28, pos := "law.go:193", after := #[], guard := none } : Oper)) (v := ?_) rfl (by kernel_rfl) (by kernel_rfl) (by kernel_rfl) (fun _ _ _ h => h) (Or.inl ⟨by rfl, ?_⟩) (by assumption) ?_
          rotate_left 1
          · (intro u hSw; go_simp; try with_reducible rfl)
          try simp only [Act.put, List.setIfInBounds_toArray, List.set_cons_zero, List.set_cons_succ]
          refine wpAnyH_take (i := 1) (oi := ({ dst := some 78, op := Op.load 24 (Operand.tmp 8), type := 24, pos := "law.go:193", after := #[], guard := none } : Oper)) (v := ?_) rfl (by kernel_rfl) (by kernel_rfl) (by kernel_rfl) (fun _ _ _ h => h) (Or.inl ⟨by rfl, ?_⟩) (by assumption) ?_
          rotate_left 1
          · (intro u hSw; have y0 := cell_of_row u w.heap.size 0 _ _ _ (HZZ.out _ hSw).1; have y1 := cell_of_row u w.heap.size 1 _ _ _ (HZZ.out _ hSw).1; have y2 := cell_of_row u w.heap.size 2 _ _ _ (HZZ.out _ hSw).1; have y3 := cell_of_row u (w.heap.size + 1) 0 _ _ _ (HZZ.out _ hSw).2; have y4 := cell_of_row u (w.heap.size + 1) 1 _ _ _ (HZZ.out _ hSw).2; have y5 := cell_of_row u (w.heap.size + 1) 2 _ _ _ (HZZ.out _ hSw).2; go_simp; try with_reducible rfl)
          try simp only [Act.put, List.setIfInBounds_toArray, List.set_cons_zero, List.set_cons_succ]
          refine wpAnyH_take (i := 3) (oi := ({ dst := some 80, op := Op.move (Operand.tmp 14), type := 28, pos := "law.go:193", after := #[], guard := none } : Oper)) (v := ?_) rfl (by kernel_rfl) (by kernel_rfl) (by kernel_rfl) (fun _ _ _ h => h) (Or.inl ⟨by rfl, ?_⟩) (by assumption) ?_
          rotate_left 1
          · (intro u hSw; go_simp; try with_reducible rfl)
          try simp only [Act.put, List.setIfInBounds_toArray, List.set_cons_zero, List.set_cons_succ]
          refine wpAnyH_take (i := 4) (oi := ({ dst := some 81, op := Op.load 24 (Operand.tmp 9), type := 24, pos := "law.go:193", after := #[], guard := none } : Oper)) (v := ?_) rfl (by kernel_rfl) (by kernel_rfl) (by kernel_rfl) (fun _ _ _ h => h) (Or.inl ⟨by rfl, ?_⟩) (by assumption) ?_
          rotate_left 1
          · (intro u hSw; have y0 := cell_of_row u w.heap.size 0 _ _ _ (HZZ.out _ hSw).1; have y1 := cell_of_row u w.heap.size 1 _ _ _ (HZZ.out _ hSw).1; have y2 := cell_of_row u w.heap.size 2 _ _ _ (HZZ.out _ hSw).1; have y3 := cell_of_row u (w.heap.size + 1) 0 _ _ _ (HZZ.out _ hSw).2; have y4 := cell_of_row u (w.heap.size + 1) 1 _ _ _ (HZZ.out _ hSw).2; have y5 := cell_of_row u (w.heap.size + 1) 2 _ _ _ (HZZ.out _ hSw).2; go_simp; try with_reducible rfl)
          try simp only [Act.put, List.setIfInBounds_toArray, List.set_cons_zero, List.set_cons_succ]
          refine wpAnyH_ready (rs := [2]) (by kernel_rfl) (by simp) ?_
          refine (AllReadyH.cons (o := ({ dst := some 79, op := Op.call { callee := Callee.value (Operand.func 15), args := #[Operand.tmp 77, Operand.tmp 78], argTypes := #[28, 24] }, type := 31, pos := "law.go:193", after := #[{ on := 0, ground := Ground.data }, { on := 1, ground := Ground.data }], guard := none } : Oper)) rfl (fun K hK => ?_) AllReadyH.nil)
          try (generalize World.drew wr = ud at *)
          go_simp
          refine (lawProve_any X ud px fr to e t ht hm H5.out.2.2.1.g HG.out.2.2.2.1 HG.out.2.2.2.2.1 (HLE.out _ _ _)).mono ?_
          rintro d5 w5 ⟨v5, rfl, ho5, hb5⟩
          obtain ⟨a5, n5, c5, rfl⟩ := ho5.slc
          have hb := hb.trans (hb5.mono hb.size)
          have ht := (hb5.block X (blk_lt ht)).trans ht
          have hm := hm.below hb5
          have hkc := hkc.below hb5 hkc.1
          have k5 := ho5.bs
          clear hb5 ho5
          go_wp2_with fail
          refine hK.out _ _ hb (fun hHeld => ?_)
          clear hK K
          try simp only [Act.put, List.setIfInBounds_toArray, List.set_cons_zero, List.set_cons_succ]
          refine wpAnyH_ready (rs := [5]) (by kernel_rfl) (by simp) ?_
          refine (AllReadyH.cons (o := ({ dst := some 82, op := Op.call { callee := Callee.value (Operand.func 15), args := #[Operand.tmp 80, Operand.tmp 81], argTypes := #[28, 24] }, type := 31, pos := "law.go:193", after := #[{ on := 3, ground := Ground.data }, { on := 4, ground := Ground.data }, { on := 2, ground := Ground.chain }], guard := none } : Oper)) rfl (fun K hK => ?_) AllReadyH.nil)
          go_simp
          refine (lawProve_any X _ px fr' to' e' t ht hm H5.out.2.2.1.g HG.out.2.2.2.2.2.1 HG.out.2.2.2.2.2.2 (HLE.out _ _ _)).mono ?_
          rintro d6 w6 ⟨v6, rfl, ho6, hb6⟩
          obtain ⟨a6, n6, c6, rfl⟩ := ho6.slc
          have hb := hb.trans (hb6.mono hb.size)
          have hkc := hkc.below hb6 hkc.1
          have k5 := k5.below hb6
          have k6 := ho6.bs
          clear hb6 ho6
          go_wp2_with fail
          refine hK.out _ _ hb (fun hHeld => ?_)
          clear hK K
          try simp only [Act.put, List.setIfInBounds_toArray, List.set_cons_zero, List.set_cons_succ]
          refine wpAnyH_ready (rs := [6]) (by kernel_rfl) (by simp) ?_
          refine (AllReadyH.cons (o := ({ dst := some 83, op := Op.call { callee := Callee.value (Operand.func 25), args := #[Operand.tmp 79, Operand.tmp 82], argTypes := #[31, 31] }, type := 55, pos := "law.go:193", after := #[{ on := 2, ground := Ground.data }, { on := 5, ground := Ground.data }, { on := 5, ground := Ground.chain }], guard := none } : Oper)) rfl (fun K hK => ?_) AllReadyH.nil)
          have hcl := Clash_any _ _ _ _ _ k5 k6 (prove_rng fr to e t H5.out.2.2.1.g) (prove_rng fr' to' e' t H5.out.2.2.1.g) hkc
          rw [HCO.out] at hcl
          go_simp
          refine hcl.mono ?_
          rintro d7 w7 ⟨rfl, hb7⟩
          have hb := hb.trans (hb7.mono hb.size)
          clear hb7 hcl k5 k6 hkc ht hm
          go_wp2_with fail
          refine hK.out _ _ hb (fun hHeld => ?_)
          clear hK K
          try simp only [Act.put, List.setIfInBounds_toArray, List.set_cons_zero, List.set_cons_succ]
          refine wpAnyH_take (i := 7) (oi := ({ dst := some 76, op := Op.move (Operand.tmp 83), type := 55, pos := "law.go:193", after := #[{ on := 6, ground := Ground.data }], guard := none } : Oper)) (v := ?_) rfl (by kernel_rfl) (by kernel_rfl) (by kernel_rfl) (fun _ _ _ h => h) (Or.inl ⟨by rfl, ?_⟩) (by assumption) ?_
          rotate_left 1
          · (intro u hSw; go_simp; try with_reducible rfl)
          try simp only [Act.put, List.setIfInBounds_toArray, List.set_cons_zero, List.set_cons_succ]
          refine wpAnyH_take (i := 8) (oi := ({ dst := some 84, op := Op.extract (Operand.tmp 76) 0, type := 31, pos := "law.go:193", after := #[{ on := 7, ground := Ground.data }], guard := none } : Oper)) (v := ?_) rfl (by kernel_rfl) (by kernel_rfl) (by kernel_rfl) (fun _ _ _ h => h) (Or.inl ⟨by rfl, ?_⟩) (by assumption) ?_
          rotate_left 1
          · (intro u hSw; go_simp; try with_reducible rfl)
          try simp only [Act.put, List.setIfInBounds_toArray, List.set_cons_zero, List.set_cons_succ]
          refine wpAnyH_take (i := 9) (oi := ({ dst := some 85, op := Op.extract (Operand.tmp 76) 1, type := 31, pos := "law.go:193", after := #[{ on := 7, ground := Ground.data }, { on := 11, ground := Ground.gcOnly Departure.lateStores }], guard := none } : Oper)) (v := ?_) rfl (by kernel_rfl) (by kernel_rfl) (by kernel_rfl) (fun _ _ _ h => h) (Or.inl ⟨by rfl, ?_⟩) (by assumption) ?_
          rotate_left 1
          · (intro u hSw; go_simp; try with_reducible rfl)
          try simp only [Act.put, List.setIfInBounds_toArray, List.set_cons_zero, List.set_cons_succ]
          refine wpAnyH_take (i := 10) (oi := ({ dst := some 86, op := Op.extract (Operand.tmp 76) 2, type := 4, pos := "law.go:193", after := #[{ on := 7, ground := Ground.data }, { on := 12, ground := Ground.gcOnly Departure.lateStores }], guard := none } : Oper)) (v := ?_) rfl (by kernel_rfl) (by kernel_rfl) (by kernel_rfl) (fun _ _ _ h => h) (Or.inl ⟨by rfl, ?_⟩) (by assumption) ?_
          rotate_left 1
          · (intro u hSw; go_simp; try with_reducible rfl)
          try simp only [Act.put, List.setIfInBounds_toArray, List.set_cons_zero, List.set_cons_succ]
          refine wpAnyH_take (i := 11) (oi := ({ dst := some 11, op := Op.assign (Operand.tmp 84), type := 31, pos := "law.go:193", after := #[{ on := 8, ground := Ground.data }, { on := 6, ground := Ground.chain }, { on := 0, ground := Ground.phase }, { on := 1, ground := Ground.phase }, { on := 2, ground := Ground.phase }, { on := 3, ground := Ground.phase }, { on := 4, ground := Ground.phase }, { on := 5, ground := Ground.phase }, { on := 6, ground := Ground.phase }, { on := 7, ground := Ground.phase }, { on := 8, ground := Ground.phase }, { on := 9, ground := Ground.textOnly Departure.lateStores }, { on := 10, ground := Ground.textOnly Departure.lateStores }], guard := none } : Oper)) (v := ?_) rfl (by kernel_rfl) (by kernel_rfl) (by kernel_rfl) (fun _ _ _ h => h) (Or.inl ⟨by rfl, ?_⟩) (by assumption) ?_
          rotate_left 1
          · (intro u hSw; go_simp; try with_reducible rfl)
          try simp only [Act.put, List.setIfInBounds_toArray, List.set_cons_zero, List.set_cons_succ]
          refine wpAnyH_take (i := 12) (oi := ({ dst := some 12, op := Op.assign (Operand.tmp 85), type := 31, pos := "law.go:193", after := #[{ on := 9, ground := Ground.data }, { on := 11, ground := Ground.chain }, { on := 0, ground := Ground.phase }, { on := 1, ground := Ground.phase }, { on := 2, ground := Ground.phase }, { on := 3, ground := Ground.phase }, { on := 4, ground := Ground.phase }, { on := 5, ground := Ground.phase }, { on := 6, ground := Ground.phase }, { on := 7, ground := Ground.phase }, { on := 8, ground := Ground.phase }, { on := 9, ground := Ground.phase }, { on := 10, ground := Ground.textOnly Departure.lateStores }, { on := 11, ground := Ground.phase }], guard := none } : Oper)) (v := ?_) rfl (by kernel_rfl) (by kernel_rfl) (by kernel_rfl) (fun _ _ _ h => h) (Or.inl ⟨by rfl, ?_⟩) (by assumption) ?_
          rotate_left 1
          · (intro u hSw; go_simp; try with_reducible rfl)
          try simp only [Act.put, List.setIfInBounds_toArray, List.set_cons_zero, List.set_cons_succ]
          refine wpAnyH_take (i := 13) (oi := ({ dst := some 13, op := Op.assign (Operand.tmp 86), type := 4, pos := "law.go:193", after := #[{ on := 10, ground := Ground.data }, { on := 12, ground := Ground.chain }, { on := 0, ground := Ground.phase }, { on := 1, ground := Ground.phase }, { on := 2, ground := Ground.phase }, { on := 3, ground := Ground.phase }, { on := 4, ground := Ground.phase }, { on := 5, ground := Ground.phase }, { on := 6, ground := Ground.phase }, { on := 7, ground := Ground.phase }, { on := 8, ground := Ground.phase }, { on := 9, ground := Ground.phase }, { on := 10, ground := Ground.phase }, { on := 11, ground := Ground.phase }, { on := 12, ground := Ground.phase }], guard := none } : Oper)) (v := ?_) rfl (by kernel_rfl) (by kernel_rfl) (by kernel_rfl) (fun _ _ _ h => h) (Or.inl ⟨by rfl, ?_⟩) (by assumption) ?_
          rotate_left 1
          · (intro u hSw; go_simp; try with_reducible rfl)
          try simp only [Act.put, List.setIfInBounds_toArray, List.set_cons_zero, List.set_cons_succ]
          refine wpAnyH_done (by kernel_rfl) ?_ _
          have HBE := Lib.hid (H0.out.1.trans (hb.mono H0.out.1.size))
          clear hb
          go_wp2_with fail
          go_ret
          exact ⟨rfl, HBE.out⟩
end Go.Proofs.YtmejjjkbbkgioaaDoor
