/- stage 7: proof -/
import Derived.Test.YtbmlkocpjboodaaDoorMv12
namespace Go.Proofs.YtbmlkocpjboodaaDoor
open Go.RowKit
open Go.Lib (hid)
theorem MIs.bound {w : World} {S : Nat → Prop} : ∀ {t : MT} {p : Value}, MIs w S p t → MIs w (fun b => b < w.heap.size) p t
 | .nil, _, h => h
 | .cut _, _, ⟨b, e, _, hl, hx⟩ => ⟨b, e, blk_lt hx, hl, hx⟩
 | .nd .., _, ⟨b, kv, lp, rp, e, _, h1, h2, hx, hk, hl, hr⟩ => ⟨b, kv, lp, rp, e, blk_lt hx, h1, h2, hx, hk.bound.mono (fun _ h => h.2), MIs.bound hl, MIs.bound hr⟩
set_option maxRecDepth 100000 in
theorem goP1 (args : Array Value) (u : World) : (callFunc 84 args).run Tryd.prog u = .ok (.enter 84 args) u := by kernel_rfl
set_option maxRecDepth 100000 in
theorem goP2 (args : Array Value) (u : World) : (callFunc 86 args).run Tryd.prog u = .ok (.enter 86 args) u := by kernel_rfl
/-- the closures of proof keep the proof under way -/
theorem prVS (B Pb Sb : Nat) (S : Nat → Prop) (fv tv : Value) (fr to : List Int) (e : Bool) (gf : Rng fr) (gt : Rng to) :
    VS S (PI B Pb Sb S fv tv fr to e) (prE fr to e) prM (fun s => s.length ≤ 1099511627776) 84 86 #[.pointer (some ⟨Pb, 0, none⟩), .pointer (some ⟨Sb, 0, none⟩)] #[.pointer (some ⟨Pb, 0, none⟩)] where
  b1 := fun s t lo hi h => by
    cases t <;> simp only [prE] at h
    · simp only [List.length_append] at h; omega
    all_goals
      split at h <;> simp only [List.length_append] at h <;> omega
  b2 := fun s k n h => by
    unfold prM at h
    simp only [List.length_append] at h
    omega
  goE := goP1
  goM := goP2
  low := fun w s J h => h.low
  keep := fun w w' s J h hb => h.keep hb
  enter := fun w s J p t plo phi lo hi hI hp hg hlo hhi hbd => by
    rw [show (#[p, Value.agg #[plo, phi]] ++ #[Value.pointer (some ⟨Pb, 0, none⟩), Value.pointer (some ⟨Sb, 0, none⟩)] : Array Value) = #[p, Value.agg #[plo, phi], Value.pointer (some ⟨Pb, 0, none⟩), Value.pointer (some ⟨Sb, 0, none⟩)] by simp]
    cases t with
    | nil =>
      obtain rfl : p = .pointer none := hp
      obtain ⟨alo, rfl⟩ := hlo.form
      obtain ⟨ahi, rfl⟩ := hhi.form
      exact prNil_any w s J alo ahi hI hbd
    | cut d =>
      obtain ⟨b, rfl, hSb, hd, hx⟩ := hp
      have q := prBlk_any gf gt w s J b _ _ _ _ _ _ _ plo phi lo hi hI hx hSb (zeros_len 32) hd hlo hhi (by
        simp only [prE] at hbd
        split at hbd <;> rename_i hq <;> simp only [hq] at * <;> simpa [MT.dg] using hbd)
      refine q.mono (fun d' w' hh => ?_)
      simp only [prE]
      cases hq : outQ fr to e lo hi
      · rw [hq] at hh; exact hh
      · rw [hq] at hh; exact hh
    | nd k n rk d l r =>
      obtain ⟨b, kv, lp, rp, rfl, hSb, h1, h2, hx, hk, -, -⟩ := hp
      have q := prBlk_any gf gt w s J b _ _ _ _ _ _ _ plo phi lo hi hI hx hSb h1 h2 hlo hhi (by
        simp only [prE] at hbd
        split at hbd <;> rename_i hq <;> simp only [hq] at * <;> simpa [MT.dg] using hbd)
      refine q.mono (fun d' w' hh => ?_)
      simp only [prE]
      cases hq : outQ fr to e lo hi
      · rw [hq] at hh; exact hh
      · rw [hq] at hh; exact hh
  meet := fun w s J p k n rk d l r hI hp hg hbd => by
    rw [show (#[p] ++ #[Value.pointer (some ⟨Pb, 0, none⟩)] : Array Value) = #[p, Value.pointer (some ⟨Pb, 0, none⟩)] by simp]
    obtain ⟨b, kv, lp, rp, rfl, hSb, h1, h2, hx, hk, -, -⟩ := hp
    obtain ⟨-, -, -, hkl, -, hn, -, -⟩ := hg
    exact prMeet_any w s J b kv lp rp k n rk d hI hx hSb hk hkl hn hbd
/-- a tree's proof of a range -/
def MT.prove (fr to : List Int) (e : Bool) (t : MT) : List Int := visitM (prE fr to e) prM t none none []
set_option maxRecDepth 100000 in
set_option maxHeartbeats 4000000 in
theorem proof_any {S : Nat → Prop} (w : World) (p fv tv : Value) (fr to : List Int) (e : Bool) (t : MT) (hp : MIs w S p t) (hg : t.Good) (hf : Bs w fv fr) (ht : Bs w tv to) (gf : Rng fr) (gt : Rng to) (hbd : (t.prove fr to e).length ≤ 1099511627776) :
  Calls Tryd.prog 53 #[p, .agg #[fv, tv, .bool e]] w fun d w' => ∃ v', d = .returned v' ∧ Own w' w.heap.size v' (t.prove fr to e) ∧ Below w.heap.size w w' := by
 have hmf : ∀ (fn : Fn) (first cap : Array Value) (w : World), (Instr.makeFunc fn first cap).run Tryd.prog w = .ok (.func fn first cap) w := fun _ _ _ _ => rfl
 have hbb : Below w.heap.size w ((w.alloc (.cells #[fv, tv, .bool e] 74)).alloc (.cells #[.slice none 0 0] 31)) := ((Below.refl _ _).alloc (Nat.le_refl _) _).alloc (by simp) _
 have hx0 : ((w.alloc (.cells #[fv, tv, .bool e] 74)).alloc (.cells #[.slice none 0 0] 31)).heap[w.heap.size]? = some (.cells #[fv, tv, .bool e] 74 (0, 0)) := (heap_alloc_old _ _ (by simp)).trans (heap_alloc_new _ _)
 have hx1 : ((w.alloc (.cells #[fv, tv, .bool e] 74)).alloc (.cells #[.slice none 0 0] 31)).heap[w.heap.size + 1]? = some (.cells #[.slice none 0 0] 31 (0, 0)) := by
  have q := heap_alloc_new (w.alloc (.cells #[fv, tv, .bool e] 74)) (.cells #[.slice none 0 0] 31)
  rwa [World.size_alloc] at q
 have hI : PI w.heap.size (w.heap.size + 1) w.heap.size (fun b => b < w.heap.size) fv tv fr to e ((w.alloc (.cells #[fv, tv, .bool e] 74)).alloc (.cells #[.slice none 0 0] 31)) [] (fun q => q = w.heap.size + 1) := ⟨⟨.slice none 0 0, hx1, Own.nil _ _, (fun g h => by cases h), fun q => ⟨.inl, fun h => h.elim id (fun h => by cases h)⟩⟩, hx0, (hf.kis).below hbb, (ht.kis).below hbb, by omega, ⟨by omega, by omega⟩, fun _ h => h⟩
 have HV := hid (visit_any (prVS w.heap.size (w.heap.size + 1) w.heap.size (fun b => b < w.heap.size) fv tv fr to e gf gt) t ((w.alloc (.cells #[fv, tv, .bool e] 74)).alloc (.cells #[.slice none 0 0] 31)) [] _ p (.pointer none) (.pointer none) none none hI (hp.bound.below hbb) hg rfl rfl hbd)
 have HBB := hid hbb
 rw [show visitM (prE fr to e) prM t none none [] = t.prove fr to e from rfl] at HV
 obtain ⟨ap, rfl⟩ := hp.form
 generalize t.prove fr to e = R at *
 clear hbb hx0 hx1 hI hp hg hf ht gf gt hbd
 go_enter Tryd.func53, Tryd.ntmps53
 go_wp2_with fail
 generalize ((w.alloc (.cells #[fv, tv, .bool e] 74)).alloc (.cells #[.slice none 0 0] 31)) = w2 at *
 refine HV.out.mono ?_
 rintro d w3 ⟨rfl, hst⟩
 obtain ⟨J', h1, h2, h3⟩ := hst
 obtain ⟨sv, k1, k2, k3, k4⟩ := id h1.box
 have c0 := cell_of_row _ (w.heap.size + 1) 0 _ _ _ k1
 have HF := hid (And.intro k2 (HBB.out.trans (h2.below (B := w.heap.size) (fun q hq => by have : q = w.heap.size + 1 := hq; omega) HBB.out.size)))
 clear h1 h2 h3 k1 k2 k3 k4
 go_wp2_with fail
 go_ret
 exact ⟨_, rfl, HF.out.1, HF.out.2⟩
set_option maxRecDepth 100000 in
set_option maxHeartbeats 4000000 in
theorem treeProve_any {S : Nat → Prop} (X : Nat) (w : World) (p fv tv : Value) (fr to : List Int) (e : Bool) (t : MT) (hx : TIs w X p) (hp : MIs w S p t) (hg : t.Good) (hf : Bs w fv fr) (ht : Bs w tv to) (gf : Rng fr) (gt : Rng to) (hbd : (t.prove fr to e).length ≤ 1099511627776) :
  Calls Tryd.prog 28 #[.pointer (some ⟨X, 0, none⟩), fv, tv, .bool e] w fun d w' => ∃ v', d = .returned v' ∧ Own w' w.heap.size v' (t.prove fr to e) ∧ Below w.heap.size w w' := by
 have HP := hid (proof_any w p fv tv fr to e t hp hg hf ht gf gt hbd)
 obtain ⟨ap, rfl⟩ := hp.form
 obtain ⟨af, cf, rfl, -, -⟩ := hf
 obtain ⟨at2, ct, rfl, -, -⟩ := ht
 have c0 := cell_of_row _ X 0 _ _ _ hx
 generalize t.prove fr to e = R at *
 clear hx hp hg gf gt hbd
 go_enter Tryd.func28, Tryd.ntmps28
 go_wp2_with fail
 refine HP.out.mono ?_
 rintro d w1 ⟨v', rfl, ho, hb⟩
 obtain ⟨a, n, c, rfl⟩ := ho.slc
 have HF := hid (And.intro ho hb)
 clear ho hb
 go_wp2_with fail
 go_ret
 exact ⟨_, rfl, HF.out.1, HF.out.2⟩
end Go.Proofs.YtbmlkocpjboodaaDoor
/- stage 7, plain: a proof reads as the pruned tree; prunings of one tree have no clash -/
namespace Go.Proofs.YtbmlkocpjboodaaDoor
open Go.RowKit
open Go.Lib (hid)
/-- the bytes of a proof -/
def MT.prB (fr to : List Int) (e : Bool) : MT → Option (List Int) → Option (List Int) → List Int
 | .nil, _, _ => [0]
 | .cut d, lo, hi => if outQ fr to e lo hi = true then [1] ++ d else [2]
 | .nd k n _ d l r, lo, hi => if outQ fr to e lo hi = true then [1] ++ d else [2] ++ (l.prB fr to e lo (some k) ++ ([(k.length : Int) / 256, (k.length : Int) % 256] ++ (k ++ (be8 n ++ r.prB fr to e (some k) hi))))
/-- the tree of a proof -/
def MT.pr (fr to : List Int) (e : Bool) : MT → Option (List Int) → Option (List Int) → MT
 | .nil, _, _ => .nil
 | .cut d, _, _ => .cut d
 | .nd k n _ d l r, lo, hi => if outQ fr to e lo hi = true then .cut d else mkN k n (zeros 32) (l.pr fr to e lo (some k)) (r.pr fr to e (some k) hi)
theorem visit_prB (fr to : List Int) (e : Bool) : ∀ (t : MT) (lo hi : Option (List Int)) (s : List Int), visitM (prE fr to e) prM t lo hi s = s ++ t.prB fr to e lo hi
 | .nil, lo, hi, s => rfl
 | .cut d, lo, hi, s => by
  simp only [visitM, prE, MT.prB]
  split <;> simp [MT.dg]
 | .nd k n rk d l r, lo, hi, s => by
  simp only [visitM, prE, MT.prB]
  by_cases h : outQ fr to e lo hi = true
  ·simp [h, MT.dg]
  ·simp only [h]
   simp [visit_prB fr to e l, visit_prB fr to e r, prM]
theorem prove_eq (fr to : List Int) (e : Bool) (t : MT) : t.prove fr to e = t.prB fr to e none none := by
 unfold MT.prove
 rw [visit_prB]
 rfl
/-- each count is positive -/
def MT.Pos : MT → Prop
 | .nd _ n _ _ l r => 1 ≤ n ∧ l.Pos ∧ r.Pos
 | _ => True
def MT.depth : MT → Nat
 | .nd _ _ _ _ l r => max l.depth r.depth + 1
 | _ => 0
theorem rdN_be8 (n : Nat) (h : n < 9223372036854775808) : rdN (be8 n) = n := by
 unfold rdN
 rw [beI_be8 n (by omega), IntKind.wrap_i64]
 omega
theorem rdN_len (m : Nat) (h : m ≤ 65535) : rdN [(m : Int) / 256, (m : Int) % 256] = m := by
 have e : beI [(m : Int) / 256, (m : Int) % 256] = m := by
  simp only [beI, List.foldl_cons, List.foldl_nil]
  omega
 unfold rdN
 rw [e, IntKind.wrap_i64]
 omega
theorem rdEnt_pr (k : List Int) (n : Nat) (rest : List Int) (hk : k.length ≤ 65535) (h1 : 1 ≤ n) (h2 : n < 9223372036854775808) :
  rdEnt ([(k.length : Int) / 256, (k.length : Int) % 256] ++ (k ++ (be8 n ++ rest))) = .inr ((k, n), rest) := by
 have e1 : ([(k.length : Int) / 256, (k.length : Int) % 256] ++ (k ++ (be8 n ++ rest))).take 2 = [(k.length : Int) / 256, (k.length : Int) % 256] := rfl
 have e2 : ([(k.length : Int) / 256, (k.length : Int) % 256] ++ (k ++ (be8 n ++ rest))).drop 2 = k ++ (be8 n ++ rest) := rfl
 have e3 : (rdN [(k.length : Int) / 256, (k.length : Int) % 256]).toNat = k.length := by rw [rdN_len _ hk]; rfl
 have e4 : (k ++ (be8 n ++ rest)).drop k.length = be8 n ++ rest := List.drop_left
 have e5 : (k ++ (be8 n ++ rest)).take k.length = k := List.take_left
 have e6 : (be8 n ++ rest).take 8 = be8 n := by rw [← be8_len n]; exact List.take_left
 have e7 : (be8 n ++ rest).drop 8 = rest := by rw [← be8_len n]; exact List.drop_left
 unfold rdEnt
 rw [e1, e2, e3, e4, e5, e6, e7, rdN_be8 n h2]
 rw [if_neg (by simp), if_neg (by simp), if_neg (by rw [List.length_append, be8_len]; omega), if_neg (by omega)]
 rfl
theorem rdT_pr (fr to : List Int) (e : Bool) : ∀ (t : MT) (D : Nat) (lo hi : Option (List Int)) (rest : List Int), t.Good → t.Full → t.Pos → t.depth < D → rdT D (t.prB fr to e lo hi ++ rest) = .inr (t.pr fr to e lo hi, rest)
 | .nil, D, lo, hi, rest, _, _, _, h => by
  cases D with
  | zero => exact absurd h (Nat.not_lt_zero _)
  | succ D => rfl
 | .cut _, _, _, _, _, _, f, _, _ => absurd f id
 | .nd k n rk d l r, D, lo, hi, rest, g, f, p, h => by
  obtain ⟨hd, gl, gr, hkl, hkr, hn, -, -⟩ := g
  cases D with
  | zero => exact absurd h (Nat.not_lt_zero _)
  | succ D =>
   unfold MT.prB MT.pr
   by_cases ho : outQ fr to e lo hi = true
   ·rw [if_pos ho, if_pos ho]
    have hdl : d.length = 32 := by rw [hd]; exact sha_len _
    show rdT (D + 1) (1 :: (d ++ rest)) = _
    rw [rdT, if_neg (by decide), if_pos rfl, rdP, if_neg (by rw [List.length_append]; omega)]
    rw [show (d ++ rest).take 32 = d by rw [← hdl]; exact List.take_left, show (d ++ rest).drop 32 = rest by rw [← hdl]; exact List.drop_left]
   ·rw [if_neg ho, if_neg ho]
    have hl := rdT_pr fr to e l D lo (some k) ([(k.length : Int) / 256, (k.length : Int) % 256] ++ (k ++ (be8 n ++ (r.prB fr to e (some k) hi ++ rest)))) gl f.1 p.2.1 (by simp only [MT.depth] at h; omega)
    have hr := rdT_pr fr to e r D (some k) hi rest gr f.2 p.2.2 (by simp only [MT.depth] at h; omega)
    rw [show [2] ++ (l.prB fr to e lo (some k) ++ ([(k.length : Int) / 256, (k.length : Int) % 256] ++ (k ++ (be8 n ++ r.prB fr to e (some k) hi)))) ++ rest = 2 :: (l.prB fr to e lo (some k) ++ ([(k.length : Int) / 256, (k.length : Int) % 256] ++ (k ++ (be8 n ++ (r.prB fr to e (some k) hi ++ rest))))) by simp]
    rw [rdT, if_neg (by decide), if_neg (by decide), if_pos rfl, rdNd, hl]
    dsimp only
    rw [rdEnt_pr k n _ hkl p.1 hn]
    dsimp only
    rw [hr]
/-- a proof reads as the pruned tree -/
theorem rdAll_pr (fr to : List Int) (e : Bool) (t : MT) (g : t.Good) (f : t.Full) (p : t.Pos) (h : t.depth ≤ 4096) : rdAll (t.prove fr to e) = .inr (t.pr fr to e none none) := by
 have q := rdT_pr fr to e t 4097 none none [] g f p (by omega)
 rw [List.append_nil] at q
 rw [prove_eq]
 unfold rdAll
 rw [q]
 rfl
end Go.Proofs.YtbmlkocpjboodaaDoor
/- stage 7: tells -/
namespace Go.Proofs.YtbmlkocpjboodaaDoor
open Go.RowKit
open Go.Lib (hid)
/-- what tells' enter does to its answer -/
def tlE (fr to : List Int) (e : Bool) (ok : Bool) (t : MT) (lo hi : Option (List Int)) : Bool × Bool :=
 match t with
 | .cut _ => if outQ fr to e lo hi = true then (ok, ok) else (false, false)
 | _ => (ok, ok)
/-- tells under way: its answer's box Ob, the range's box Sb -/
structure TI (B Ob Sb : Nat) (S : Nat → Prop) (fv tv : Value) (fr to : List Int) (e : Bool) (w : World) (ok : Bool) (J : Nat → Prop) : Prop where
 box : w.heap[Ob]? = some (.cells #[.bool ok] 4 (0, 0))
 span : w.heap[Sb]? = some (.cells #[fv, tv, .bool e] 74 (0, 0))
 fr' : KIs w S fv fr
 to' : KIs w S tv to
 ne : Ob ≠ Sb
 lo : B ≤ Ob ∧ B ≤ Sb
 s : ∀ q, S q → q < B
 j : ∀ q, J q ↔ q = Ob
theorem TI.keep {B Ob Sb : Nat} {S : Nat → Prop} {fv tv : Value} {fr to : List Int} {e : Bool} {w w' : World} {ok : Bool} {J : Nat → Prop} (h : TI B Ob Sb S fv tv fr to e w ok J) (hb : Below w.heap.size w w') : TI B Ob Sb S fv tv fr to e w' ok J := by
 obtain ⟨h1, h5, h6, h7, h8, h9, h10, h11⟩ := h
 exact ⟨(hb.block _ (blk_lt h1)).trans h1, (hb.block _ (blk_lt h5)).trans h5, h6.below hb, h7.below hb, h8, h9, h10, h11⟩
theorem TI.low {B Ob Sb : Nat} {S : Nat → Prop} {fv tv : Value} {fr to : List Int} {e : Bool} {w : World} {ok : Bool} {J : Nat → Prop} (h : TI B Ob Sb S fv tv fr to e w ok J) : ∀ b, J b → b < w.heap.size ∧ ¬ S b := by
 intro b hb
 obtain rfl := (h.j b).1 hb
 exact ⟨blk_lt h.box, fun hs => by have := h.s _ hs; have := h.lo.1; omega⟩
theorem TI.set {B Ob Sb : Nat} {S : Nat → Prop} {fv tv : Value} {fr to : List Int} {e : Bool} {w w1 : World} {ok : Bool} {J : Nat → Prop} (h : TI B Ob Sb S fv tv fr to e w ok J) (hb : Below w.heap.size w w1) (x : Bool) : Stp (TI B Ob Sb S fv tv fr to e) J w (w1.setCell ⟨Ob, 0, none⟩ (.bool x)) x := by
 obtain ⟨h1, h5, h6, h7, h8, h9, h10, h11⟩ := h.keep hb
 have hcs : Chg (fun q => q = Ob) w1 (w1.setCell ⟨Ob, 0, none⟩ (.bool x)) := cell_chg _ h1
 have hS : ∀ q, S q → ¬ q = Ob := fun q hq hh => by have := h10 q hq; omega
 exact ⟨J, ⟨one_setCell h1, (hcs.block _ (blk_lt h5) (fun hh => h8 hh.symm)).trans h5, h6.cg hcs (fun q _ hq => hS q hq), h7.cg hcs (fun q _ hq => hS q hq), h8, h9, h10, h11⟩, (Chg.fresh (F := J) hb).trans hcs (fun i hi => .inl ((h11 i).2 hi)), fun b hb => .inl hb⟩
set_option maxRecDepth 100000 in
theorem goT1 (args : Array Value) (u : World) : (callFunc 89 args).run Tryd.prog u = .ok (.enter 89 args) u := by kernel_rfl
set_option maxRecDepth 100000 in
theorem goT2 (args : Array Value) (u : World) : (callFunc 90 args).run Tryd.prog u = .ok (.enter 90 args) u := by kernel_rfl
set_option maxRecDepth 100000 in
set_option maxHeartbeats 4000000 in
theorem tlEnter_any {B Ob Sb : Nat} {S : Nat → Prop} {fv tv : Value} {fr to : List Int} {e : Bool} (gf : Rng fr) (gt : Rng to) (w : World) (ok : Bool) (J : Nat → Prop) (p : Value) (t : MT) (plo phi : Value) (lo hi : Option (List Int)) (h : TI B Ob Sb S fv tv fr to e w ok J) (hp : MIs w S p t) (hlo : BK w S plo lo) (hhi : BK w S phi hi) :
  Calls Tryd.prog 89 #[p, .agg #[plo, phi], .pointer (some ⟨Sb, 0, none⟩), .pointer (some ⟨Ob, 0, none⟩)] w fun d w' => d = .returned (.bool (tlE fr to e ok t lo hi).2) ∧ Stp (TI B Ob Sb S fv tv fr to e) J w w' (tlE fr to e ok t lo hi).1 := by
 obtain ⟨alo, rfl⟩ := hlo.form
 obtain ⟨ahi, rfl⟩ := hhi.form
 have hbb : Below w.heap.size w (w.alloc (.cells #[.pointer alo, .pointer ahi] 142)) := (Below.refl _ _).alloc (Nat.le_refl _) _
 have HBB := hid hbb
 have HB5 := hid (heap_alloc_new w (.cells #[.pointer alo, .pointer ahi] 142))
 have HS5 := hid ((hbb.block _ (blk_lt h.span)).trans h.span)
 have HOU := hid (outside_any fv tv (.pointer alo) (.pointer ahi) fr to e lo hi (w.alloc (.cells #[.pointer alo, .pointer ahi] 142)) (h.fr'.below hbb).1 (h.to'.below hbb).1 gf gt (hlo.chg (Chg.fresh (F := fun _ => False) hbb) (fun _ _ h => h)) (hhi.chg (Chg.fresh (F := fun _ => False) hbb) (fun _ _ h => h)))
 have HH := hid h
 have hOb := blk_lt h.box
 have k0 : (w.alloc (.cells #[.pointer alo, .pointer ahi] 142)).cell? ⟨Ob, 0, none⟩ = some (.bool ok) := cell_of_row _ Ob 0 _ _ _ ((hbb.block _ hOb).trans h.box)
 cases t with
 | nil =>
  obtain rfl : p = .pointer none := hp
  rw [show tlE fr to e ok .nil lo hi = (ok, ok) from rfl]
  have HST := hid (Stp.below (I := TI B Ob Sb S fv tv fr to e) (fun _ _ _ _ h hb => TI.keep h hb) (Stp.refl (I := TI B Ob Sb S fv tv fr to e) h) hbb)
  clear h hlo hhi hbb
  go_enter Tryd.func89, Tryd.ntmps89
  go_wp2_with fail
  go_ret
  exact ⟨rfl, HST.out⟩
 | nd k n rk d l r =>
  obtain ⟨b, kv, lp, rp, rfl, -, h1, h2, hx, -, -, -⟩ := hp
  have c68 : (w.alloc (.cells #[.pointer alo, .pointer ahi] 142)).cell? ⟨b, 68, none⟩ = some (.bool false) := (cell_of_row _ b 68 _ _ _ ((hbb.block _ (blk_lt hx)).trans hx)).trans (ndC_pr h1 h2)
  rw [show tlE fr to e ok (.nd k n rk d l r) lo hi = (ok, ok) from rfl]
  have HST := hid (Stp.below (I := TI B Ob Sb S fv tv fr to e) (fun _ _ _ _ h hb => TI.keep h hb) (Stp.refl (I := TI B Ob Sb S fv tv fr to e) h) hbb)
  clear h hlo hhi hbb hx h1 h2
  go_enter Tryd.func89, Tryd.ntmps89
  go_wp2_with fail
  go_ret
  exact ⟨rfl, HST.out⟩
 | cut d =>
  obtain ⟨b, rfl, -, hd, hx⟩ := hp
  have c68 : (w.alloc (.cells #[.pointer alo, .pointer ahi] 142)).cell? ⟨b, 68, none⟩ = some (.bool true) := (cell_of_row _ b 68 _ _ _ ((hbb.block _ (blk_lt hx)).trans hx)).trans (ndC_pr (zeros_len 32) hd)
  have s0 : (w.alloc (.cells #[.pointer alo, .pointer ahi] 142)).cell? ⟨Sb, 0, none⟩ = some fv := cell_of_row _ Sb 0 _ _ _ HS5.out
  have s1 : (w.alloc (.cells #[.pointer alo, .pointer ahi] 142)).cell? ⟨Sb, 1, none⟩ = some tv := cell_of_row _ Sb 1 _ _ _ HS5.out
  have s2 : (w.alloc (.cells #[.pointer alo, .pointer ahi] 142)).cell? ⟨Sb, 2, none⟩ = some (.bool e) := cell_of_row _ Sb 2 _ _ _ HS5.out
  obtain ⟨R, hR⟩ : ∃ R, R = tlE fr to e ok (.cut d) lo hi := ⟨_, rfl⟩
  rw [← hR]
  have HR := hid (hR.trans (show _ = if outQ fr to e lo hi = true then (ok, ok) else (false, false) from rfl))
  generalize outQ fr to e lo hi = q at *
  clear h hlo hhi hbb hx hd hR
  go_enter Tryd.func89, Tryd.ntmps89
  go_wp2_with (first
   | (refine wpList_load_row rfl 142 (Operand.tmp 5) rfl w.heap.size rfl 142 _ (0, 0) _ HB5.out Tryd.underlying142 rfl (by kernel_rfl) ?_)
   | (refine wpList_load_row rfl 74 (Operand.tmp 2) rfl Sb rfl 74 _ (0, 0) _ HS5.out Tryd.underlying74 rfl (by kernel_rfl) ?_))
  refine HOU.out.mono ?_
  rintro d' w1 ⟨rfl, hb1⟩
  have hb01 := HBB.out.trans (hb1.mono HBB.out.size)
  have HI1 := hid (And.intro (HH.out.keep hb01) hb01)
  have k1 := cell_of_row _ Ob 0 _ _ _ HI1.out.1.box
  have f1 := frozen_of_row _ Ob 0 _ _ HI1.out.1.box
  clear hb1 hb01 k0 c68 s0 s1 s2
  cases q with
  | true =>
   have HST := hid (Stp.below (I := TI B Ob Sb S fv tv fr to e) (fun _ _ _ _ h hb => TI.keep h hb) (Stp.refl (I := TI B Ob Sb S fv tv fr to e) HH.out) HI1.out.2)
   go_wp2_with fail
   go_ret
   rw [HR.out]
   exact ⟨rfl, HST.out⟩
  | false =>
   have HST := hid (HH.out.set HI1.out.2 false)
   go_wp2_with fail
   go_ret
   rw [HR.out]
   exact ⟨rfl, HST.out⟩
end Go.Proofs.YtbmlkocpjboodaaDoor
/- stage 7: tells, each -/
namespace Go.Proofs.YtbmlkocpjboodaaDoor
open Go.RowKit
open Go.Lib (hid)
set_option maxRecDepth 100000 in
theorem skip_any (w : World) (p : Value) : Calls Tryd.prog 90 #[p] w fun d w' => d = .returned (.tuple #[]) ∧ w' = w := by
 go_enter Tryd.func90, Tryd.ntmps90
 go_wp2_with fail
 go_end0
 exact ⟨rfl, rfl⟩
/-- the closures of tells keep its answer -/
theorem tlVS (B Ob Sb : Nat) (S : Nat → Prop) (fv tv : Value) (fr to : List Int) (e : Bool) (gf : Rng fr) (gt : Rng to) :
    VS S (TI B Ob Sb S fv tv fr to e) (tlE fr to e) (fun ok _ _ => ok) (fun _ => True) 89 90 #[.pointer (some ⟨Sb, 0, none⟩), .pointer (some ⟨Ob, 0, none⟩)] #[] where
  b1 := fun _ _ _ _ _ => trivial
  b2 := fun _ _ _ _ => trivial
  goE := goT1
  goM := goT2
  low := fun _ _ _ h => h.low
  keep := fun _ _ _ _ h hb => h.keep hb
  enter := fun w s J p t plo phi lo hi hI hp _ hlo hhi _ => by
    rw [show (#[p, Value.agg #[plo, phi]] ++ #[Value.pointer (some ⟨Sb, 0, none⟩), Value.pointer (some ⟨Ob, 0, none⟩)] : Array Value) = #[p, Value.agg #[plo, phi], Value.pointer (some ⟨Sb, 0, none⟩), Value.pointer (some ⟨Ob, 0, none⟩)] by simp]
    exact tlEnter_any gf gt w s J p t plo phi lo hi hI hp hlo hhi
  meet := fun w s J p k n rk d l r hI _ _ _ => by
    rw [show (#[p] ++ #[] : Array Value) = #[p] by simp]
    exact (skip_any w p).mono (fun d w' hh => ⟨hh.1, by rw [hh.2]; exact Stp.refl hI⟩)
/-- is all of a range known? -/
def MT.tells (fr to : List Int) (e : Bool) (t : MT) : Bool := visitM (tlE fr to e) (fun ok _ _ => ok) t none none true
set_option maxRecDepth 100000 in
set_option maxHeartbeats 4000000 in
theorem tells_any {S : Nat → Prop} (w : World) (p fv tv : Value) (fr to : List Int) (e : Bool) (t : MT) (hp : MIs w S p t) (hg : t.Good) (hf : Bs w fv fr) (ht : Bs w tv to) (gf : Rng fr) (gt : Rng to) :
  Calls Tryd.prog 55 #[p, .agg #[fv, tv, .bool e]] w fun d w' => d = .returned (.bool (t.tells fr to e)) ∧ Below w.heap.size w w' := by
 have hmf : ∀ (fn : Fn) (first cap : Array Value) (w : World), (Instr.makeFunc fn first cap).run Tryd.prog w = .ok (.func fn first cap) w := fun _ _ _ _ => rfl
 have hbb : Below w.heap.size w ((w.alloc (.cells #[fv, tv, .bool e] 74)).alloc (.cells #[.bool true] 4)) := ((Below.refl _ _).alloc (Nat.le_refl _) _).alloc (by simp) _
 have hx0 : ((w.alloc (.cells #[fv, tv, .bool e] 74)).alloc (.cells #[.bool true] 4)).heap[w.heap.size]? = some (.cells #[fv, tv, .bool e] 74 (0, 0)) := (heap_alloc_old _ _ (by simp)).trans (heap_alloc_new _ _)
 have hx1 : ((w.alloc (.cells #[fv, tv, .bool e] 74)).alloc (.cells #[.bool true] 4)).heap[w.heap.size + 1]? = some (.cells #[.bool true] 4 (0, 0)) := by
  have q := heap_alloc_new (w.alloc (.cells #[fv, tv, .bool e] 74)) (.cells #[.bool true] 4)
  rwa [World.size_alloc] at q
 have hI : TI w.heap.size (w.heap.size + 1) w.heap.size (fun b => b < w.heap.size) fv tv fr to e ((w.alloc (.cells #[fv, tv, .bool e] 74)).alloc (.cells #[.bool true] 4)) true (fun q => q = w.heap.size + 1) := ⟨hx1, hx0, (hf.kis).below hbb, (ht.kis).below hbb, by omega, ⟨by omega, by omega⟩, fun _ h => h, fun _ => Iff.rfl⟩
 have HV := hid (visit_any (tlVS w.heap.size (w.heap.size + 1) w.heap.size (fun b => b < w.heap.size) fv tv fr to e gf gt) t ((w.alloc (.cells #[fv, tv, .bool e] 74)).alloc (.cells #[.bool true] 4)) true _ p (.pointer none) (.pointer none) none none hI (hp.bound.below hbb) hg rfl rfl trivial)
 have HBB := hid hbb
 rw [show visitM (tlE fr to e) (fun ok _ _ => ok) t none none true = t.tells fr to e from rfl] at HV
 obtain ⟨ap, rfl⟩ := hp.form
 generalize t.tells fr to e = R at *
 clear hbb hx0 hx1 hI hp hg hf ht gf gt
 go_enter Tryd.func55, Tryd.ntmps55
 go_wp2_with fail
 generalize ((w.alloc (.cells #[fv, tv, .bool e] 74)).alloc (.cells #[.bool true] 4)) = w2 at *
 refine HV.out.mono ?_
 rintro d w3 ⟨rfl, hst⟩
 obtain ⟨J', h1, h2, h3⟩ := hst
 have c0 := cell_of_row _ (w.heap.size + 1) 0 _ _ _ h1.box
 have HF := hid (HBB.out.trans (h2.below (B := w.heap.size) (fun q hq => by have : q = w.heap.size + 1 := hq; omega) HBB.out.size))
 clear h1 h2 h3
 go_wp2_with fail
 go_ret
 exact ⟨rfl, HF.out⟩
set_option maxRecDepth 100000 in
theorem goE1 (args : Array Value) (u : World) : (callFunc 93 args).run Tryd.prog u = .ok (.enter 93 args) u := by kernel_rfl
set_option maxRecDepth 100000 in
theorem all_any (w : World) (p plo phi : Value) : Calls Tryd.prog 93 #[p, .agg #[plo, phi]] w fun d w' => d = .returned (.bool true) ∧ Below w.heap.size w w' := by
 have HBB := hid (show Below w.heap.size w (w.alloc (.cells #[plo, phi] 142)) from (Below.refl _ _).alloc (Nat.le_refl _) _)
 go_enter Tryd.func93, Tryd.ntmps93
 go_wp2_with fail
 go_ret
 exact ⟨rfl, HBB.out⟩
/-- what each makes of a state -/
def eachM {σ : Type} (me : σ → List Int → Nat → σ) (t : MT) (s : σ) : σ := visitM (fun s _ _ _ => (s, true)) me t none none s
set_option maxRecDepth 100000 in
set_option maxHeartbeats 4000000 in
theorem each_any {σ : Type} {S : Nat → Prop} {I : World → σ → (Nat → Prop) → Prop} {me : σ → List Int → Nat → σ} {Bd : σ → Prop} {fm : FuncId} {cm : Array Value}
    (b2 : ∀ s k n, Bd (me s k n) → Bd s) (goM : ∀ args u, (callFunc fm args).run Tryd.prog u = .ok (.enter fm args) u) (low : ∀ w s J, I w s J → ∀ b, J b → b < w.heap.size ∧ ¬ S b) (keep : ∀ w w' s J, I w s J → Below w.heap.size w w' → I w' s J)
    (meet : ∀ w s J p k n rk d l r, I w s J → MIs w S p (.nd k n rk d l r) → (MT.nd k n rk d l r).Good → Bd (me s k n) → Calls Tryd.prog fm (#[p] ++ cm) w fun e w' => e = .returned (.tuple #[]) ∧ Stp I J w w' (me s k n))
    (t : MT) (w : World) (s : σ) (J : Nat → Prop) (p : Value) (hI : I w s J) (hp : MIs w S p t) (hg : t.Good) (hbd : Bd (eachM me t s)) :
    Calls Tryd.prog 62 #[p, .func (.func fm) #[] cm] w fun d w' => d = .returned (.tuple #[]) ∧ Stp I J w w' (eachM me t s) := by
  have V : VS S I (fun s _ _ _ => (s, true)) me Bd 93 fm #[] cm :=
    { b1 := fun _ _ _ _ h => h, b2 := b2, goE := goE1, goM := goM, low := low, keep := keep, meet := meet,
      enter := fun w s J p t plo phi lo hi hI hp hg hlo hhi hbd => by
        rw [show (#[p, Value.agg #[plo, phi]] ++ #[] : Array Value) = #[p, Value.agg #[plo, phi]] by simp]
        exact (all_any w p plo phi).mono (fun d w' hh => ⟨hh.1, Stp.below keep (Stp.refl hI) hh.2⟩) }
  have HV := hid (visit_any V t w s J p (.pointer none) (.pointer none) none none hI hp hg rfl rfl hbd)
  rw [show visitM (fun s _ _ _ => (s, true)) me t none none s = eachM me t s from rfl] at HV
  obtain ⟨ap, rfl⟩ := hp.form
  generalize eachM me t s = R at *
  clear hI hp hg hbd V meet low keep b2 goM
  go_enter Tryd.func62, Tryd.ntmps62
  go_wp2_with fail
  refine HV.out.mono ?_
  rintro d w3 ⟨rfl, hst⟩
  have HST := hid hst
  clear hst
  go_wp2_with fail
  go_end0
  exact ⟨rfl, HST.out⟩
end Go.Proofs.YtbmlkocpjboodaaDoor
