/- stage 7: two trees are joined -/
import Derived.Test.YtbmlkocpjboodaaDoorMv06
namespace Go.Proofs.YtbmlkocpjboodaaDoor
open Go.RowKit
open Go.Lib (hid)
/-- how many nodes a tree has -/
def MT.size : MT → Nat
 | .nil => 0
 | .cut _ => 0
 | .nd _ _ _ _ l r => l.size + r.size + 1
/-- the tree of the entries of two -/
def MT.join : MT → MT → MT
 | .nil, r => r
 | .cut _, r => r
 | .nd k n rk d l r, .nil => .nd k n rk d l r
 | .nd k n rk d l r, .cut _ => .nd k n rk d l r
 | .nd k n rk d l r, .nd k' n' rk' d' l' r' => if abv k rk k' rk' = true then mkN k n rk l (MT.join r (.nd k' n' rk' d' l' r')) else mkN k' n' rk' (MT.join (.nd k n rk d l r) l') r'
 termination_by l r => l.size + r.size
 decreasing_by all_goals simp only [MT.size]; omega
end Go.Proofs.YtbmlkocpjboodaaDoor
/- stage 7: a tree with a key's count changed -/
namespace Go.Proofs.YtbmlkocpjboodaaDoor
open Go.RowKit
open Go.Lib (hid)
/-- at the place where the key is the root, or would be -/
def MT.edit (key : List Int) (cnt : Nat) (rk : List Int) (t : MT) : MT := if cnt = 0 then (t.split key).1.join (t.split key).2 else mkN key cnt rk (t.split key).1 (t.split key).2
/-- the tree in which a key has its count -/
def MT.put (key : List Int) (cnt : Nat) (rk : List Int) : MT → MT
 | .nil => MT.edit key cnt rk .nil
 | .cut _ => .nil
 | .nd k n rk' d l r => if abv k rk' key rk = true then (if cmpI key k < 0 then mkN k n rk' (l.put key cnt rk) r else mkN k n rk' l (r.put key cnt rk)) else MT.edit key cnt rk (.nd k n rk' d l r)
/-- the closure's box -/
def CB (w : World) (g : Nat) (kv : Value) (cnt : Nat) (rk : List Int) : Prop := w.heap[g]? = some (.cells (rkC kv cnt rk) 66 (0, 0))
theorem CB.below {w w' : World} {g : Nat} {kv : Value} {cnt : Nat} {rk : List Int} (h : CB w g kv cnt rk) (hb : Below w.heap.size w w') : CB w' g kv cnt rk := (hb.block g (blk_lt h)).trans h
end Go.Proofs.YtbmlkocpjboodaaDoor
/- stage 7: changed, set -/
namespace Go.Proofs.YtbmlkocpjboodaaDoor
open Go.RowKit
open Go.Lib (hid)
end Go.Proofs.YtbmlkocpjboodaaDoor
/- stage 7: a tree's Set and Root -/
namespace Go.Proofs.YtbmlkocpjboodaaDoor
open Go.RowKit
open Go.Lib (hid)
theorem cell_chg {u : World} {X : Nat} {x : Obj} (v : Value) (_ : u.heap[X]? = some x) : Chg (fun q => q = X) u (u.setCell ⟨X, 0, none⟩ v) := (Chg.refl _ _).setCell ⟨X, 0, none⟩ v (.inl rfl)
/-- a tree's box -/
def TIs (w : World) (X : Nat) (p : Value) : Prop := w.heap[X]? = some (.cells #[p] 71 (0, 0))
theorem sha_rng (l : List Int) : Rng (sha l) := fun x hx => by
 unfold sha dig at hx
 obtain ⟨y, _, hy⟩ := List.mem_flatMap.1 hx
 simp only [List.mem_cons, List.not_mem_nil, or_false] at hy
 rcases hy with rfl | rfl | rfl | rfl <;> omega
set_option maxRecDepth 100000 in
set_option maxHeartbeats 8000000 in
theorem treeRoot_any {S : Nat → Prop} (X : Nat) (t : MT) (w : World) (p : Value) (ht : TIs w X p) (hp : MIs w S p t) (hg : t.Good) (hK : KC w) :
  Calls Tryd.prog 14 #[.pointer (some ⟨X, 0, none⟩)] w fun e w' => e = .returned (.agg (ArrU8 t.dg)) ∧ Below w.heap.size w w' := by
 obtain ⟨ap, rfl⟩ := hp.form
 have hmx : X < w.heap.size := blk_lt ht
 have HS := hid (fun u (hu : Below w.heap.size w u) => nsum_any u (hp.below hu) (hK.below hu hK.1))
 have c0 : ∀ o, (w.alloc o).cell? ⟨X, 0, none⟩ = some (.pointer ap) := fun o => (World.cell?_alloc_lt w o ⟨X, 0, none⟩ hmx).trans (cell_of_row w X 0 _ _ _ ht)
 have HS32 := hid (sz32 t.dg hg.dlen)
 have HI := hid (show (Tryd.prog.info? 36).map (·.size) = some (ArrU8 t.dg).size by rw [HS32.out]; exact info_dg)
 clear ht hp hg hK
 generalize t.dg = D at *
 go_enter Tryd.func14, Tryd.ntmps14
 go_wp2_with fail
 obtain ⟨w1, hw1⟩ : ∃ w1 : World, w1 = w.alloc (.cells ((List.replicate 32 (Value.int .u8 0)).toArray) 36) := ⟨_, rfl⟩
 change Calls _ _ _ (w.alloc (.cells ((List.replicate 32 (Value.int .u8 0)).toArray) 36)) _
 rw [← hw1]
 have b1 : Below w.heap.size w w1 := by rw [hw1]; exact (Below.refl _ _).alloc (Nat.le_refl _) _
 have r1 : w1.heap[w.heap.size]? = some (.cells ((List.replicate 32 (Value.int .u8 0)).toArray) 36 (0,0)) := by rw [hw1]; exact heap_alloc_new _ _
 have B1 := hid b1
 have R1 := hid r1
 clear hw1 c0
 refine (HS.out w1 b1).mono ?_
 rintro e w3 ⟨rfl, hb3⟩
 have g3 := (hb3.block w.heap.size (blk_lt r1)).trans r1
 have G3 := hid g3
 have B3 := hid (b1.trans (hb3.mono b1.size))
 clear g3 hb3 b1 r1
 go_wp2_with (first | (refine wpList_store_row rfl 36 (Operand.tmp 2) (Operand.tmp 7) rfl w.heap.size (ArrU8 D) rfl rfl 36 _ G3.out HI.out HS32.out.symm (ArrU8_one _) ?_) | fail)
 refine bodyPost_ret (results_cell_row rfl _ _ w.heap.size 36 (ArrU8 D) (0,0) _ rfl (setRow_heap _ _ _ _ _ _ G3.out) Tryd.underlying36 rfl HI.out) rfl ⟨rfl, ?_⟩
 exact below_setRow B3.out (Nat.le_refl _) _
end Go.Proofs.YtbmlkocpjboodaaDoor
/- stage 7: the reader of a proof: take, number -/
namespace Go.Proofs.YtbmlkocpjboodaaDoor
open Go.RowKit
open Go.Lib (hid)
theorem und62 : Tryd.prog.underlying 31 = some (.slice (Tryd.prog.elem 31)) := by kernel_rfl
theorem size62 (u : World) : (sizeOf (Tryd.prog.elem 31)).run Tryd.prog u = .ok 1 u := by kernel_rfl
theorem sub_kis {w : World} {S : Nat → Prop} {a : Option Addr} {n cap : Nat} {l : List Int} (h : KIs w S (.slice a n cap) l) (lo hi : Nat) (h1 : lo ≤ hi) (h2 : hi ≤ l.length) : KIs w S (sliced a lo hi cap 1) ((l.drop lo).take (hi - lo)) := by
 obtain ⟨⟨a', cap', hv, hc, hx⟩, hs⟩ := h
 injection hv with e1 e2 e3
 subst e1 e2 e3
 have hlen : ((l.drop lo).take (hi - lo)).length = hi - lo := by rw [List.length_take, List.length_drop]; omega
 refine ⟨⟨_, cap - lo, by unfold sliced; rw [hlen], ⟨by rw [hlen]; omega, fun e => ?_⟩, fun hl => ?_⟩, fun b o n c e h0 => ?_⟩
 ·by_cases hcl : cap = lo
  ·omega
  ·cases a with
   | none => have := hc.2 rfl; omega
   | some ad => simp [hcl] at e
 ·rw [hlen] at hl
  obtain ⟨b, off, rfl, hbs, hcell⟩ := hx (by omega)
  refine ⟨b, off + lo, by rw [if_neg (by omega)]; simp [Addr.add_mid], hbs, fun i hi2 => ?_⟩
  rw [hlen] at hi2
  rw [Nat.add_assoc, hcell (lo + i) (by omega)]
  congr 2
  rw [List.getElem?_take, if_pos hi2, List.getElem?_drop]
 ·rw [hlen] at h0
  obtain ⟨b', off, rfl, hbs, hcell⟩ := hx (by omega)
  unfold sliced at e
  rw [if_neg (by omega)] at e
  simp [Addr.add_mid] at e
  rw [← e.1.1]
  exact hs b' off _ _ rfl (by omega)
theorem take_kis {w : World} {S : Nat → Prop} {a : Option Addr} {c : Nat} {l : List Int} (h : KIs w S (.slice a l.length c) l) (n : Nat) (hn : n ≤ l.length) :
  ∃ a' c', (∀ u : World, (Instr.slice 31 (.slice a l.length c) none (some (.int .i64 (n : Int))) none).run Tryd.prog u = .ok (.slice a' n c') u) ∧ KIs w S (.slice a' n c') (l.take n) := by
 have hs := sub_kis h 0 n (Nat.zero_le _) hn
 obtain ⟨⟨a', cap', hv, hc, hx⟩, hss⟩ := h
 injection hv with e1 e2 e3
 subst e1 e3
 rw [List.drop_zero, Nat.sub_zero] at hs
 refine ⟨_, _, fun u => ?_, hs⟩
 rw [run_slice_h u 31 a l.length c und62 .i64 (n : Int) (by omega) (by omega), size62]
 rfl
theorem drop_kis {w : World} {S : Nat → Prop} {a : Option Addr} {c : Nat} {l : List Int} (h : KIs w S (.slice a l.length c) l) (n : Nat) (hn : n ≤ l.length) :
  ∃ a' c', (∀ u : World, (Instr.slice 31 (.slice a l.length c) (some (.int .i64 (n : Int))) none none).run Tryd.prog u = .ok (.slice a' (l.length - n) c') u) ∧ KIs w S (.slice a' (l.length - n) c') (l.drop n) := by
 have hs := sub_kis h n l.length hn (Nat.le_refl _)
 obtain ⟨⟨a', cap', hv, hc, hx⟩, hss⟩ := h
 injection hv with e1 e2 e3
 subst e1 e3
 rw [List.take_of_length_le (by rw [List.length_drop]; exact Nat.le_refl _)] at hs
 refine ⟨_, _, fun u => ?_, hs⟩
 rw [run_slice_l u 31 a l.length c und62 .i64 (n : Int) (by omega) (by omega), size62]
 rfl
/-- a reader's block: what is left of the proof -/
def RIs (w : World) (X : Nat) (S : Nat → Prop) (l : List Int) : Prop := ∃ a c, w.heap[X]? = some (.cells #[.slice a l.length c] 130 (0, 0)) ∧ KIs w S (.slice a l.length c) l
theorem RIs.lt {w : World} {X : Nat} {S : Nat → Prop} {l : List Int} (h : RIs w X S l) : X < w.heap.size := by
 obtain ⟨a, c, h1, -⟩ := h
 exact blk_lt h1
theorem RIs.below {w w' : World} {X : Nat} {S : Nat → Prop} {l : List Int} (h : RIs w X S l) (hb : Below w.heap.size w w') : RIs w' X S l := by
 obtain ⟨a, c, h1, h2⟩ := h
 exact ⟨a, c, (hb.block X (blk_lt h1)).trans h1, h2.below hb⟩
set_option maxRecDepth 100000 in
set_option maxHeartbeats 4000000 in
theorem take_any {S : Nat → Prop} (X : Nat) (l : List Int) (n : Nat) (w : World) (h : RIs w X S l) (hX : ¬ S X) :
  Calls Tryd.prog 95 #[.pointer (some ⟨X, 0, none⟩), .int .i64 (n : Int)] w fun e w' =>
   (n ≤ l.length ∧ ∃ a c, e = .returned (.tuple #[.slice a n c, .int .i64 0]) ∧ KIs w' S (.slice a n c) (l.take n) ∧ RIs w' X S (l.drop n) ∧ Chg (fun q => q = X) w w') ∨
   (l.length < n ∧ e = .returned (.tuple #[.slice none 0 0, .int .i64 6]) ∧ w' = w) := by
 obtain ⟨a, c, hx, hk⟩ := h
 have c0 : w.cell? ⟨X, 0, none⟩ = some (.slice a l.length c) := cell_of_row _ X 0 _ _ _ hx
 have f0 := frozen_of_row _ X 0 _ _ hx
 by_cases hnl : n ≤ l.length
 ·obtain ⟨a1, c1, r1, k1⟩ := take_kis hk n hnl
  obtain ⟨a2, c2, r2, k2⟩ := drop_kis hk n hnl
  have HL := hid (show (l.drop n).length = l.length - n from List.length_drop)
  have hg : ¬ (n : Int) > (l.length : Int) := by omega
  have HH := hid (And.intro k1 (And.intro k2 (And.intro hX hx)))
  have HN := hid hnl
  clear hk k1 k2 hX hx hnl
  go_enter Tryd.func95, Tryd.ntmps95
  go_wp2_with fail
  go_ret2
  obtain ⟨k1, k2, hX, hx⟩ := HH.out
  have hc : Chg (fun q => q = X) w (w.setCell ⟨X, 0, none⟩ (.slice a2 (l.length - n) c2)) := cell_chg _ hx
  refine .inl ⟨HN.out, _, _, rfl, ?_, ⟨a2, c2, ?_, ?_⟩, hc⟩
  ·exact k1.cg hc (fun b _ hb e => hX (e ▸ hb))
  ·rw [HL.out]
   exact one_setCell hx
  ·rw [HL.out]
   exact k2.cg hc (fun b _ hb e => hX (e ▸ hb))
 ·have hg : (n : Int) > (l.length : Int) := by omega
  have HN := hid hnl
  clear hk hX hx hnl
  go_enter Tryd.func95, Tryd.ntmps95
  go_wp2_with fail
  go_ret2
  exact .inr ⟨by have := HN.out; omega, rfl, rfl⟩
theorem ofInt_64 (x y : Int) (h : x % 18446744073709551616 = y % 18446744073709551616) : BitVec.ofInt 64 x = BitVec.ofInt 64 y := by
 apply BitVec.eq_of_toNat_eq
 rw [BitVec.toNat_ofInt, BitVec.toNat_ofInt]
 have e : (2 ^ 64 : Nat) = 18446744073709551616 := by decide
 rw [e]
 exact congrArg Int.toNat h
theorem i64_or_u64 (x y x' y' : Int) (h1 : x % 18446744073709551616 = x' % 18446744073709551616) (h2 : y % 18446744073709551616 = y' % 18446744073709551616) : bits .or .i64 x y = IntKind.i64.wrap (bits .or .u64 x' y') := by
 have e1 := ofInt_64 x x' h1
 have e2 := ofInt_64 y y' h2
 have f1 : IntKind.i64.bits = 64 := rfl
 have f2 : IntKind.u64.bits = 64 := rfl
 unfold bits
 rw [f1, f2] at *
 simp only [e1, e2]
 rw [IntKind.wrap_i64, IntKind.wrap_i64, IntKind.wrap_u64]
 omega
theorem be_stepi (l : List Int) (h : Rng l) (k : Nat) (hk : k < 8) (hl : k < l.length) :
  bits BinOp.or IntKind.i64 (IntKind.i64.wrap (IntKind.i64.wrap (beI (l.take k) : Int) * 256)) (IntKind.i64.wrap (l[k]?.getD 0)) = IntKind.i64.wrap (beI (l.take (k + 1)) : Int) := by
 rw [i64_or_u64 _ _ (IntKind.u64.wrap ((beI (l.take k) : Int) * 256)) (IntKind.u64.wrap (l[k]?.getD 0)) (by rw [IntKind.wrap_i64, IntKind.wrap_i64, IntKind.wrap_u64]; omega) (by rw [IntKind.wrap_i64, IntKind.wrap_u64]; omega), be_step l h k hk hl]
/-- a number of bytes as an int64 -/
def rdN (l : List Int) : Int := IntKind.i64.wrap (beI l : Int)
set_option maxRecDepth 100000 in
set_option maxHeartbeats 4000000 in
theorem number_any {S : Nat → Prop} (X : Nat) (l : List Int) (n : Nat) (w : World) (h : RIs w X S l) (hX : ¬ S X) (hr : Rng l) (hn : n ≤ 8) :
  Calls Tryd.prog 106 #[.pointer (some ⟨X, 0, none⟩), .int .i64 (n : Int)] w fun e w' =>
   (n ≤ l.length ∧ e = .returned (.tuple #[.int .i64 (rdN (l.take n)), .int .i64 0]) ∧ RIs w' X S (l.drop n) ∧ Chg (fun q => q = X) w w') ∨
   (l.length < n ∧ e = .returned (.tuple #[.int .i64 0, .int .i64 6]) ∧ w' = w) := by
 have HT := hid (take_any X l n w h hX)
 have HR := hid (hr.take n)
 have HN := hid hn
 have hlen : n ≤ l.length → (l.take n).length = n := fun h => by rw [List.length_take]; omega
 clear h hX hn hr
 generalize l.take n = m at *
 have HLE := hid hlen
 clear hlen
 go_enter Tryd.func106, Tryd.ntmps106
 go_wp2_with fail
 refine HT.out.mono ?_
 rintro e w1 (⟨hnl, a, c, rfl, hk, hri, hc⟩ | ⟨hnl, rfl, rfl⟩)
 ·have HH := hid (And.intro hnl (And.intro hri hc))
  have hlen : m.length = n := HLE.out hnl
  obtain ⟨⟨a', c', hv, h1, h2⟩, -⟩ := hk
  injection hv with e1 e2 e3
  subst e1 e3
  have HCL := hid h2
  have HLN := hid hlen
  clear hri hc hnl h1 h2 hlen e2
  go_wp2_with fail
  go_loop [8, 22] (fun t i => ∃ k : Nat, k ≤ n ∧ i = .int .i64 k ∧ t = .int .i64 (rdN (m.take k))) (fun _ i => n - (intOf i).toNat)
  case atStart => exact ⟨0, Nat.zero_le _, rfl, rfl⟩
  case round =>
   obtain ⟨k, hk, rfl, rfl⟩ := hrel
   by_cases hlt : k < n
   ·obtain ⟨b, off, rfl, hbs, hcell⟩ := HCL.out (by rw [HLN.out]; omega)
    have hce := hcell k (by rw [HLN.out]; omega)
    have hk9 := HN.out
    have hk8 : k < 8 := by omega
    have e64 : ∀ x : Int, wrap64 x = IntKind.i64.wrap x := fun x => by simp only [wrap64, IntKind.wrap_i64]
    have E64 := hid e64
    have HST := hid (be_stepi m HR.out k (by omega) (by rw [HLN.out]; omega))
    clear hbs hcell hk9 e64
    go_wp2
    go_round
    case rel => exact ⟨k + 1, by omega, by go_num, by rw [rdN, rdN, ← HST.out]; simp only [E64.out]⟩
    case measure => simp [intOf]; omega
   ·have hkn : k = n := by omega
    have HK := hid hkn
    have hge : n ≤ k := by omega
    clear hlt hkn
    go_wp2
    go_ret2
    rw [HK.out, List.take_of_length_le (by rw [HLN.out]; exact Nat.le_refl _)]
    exact .inl ⟨HH.out.1, rfl, HH.out.2.1, HH.out.2.2⟩
 ·have HH := hid hnl
  clear hnl
  go_wp2_with fail
  go_ret2
  exact .inr ⟨HH.out, rfl, rfl⟩
end Go.Proofs.YtbmlkocpjboodaaDoor
/- stage 7: the reader of a proof: entry -/
namespace Go.Proofs.YtbmlkocpjboodaaDoor
open Go.RowKit
open Go.Lib (hid)
/-- what entry takes: an error's number, or key and count, and what is left -/
def rdEnt (l : List Int) : Int ⊕ ((List Int × Nat) × List Int) :=
 if l.length < 2 then .inl 6 else
 if (l.drop 2).length < (rdN (l.take 2)).toNat then .inl 6 else
 if ((l.drop 2).drop (rdN (l.take 2)).toNat).length < 8 then .inl 6 else
 if rdN (((l.drop 2).drop (rdN (l.take 2)).toNat).take 8) < 1 then .inl 5 else
 .inr (((l.drop 2).take (rdN (l.take 2)).toNat, (rdN (((l.drop 2).drop (rdN (l.take 2)).toNat).take 8)).toNat), ((l.drop 2).drop (rdN (l.take 2)).toNat).drop 8)
theorem rdN_2 {l : List Int} (h : Rng l) (hl : l.length ≤ 2) : 0 ≤ rdN l ∧ rdN l ≤ 65535 := by
 have h1 := beI_lt l h
 have h4 : 256 ^ l.length ≤ 256 ^ 2 := Nat.pow_le_pow_right (by decide) hl
 have h5 : (256 : Nat) ^ 2 = 65536 := by decide
 unfold rdN
 rw [IntKind.wrap_i64]
 omega
theorem rdN_lt (l : List Int) : rdN l < 9223372036854775808 := by
 unfold rdN
 rw [IntKind.wrap_i64]
 omega
theorem Chg.blk {w w' : World} {X E : Nat} {o : Obj} (h : Chg (fun q => q = X) w w') (hE : w.heap[E]? = some o) (hn : E ≠ X) : w'.heap[E]? = some o := (h.block E (blk_lt hE) hn).trans hE
theorem results_cell_tmp {P : Program} {fn : Func} {p q : Tmp} {ty : TypeId} (h : fn.results = #[.cell p ty, .tmp q]) (tmps : Array Value) (w : World) (g : Nat) (t : TypeId) (cs : Array Value) (fr : Nat × Nat) (d : TypeDesc)
  (hp : tmps.getD p undef = .pointer (some ⟨g, 0, none⟩)) (hg : w.heap[g]? = some (.cells cs t fr))
  (hu : P.underlying ty = some d) (hd : (match d with | .struct _ | .array _ _ => true | _ => false) = true) (hi : (P.info? ty).map (·.size) = some cs.size) :
  (results fn tmps).run P w = .ok (.tuple #[.agg cs, tmps.getD q undef]) w := by
 have hp' : tmps[p]?.getD undef = .pointer (some ⟨g, 0, none⟩) := by simpa using hp
 simp [results, h, hp', asAddr, run_loadVar_row w g t ty cs fr d hg hu hd hi]
/-- how entry ends -/
def EntEnd (S : Nat → Prop) (X : Nat) (w : World) (e : Ending) (w' : World) : Int ⊕ ((List Int × Nat) × List Int) → Prop
 | .inl c => e = .returned (.tuple #[.agg #[.slice none 0 0, .int .i64 0], .int .i64 c]) ∧ Chg (fun q => q = X) w w'
 | .inr ((k, n), r) => ∃ a cc, e = .returned (.tuple #[.agg #[.slice a k.length cc, .int .i64 (n : Int)], .int .i64 0]) ∧ KIs w' S (.slice a k.length cc) k ∧ RIs w' X S r ∧ Chg (fun q => q = X) w w'
theorem RIs.bound {w : World} {X : Nat} {S : Nat → Prop} {l : List Int} (h : RIs w X S l) : RIs w X (fun b => S b ∧ b < w.heap.size) l := by
 obtain ⟨a, c, h1, h2⟩ := h
 exact ⟨a, c, h1, h2.bound⟩
theorem RIs.mono {w : World} {X : Nat} {S S' : Nat → Prop} {l : List Int} (h : RIs w X S l) (hs : ∀ b, S b → S' b) : RIs w X S' l := by
 obtain ⟨a, c, h1, h2⟩ := h
 exact ⟨a, c, h1, h2.mono hs⟩
theorem RIs.cgx {w w' : World} {X E : Nat} {S : Nat → Prop} {l : List Int} (h : RIs w X S l) (hc : Chg (fun q => q = E) w w') (hE : E ≠ X) (hs : ∀ b, S b → b ≠ E) : RIs w' X S l := by
 obtain ⟨a, c, h1, h2⟩ := h
 exact ⟨a, c, hc.blk h1 (fun e => hE e.symm), h2.cg hc (fun b _ hb e => hs b hb e)⟩
theorem setc_same {w : World} {b i : Nat} {cs : Array Value} {T : TypeId} {fr : Nat × Nat} (hb : w.heap[b]? = some (.cells cs T fr)) (v : Value) :
  (w.setCell ⟨b, i, none⟩ v).heap[b]? = some (.cells (cs.setIfInBounds i v) T fr) := by
 simp [World.setCell, Array.getElem?_modify, hb]
theorem two_cells {w : World} {E : Nat} {x y : Value} (h : w.heap[E]? = some (.cells #[x, y] 33 (0, 0))) (u v : Value) : ((w.setCell ⟨E, 0, none⟩ u).setCell ⟨E, 1, none⟩ v).heap[E]? = some (.cells #[u, v] 33 (0, 0)) := by
 have h1 := setc_same (i := 0) h u
 have h2 := setc_same (i := 1) h1 v
 simpa using h2
theorem two_chg {w0 w : World} {E X : Nat} (h : Chg (fun q => q = X) w0 w) (hE : w0.heap.size ≤ E) (u v : Value) : Chg (fun q => q = X) w0 ((w.setCell ⟨E, 0, none⟩ u).setCell ⟨E, 1, none⟩ v) := (h.setCell ⟨E, 0, none⟩ u (.inr hE)).setCell ⟨E, 1, none⟩ v (.inr hE)
set_option maxRecDepth 100000 in
set_option maxHeartbeats 4000000 in
theorem entry_any {S : Nat → Prop} (X : Nat) (l : List Int) (w : World) (h : RIs w X S l) (hX : ¬ S X) (hr : Rng l) :
    Calls Tryd.prog 102 #[.pointer (some ⟨X, 0, none⟩)] w fun e w' => EntEnd S X w e w' (rdEnt l) := by
  have hXlt := h.lt
  have HS := hid (show ∀ b, (S b ∧ b < w.heap.size) → S b from fun b h => h.1)
  replace h := h.bound
  replace hX : ¬ (S X ∧ X < w.heap.size) := fun h => hX h.1
  have HLT := hid (show ∀ b, (S b ∧ b < w.heap.size) → b < w.heap.size from fun b h => h.2)
  generalize hS' : (fun b => S b ∧ b < w.heap.size) = S' at h
  have hX' : ¬ S' X := by rw [← hS']; exact hX
  replace HS : Hid (∀ b, S' b → S b) := by rw [← hS']; exact HS
  replace HLT : Hid (∀ b, S' b → b < w.heap.size) := by rw [← hS']; exact HLT
  replace hX := hX'
  clear hS' hX'
  have hb0 : Below w.heap.size w (w.alloc (.cells #[.slice none 0 0, .int .i64 0] 33)) := (Below.refl _ _).alloc (Nat.le_refl _) _
  have hx0 : (w.alloc (.cells #[.slice none 0 0, .int .i64 0] 33)).heap[w.heap.size]? = some (.cells #[.slice none 0 0, .int .i64 0] 33 (0, 0)) := heap_alloc_new _ _
  obtain ⟨k, hk⟩ : ∃ k : Nat, k = (rdN (l.take 2)).toNat := ⟨_, rfl⟩
  have hk2 : rdN (l.take 2) = (k : Int) := by
    have := rdN_2 (hr.take 2) (by rw [List.length_take]; omega)
    omega
  have hEq : rdEnt l = if l.length < 2 then .inl 6 else if (l.drop 2).length < k then .inl 6 else if ((l.drop 2).drop k).length < 8 then .inl 6 else if rdN (((l.drop 2).drop k).take 8) < 1 then .inl 5 else .inr (((l.drop 2).take k, (rdN (((l.drop 2).drop k).take 8)).toNat), ((l.drop 2).drop k).drop 8) := by
    rw [hk]
    rfl
  have HEQ := hid hEq
  have HX := hid hX
  have HNE := hid (show w.heap.size ≠ X by omega)
  have HXL := hid hXlt
  generalize rdEnt l = R at *
  have HN1 := hid (number_any X l 2 (w.alloc (.cells #[.slice none 0 0, .int .i64 0] 33)) (h.below hb0) hX hr (by omega))
  rw [hk2] at HN1
  have hl1 : Rng (l.drop 2) := hr.drop 2
  generalize l.drop 2 = l1 at *
  have HT := hid (fun u (hu : RIs u X S' l1) => take_any X l1 k u hu hX)
  have hl2 : Rng (l1.drop k) := hl1.drop k
  have HKL := hid (show k ≤ l1.length → (l1.take k).length = k from fun h => by rw [List.length_take]; omega)
  generalize l1.take k = key at *
  generalize l1.drop k = l2 at *
  have HN2 := hid (fun u (hu : RIs u X S' l2) => number_any X l2 8 u hu hX hl2 (by omega))
  generalize rdN (l2.take 8) = cnt at *
  generalize l2.drop 8 = l3 at *
  have HX0 := hid hx0
  have HB0 := hid (show Chg (fun q => q = X) w (w.alloc (.cells #[.slice none 0 0, .int .i64 0] 33)) from (Chg.refl _ _).alloc _)
  clear h hX hr hXlt hb0 hx0 hk hk2 hEq hl1 hl2
  go_enter Tryd.func102, Tryd.ntmps102
  go_wp2_with fail
  generalize w.alloc (.cells #[.slice none 0 0, .int .i64 0] 33) = w0 at *
  refine HN1.out.mono ?_
  rintro e w1 (⟨h2, rfl, hri, hc⟩ | ⟨h2, rfl, rfl⟩)
  · have HX1 := hid (hc.blk HX0.out HNE.out)
    have HB1 := hid (HB0.out.trans hc (fun i hi => .inl hi))
    have HH := hid (And.intro h2 hri)
    clear h2 hri hc
    go_wp2_with fail
    refine (HT.out w1 HH.out.2).mono ?_
    rintro e w2 (⟨h3, a, c, rfl, hk, hri, hc⟩ | ⟨h3, rfl, rfl⟩)
    · have HX2 := hid (hc.blk HX1.out HNE.out)
      have HB2 := hid (HB1.out.trans hc (fun i hi => .inl hi))
      have HH2 := hid (And.intro h3 (And.intro hri hk))
      clear h3 hri hc hk
      go_wp2_with fail
      refine (HN2.out w2 HH2.out.2.1).mono ?_
      rintro e w3 (⟨h4, rfl, hri, hc⟩ | ⟨h4, rfl, rfl⟩)
      · have HX3 := hid (hc.blk HX2.out HNE.out)
        have HB3 := hid (HB2.out.trans hc (fun i hi => .inl hi))
        have HH3 := hid (And.intro h4 (And.intro hri (HH2.out.2.2.bound.cg hc (fun b _ hb e => HX.out (e ▸ hb.1)))))
        clear h4 hri hc
        have c0 := cell_of_row _ w.heap.size 0 _ _ _ HX3.out
        have c1 := cell_of_row _ w.heap.size 1 _ _ _ HX3.out
        have f0 := frozen_of_row _ w.heap.size 0 _ _ HX3.out
        have f1 := frozen_of_row _ w.heap.size 1 _ _ HX3.out
        by_cases h1 : cnt < 1
        · go_wp2_with fail
          refine bodyPost_ret (results_cell_tmp (p := 2) (q := 3) (ty := 33) rfl _ _ w.heap.size 33 #[.slice none 0 0, .int .i64 0] (0, 0) _ rfl (two_cells HX3.out _ _) Tryd.underlying33 rfl (by kernel_rfl)) rfl ?_
          rw [HEQ.out, if_neg (by have := HH.out.1; omega), if_neg (by have := HH2.out.1; omega), if_neg (by have := HH3.out.1; omega), if_pos h1]
          exact ⟨rfl, two_chg HB3.out (Nat.le_refl _) _ _⟩
        · go_wp2_with fail
          refine bodyPost_ret (results_cell_tmp (p := 2) (q := 3) (ty := 33) rfl _ _ w.heap.size 33 #[.slice a k c, .int .i64 cnt] (0, 0) _ rfl (two_cells HX3.out _ _) Tryd.underlying33 rfl (by kernel_rfl)) rfl ?_
          rw [HEQ.out, if_neg (by have := HH.out.1; omega), if_neg (by have := HH2.out.1; omega), if_neg (by have := HH3.out.1; omega), if_neg (by omega)]
          have hk : key.length = k := HKL.out HH2.out.1
          subst hk
          have hcg : Chg (fun q => q = w.heap.size) w3 ((w3.setCell ⟨w.heap.size, 0, none⟩ (.slice a key.length c)).setCell ⟨w.heap.size, 1, none⟩ (.int .i64 cnt)) := ((Chg.refl (fun q => q = w.heap.size) w3).setCell ⟨w.heap.size, 0, none⟩ _ (.inl rfl)).setCell ⟨w.heap.size, 1, none⟩ _ (.inl rfl)
          refine ⟨a, c, (show _ = Ending.returned (.tuple #[.agg #[.slice a key.length c, .int .i64 cnt], .int .i64 0]) from rfl).trans (by rw [Int.toNat_of_nonneg (by omega)]), ?_, ?_, two_chg HB3.out (Nat.le_refl _) _ _⟩
          · exact (HH3.out.2.2.cg hcg (fun b _ hb e => by have := HLT.out b hb.1; omega)).mono (fun b hb => HS.out b hb.1)
          · refine (RIs.cgx HH3.out.2.1 hcg HNE.out ?_).mono HS.out
            intro b hb
            have := HLT.out b hb
            omega
      · have HH3 := hid h4
        clear h4
        have c0 := cell_of_row _ w.heap.size 0 _ _ _ HX2.out
        have c1 := cell_of_row _ w.heap.size 1 _ _ _ HX2.out
        have f0 := frozen_of_row _ w.heap.size 0 _ _ HX2.out
        have f1 := frozen_of_row _ w.heap.size 1 _ _ HX2.out
        go_wp2_with fail
        refine bodyPost_ret (results_cell_tmp (p := 2) (q := 3) (ty := 33) rfl _ _ w.heap.size 33 #[.slice none 0 0, .int .i64 0] (0, 0) _ rfl (two_cells HX2.out _ _) Tryd.underlying33 rfl (by kernel_rfl)) rfl ?_
        rw [HEQ.out, if_neg (by have := HH.out.1; omega), if_neg (by have := HH2.out.1; omega), if_pos HH3.out]
        exact ⟨rfl, two_chg HB2.out (Nat.le_refl _) _ _⟩
    · have HH2 := hid h3
      clear h3
      have c0 := cell_of_row _ w.heap.size 0 _ _ _ HX1.out
      have c1 := cell_of_row _ w.heap.size 1 _ _ _ HX1.out
      have f0 := frozen_of_row _ w.heap.size 0 _ _ HX1.out
      have f1 := frozen_of_row _ w.heap.size 1 _ _ HX1.out
      go_wp2_with fail
      refine bodyPost_ret (results_cell_tmp (p := 2) (q := 3) (ty := 33) rfl _ _ w.heap.size 33 #[.slice none 0 0, .int .i64 0] (0, 0) _ rfl (two_cells HX1.out _ _) Tryd.underlying33 rfl (by kernel_rfl)) rfl ?_
      rw [HEQ.out, if_neg (by have := HH.out.1; omega), if_pos HH2.out]
      exact ⟨rfl, two_chg HB1.out (Nat.le_refl _) _ _⟩
  · have HH := hid h2
    clear h2
    have c0 := cell_of_row _ w.heap.size 0 _ _ _ HX0.out
    have c1 := cell_of_row _ w.heap.size 1 _ _ _ HX0.out
    have f0 := frozen_of_row _ w.heap.size 0 _ _ HX0.out
    have f1 := frozen_of_row _ w.heap.size 1 _ _ HX0.out
    go_wp2_with fail
    refine bodyPost_ret (results_cell_tmp (p := 2) (q := 3) (ty := 33) rfl _ _ w.heap.size 33 #[.slice none 0 0, .int .i64 0] (0, 0) _ rfl (two_cells HX0.out _ _) Tryd.underlying33 rfl (by kernel_rfl)) rfl ?_
    rw [HEQ.out, if_pos HH.out]
    exact ⟨rfl, two_chg HB0.out (Nat.le_refl _) _ _⟩
end Go.Proofs.YtbmlkocpjboodaaDoor
/- stage 7: the reader of a proof: what a proof says; pruned -/
namespace Go.Proofs.YtbmlkocpjboodaaDoor
open Go.RowKit
open Go.Lib (hid)
/-- what pruned takes -/
def rdP (l : List Int) : Int ⊕ (MT × List Int) := if l.length < 32 then .inl 6 else .inr (.cut (l.take 32), l.drop 32)
/-- what node takes, where T is what its subtrees take -/
def rdNd (T : List Int → Int ⊕ (MT × List Int)) (l : List Int) : Int ⊕ (MT × List Int) :=
 match T l with
 | .inl c => .inl c
 | .inr (tl, r1) => match rdEnt r1 with
  | .inl c => .inl c
  | .inr ((k, n), r2) => match T r2 with
   | .inl c => .inl c
   | .inr (tr, r3) => .inr (mkN k n (zeros 32) tl tr, r3)
/-- what tree takes, where so many more may be nested -/
def rdT : Nat → List Int → Int ⊕ (MT × List Int)
 | 0, _ => .inl 13
 | _ + 1, [] => .inl 6
 | d + 1, x :: r => if x = 0 then .inr (.nil, r) else if x = 1 then rdP r else if x = 2 then rdNd (rdT d) r else .inl 5
/-- how a reader of trees ends -/
def TEnd (S : Nat → Prop) (X : Nat) (w : World) (e : Ending) (w' : World) : Int ⊕ (MT × List Int) → Prop
 | .inl c => c ≠ 0 ∧ e = .returned (.tuple #[.pointer none, .int .i64 c]) ∧ Chg (fun q => q = X) w w'
 | .inr (t, r) => ∃ p, e = .returned (.tuple #[p, .int .i64 0]) ∧ MIs w' S p t ∧ RIs w' X S r ∧ Chg (fun q => q = X) w w'
theorem rdEnt_ok {l : List Int} (h : Rng l) : (∀ c, rdEnt l = .inl c → c ≠ 0) ∧ ∀ k n r, rdEnt l = .inr ((k, n), r) → k.length ≤ 65535 ∧ Rng k ∧ 1 ≤ n ∧ n < 9223372036854775808 ∧ Rng r := by
 have h2 := rdN_2 (h.take 2) (by rw [List.length_take]; omega)
 have h8 := rdN_lt (((l.drop 2).drop (rdN (l.take 2)).toNat).take 8)
 unfold rdEnt
 refine ⟨fun c hc => ?_, fun k n r hc => ?_⟩
 ·split at hc
  ·injection hc with hc; omega
  ·split at hc
   ·injection hc with hc; omega
   ·split at hc
    ·injection hc with hc; omega
    ·split at hc
     ·injection hc with hc; omega
     ·cases hc
 ·split at hc
  ·cases hc
  ·split at hc
   ·cases hc
   ·split at hc
    ·cases hc
    ·split at hc
     ·cases hc
     ·injection hc with hc
      injection hc with hc1 hc2
      injection hc1 with hc3 hc4
      subst hc3 hc4 hc2
      refine ⟨?_, (h.drop 2).take _, by omega, by omega, ((h.drop 2).drop _).drop 8⟩
      rw [List.length_take]
      omega
theorem zeros_rng (n : Nat) : Rng (zeros n) := fun x hx => by
  have := List.eq_of_mem_replicate hx
  omega
/-- what T takes is well made -/
def TOk (T : List Int → Int ⊕ (MT × List Int)) : Prop := ∀ l, Rng l → ∀ t r, T l = .inr (t, r) → t.Good ∧ Rng r
theorem rdP_ok : TOk rdP := fun l h t r e => by
 unfold rdP at e
 split at e
 ·cases e
 ·injection e with e
  injection e with e1 e2
  subst e1 e2
  exact ⟨⟨by rw [List.length_take]; omega, h.take 32⟩, h.drop 32⟩
theorem rdNd_ok {T : List Int → Int ⊕ (MT × List Int)} (hT : TOk T) : TOk (rdNd T) := fun l h t r e => by
 unfold rdNd at e
 split at e
 ·cases e
 ·rename_i tl r1 e1
  obtain ⟨g1, q1⟩ := hT l h tl r1 e1
  split at e
  ·cases e
  ·rename_i k n r2 e2
   obtain ⟨a1, a2, a3, a4, a5⟩ := (rdEnt_ok q1).2 k n r2 e2
   split at e
   ·cases e
   ·rename_i tr r3 e3
    obtain ⟨g3, q3⟩ := hT r2 a5 tr r3 e3
    injection e with e
    injection e with e4 e5
    subst e4 e5
    exact ⟨mkN_good g1 g3 a1 a2 a4 (zeros_len 32) (zeros_rng 32), q3⟩
theorem rdT_ok : ∀ d, TOk (rdT d)
 | 0 => fun l h t r e => by cases e
 | d + 1 => fun l h t r e => by
  cases l with
  | nil => cases e
  | cons x l =>
   have hl : Rng l := fun y hy => h y (List.mem_cons_of_mem _ hy)
   unfold rdT at e
   split at e
   ·injection e with e
    injection e with e1 e2
    subst e1 e2
    exact ⟨trivial, hl⟩
   ·split at e
    ·exact rdP_ok l hl t r e
    ·split at e
     ·exact rdNd_ok (rdT_ok d) l hl t r e
     ·cases e
/-- a slice of 32 bytes as an array -/
theorem run_arr32 (u : World) (A : Addr) (c : Nat) : (Instr.arrayAt 36 (.slice (some A) 32 c)).run Tryd.prog u = .ok (.pointer (some A)) u := by
 kernel_rfl
theorem fill_cut (kv lp rp : Value) (n : Nat) (rk d0 d : List Int) (b0 b : Bool) (h : rk.length = 32) (h0 : d0.length = 32) (h1 : d.length = 32) :
  Instr.fill (fun x => (#[(0, 34), (34, 1), (35, 1), (36, 32), (68, 1)] : Array (Nat × Nat))[x]?) (ndC kv n rk lp rp d0 b0) [(3, .agg (d.map (Value.int .u8)).toArray), (4, .bool b)] = some (ndC kv n rk lp rp d b) := by
 have hA : ([kv, Value.int .i64 n] ++ (rk.map (Value.int .u8) ++ [lp, rp])).length = 36 := by simp [h]
 have e1 := fill_at (place := fun x => (#[(0, 34), (34, 1), (35, 1), (36, 32), (68, 1)] : Array (Nat × Nat))[x]?) ([kv, Value.int .i64 n] ++ (rk.map (Value.int .u8) ++ [lp, rp])) (d0.map (Value.int .u8)) [Value.bool b0] (d.map (Value.int .u8)) (i := 3) (v := .agg (d.map (Value.int .u8)).toArray) (rest := [(4, .bool b)]) rfl (by rw [hA, List.length_map, h1]; rfl) (by simp [h0, h1])
 have e2 := fill_at (place := fun x => (#[(0, 34), (34, 1), (35, 1), (36, 32), (68, 1)] : Array (Nat × Nat))[x]?) ([kv, Value.int .i64 n] ++ (rk.map (Value.int .u8) ++ [lp, rp]) ++ d.map (Value.int .u8)) [Value.bool b0] [] [Value.bool b] (i := 4) (v := .bool b) (rest := []) rfl (by rw [List.length_append, hA, List.length_map, h1]; rfl) rfl
 rw [show ndC kv n rk lp rp d0 b0 = (([kv, Value.int .i64 n] ++ (rk.map (Value.int .u8) ++ [lp, rp])) ++ (d0.map (Value.int .u8) ++ [Value.bool b0])).toArray by unfold ndC; simp, e1]
 rw [show (([kv, Value.int .i64 n] ++ (rk.map (Value.int .u8) ++ [lp, rp])) ++ (d.map (Value.int .u8) ++ [Value.bool b0]) : List Value) = ([kv, Value.int .i64 n] ++ (rk.map (Value.int .u8) ++ [lp, rp]) ++ d.map (Value.int .u8)) ++ ([Value.bool b0] ++ []) by simp, e2, Instr.fill]
 congr 2
 simp
set_option maxRecDepth 100000 in
theorem run_build_cut (u : World) (d : List Int) (h : d.length = 32) :
  (Instr.build 115 #[(3, .agg (d.map (Value.int .u8)).toArray), (4, .bool true)]).run Tryd.prog u = .ok (.agg (ndC (.slice none 0 0) 0 (zeros 32) (.pointer none) (.pointer none) d true)) u := by
 have hz : (zeroValue 115).run Tryd.prog u = .ok (.agg (ndC (.slice none 0 0) 0 (zeros 32) (.pointer none) (.pointer none) (zeros 32) false)) u := by kernel_rfl
 have hpl : ∀ fs, Tryd.prog.underlying 115 = some (.struct fs) → (fs.mapM fun f => do pure (f.offset, ← sizeOf f.type) : Sem (Array (Nat × Nat))).run Tryd.prog u = .ok #[(0, 34), (34, 1), (35, 1), (36, 32), (68, 1)] u := by
  intro fs h
  rw [Tryd.underlying115] at h
  injection h with h
  injection h with h
  subst h
  kernel_rfl
 have hp2 := hpl _ Tryd.underlying115
 have hf := fill_cut (.slice none 0 0) (.pointer none) (.pointer none) 0 (zeros 32) (zeros 32) d false true (zeros_len _) (zeros_len _) h
 generalize (ndC (.slice none 0 0) 0 (zeros 32) (.pointer none) (.pointer none) (zeros 32) false) = Z at *
 unfold Instr.build
 simp only [Sem.run_bind, hz, run_underlying Tryd.underlying115, Result.andThen_ok, agg_cells, hp2, hf]
 rfl
set_option maxRecDepth 100000 in
theorem exec_build_cut {ρ : Operand → Value} {o : Oper} {w : World} (x y : Operand) (ho : o.op = .build 115 #[(3, x), (4, y)]) (d : List Int) (h : d.length = 32) (h0 : ρ x = .agg (d.map (Value.int .u8)).toArray) (h1 : ρ y = .bool true) :
  (execOp ρ o).run Tryd.prog w = .ok (.value (.agg (ndC (.slice none 0 0) 0 (zeros 32) (.pointer none) (.pointer none) d true))) w := by
 have hb := run_build_cut w d h
 unfold execOp
 simp only [ho, List.map_toArray, List.map_cons, List.map_nil, h0, h1, Sem.run_bind, hb, Result.andThen_ok, Sem.run_pure]
theorem kis_rng {w : World} {S : Nat → Prop} {a : Option Addr} {n c : Nat} {l : List Int} (h : KIs w S (.slice a n c) l) (hl : 0 < l.length) : ∃ b o, a = some ⟨b, o, none⟩ ∧ w.rangeAt b o (l.map (Value.int .u8)) := by
 obtain ⟨⟨a', c', hv, h1, h2⟩, -⟩ := h
 injection hv with e1 e2 e3
 subst e1
 obtain ⟨b, o, e, hb, hx⟩ := h2 hl
 refine ⟨b, o, e, fun j x hj => ?_⟩
 rw [List.getElem?_map, Option.map_eq_some_iff] at hj
 obtain ⟨y, hy, rfl⟩ := hj
 have hjl : j < l.length := (List.getElem?_eq_some_iff.1 hy).1
 rw [hx j hjl, hy]
 rfl
set_option maxRecDepth 100000 in
set_option maxHeartbeats 4000000 in
theorem pruned_any {S : Nat → Prop} (X : Nat) (l : List Int) (w : World) (h : RIs w X S l) (hX : ¬ S X) (hS : ∀ b, w.heap.size ≤ b → S b) :
  Calls Tryd.prog 96 #[.pointer (some ⟨X, 0, none⟩)] w fun e w' => TEnd S X w e w' (rdP l) := by
 have HT := hid (take_any X l 32 w h hX)
 have HP := hid (show rdP l = if l.length < 32 then .inl 6 else .inr (.cut (l.take 32), l.drop 32) from rfl)
 have HL := hid (show 32 ≤ l.length → (l.take 32).length = 32 from fun h => by rw [List.length_take]; omega)
 have HS := hid hS
 have HX := hid hX
 clear h hX hS
 generalize rdP l = R at *
 generalize l.take 32 = d at *
 generalize l.drop 32 = l' at *
 go_enter Tryd.func96, Tryd.ntmps96
 go_wp2_with fail
 refine HT.out.mono ?_
 rintro e w1 (⟨h2, a, c, rfl, hk, hri, hc⟩ | ⟨h2, rfl, rfl⟩)
 ·obtain ⟨b, o, rfl, hrg⟩ := kis_rng hk (by have := HL.out h2; omega)
  have hA := fun u => run_arr32 u ⟨b, o, none⟩ c
  have HB := hid (HL.out h2)
  have HRG := hid hrg
  have HI := hid (show (Tryd.prog.info? 36).map (·.size) = some (d.map (Value.int .u8)).length by rw [List.length_map, HL.out h2]; exact info_dg)
  have HH := hid (And.intro h2 (And.intro hk (And.intro hri hc)))
  clear h2 hk hri hc hrg
  go_wp2_with (first
   | (refine wpList_of_run (o := ⟨some 16, _, _, _, _, _⟩) rfl (exec_load_mid 36 (Operand.tmp 15) rfl b o rfl _ _ HRG.out Tryd.underlying36 rfl HI.out) ?_)
   | (refine wpList_of_run (o := ⟨some 17, _, _, _, _, _⟩) rfl (exec_build_cut (Operand.tmp 16) (Operand.const (.bool true)) rfl d HB.out rfl rfl) ?_))
  go_ret2
  obtain ⟨h2, hk, hri, hc⟩ := HH.out
  rw [HP.out, if_neg (by omega)]
  have hb := (Below.refl w1.heap.size w1).alloc (Nat.le_refl _) (.cells (ndC (.slice none 0 0) 0 (zeros 32) (.pointer none) (.pointer none) d true) 115)
  exact ⟨_, rfl, ⟨w1.heap.size, rfl, HS.out _ hc.size, HB.out, heap_alloc_new _ _⟩, hri.below hb, hc.trans (Chg.fresh hb) (fun i hi => .inl hi)⟩
 ·have HH := hid h2
  clear h2
  go_wp2_with fail
  go_ret2
  rw [HP.out, if_pos HH.out]
  exact ⟨by decide, rfl, Chg.refl _ _⟩
end Go.Proofs.YtbmlkocpjboodaaDoor
/- stage 7: the reader of a proof: node, tree -/
namespace Go.Proofs.YtbmlkocpjboodaaDoor
open Go.RowKit
open Go.Lib (hid)
theorem KC.chg {w w' : World} {X : Nat} (h : KC w) (hc : Chg (fun q => q = X) w w') (hX : 1 ≠ X) : KC w' :=
 ⟨Nat.lt_of_lt_of_le h.1 hc.size, fun t ht => (World.cell?_of_block (a := ⟨1, t, none⟩) (hc.block _ h.1 hX)).trans (h.2 t ht)⟩
theorem MIs.cgX {w w' : World} {X : Nat} {S : Nat → Prop} {p : Value} {t : MT} (h : MIs w S p t) (hc : Chg (fun q => q = X) w w') (hX : ¬ S X) : MIs w' S p t := h.chg hc.size (fun b hb hs => hc.block b hb (fun e => hX (e ▸ hs)))
theorem KIs.cgX {w w' : World} {X : Nat} {S : Nat → Prop} {v : Value} {l : List Int} (h : KIs w S v l) (hc : Chg (fun q => q = X) w w') (hX : ¬ S X) : KIs w' S v l := h.cg hc (fun _ _ hs e => hX (e ▸ hs))
set_option maxRecDepth 100000 in
theorem run_build_rk0 (u : World) (kv : Value) (n : Int) : (Instr.build 66 #[(0, .agg #[kv, .int .i64 n])]).run Tryd.prog u = .ok (.agg (([kv, Value.int .i64 n] ++ (zeros 32).map (Value.int .u8)).toArray)) u := by kernel_rfl
theorem exec_build_rk0 {ρ : Operand → Value} {o : Oper} {w : World} (x : Operand) (ho : o.op = .build 66 #[(0, x)]) (kv : Value) (n : Nat) (h0 : ρ x = .agg #[kv, .int .i64 (n : Int)]) :
  (execOp ρ o).run Tryd.prog w = .ok (.value (.agg (rkC kv n (zeros 32)))) w := by
 have hb := run_build_rk0 w kv n
 unfold execOp
 simp only [ho, List.map_toArray, List.map_cons, List.map_nil, h0, Sem.run_bind, hb, Result.andThen_ok, Sem.run_pure]
 rfl
/-- what a reader of trees, called with m, does -/
def TDo (S : Nat → Prop) (X : Nat) (m : Int) (T : List Int → Int ⊕ (MT × List Int)) : Prop :=
 ∀ l u, RIs u X S l → Rng l → KC u → (∀ b, u.heap.size ≤ b → S b) → Calls Tryd.prog 74 #[.pointer (some ⟨X, 0, none⟩), .int .i64 m] u fun e w' => TEnd S X u e w' (T l)
set_option maxRecDepth 100000 in
set_option maxHeartbeats 4000000 in
theorem node_any {S : Nat → Prop} (X : Nat) (m : Int) (T : List Int → Int ⊕ (MT × List Int)) (hT : TOk T) (hD : TDo S X (m + 1) T) (h0 : 0 ≤ m) (hm : m ≤ 4096) (hX : ¬ S X) (hg : 1 ≠ X) (l : List Int) (w : World) (h : RIs w X S l) (hr : Rng l) (hK : KC w) (hS : ∀ b, w.heap.size ≤ b → S b) :
  Calls Tryd.prog 97 #[.pointer (some ⟨X, 0, none⟩), .int .i64 m] w fun e w' => TEnd S X w e w' (rdNd T l) := by
 have HK := hid hK
 have HSS := hid hS
 have HX := hid hX
 have HG := hid hg
 have H1 := hid (hD l w h hr hK hS)
 have HTO := hid hT
 have HD := hid hD
 have HRN := hid (show rdNd T l = match T l with
  | .inl c => .inl c
  | .inr (tl, r1) => match rdEnt r1 with
   | .inl c => .inl c
   | .inr ((k, n), r2) => match T r2 with
    | .inl c => .inl c
    | .inr (tr, r3) => .inr (mkN k n (zeros 32) tl tr, r3) from rfl)
 have HOK := hid (fun t r e => hT l hr t r e)
 clear hK hS hX hg hT hD h hr
 generalize rdNd T l = R at *
 generalize T l = T1 at *
 go_enter Tryd.func97, Tryd.ntmps97
 go_wp2_with fail
 refine H1.out.mono ?_
 rintro e w1 he
 rcases T1 with c | ⟨tl, r1⟩
 ·obtain ⟨hc0, rfl, hc⟩ := he
  have hne : (c != 0) = true := bne_iff_ne.2 hc0
  have HC := hid (And.intro hc0 hc)
  clear hc0 hc
  go_wp2_with fail
  go_ret2
  rw [HRN.out]
  exact ⟨HC.out.1, rfl, HC.out.2⟩
 ·obtain ⟨p1, rfl, hp1, hr1, hc1⟩ := he
  obtain ⟨a1, rfl⟩ := hp1.form
  obtain ⟨g1, q1⟩ := HOK.out tl r1 rfl
  have HEN := hid (entry_any X r1 w1 hr1 HX.out q1)
  have HP1 := hid (And.intro hp1 (And.intro hc1 (And.intro g1 q1)))
  have HEO := hid (rdEnt_ok q1)
  replace HRN := hid (HRN.out.trans (show _ = match rdEnt r1 with
   | .inl c => .inl c
   | .inr ((k, n), r2) => match T r2 with
    | .inl c => .inl c
    | .inr (tr, r3) => .inr (mkN k n (zeros 32) tl tr, r3) from rfl))
  clear hp1 hr1 hc1 g1 q1 H1 HOK
  generalize rdEnt r1 = T2 at *
  go_wp2_with fail
  refine HEN.out.mono ?_
  rintro e w2 he
  rcases T2 with c | ⟨⟨k, n⟩, r2⟩
  ·obtain ⟨rfl, hc⟩ := he
   have hc0 := HEO.out.1 c rfl
   have hne : (c != 0) = true := bne_iff_ne.2 hc0
   have HC := hid (And.intro hc0 hc)
   clear hc0 hc
   go_wp2_with fail
   go_ret2
   rw [HRN.out]
   exact ⟨HC.out.1, rfl, (HP1.out.2.1.trans HC.out.2 (fun i hi => .inl hi)).alloc _⟩
  ·obtain ⟨ak, ck, rfl, hk2, hr2, hc2⟩ := he
   obtain ⟨b1, b2, b3, b4, b5⟩ := HEO.out.2 k n r2 rfl
   have hbb : Below w2.heap.size w2 (w2.alloc (.cells #[.slice ak k.length ck, .int .i64 (n : Int)] 33)) := (Below.refl _ _).alloc (Nat.le_refl _) _
   have hx2 : (w2.alloc (.cells #[.slice ak k.length ck, .int .i64 (n : Int)] 33)).heap[w2.heap.size]? = some (.cells #[.slice ak k.length ck, .int .i64 (n : Int)] 33 (0, 0)) := heap_alloc_new _ _
   have hc02 : Chg (fun q => q = X) w w2 := HP1.out.2.1.trans hc2 (fun i hi => .inl hi)
   have hc03 : Chg (fun q => q = X) w (w2.alloc (.cells #[.slice ak k.length ck, .int .i64 (n : Int)] 33)) := hc02.alloc _
   have HD2 := hid (HD.out r2 (w2.alloc (.cells #[.slice ak k.length ck, .int .i64 (n : Int)] 33)) (hr2.below hbb) b5 (HK.out.chg hc03 HG.out) (fun b hb => HSS.out b (Nat.le_trans hc03.size hb)))
   have HX2 := hid hx2
   have HNE := hid (show w2.heap.size ≠ X by have := hr2.lt; omega)
   have HC3 := hid hc03
   have HP2 := hid ((HP1.out.1.cgX hc2 HX.out).below hbb)
   have HK2 := hid (hk2.below hbb)
   have HB := hid (And.intro b1 (And.intro b2 (And.intro b4 b5)))
   have HOK2 := hid (fun t r e => HTO.out r2 b5 t r e)
   replace HRN := hid (HRN.out.trans (show _ = match T r2 with
    | .inl c => .inl c
    | .inr (tr, r3) => .inr (mkN k n (zeros 32) tl tr, r3) from rfl))
   clear hk2 hr2 hc2 b1 b2 b3 b4 b5 hbb hx2 hc02 hc03 HD HTO HEN HEO
   generalize T r2 = T3 at *
   go_wp2_with fail
   generalize w2.alloc (.cells #[.slice ak k.length ck, .int .i64 (n : Int)] 33) = w3 at *
   refine HD2.out.mono ?_
   rintro e w4 he
   rcases T3 with c | ⟨tr, r3⟩
   ·obtain ⟨hc0, rfl, hc⟩ := he
    have hne : (c != 0) = true := bne_iff_ne.2 hc0
    have HC := hid (And.intro hc0 hc)
    clear hc0 hc
    go_wp2_with fail
    go_ret2
    rw [HRN.out]
    exact ⟨HC.out.1, rfl, HC3.out.trans HC.out.2 (fun i hi => .inl hi)⟩
   ·obtain ⟨p3, rfl, hp3, hr3, hc3⟩ := he
    obtain ⟨a3, rfl⟩ := hp3.form
    have hc4 : Chg (fun q => q = X) w w4 := HC3.out.trans hc3 (fun i hi => .inl hi)
    have HX4 := hid (hc3.blk HX2.out HNE.out)
    obtain ⟨g3, q3⟩ := HOK2.out tr r3 rfl
    have HN := hid (newNode_any (S := S) w4 (.slice ak k.length ck) (.pointer a1) (.pointer a3) k n (zeros 32) tl tr (fun b hb => HSS.out b (Nat.le_trans hc4.size hb)) (zeros_len 32) (HK2.out.cgX hc3 HX.out) (HP2.out.cgX hc3 HX.out) hp3 HP1.out.2.2.1 g3 (HK.out.chg hc4 HG.out) HB.out.1 HB.out.2.2.1)
    have HC4 := hid hc4
    have HR3 := hid hr3
    clear hp3 hr3 hc3 hc4 g3 q3
    go_wp2_with (first
     | (refine wpList_load_row rfl 33 (Operand.tmp 8) rfl w2.heap.size rfl 33 _ (0, 0) _ HX4.out Tryd.underlying33 rfl (by kernel_rfl) ?_)
     | (refine wpList_of_run (o := ⟨some 39, _, _, _, _, _⟩) rfl (exec_build_rk0 (Operand.tmp 38) rfl _ n rfl) ?_))
    refine HN.out.mono ?_
    rintro e w5 ⟨p5, rfl, hp5, hb5⟩
    obtain ⟨a5, rfl⟩ := hp5.form
    have HP5 := hid (And.intro hp5 hb5)
    clear hp5 hb5
    go_wp2_with fail
    go_ret2
    rw [HRN.out]
    exact ⟨_, rfl, HP5.out.1, HR3.out.below HP5.out.2, HC4.out.trans (Chg.fresh HP5.out.2) (fun i hi => .inl hi)⟩
end Go.Proofs.YtbmlkocpjboodaaDoor
