import Derived.Test.YtbmlkocpjboodaaDoorMv00
import Derived.Test.YtbmlkocpjboodaaDoorMv01
import Derived.Test.YtbmlkocpjboodaaDoorProg
namespace Go.Proofs.YtbmlkocpjboodaaDoor
open Go.RowKit
open Go.Lib (hid)
theorem beAt_nat (n j : Nat) : beAt n j = ((n / 2 ^ (56 - 8 * j) % 256 : Nat) : Int) := by
 simp [beAt]
theorem be8_nat (n : Nat) : be8 n = ([n / 256 / 256 / 256 / 256 / 256 / 256 / 256 % 256, n / 256 / 256 / 256 / 256 / 256 / 256 % 256, n / 256 / 256 / 256 / 256 / 256 % 256, n / 256 / 256 / 256 / 256 % 256, n / 256 / 256 / 256 % 256, n / 256 / 256 % 256, n / 256 % 256, n % 256].map fun x : Nat => (x : Int)) := by
 have e : be8 n = [beAt n 0, beAt n 1, beAt n 2, beAt n 3, beAt n 4, beAt n 5, beAt n 6, beAt n 7] := rfl
 rw [e]
 simp only [beAt_nat, List.map_cons, List.map_nil, Nat.div_div_eq_div_mul, Nat.reducePow, Nat.reduceMul, Nat.reduceSub, Nat.div_one]
theorem beI_nat (l : List Nat) : beI (l.map fun x : Nat => (x : Int)) = l.foldl (fun n x => n * 256 + x) 0 := by
 simp [beI, List.foldl_map]
theorem hstep (m q : Nat) (h : m / 256 = q) : q * 256 + m % 256 = m := by subst h; omega
set_option maxRecDepth 10000 in
theorem beI_be8 (n : Nat) (h : n < 18446744073709551616) : beI (be8 n) = n := by
 rw [be8_nat, beI_nat]
 simp only [List.foldl_cons, List.foldl_nil]
 have h7 : n / 256 / 256 / 256 / 256 / 256 / 256 / 256 < 256 := by omega
 clear h
 generalize h1 : n / 256 = m1 at *
 generalize h2 : m1 / 256 = m2 at *
 generalize h3 : m2 / 256 = m3 at *
 generalize h4 : m3 / 256 = m4 at *
 generalize h5 : m4 / 256 = m5 at *
 generalize h6 : m5 / 256 = m6 at *
 generalize h8 : m6 / 256 = m7 at *
 have e7 : (0 * 256 + m7 % 256) = m7 := by rw [Nat.zero_mul, Nat.zero_add, Nat.mod_eq_of_lt h7]
 have e6 : m7 * 256 + m6 % 256 = m6 := hstep _ _ h8
 have e5 : m6 * 256 + m5 % 256 = m5 := hstep _ _ h6
 have e4 : m5 * 256 + m4 % 256 = m4 := hstep _ _ h5
 have e3 : m4 * 256 + m3 % 256 = m3 := hstep _ _ h4
 have e2 : m3 * 256 + m2 % 256 = m2 := hstep _ _ h3
 have e1 : m2 * 256 + m1 % 256 = m1 := hstep _ _ h2
 have e0 : m1 * 256 + n % 256 = n := hstep _ _ h1
 rw [e7, e6, e5, e4, e3, e2, e1, e0]
theorem be8_rng (n : Nat) : Rng (be8 n) := by
 intro x hx
 simp only [be8, List.mem_map] at hx
 obtain ⟨j, _, rfl⟩ := hx
 rw [beAt_nat]
 omega
/-- append of a slice that reads as bytes to one's own row -/
theorem wpList_append_bs {P : Program} {ops : Array Oper} {rest : List Oper} {o : Oper} {a : Act} {w : World} {Q : Exit → Act → World → Prop} (hgd : o.guard = none) (s x : Operand) (t : TypeId)
  (ho : o.op = .call { callee := .builtin .append, args := #[s, x], argTypes := #[t, t] })
  (base : Nat) (e : TypeId) (i : TypeInfo) (ht : P.underlying t = some (.slice e)) (hi : P.info? e = some i) (hz : i.zero = some (.int .u8 0))
  (hsize : i.size = 1) (hby : i.bytes = 1)
  (v : Value) (n : Nat) (xs : List Value) (hs : a.eval s = v) (hown : w.ownsRow base e 1 v n xs)
  (v2 : Value) (l : List Int) (hx : a.eval x = v2) (hbs : Bs w v2 l) (h63 : n + l.length ≤ 1099511627776) (hbase : base ≤ w.heap.size)
  (h : ∀ v' w', w'.ownsRow base e 1 v' (n + l.length) (xs ++ l.map (Value.int .u8)) → w.grownBy w' v.ownBlock → wpList P ops Q rest (a.put o.dst v') w') : wpList P ops Q (o :: rest) a w := by
 obtain ⟨ad, cap, rfl, hcap, hc⟩ := hbs
 cases ad with
 | none =>
  have h0 : cap = 0 := hcap.2 rfl
  have h1 : l = [] := List.eq_nil_of_length_eq_zero (by omega)
  subst h0 h1
  refine wpList_append_own_none hgd s x t ho base e i 1 ht hi v n xs hs hown hx ?_
  exact h v w (by simpa using hown) (World.grownBy.refl _ _)
 | some ad =>
  refine wpList_append_own w hgd s x t ho base e i (.int .u8 0) 1 1 ht hi hz hsize hby rfl (by decide) v n xs hs hown ad l.length cap (l.map (Value.int .u8)) hx (by simp) ?_ (by intro v hv; obtain ⟨x, _, rfl⟩ := List.mem_map.1 hv; rfl) (by unfold maxLen; omega) (by omega) hbase (fun v' w' h1 h2 _ => h v' w' h1 h2)
  intro q u hu
  rw [List.getElem?_map, Option.map_eq_some_iff] at hu
  obtain ⟨y, hy, rfl⟩ := hu
  have hq : q < l.length := (List.getElem?_eq_some_iff.1 hy).1
  obtain ⟨pb, po, e1, e2, e3⟩ := hc (by omega)
  injection e1 with e1
  have e4 := e3 q hq
  rw [hy] at e4
  rw [e1, Addr.add_mid]
  exact e4
/-- a literal of no elements: a new block of one's own, the value kept unwritten -/
theorem wpList_build_empty {P : Program} {w : World} {ops : Array Oper} {rest : List Oper} {o : Oper} {a : Act} {Q : Exit → Act → World → Prop} (hgd : o.guard = none) (t e : TypeId) (size : Nat)
  (ho : o.op = .buildSlice t 0 #[]) (hrun : ∀ w : World, (Instr.buildSlice t 0 #[]).run P w = .ok (.slice (some ⟨w.heap.size, 0, none⟩) 0 0) (w.alloc (.cells #[] e)))
  (h : ∀ v w', w'.ownsRow w.heap.size e size v 0 [] → Below w.heap.size w w' → v.ownBlock = some w.heap.size → w'.heap.size = w.heap.size + 1 → wpList P ops Q rest (a.put o.dst v) w') : wpList P ops Q (o :: rest) a w := by
 refine wpList_plain hgd fun K hK => ?_
 unfold Oper.wp
 simp [execOp, ho, hrun, Result.andThen, Oper.upon]
 refine hK _ _ (h _ _ (World.ownsRow_lit w #[] 0 (Nat.le_refl _) (Nat.zero_le _) (by simp)) ((Below.refl _ _).alloc (Nat.le_refl _) _) rfl (by simp))
end Go.Proofs.YtbmlkocpjboodaaDoor
namespace Go.Proofs.YtbmlkocpjboodaaDoor
open Go.RowKit
open Go.Lib (hid)
/-- the lower 32 bits -/
def lo32 (x : Int) : Int := bits BinOp.and IntKind.u64 x 4294967295
def mA (x y : Int) : Int := IntKind.u64.wrap (lo32 x * lo32 y)
def mB (x y : Int) : Int := IntKind.u64.wrap (x / 4294967296 * lo32 y)
def mC (x y : Int) : Int := IntKind.u64.wrap (lo32 x * (y / 4294967296))
def mM (x y : Int) : Int := IntKind.u64.wrap (IntKind.u64.wrap (mA x y / 4294967296 + lo32 (mB x y)) + lo32 (mC x y))
def mulHi (x y : Int) : Int := IntKind.u64.wrap (IntKind.u64.wrap (IntKind.u64.wrap (IntKind.u64.wrap (x / 4294967296 * (y / 4294967296)) + mB x y / 4294967296) + mC x y / 4294967296) + mM x y / 4294967296)
def mulLo (x y : Int) : Int := IntKind.u64.wrap (lo32 (mA x y) + IntKind.u64.wrap (mM x y * 4294967296))
theorem mul_any (x y : Int) (w : World) :
  Calls Tryd.prog 103 #[.int .u64 x, .int .u64 y] w fun e w' => w = w' ∧ e = .returned (.tuple #[.int .u64 (mulHi x y), .int .u64 (mulLo x y)]) := by
 go_enter Tryd.func103, Tryd.ntmps103
 go_wp2
 go_ret2
 refine ⟨rfl, ?_⟩
 simp [mulHi, mulLo, mM, mA, mB, mC, lo32]
theorem rot_any (x c : Int) (w : World) (h0 : 0 < c) (h1 : c < 32) :
  Calls Tryd.prog 50 #[.int .u32 x, .int .i64 c] w fun e w' => (∃ n, w' = w.drewN n) ∧ e = .returned (.int .u32 (rotI x c.toNat)) := by
 obtain ⟨n, rfl⟩ : ∃ n : Nat, c = n := ⟨c.toNat, by omega⟩
 have g0 : 0 < n := by omega
 have g1 : n < 32 := by omega
 have k1 : IntKind.i64.wrap (32 - (n : Int)) = 32 - (n : Int) := IntWalk.i64_in _ (by omega)
 have k2 : 0 ≤ 32 - (n : Int) := by omega
 have k3 : (32 - (n : Int)).toNat = 32 - n := by omega
 clear h0 h1
 go_enter Tryd.func50, Tryd.ntmps50
 go_wp2
 go_quiet (fail)
 go_wp2
 go_ret
 exact ⟨⟨_, rfl⟩, by simp [rotI]⟩
/-- the test at the end of below -/
def atMost (hi lo p : Int) : Bool := decide (hi < p) || (decide (hi = p) && decide (lo = 0))
def belowI (x p n : Int) : Bool :=
 if n = 3 then atMost (IntKind.u64.wrap (IntKind.u64.wrap (mulHi x x * x) + mulHi (mulLo x x) x)) (mulLo (mulLo x x) x) (IntKind.u64.wrap (p * 4294967296))
 else atMost (mulHi x x) (mulLo x x) p
theorem ret_b {a b : Bool} (h : a = b) : Ending.returned (.bool a) = Ending.returned (.bool b) := by rw [h]
theorem below2_any (x p : Int) (w : World) :
  Calls Tryd.prog 98 #[.int .u64 x, .int .u64 p, .int .i64 2] w fun e w' => w = w' ∧ e = .returned (.bool (belowI x p 2)) := by
 go_enter Tryd.func98, Tryd.ntmps98
 go_wp2_with (go_at_call 103; refine (mul_any _ _ _).mono ?_; rintro e w' ⟨rfl, rfl⟩)
 all_goals
  go_ret
  refine ⟨rfl, ret_b ?_⟩
  first | (simp [belowI, atMost, *]; done) | (simp [belowI, atMost, *]; rfl)
theorem below3_any (x p : Int) (w : World) :
  Calls Tryd.prog 98 #[.int .u64 x, .int .u64 p, .int .i64 3] w fun e w' => w = w' ∧ e = .returned (.bool (belowI x p 3)) := by
 go_enter Tryd.func98, Tryd.ntmps98
 go_wp2_with (go_at_call 103; refine (mul_any _ _ _).mono ?_; rintro e w' ⟨rfl, rfl⟩)
 all_goals
  go_ret
  refine ⟨rfl, ret_b ?_⟩
  first | (simp [belowI, atMost, *]; done) | (simp [belowI, atMost, *]; rfl)
theorem below_any (x p n : Int) (w : World) (hn : n = 2 ∨ n = 3) :
  Calls Tryd.prog 98 #[.int .u64 x, .int .u64 p, .int .i64 n] w fun e w' => w = w' ∧ e = .returned (.bool (belowI x p n)) := by
 rcases hn with rfl | rfl
 ·exact below2_any x p w
 ·exact below3_any x p w
def ptStep (p n x : Int) (j : Nat) : Int := if belowI (IntKind.u64.wrap (x + IntKind.u64.wrap (2 ^ j))) p n = true then IntKind.u64.wrap (x + IntKind.u64.wrap (2 ^ j)) else x
/-- x behind the steps from 35 down to m -/
def ptAt (p n : Int) : Nat → Int
 | 0 => 0
 | k + 1 => ptStep p n (ptAt p n k) (35 - k)
theorem point_any (p n : Int) (w : World) (hn : n = 2 ∨ n = 3) :
  Calls Tryd.prog 78 #[.int .u64 p, .int .i64 n] w fun e w' => w = w' ∧ e = .returned (.int .u32 (IntKind.u32.wrap (ptAt p n 36))) := by
 go_enter Tryd.func78, Tryd.ntmps78
 go_wp2
 go_loop [5, 6] (fun x i => ∃ m : Nat, m ≤ 36 ∧ i = .int .i64 ((m : Int) - 1) ∧ x = .int .u64 (ptAt p n (36 - m))) (fun _ i => (intOf i + 1).toNat)
 case atStart => exact ⟨36, by omega, rfl, rfl⟩
 case round =>
  obtain ⟨m, hm, rfl, rfl⟩ := hrel
  cases m with
  | zero =>
   have hz : (((0 : Nat) : Int) - 1) = -1 := rfl
   rw [hz]
   clear hz
   go_wp2
   go_ret
   exact ⟨rfl, rfl⟩
  | succ j =>
   have e : (((j + 1 : Nat) : Int) - 1) = (j : Int) := by omega
   rw [e]
   clear e
   have hs : ptAt p n (36 - j) = ptStep p n (ptAt p n (36 - (j + 1))) j := by
    have e1 : 36 - j = (36 - (j + 1)) + 1 := by omega
    rw [e1, ptAt]
    congr 1
    omega
   generalize ptAt p n (36 - (j + 1)) = X at *
   have HS := hid hs
   clear hs
   go_wp2_with (go_at_call 98; refine (below_any _ _ _ _ hn).mono ?_; rintro e w' ⟨rfl, rfl⟩)
   all_goals
    refine ⟨⟨j, by omega, rfl, by rw [HS.out]; simp [ptStep, *]⟩, by simp [intOf]⟩
/-- the primes below k -/
def isP (k : Nat) : Bool := decide (2 ≤ k) && (List.range k).all fun d => decide (d < 2) || decide (k % d ≠ 0)
def prs (k : Nat) : List Int := ((List.range k).filter isP).map fun x : Nat => (x : Int)
def goodP (l : List Int) (k : Nat) : Bool := l.all fun q => decide ((k : Int) % q ≠ 0)
theorem prs_step : ∀ k, k < 312 → 2 ≤ k → prs (k + 1) = if goodP (prs k) k = true then prs k ++ [(k : Int)] else prs k := by decide +kernel
theorem prs_len : ∀ k, k < 312 → (prs k).length < 64 := by decide +kernel
theorem prs_end : (prs 312).length = 64 := by decide +kernel
theorem prs_pos : ∀ x ∈ prs 312, 2 ≤ x ∧ x < 312 := by decide +kernel
theorem prs_two : prs 2 = [] := by decide +kernel
theorem prs_sub (k : Nat) (hk : k ≤ 312) : ∀ x ∈ prs k, 2 ≤ x ∧ x < 312 := by
 intro x hx
 apply prs_pos
 simp only [prs, List.mem_map, List.mem_filter, List.mem_range] at hx ⊢
 obtain ⟨y, ⟨h1, h2⟩, h3⟩ := hx
 exact ⟨y, ⟨by omega, h2⟩, h3⟩
theorem info48 : (Tryd.prog.info? 81).map (fun i => (i.zero, i.size, i.bytes)) = some (some (.int .u64 0), 1, 8) := by kernel_rfl
theorem goodP_take (l : List Int) (k j : Nat) (h : j < l.length) : goodP (l.take (j + 1)) k = (goodP (l.take j) k && decide ((k : Int) % l[j]?.getD 0 ≠ 0)) := by
 rw [List.take_succ_eq_append_getElem h, List.getElem?_eq_getElem h]
 simp only [goodP, List.all_append, List.all_cons, List.all_nil, Bool.and_true, Option.getD_some]
end Go.Proofs.YtbmlkocpjboodaaDoor
namespace Go.Proofs.YtbmlkocpjboodaaDoor
open Go.RowKit
open Go.Lib (hid)
set_option maxRecDepth 100000 in
set_option maxHeartbeats 800000 in
theorem primes_any (w : World) :
  Calls Tryd.prog 77 #[.int .i64 64] w fun e w' => ∃ v, e = .returned v ∧ w'.ownsRow w.heap.size 81 1 v 64 ((prs 312).map (Value.int .u64)) ∧ Below w.heap.size w w' := by
 obtain ⟨i0, hi, hz0, hz1, hz2⟩ := info_parts info48
 have h2 := prs_two
 have P2 := hid h2
 have P3 := hid prs_end
 clear h2
 go_enter Tryd.func77, Tryd.ntmps77
 go_wp2
 go_loopw [3, 4] (fun v c wr => ∃ k : Nat, 2 ≤ k ∧ k ≤ 312 ∧ c = .int .u64 k ∧ wr.ownsRow w.heap.size 81 1 v (prs k).length ((prs k).map (Value.int .u64)) ∧ Below w.heap.size w wr) (fun _ c _ => 312 - (intOf c).toNat)
 case atStart => 
  refine ⟨2, by omega, by omega, rfl, ?_, (Below.refl _ _).alloc (Nat.le_refl _) _⟩
  rw [P2.out]
  exact World.ownsRow_lit w #[] 0 (Nat.le_refl _) (Nat.zero_le _) rfl
 case round =>
  obtain ⟨k, hk2, hk, rfl, hown, hbr⟩ := hrel
  have HO := hid hown
  have HB := hid hbr
  have hsb := hbr.size
  clear hown hbr
  by_cases hlt : k < 312
  ·have hl64 := prs_len k hlt
   have hst := prs_step k hlt hk2
   have hpos := prs_sub k hk
   obtain ⟨va, vn, vc, rfl⟩ : ∃ va vn vc, u3 = .slice va vn vc := by
    rcases HO.out.2 with ⟨e1, _⟩ | ⟨g, cap', cur, e1, _⟩
    ·exact ⟨_, _, _, e1⟩
    ·exact ⟨_, _, _, e1⟩
   have hvn : vn = (prs k).length := by
    rcases HO.out.2 with ⟨e1, h0⟩ | ⟨g, cap', cur, e1, _⟩
    ·injection e1 with _ e2 _; omega
    ·injection e1
   subst hvn
   generalize hL : prs k = L at *
   have HL := hid hL
   have HST := hid hst
   have HPOS := hid hpos
   clear hst hpos hL
   go_wp2_with fail
   go_loop [5, 6] (fun pv i => ∃ j : Nat, j ≤ L.length ∧ i = .int .i64 j ∧ pv = .bool (goodP (L.take j) k)) (fun _ i => L.length - (intOf i).toNat)
   case atStart => exact ⟨0, Nat.zero_le _, rfl, by simp [goodP]⟩
   case round =>
    obtain ⟨j, hj, rfl, rfl⟩ := hrel
    by_cases hjl : j < L.length
    ·obtain ⟨g, rfl⟩ : ∃ g, va = some ⟨g, 0, none⟩ := by
      rcases HO.out.2 with ⟨e1, h0⟩ | ⟨g, cap', cur, e1, _⟩
      ·omega
      ·injection e1 with e1; exact ⟨g, e1⟩
     have hc := HO.out.cells (g := g) rfl j (.int .u64 (L[j]?.getD 0)) (by simp [hjl])
     rw [Addr.add_mid, Nat.zero_add] at hc
     have hq := HPOS.out (L[j]?.getD 0) (by rw [List.getElem?_eq_getElem hjl]; exact List.getElem_mem hjl)
     have hgt := goodP_take L k j hjl
     generalize hQ : L[j]?.getD 0 = q at *
     obtain ⟨hq1, hq2⟩ := hq
     have hji : (j : Int) < (L.length : Int) := by omega
     have hk0 : (0 : Int) ≤ (k : Int) := by omega
     have hq3 : 0 < q := by omega
     have hq4 : ¬ q = 0 := by omega
     have HGT := hid hgt
     clear hgt hQ
     cases hg : goodP (L.take j) k
     ·rw [hg] at HGT
      clear hg
      go_wp2
      exact ⟨⟨j + 1, by omega, by go_num, by rw [HGT.out]; rfl⟩, by simp [intOf]; omega⟩
     ·rw [hg] at HGT
      clear hg
      go_wp2
      exact ⟨⟨j + 1, by omega, by go_num, by rw [HGT.out]; first | rfl | (simp; rfl) | (congr 1; by_cases hz : (k : Int) % q = 0 <;> simp [hz])⟩, by simp [intOf]; omega⟩
    ·have hje : L.take j = L := List.take_of_length_le (by omega)
     rw [hje]
     have hjn : (L.length : Int) ≤ (j : Int) := by omega
     clear hje
     cases hg : goodP L k
     ·rw [hg] at HST
      clear hg
      go_wp2_with fail
      have hst : prs (k + 1) = L := HST.out
      exact ⟨⟨k + 1, by omega, by omega, by go_num, by rw [hst]; exact HO.out, HB.out⟩, by simp [intOf]; omega⟩
     ·rw [hg] at HST
      clear hg
      have hsz1 : L.length ≤ 64 := by omega
      go_wp2_with (at_builtin; refine wpList_append_own _ rfl (Operand.tmp 31) (Operand.tmp 33) 133 rfl w.heap.size 81 i0 (.int .u64 0) 1 8 Tryd.underlying133 hi hz0 hz1 hz2 rfl (by decide) _ _ _ rfl (HO.out.alloc _) ⟨wr.heap.size, 0, none⟩ 1 1 [.int .u64 (k : Int)] rfl rfl (cell_one_new _ _ _) (by intro u hu; simp at hu; subst hu; rfl) (by unfold maxLen; omega) (by omega) (by simp; omega) ?_; intro v' w1 hown' hgrow _; have HO1 := hid hown'; have HG1 := hid hgrow; clear hown' hgrow)
      have hst : prs (k + 1) = L ++ [(k : Int)] := HST.out
      refine ⟨⟨k + 1, by omega, by omega, by go_num, ?_, ?_⟩, by simp [intOf]; omega⟩
      ·rw [hst]; simpa using HO1.out
      ·exact (HB.out.alloc (by omega) _).grown HG1.out (by simp; omega) (fun g hg => (HO.out.lt g hg).1)
  ·obtain rfl : k = 312 := by omega
   rw [P3.out] at HO
   obtain ⟨va, vn, vc, rfl⟩ : ∃ va vn vc, u3 = .slice va vn vc := by
    rcases HO.out.2 with ⟨e1, _⟩ | ⟨g, cap', cur, e1, _⟩
    ·exact ⟨_, _, _, e1⟩
    ·exact ⟨_, _, _, e1⟩
   have hvn : vn = 64 := by
    rcases HO.out.2 with ⟨e1, h0⟩ | ⟨g, cap', cur, e1, _⟩
    ·omega
    ·injection e1
   subst hvn
   go_wp2
   go_ret
   exact ⟨_, rfl, HO.out, HB.out⟩
end Go.Proofs.YtbmlkocpjboodaaDoor
namespace Go.Proofs.YtbmlkocpjboodaaDoor
open Go.RowKit
open Go.Lib (hid)
theorem pt2 : ∀ i, i < 8 → IntKind.u32.wrap (ptAt ((prs 312)[i]?.getD 0) 2 36) = iv.list[i]?.getD 0 := by decide +kernel
theorem pt3 : ∀ i, i < 64 → IntKind.u32.wrap (ptAt ((prs 312)[i]?.getD 0) 3 36) = Kt[i]?.getD 0 := by decide +kernel
theorem info49 : (Tryd.prog.info? 97).map (fun i => (i.zero, i.size, i.bytes)) = some (some (.int .u32 0), 1, 4) := by kernel_rfl
theorem take_snoc_int (l : List Int) (i : Nat) (h : i < l.length) : l.take (i + 1) = l.take i ++ [l[i]?.getD 0] := by
 rw [List.take_succ_eq_append_getElem h, List.getElem?_eq_getElem h]; rfl
theorem own_some {w : World} {B T s n : Nat} {v : Value} {xs : List Value} (h : w.ownsRow B T s v n xs) (hn : 0 < n) : ∃ g cap, v = .slice (some ⟨g, 0, none⟩) n cap ∧ n ≤ cap ∧ B ≤ g ∧ g < w.heap.size := by
 rcases h.2 with ⟨_, h0⟩ | ⟨g, cap, cur, rfl, hg, hh, hle, _⟩
 ·omega
 ·exact ⟨g, cap, rfl, hle, hg, (h.lt g rfl).2⟩
end Go.Proofs.YtbmlkocpjboodaaDoor
namespace Go.Proofs.YtbmlkocpjboodaaDoor
open Go.RowKit
open Go.Lib (hid)
theorem own_lower {w : World} {B B' : Nat} {e : TypeId} {size : Nat} {v : Value} {n : Nat} {xs : List Value} (h : w.ownsRow B' e size v n xs) (hB : B ≤ B') : w.ownsRow B e size v n xs :=
 ⟨h.1, h.2.imp id (fun ⟨g, cap, cur, a, b, c⟩ => ⟨g, cap, cur, a, Nat.le_trans hB b, c⟩)⟩
set_option maxRecDepth 100000 in
set_option maxHeartbeats 1600000 in
theorem numbers_any (w : World) :
  Calls Tryd.prog 48 #[] w fun e w' => ∃ v3 v4, e = .returned (.tuple #[v3, v4]) ∧ w'.ownsRow w.heap.size 97 1 v3 8 (iv.list.map (Value.int .u32)) ∧ w'.ownsRow w.heap.size 97 1 v4 64 (Kt.map (Value.int .u32)) ∧ v3.ownBlock ≠ v4.ownBlock ∧ Below w.heap.size w w' := by
 obtain ⟨i0, hi, hz0, hz1, hz2⟩ := info_parts info49
 have P2 := hid pt2
 have P3 := hid pt3
 have PE := hid prs_end
 go_enter Tryd.func48, Tryd.ntmps48
 go_wp2_with fail
 refine (primes_any w).mono ?_
 rintro e w1 ⟨vp, rfl, hown, hb1⟩
 obtain ⟨gp, cp, rfl, hcp, hgp, hgl⟩ := own_some hown (by omega)
 have HP := hid hown
 have B1 := hid hb1
 clear hown hb1
 have hs1 := B1.out.size
 go_wp2_with fail
 go_loopw [3, 4, 5] (fun v3 v4 c wr => ∃ i : Nat, i ≤ 64 ∧ c = .int .i64 i ∧ wr.ownsRow w1.heap.size 97 1 v3 (min i 8) ((iv.list.take i).map (Value.int .u32)) ∧ wr.ownsRow w1.heap.size 97 1 v4 i ((Kt.take i).map (Value.int .u32)) ∧ v3.ownBlock ≠ v4.ownBlock ∧ v4.ownBlock ≠ none ∧ Below w1.heap.size w1 wr) (fun _ _ c _ => 64 - (intOf c).toNat)
 case atStart =>
  refine ⟨0, by omega, rfl, ?_, ?_, ?_, ?_, ?_⟩
  ·exact World.ownsRow.alloc (World.ownsRow_lit w1 #[] 0 (Nat.le_refl _) (Nat.zero_le _) rfl) _
  ·have := World.ownsRow_lit (base := w1.heap.size) (size := 1) (e := 97) (w1.alloc (.cells #[] 97)) #[] 0 (by simp) (Nat.zero_le _) rfl; simpa using this
  ·simp [Value.ownBlock]
  ·simp [Value.ownBlock]
  ·exact ((Below.refl _ _).alloc (Nat.le_refl _) _).alloc (by simp) _
 case round =>
  obtain ⟨i, hi64, rfl, ho3, ho4, hne, hnn, hbr⟩ := hrel
  have HO3 := hid ho3
  have HO4 := hid ho4
  have HNE := hid hne
  have HNN := hid hnn
  have HB := hid hbr
  have hsb := hbr.size
  clear ho3 ho4 hne hnn hbr
  by_cases hlt : i < 64
  ·have hc := ((HP.out.cells (g := gp) rfl i (.int .u64 ((prs 312)[i]?.getD 0)) (by simp [PE.out, hlt])))
   rw [Addr.add_mid, Nat.zero_add] at hc
   have hcr := (HB.out.cell (p := ⟨gp, i, none⟩) hgl).trans hc
   have hii : (i : Int) < 64 := by omega
   have kt := hid (take_snoc_int Kt i (by simpa [Kt] using hlt))
   have HC := hid hc
   clear hc
   by_cases h8 : i < 8
   ·have hi8 : (i : Int) < 8 := by omega
    have it := hid (take_snoc_int iv.list i (by simpa [S8.list] using h8))
    have e2 := hid (P2.out i h8)
    have e3 := hid (P3.out i hlt)
    generalize (prs 312)[i]?.getD 0 = q at *
    have hmin : min i 8 = i := by omega
    rw [hmin] at HO3
    go_wp2_with (first
     | (go_at_call 78; (with_reducible refine (point_any q 2 _ (.inl rfl)).mono ?_); rintro e w' ⟨rfl, rfl⟩; rw [e2.out])
     | (go_at_call 78; (with_reducible refine (point_any q 3 _ (.inr rfl)).mono ?_); rintro e w' ⟨rfl, rfl⟩; rw [e3.out])
     | (at_builtin; refine wpList_append_lies (o := ⟨some 22, _, _, _, _, _⟩) _ rfl (Operand.tmp 15) (Operand.tmp 21) 93 rfl w1.heap.size 97 i0 (.int .u32 0) 1 4 Tryd.underlying93 hi hz0 hz1 hz2 rfl (by decide) _ i _ rfl (HO3.out.alloc _) ⟨wr.heap.size, 0, none⟩ 1 1 [.int .u32 (iv.list[i]?.getD 0)] rfl rfl (cell_one_new _ _ _) (by intro u hu; simp at hu; subst hu; rfl) (by decide) (by unfold maxLen; omega) (by omega) (by simp; omega) (wr.heap.size + 1) (by simp) ?_; intro g3 c3 w3 hown3 hg3 hH3 hl3; have HO4b := hid ((HO4.out.alloc _).kept hg3 (.inr (Ne.symm HNE.out))); have HB3 := hid ((HB.out.alloc hsb _).grown hg3 (by simp; omega) (fun g hg => (HO3.out.lt g hg).1)); have HO3b := hid hown3; have HH3 := hid hH3; have hsb3 := HB3.out.size; have hcr3 := (HB3.out.cell (p := ⟨gp, i, none⟩) hgl).trans HC.out; clear hown3 hg3 hH3)
     | (at_builtin; refine wpList_append_lies (o := ⟨some 30, _, _, _, _, _⟩) _ rfl (Operand.tmp 23) (Operand.tmp 29) 93 rfl w1.heap.size 97 i0 (.int .u32 0) 1 4 Tryd.underlying93 hi hz0 hz1 hz2 rfl (by decide) _ i _ rfl (HO4b.out.alloc _) ⟨w3.heap.size, 0, none⟩ 1 1 [.int .u32 (Kt[i]?.getD 0)] rfl rfl (cell_one_new _ _ _) (by intro u hu; simp at hu; subst hu; rfl) (by decide) (by unfold maxLen; omega) (by omega) (by simp; omega) (w3.heap.size + 1) (by simp) ?_; intro g4 c4 w4 hown4 hg4 hH4 hl4; have HO4c := hid hown4; have HH4 := hid hH4; have HG4 := hid hg4; clear hown4 hg4 hH4)
     | fail)
    have hn3 : some g3 ≠ u4.ownBlock := by
     intro he
     have h1 := (HO4.out.lt g3 he.symm).2
     rcases HH3.out with h | h
     ·exact HNE.out (h.trans he)
     ·omega
    refine ⟨⟨i + 1, by omega, by go_num, ?_, ?_, ?_, by simp [Value.ownBlock], ?_⟩, by simp [intOf]; omega⟩
    ·have hm1 : min (i + 1) 8 = i + 1 := by omega
     rw [hm1, it.out, List.map_append]
     exact (HO3b.out.alloc _).kept HG4.out (.inr hn3)
    ·rw [kt.out, List.map_append]; exact HO4c.out
    ·intro he
     simp only [Value.ownBlock, Option.some.injEq] at he
     subst he
     rcases HH4.out with h | h
     ·exact hn3 h.symm
     ·omega
    ·exact (HB3.out.alloc hsb3 _).grown HG4.out (by simp; omega) (fun g hg => (HO4.out.lt g hg).1)
   ·have hi8 : ¬ (i : Int) < 8 := by omega
    have hi8' : 8 ≤ (i : Int) := by omega
    have e3 := hid (P3.out i hlt)
    have hmin : min i 8 = 8 := by omega
    rw [hmin] at HO3
    generalize (prs 312)[i]?.getD 0 = q at *
    go_wp2_with (first
     | (go_at_call 78; (with_reducible refine (point_any q 3 _ (.inr rfl)).mono ?_); rintro e w' ⟨rfl, rfl⟩; rw [e3.out])
     | (at_builtin; refine wpList_append_lies (o := ⟨some 30, _, _, _, _, _⟩) _ rfl (Operand.tmp 23) (Operand.tmp 29) 93 rfl w1.heap.size 97 i0 (.int .u32 0) 1 4 Tryd.underlying93 hi hz0 hz1 hz2 rfl (by decide) _ i _ rfl (HO4.out.alloc _) ⟨wr.heap.size, 0, none⟩ 1 1 [.int .u32 (Kt[i]?.getD 0)] rfl rfl (cell_one_new _ _ _) (by intro u hu; simp at hu; subst hu; rfl) (by decide) (by unfold maxLen; omega) (by omega) (by simp; omega) (wr.heap.size + 1) (by simp) ?_; intro g4 c4 w4 hown4 hg4 hH4 hl4; have HO4c := hid hown4; have HH4 := hid hH4; have HG4 := hid hg4; clear hown4 hg4 hH4)
     | fail)
    refine ⟨⟨i + 1, by omega, by go_num, ?_, ?_, ?_, by simp [Value.ownBlock], ?_⟩, by simp [intOf]; omega⟩
    ·have hm1 : min (i + 1) 8 = 8 := by omega
     have e1 : iv.list.take (i + 1) = iv.list.take i := by rw [List.take_of_length_le (by simp [S8.list]; omega), List.take_of_length_le (by simp [S8.list]; omega)]
     rw [hm1, e1]
     exact (HO3.out.alloc _).kept HG4.out (.inr HNE.out)
    ·rw [kt.out, List.map_append]; exact HO4c.out
    ·intro he
     rcases HH4.out with h | h
     ·exact HNE.out (he.trans h.symm)
     ·have h1 := (HO3.out.lt g4 he).2
      omega
    ·exact (HB.out.alloc hsb _).grown HG4.out (by simp; omega) (fun g hg => (HO4.out.lt g hg).1)
  ·obtain rfl : i = 64 := by omega
   have e1 : iv.list.take 64 = iv.list := rfl
   have e2 : Kt.take 64 = Kt := rfl
   rw [e1] at HO3
   rw [e2] at HO4
   clear e1 e2
   go_wp2_with fail
   go_ret2
   exact ⟨_, _, rfl, own_lower HO3.out hs1, own_lower HO4.out hs1, HNE.out, B1.out.trans (HB.out.mono hs1)⟩
end Go.Proofs.YtbmlkocpjboodaaDoor
namespace Go.Proofs.YtbmlkocpjboodaaDoor
open Go.RowKit
open Go.Lib (hid)
/-- append of a slice that reads as bytes to one's own row -/
theorem build22 (w : World) : (Instr.buildSlice 31 0 #[]).run Tryd.prog w = .ok (.slice (some ⟨w.heap.size, 0, none⟩) 0 0) (w.alloc (.cells #[] 5)) := by kernel_rfl
theorem build44 (w : World) : (Instr.buildSlice 93 0 #[]).run Tryd.prog w = .ok (.slice (some ⟨w.heap.size, 0, none⟩) 0 0) (w.alloc (.cells #[] 97)) := by kernel_rfl
set_option maxRecDepth 100000 in
set_option maxHeartbeats 400000 in
theorem number01_any (k : Nat) (w : World) (hk : k < 18446744073709551616) :
  Calls Tryd.prog 49 #[.int .u64 k, .int .i64 8] w fun e w' => ∃ v', e = .returned v' ∧ w'.ownsRow w.heap.size 5 1 v' 8 ((be8 k).map (Value.int .u8)) ∧ Below w.heap.size w w' := by
 obtain ⟨i0, hi, hz0, hz1, hz2⟩ := info_parts info5
 have HK := hid hk
 clear hk
 go_enter Tryd.func49, Tryd.ntmps49
 go_wp2_with fail
 go_loopw [5, 6] (fun v0 s wr => ∃ j : Nat, j ≤ 8 ∧ s = .int .i64 (7 - (j : Int)) ∧ wr.ownsRow w.heap.size 5 1 v0 j (((be8 k).take j).map (Value.int .u8)) ∧ Below w.heap.size w wr)
  (fun _ s _ => (intOf s + 1).toNat)
 case atStart => exact ⟨0, by omega, by simp, by simpa using World.ownsRow_lit (base := w.heap.size) (size := 1) (e := 5) w #[] 0 (Nat.le_refl _) (Nat.zero_le _) rfl, (Below.refl _ _).alloc (Nat.le_refl _) _⟩
 case round =>
  obtain ⟨j, hj, rfl, hown, hbw⟩ := hrel
  have hsz := hbw.size
  by_cases hlt : j < 8
  ·have hb := be8_take_succ k j hlt
   have HB := hid hb
   have HBW := hid hbw
   have HOW := hid hown
   clear hb hbw hown
   have e1 : IntKind.i64.wrap (8 * (7 - (j : Int))) = 56 - 8 * (j : Int) := by rw [IntWalk.i64_in _ (by omega)]; omega
   have e2 : 0 ≤ 56 - 8 * (j : Int) := by omega
   have e3 : (56 - 8 * (j : Int)).toNat = 56 - 8 * j := by omega
   go_wp2_with (at_builtin; refine wpList_append_own _ rfl (Operand.tmp 14) (Operand.tmp 20) 31 rfl w.heap.size 5 i0 (.int .u8 0) 1 1 Tryd.underlying31 hi hz0 hz1 hz2 rfl (by decide) _ _ _ rfl (HOW.out.alloc _) ⟨wr.heap.size, 0, none⟩ 1 1 [.int .u8 (beAt k j)] rfl rfl (cell_one_new _ _ _) (by intro u hu; simp at hu; subst hu; rfl) (by unfold maxLen; omega) (by omega) (by simp; omega) ?_; intro v' w1 hown' hgrow _; have HO1 := hid hown'; have HG1 := hid hgrow; clear hown' hgrow)
   refine ⟨⟨j + 1, by omega, by congr 1; omega, ?_, ?_⟩, by simp [intOf]; omega⟩
   ·rw [HB.out]; simpa [Nat.add_assoc] using HO1.out
   ·exact (HBW.out.alloc (by omega) _).grown HG1.out (by simp; omega) (fun g hg => (HOW.out.lt g hg).1)
  ·have hj8 : j = 8 := by omega
   subst hj8
   have e8 : (be8 k).take 8 = be8 k := List.take_of_length_le (by rw [be8_len]; omega)
   rw [e8] at hown
   have HBW := hid hbw
   have HOW := hid hown
   clear hbw hown e8 hlt
   go_wp2_with fail
   go_ret
   exact ⟨_, rfl, HOW.out, HBW.out⟩
end Go.Proofs.YtbmlkocpjboodaaDoor
namespace Go.Proofs.YtbmlkocpjboodaaDoor
open Go.RowKit
open Go.Lib (hid)
def findBlock (n : Nat) : Code → Option Code
 | .loop c => findBlock n c
 | .seq a b => match findBlock n a with
  | some c => some c
  | none => findBlock n b
 | .block m c => if m = n then some c else findBlock n c
 | .scope c => findBlock n c
 | .cond _ a b => match findBlock n a with
  | some c => some c
  | none => findBlock n b
 | _ => none
theorem quiet_add {P : Program} {f : FuncId} {args : Array Value} {w : World} {a n : Nat} {v : Value}
  (h : Calls P f args (w.drewN (a + n)) fun e w' => e = .returned v ∧ ∃ m, w' = (w.drewN (a + n)).drewN m) :
  Calls P f args (w.drewN (a + n)) fun e w'' => e = .returned v ∧ ∃ m, w'' = w.drewN (a + m) :=
 h.mono fun _ _ ⟨he, m, hm⟩ => ⟨he, n + m, by rw [hm, World.drewN_drewN, Nat.add_assoc]⟩
theorem rnd_list (s : S8) (k w : Int) : (rnd s k w).list = [(s.h + Sig1 s.e + chI s.e s.f s.g + k + w + (Sig0 s.a + majI s.a s.b s.c)) % 4294967296, s.a, s.b, s.c, (s.d + (s.h + Sig1 s.e + chI s.e s.f s.g + k + w)) % 4294967296, s.e, s.f, s.g] := by
 simp only [rnd, S8.list, T1, T2]
 generalize s.h + Sig1 s.e + chI s.e s.f s.g + k + w = X
 generalize Sig0 s.a + majI s.a s.b s.c = Y
 have h1 : (X % 4294967296 + Y % 4294967296) % 4294967296 = (X + Y) % 4294967296 := by omega
 have h2 : (s.d + X % 4294967296) % 4294967296 = (s.d + X) % 4294967296 := by omega
 rw [h1, h2]
set_option maxRecDepth 1000000 in
set_option maxHeartbeats 4000000 in
theorem loop6 {u0 u1 u2 u3 u5 u6 u8 u9 u10 u11 u14 u15 u16 u17 u18 u19 u20 u21 u22 u23 u24 u25 u26 u27 u28 u29 u30 u31 u32 u33 u34 u35 u36 u37 u38 u39 u40 u41 u42 u43 u44 u45 u46 u47 u48 u49 u50 u51 u52 u53 u54 u55 u56 u57 u58 u59 u60 u61 u62 u63 u64 u65 u66 u67 u68 u69 u70 u71 u72 u73 u74 u75 u76 u77 u78 u79 u80 u81 u82 u83 u84 u85 u86 u87 u88 u89 u90 u91 u92 u93 u94 u95 u96 u97 u98 u99 u100 u101 u102 u103 u104 u105 u106 u107 u108 u109 u110 u111 u112 u113 u114 u115 u116 u117 u118 u119 u120 u121 u122 u123 u124 u125 u126 u127 u128 u129 u130 u131 u132 u133 u134 u135 u136 u137 u138 u139 u140 u141 u142 u143 u144 u145 u146 u147 u148 u149 u150 u151 u152 u153 u154 u155 u156 u157 u158 u159 u160 u161 u162 u163 u164 u165 u166 u167 u168 u169 u170 u171 u172 u173 u174 u175 u176 u177 u178 u179 u180 u181 u182 u183 u184 u185 u186 u187 u188 u189 u190 u191 u192 u193 u194 u195 u196 u197 u198 u199 u200 u201 u202 u203 u204 u205 u206 u207 u208 u209 u210 u211 u212 u213 u214 u215 u216 u217 u218 u219 u220 u221 u222 u223 u224 u225 u226 u227 u228 u229 u230 u231 u232 u233 u234 u235 u236 u237 u238 u239 u240 u241 u242 u243 u244 u245 u246 u247 u248 u249 u250 u251 u252 u253 u254 u255 u256 u257 u258 u259 u260 u261 u262 u263 u264 u265 u266 u267 u268 u269 u270 u271 u272 u273 u274 u275 u276 u277 u278 u279 u280 u281 u282 u283 u284 u285 u286 u287 u288 u289 u290 u291 u292 u293 u294 u295 u296 u297 u298 u299 u300 u301 u302 u303 u304 : Value} (Q : Exit → Act → World → Prop) (S : S8) (W : List Int) (g4 c4 G gv cv : Nat) (w8 w : World) (hc4 : 64 ≤ c4) (h4 : g4 < w8.heap.size) (hG : G < w8.heap.size) (hcv : 8 ≤ cv) (hgv : w8.heap.size ≤ gv) (hb : Below w8.heap.size w8 w)
  (f4 : ∀ i, i < 64 → w8.cell? ⟨g4, i, none⟩ = some (.int .u32 (Kt[i]?.getD 0))) (fW : ∀ i, i < 64 → w8.cell? ⟨G, i, none⟩ = some (.int .u32 (W[i]?.getD 0)))
  (fv : ∀ j, j < 8 → w.cell? ⟨gv, j, none⟩ = some (.int .u32 (S.list[j]?.getD 0)))
  (hexit : ∀ (x13 x14 x15 x16 x17 x18 x155 x156 x157 x158 x159 x160 x161 x162 x163 x164 x165 x166 x167 x168 x169 x170 x171 x172 x173 x174 x175 x176 x177 x178 x179 x180 x181 x182 x183 x184 x185 x186 x187 x188 x189 x190 x191 x192 x193 x194 x195 x196 x197 x198 x199 x200 x201 x202 x203 x204 x205 x206 x207 x208 x209 x210 x211 x212 x213 x214 x215 x216 x217 x218 x219 x220 x221 x222 x223 x224 x225 x226 x227 x228 x229 x230 x231 x232 x233 x234 x235 x236 x237 x238 x239 x240 x241 x242 x243 x244 x245 x246 x247 x248 x249 x250 x251 x252 x253 x254 x255 x256 x257 x258 x259 x260 x261 x262 x263 x264 x265 x266 x267 x268 x269 x270 x271 : Value) (gv' cv' : Nat) (w' : World), 8 ≤ cv' → w8.heap.size ≤ gv' → Below w8.heap.size w8 w' → (∀ j, j < 8 → w'.cell? ⟨gv', j, none⟩ = some (.int .u32 ((rnds S W 64).list[j]?.getD 0))) → Q (.exit 6) ⟨#[u0, u1, u2, u3, .slice (some ⟨g4, 0, none⟩) 64 c4, u5, u6, .slice (some ⟨G, 0, none⟩) 64 64, u8, u9, u10, u11, .slice (some ⟨gv', 0, none⟩) 8 cv', x13, x14, x15, x16, x17, x18, u19, u20, u21, u22, u23, u24, u25, u26, u27, u28, u29, u30, u31, u32, u33, u34, u35, u36, u37, u38, u39, u40, u41, u42, u43, u44, u45, u46, u47, u48, u49, u50, u51, u52, u53, u54, u55, u56, u57, u58, u59, u60, u61, u62, u63, u64, u65, u66, u67, u68, u69, u70, u71, u72, u73, u74, u75, u76, u77, u78, u79, u80, u81, u82, u83, u84, u85, u86, u87, u88, u89, u90, u91, u92, u93, u94, u95, u96, u97, u98, u99, u100, u101, u102, u103, u104, u105, u106, u107, u108, u109, u110, u111, u112, u113, u114, u115, u116, u117, u118, u119, u120, u121, u122, u123, u124, u125, u126, u127, u128, u129, u130, u131, u132, u133, u134, u135, u136, u137, u138, u139, u140, u141, u142, u143, u144, u145, u146, u147, u148, u149, u150, u151, u152, u153, u154, x155, x156, x157, x158, x159, x160, x161, x162, x163, x164, x165, x166, x167, x168, x169, x170, x171, x172, x173, x174, x175, x176, x177, x178, x179, x180, x181, x182, x183, x184, x185, x186, x187, x188, x189, x190, x191, x192, x193, x194, x195, x196, x197, x198, x199, x200, x201, x202, x203, x204, x205, x206, x207, x208, x209, x210, x211, x212, x213, x214, x215, x216, x217, x218, x219, x220, x221, x222, x223, x224, x225, x226, x227, x228, x229, x230, x231, x232, x233, x234, x235, x236, x237, x238, x239, x240, x241, x242, x243, x244, x245, x246, x247, x248, x249, x250, x251, x252, x253, x254, x255, x256, x257, x258, x259, x260, x261, x262, x263, x264, x265, x266, x267, x268, x269, x270, x271, u272, u273, u274, u275, u276, u277, u278, u279, u280, u281, u282, u283, u284, u285, u286, u287, u288, u289, u290, u291, u292, u293, u294, u295, u296, u297, u298, u299, u300, u301, u302, u303, u304], []⟩ w') :
  Code.wp Tryd.prog ((Tryd.f26.body.bind (findBlock 6)).getD .skip) Q ⟨#[u0, u1, u2, u3, .slice (some ⟨g4, 0, none⟩) 64 c4, u5, u6, .slice (some ⟨G, 0, none⟩) 64 64, u8, u9, u10, u11, .slice (some ⟨gv, 0, none⟩) 8 cv, .int .i64 0, u14, u15, u16, u17, u18, u19, u20, u21, u22, u23, u24, u25, u26, u27, u28, u29, u30, u31, u32, u33, u34, u35, u36, u37, u38, u39, u40, u41, u42, u43, u44, u45, u46, u47, u48, u49, u50, u51, u52, u53, u54, u55, u56, u57, u58, u59, u60, u61, u62, u63, u64, u65, u66, u67, u68, u69, u70, u71, u72, u73, u74, u75, u76, u77, u78, u79, u80, u81, u82, u83, u84, u85, u86, u87, u88, u89, u90, u91, u92, u93, u94, u95, u96, u97, u98, u99, u100, u101, u102, u103, u104, u105, u106, u107, u108, u109, u110, u111, u112, u113, u114, u115, u116, u117, u118, u119, u120, u121, u122, u123, u124, u125, u126, u127, u128, u129, u130, u131, u132, u133, u134, u135, u136, u137, u138, u139, u140, u141, u142, u143, u144, u145, u146, u147, u148, u149, u150, u151, u152, u153, u154, u155, u156, u157, u158, u159, u160, u161, u162, u163, u164, u165, u166, u167, u168, u169, u170, u171, u172, u173, u174, u175, u176, u177, u178, u179, u180, u181, u182, u183, u184, u185, u186, u187, u188, u189, u190, u191, u192, u193, u194, u195, u196, u197, u198, u199, u200, u201, u202, u203, u204, u205, u206, u207, u208, u209, u210, u211, u212, u213, u214, u215, u216, u217, u218, u219, u220, u221, u222, u223, u224, u225, u226, u227, u228, u229, u230, u231, u232, u233, u234, u235, u236, u237, u238, u239, u240, u241, u242, u243, u244, u245, u246, u247, u248, u249, u250, u251, u252, u253, u254, u255, u256, u257, u258, u259, u260, u261, u262, u263, u264, u265, u266, u267, u268, u269, u270, u271, u272, u273, u274, u275, u276, u277, u278, u279, u280, u281, u282, u283, u284, u285, u286, u287, u288, u289, u290, u291, u292, u293, u294, u295, u296, u297, u298, u299, u300, u301, u302, u303, u304], []⟩ w := by
 have HF4 := hid f4
 have HFW := hid fW
 have HFV := hid fv
 have HB := hid hb
 have HQ := hid hexit
 have hz := hb.size
 clear f4 fW fv hb hexit
 conv => arg 2; whnf
 dsimp only
 go_loopw [12, 13] (fun vv tv wx => ∃ (t gv cv : Nat), t ≤ 64 ∧ tv = .int .i64 t ∧ vv = .slice (some ⟨gv, 0, none⟩) 8 cv ∧ 8 ≤ cv ∧ w8.heap.size ≤ gv ∧ Below w8.heap.size w8 wx ∧ (∀ j, j < 8 → wx.cell? ⟨gv, j, none⟩ = some (.int .u32 ((rnds S W t).list[j]?.getD 0)))) (fun _ tv _ => 64 - (intOf tv).toNat)
 case atStart => exact ⟨0, gv, _, by omega, rfl, rfl, hcv, hgv, HB.out, HFV.out⟩
 case round =>
  clear HFV HB hz hcv hgv
  obtain ⟨t, gv, cv, ht, rfl, rfl, hcv8, hgv, hbx, hcl⟩ := hrel
  have HBX := hid hbx
  have HCL := hid hcl
  have hzr := hbx.size
  clear hbx hcl
  by_cases hlt : t < 64
  ·have hti : (t : Int) < 64 := by omega
   have hcvi : (8 : Int) ≤ (cv : Int) := by omega
   have hc4i : (64 : Int) ≤ (c4 : Int) := by omega
   generalize hs4 : rnds S W t = s at *
   have HS4 := hid hs4
   have ck := (HBX.out.cell (p := ⟨g4, t, none⟩) h4).trans (HF4.out t hlt)
   have cw := (HBX.out.cell (p := ⟨G, t, none⟩) hG).trans (HFW.out t hlt)
   generalize hkk : Kt[t]?.getD 0 = kk at *
   generalize hww : W[t]?.getD 0 = ww at *
   have HKK := hid hkk
   have HWW := hid hww
   have c0 : wr.cell? ⟨gv, 0, none⟩ = some (.int .u32 s.a) := HCL.out 0 (by omega)
   have c1 : wr.cell? ⟨gv, 1, none⟩ = some (.int .u32 s.b) := HCL.out 1 (by omega)
   have c2 : wr.cell? ⟨gv, 2, none⟩ = some (.int .u32 s.c) := HCL.out 2 (by omega)
   have c3 : wr.cell? ⟨gv, 3, none⟩ = some (.int .u32 s.d) := HCL.out 3 (by omega)
   have c4 : wr.cell? ⟨gv, 4, none⟩ = some (.int .u32 s.e) := HCL.out 4 (by omega)
   have c5 : wr.cell? ⟨gv, 5, none⟩ = some (.int .u32 s.f) := HCL.out 5 (by omega)
   have c6 : wr.cell? ⟨gv, 6, none⟩ = some (.int .u32 s.g) := HCL.out 6 (by omega)
   have c7 : wr.cell? ⟨gv, 7, none⟩ = some (.int .u32 s.h) := HCL.out 7 (by omega)
   clear hs4 hkk hww HCL
   go_wp2
   go_quiet ((go_at_call 50; first | exact Calls.quiet_of ((rot_any _ _ _ (by omega) (by omega)).mono fun _ _ ⟨h, he⟩ => ⟨he, h⟩) | exact quiet_add ((rot_any _ _ _ (by omega) (by omega)).mono fun _ _ ⟨h, he⟩ => ⟨he, h⟩)))
   go_wp2
   go_quiet (fail)
   go_wp2
   go_quiet (fail)
   go_wp2
   go_quiet ((go_at_call 50; first | exact Calls.quiet_of ((rot_any _ _ _ (by omega) (by omega)).mono fun _ _ ⟨h, he⟩ => ⟨he, h⟩) | exact quiet_add ((rot_any _ _ _ (by omega) (by omega)).mono fun _ _ ⟨h, he⟩ => ⟨he, h⟩)))
   go_wp2
   go_quiet (fail)
   go_wp2
   refine (fun (h : ∀ wz, wz = _ → Code.wp Tryd.prog _ _ _ wz) => h _ rfl) ?_
   intro wz hwz
   have d0 : wz.cell? ⟨gv, 0, none⟩ = some (.int .u32 s.a) := by rw [hwz]; exact c0
   have d1 : wz.cell? ⟨gv, 1, none⟩ = some (.int .u32 s.b) := by rw [hwz]; exact c1
   have d2 : wz.cell? ⟨gv, 2, none⟩ = some (.int .u32 s.c) := by rw [hwz]; exact c2
   have d3 : wz.cell? ⟨gv, 3, none⟩ = some (.int .u32 s.d) := by rw [hwz]; exact c3
   have d4 : wz.cell? ⟨gv, 4, none⟩ = some (.int .u32 s.e) := by rw [hwz]; exact c4
   have d5 : wz.cell? ⟨gv, 5, none⟩ = some (.int .u32 s.f) := by rw [hwz]; exact c5
   have d6 : wz.cell? ⟨gv, 6, none⟩ = some (.int .u32 s.g) := by rw [hwz]; exact c6
   have HZ := hid (show Below w8.heap.size w8 wz by rw [hwz]; exact ⟨HBX.out.os, HBX.out.tape, HBX.out.output, HBX.out.size, HBX.out.block⟩)
   clear hwz c0 c1 c2 c3 c4 c5 c6 c7 ck cw
   go_still_tail 26, (by kernel_rfl)
   change wpList _ _ _ _ _ wz.drew
   have hzz := HZ.out.size
   clear d0 d1 d2 d3 d4 d5 d6
   go_wp2
   refine ⟨⟨t + 1, wz.heap.size, 8, by omega, by go_num, rfl, by omega, hzz, (HZ.out.alloc hzz _).drew, fun j hj => ?_⟩, by simp [intOf]; omega⟩
   refine (cell_of_row (wz.alloc _) wz.heap.size j _ _ _ (heap_alloc_new wz _)).trans ?_
   rw [show rnds S W (t + 1) = rnd s kk ww by rw [rnds, HS4.out, HKK.out, HWW.out], rnd_list]
   match j, hj with
   | 0, _ => rfl
   | 1, _ => rfl
   | 2, _ => rfl
   | 3, _ => rfl
   | 4, _ => rfl
   | 5, _ => rfl
   | 6, _ => rfl
   | 7, _ => rfl
  ·obtain rfl : t = 64 := by omega
   go_wp2
   exact HQ.out _ _ _ _ _ _ _ _ _ _ _ _ _ _ _ _ _ _ _ _ _ _ _ _ _ _ _ _ _ _ _ _ _ _ _ _ _ _ _ _ _ _ _ _ _ _ _ _ _ _ _ _ _ _ _ _ _ _ _ _ _ _ _ _ _ _ _ _ _ _ _ _ _ _ _ _ _ _ _ _ _ _ _ _ _ _ _ _ _ _ _ _ _ _ _ _ _ _ _ _ _ _ _ _ _ _ _ _ _ _ _ _ _ _ _ _ _ _ _ _ _ _ _ _ _ _ hcv8 hgv HBX.out HCL.out
end Go.Proofs.YtbmlkocpjboodaaDoor
