import Derived.WalkKit
import Derived.ProofKit
import Derived.BigQuiet
import Derived.Deep.QuietTactic
import Derived.WalkSpells
import Derived.WalkLawsBesides
import Derived.Lib.Hide
import Derived.Deep.MidRow
import Derived.Deep.WholeRow
import Derived.BigFrame
import Derived.Maps.RangeWalk
import Derived.Laws.CopyOwn
import Derived.StillTailTactics
import Derived.Test.YtbmlkocpjboodaaDoorRows
import Derived.Deep.RegionWith
import Derived.Deep.RegionHeld3
namespace Go.Proofs.YtbmlkocpjboodaaDoor
open Go.RowKit
open Go.Lib (hid)
theorem sA {α : Type _} (l : List α) (i : Nat) (a : α) : l.toArray.setIfInBounds i a = (l.set i a).toArray := List.setIfInBounds_toArray ..
theorem sB {α : Type _} {x : α} {xs : List α} {a : α} : (x :: xs).set 0 a = a :: xs := List.set_cons_zero ..
theorem sC {α : Type _} {x : α} {xs : List α} {n : Nat} {a : α} : (x :: xs).set (n + 1) a = x :: xs.set n a := List.set_cons_succ ..
theorem tk {P : Program} {ops : Array Oper} {Q : Exit → Act → World → Prop} {md : Region.Mode} {S : World → Prop} {i : Nat} {oi : Oper} {v : Value} {fuel : Nat} {listed : Array Bool} {a : Act} {w : World} (hy : YieldsIf P ops S oi v a)
  (h : wpAnyH P md ops Q S fuel (listed.setIfInBounds i true) (a.put oi.dst v) w) (hi : ops[i]? = some oi := by rfl) (hs : Region.noSelect ops = true := by kernel_rfl) (hf : Region.free md ops listed i = true := by kernel_rfl) (hr : (Region.ready md ops listed).contains i = true := by kernel_rfl)
  (hQ : ∀ c a w, Q (.panic c) (a.put oi.dst v) w → Q (.panic c) a w := by exact fun _ _ _ h => h) (hS : S w := by assumption) : wpAnyH P md ops Q S (fuel + 1) listed a w := wpAnyH_take hi hs hf hr hQ hy hS h
def rotI (x : Int) (n : Nat) : Int := bits BinOp.or IntKind.u32 (x / 2 ^ n) (x * 2 ^ (32 - n) % 4294967296)
def zeros (n : Nat) : List Int := List.replicate n 0
def wordAt (bs : List Int) (t : Nat) : Int :=
 bits .or .u32 (bits .or .u32 (bits .or .u32 (bs[4 * t]?.getD 0 % 4294967296 * 16777216 % 4294967296) (bs[4 * t + 1]?.getD 0 % 4294967296 * 65536 % 4294967296)) (bs[4 * t + 2]?.getD 0 % 4294967296 * 256 % 4294967296)) (bs[4 * t + 3]?.getD 0 % 4294967296)
def sig0 (x : Int) : Int := bits BinOp.xor IntKind.u32 (bits BinOp.xor IntKind.u32 (rotI x 7) (rotI x 18)) (x / 8)
def sig1 (x : Int) : Int := bits BinOp.xor IntKind.u32 (bits BinOp.xor IntKind.u32 (rotI x 17) (rotI x 19)) (x / 1024)
def nextW (l : List Int) (t : Nat) : Int :=
 (sig1 (l[t - 2]?.getD 0) + l[t - 7]?.getD 0 + sig0 (l[t - 15]?.getD 0) + l[t - 16]?.getD 0) % 4294967296
def sched (bs : List Int) : Nat → List Int
 | 0 => []
 | t + 1 => sched bs t ++ [if t < 16 then wordAt bs t else nextW (sched bs t) t]
theorem sched_len (bs : List Int) (t : Nat) : (sched bs t).length = t := by
 induction t with
 | zero => rfl
 | succ t ih => simp [sched, ih]
def SW (bs : List Int) (k : Nat) : Array Value := ((sched bs k ++ zeros (64 - k)).map (Value.int .u32)).toArray
def ArrU8 (bs : List Int) : Array Value := (bs.map (Value.int .u8)).toArray
theorem ArrU8_get (bs : List Int) (i : Nat) (h : i < bs.length) : (ArrU8 bs)[i]? = some (.int .u8 (bs[i]?.getD 0)) := by
 simp [ArrU8, h]
theorem SW_size (bs : List Int) (k : Nat) (hk : k ≤ 64) : (SW bs k).size = 64 := by
 simp [SW, sched_len, zeros]; omega
theorem SW_get (bs : List Int) (k : Nat) (hk : k ≤ 64) (i : Nat) (hi : i < 64) : ∃ x, (SW bs k)[i]? = some (.int .u32 x) := by
 have : i < (SW bs k).size := by rw [SW_size bs k hk]; exact hi
 rw [Array.getElem?_eq_getElem this]
 simp only [SW, List.getElem_toArray, List.getElem_map]
 exact ⟨_, rfl⟩
theorem SW_set (bs : List Int) (k : Nat) (hk : k < 64) (x : Int) (hx : x = if k < 16 then wordAt bs k else nextW (sched bs k) k) : (SW bs k).setIfInBounds k (.int .u32 x) = SW bs (k + 1) := by
 subst hx
 have hl := sched_len bs k
 simp only [SW, sched, zeros]
 rw [sA]
 congr 1
 rw [show 64 - k = (64 - (k + 1)) + 1 by omega, List.replicate_succ]
 simp [hl]
theorem SW_at (bs : List Int) (k : Nat) (i : Nat) (hi : i < k) : (SW bs k)[i]? = some (.int .u32 ((sched bs k)[i]?.getD 0)) := by
 have hl := sched_len bs k
 simp [SW, List.getElem?_append, hl, hi]
theorem SW_one (bs : List Int) (k : Nat) : (SW bs k).all (·.oneCell') = true := by
 simp [SW, Value.oneCell']
def Kt : List Int := [1116352408, 1899447441, 3049323471, 3921009573, 961987163, 1508970993, 2453635748, 2870763221, 3624381080, 310598401, 607225278, 1426881987, 1925078388, 2162078206, 2614888103, 3248222580, 3835390401, 4022224774, 264347078, 604807628, 770255983, 1249150122, 1555081692, 1996064986, 2554220882, 2821834349, 2952996808, 3210313671, 3336571891, 3584528711, 113926993, 338241895, 666307205, 773529912, 1294757372, 1396182291, 1695183700, 1986661051, 2177026350, 2456956037, 2730485921, 2820302411, 3259730800, 3345764771, 3516065817, 3600352804, 4094571909, 275423344, 430227734, 506948616, 659060556, 883997877, 958139571, 1322822218, 1537002063, 1747873779, 1955562222, 2024104815, 2227730452, 2361852424, 2428436474, 2756734187, 3204031479, 3329325298]
structure S8 where
 a : Int
 b : Int
 c : Int
 d : Int
 e : Int
 f : Int
 g : Int
 h : Int
def S8.list (s : S8) : List Int := [s.a, s.b, s.c, s.d, s.e, s.f, s.g, s.h]
def ArrU32 (l : List Int) : Array Value := (l.map (Value.int .u32)).toArray
def Sig0 (x : Int) : Int := bits BinOp.xor IntKind.u32 (bits BinOp.xor IntKind.u32 (rotI x 2) (rotI x 13)) (rotI x 22)
def Sig1 (x : Int) : Int := bits BinOp.xor IntKind.u32 (bits BinOp.xor IntKind.u32 (rotI x 6) (rotI x 11)) (rotI x 25)
def chI (e f g : Int) : Int := bits BinOp.xor IntKind.u32 (bits BinOp.and IntKind.u32 e f) (bits BinOp.and IntKind.u32 (bits BinOp.xor IntKind.u32 (if IntKind.u32.signed = true then -1 else IntKind.u32.max) e) g)
def majI (a b c : Int) : Int := bits BinOp.xor IntKind.u32 (bits BinOp.xor IntKind.u32 (bits BinOp.and IntKind.u32 a b) (bits BinOp.and IntKind.u32 a c)) (bits BinOp.and IntKind.u32 b c)
def T1 (s : S8) (k w : Int) : Int := (s.h + Sig1 s.e + chI s.e s.f s.g + k + w) % 4294967296
def T2 (s : S8) : Int := (Sig0 s.a + majI s.a s.b s.c) % 4294967296
def rnd (s : S8) (k w : Int) : S8 := ⟨(T1 s k w + T2 s) % 4294967296, s.a, s.b, s.c, (s.d + T1 s k w) % 4294967296, s.e, s.f, s.g⟩
def rnds (s : S8) (W : List Int) : Nat → S8
 | 0 => s
 | t + 1 => rnd (rnds s W t) (Kt[t]?.getD 0) (W[t]?.getD 0)
def addS (s v : S8) : S8 := ⟨(s.a + v.a) % 4294967296, (s.b + v.b) % 4294967296, (s.c + v.c) % 4294967296, (s.d + v.d) % 4294967296, (s.e + v.e) % 4294967296, (s.f + v.f) % 4294967296, (s.g + v.g) % 4294967296, (s.h + v.h) % 4294967296⟩
/-- one block -/
def compress (s : S8) (bs : List Int) : S8 := addS s (rnds s (sched bs 64) 64)
def addL (st v : List Int) (i : Nat) : List Int := (List.zipWith (fun a b => (a + b) % 4294967296) st v).take i ++ st.drop i
theorem addL_get (st v : List Int) (i : Nat) (hs : st.length = 8) (hv : v.length = 8) (hi : i < 8) : (ArrU32 (addL st v i))[i]? = some (.int .u32 (st[i]?.getD 0)) := by
 have h2 : i < st.length := by omega
 simp only [ArrU32, addL, List.getElem?_toArray, List.getElem?_map]
 rw [List.getElem?_append_right (by simp; omega)]
 simp only [List.length_take, List.length_zipWith, hs, hv, Nat.min_self, Nat.min_eq_left (Nat.le_of_lt hi), Nat.sub_self, List.getElem?_drop, Nat.add_zero]
 rw [List.getElem?_eq_getElem h2]; rfl
theorem addL_set (st v : List Int) (i : Nat) (hs : st.length = 8) (hv : v.length = 8) (hi : i < 8) (x : Int) (hx : x = (st[i]?.getD 0 + v[i]?.getD 0) % 4294967296) :
  (ArrU32 (addL st v i)).setIfInBounds i (.int .u32 x) = ArrU32 (addL st v (i + 1)) := by
 subst hx
 apply Array.ext_getElem?
 intro j
 simp only [ArrU32, addL, sA, List.getElem?_toArray, List.getElem?_set, List.length_map, List.getElem?_map]
 by_cases hj : i = j
 ·subst hj
  have h2 : i < st.length := by omega
  have h3 : i < v.length := by omega
  rw [if_pos rfl, if_pos (by simp; omega), List.getElem?_append_left (by simp; omega)]
  rw [List.getElem?_take, if_pos (by omega), List.getElem?_eq_getElem (l := List.zipWith _ st v) (by simp; omega)]
  rw [List.getElem_zipWith, List.getElem?_eq_getElem h2, List.getElem?_eq_getElem h3]
  rfl
 ·rw [if_neg hj]
  congr 1
  by_cases h : j < i
  ·rw [List.getElem?_append_left (by simp; omega), List.getElem?_append_left (by simp; omega)]
   simp only [List.getElem?_take]
   rw [if_pos h, if_pos (by omega)]
  ·rw [List.getElem?_append_right (by simp; omega), List.getElem?_append_right (by simp; omega)]
   simp only [List.length_take, List.length_zipWith, hs, hv, List.getElem?_drop]
   congr 1; omega
theorem addL_end (s v : S8) : ArrU32 (addL s.list v.list 8) = ArrU32 (addS s v).list := by
 simp [addL, S8.list, addS]
theorem ArrU32_one (l : List Int) : (ArrU32 l).all (·.oneCell') = true := by
 simp [ArrU32, Value.oneCell']
end Go.Proofs.YtbmlkocpjboodaaDoor
namespace Go.Proofs.YtbmlkocpjboodaaDoor
open Go.RowKit
open Go.Lib (hid)
theorem rotated_any (x c : Int) (w : World) (h0 : 0 < c) (h1 : c < 32) :
  Calls Tryd.prog 105 #[.int .u32 x, .int .u64 c] w fun e w' => w = w' ∧ e = .returned (.int .u32 (rotI x c.toNat)) := by
 obtain ⟨n, rfl⟩ : ∃ n : Nat, c = n := ⟨c.toNat, by omega⟩
 have g0 : 0 < n := by omega
 have g1 : n < 32 := by omega
 clear h0 h1
 go_enter Tryd.func105, Tryd.ntmps105
 go_wp2
 go_ret
 exact ⟨rfl, by simp [rotI]⟩

set_option maxRecDepth 100000 in
set_option maxHeartbeats 400000 in
theorem schedule_any (bs : List Int) (w : World) (hb : bs.length = 64) :
  Calls Tryd.prog 104 #[.agg (ArrU8 bs)] w fun e w' => Below w.heap.size w w' ∧ e = .returned (.agg (SW bs 64)) := by
 have HB : Hid (bs.length = 64) := hb
 clear hb
 have Z : SW bs 0 = (List.replicate 64 (Value.int .u32 0)).toArray := by simp [SW, sched, zeros]
 have HZ := hid Z
 clear Z
 go_enter Tryd.func104, Tryd.ntmps104
 go_wp2
 go_loopw [4, 10] (fun _ i wr => ∃ k : Nat, k ≤ 16 ∧ i = .int .i64 k ∧ Below w.heap.size w wr ∧ w.heap.size + 2 < wr.heap.size ∧ wr.heap[w.heap.size]? = some (.cells (ArrU8 bs) 152 (0,0)) ∧
   wr.heap[w.heap.size+1]? = some (.cells (SW bs 0) 160 (0,0)) ∧ wr.heap[w.heap.size+2]? = some (.cells (SW bs k) 160 (0,0))) (fun _ i _ => 16 - (intOf i).toNat)
 case atStart =>
  refine ⟨0, by omega, rfl, ?_, ?_, ?_, ?_, ?_⟩
  ·exact (((Below.refl _ _).alloc (Nat.le_refl _) _).alloc (by simp) _).alloc (by simp; omega) _
  ·simp
  ·show (((w.heap.push _).push _).push _)[w.heap.size]? = _; simp only [Array.getElem?_push, Array.size_push]; rw [if_neg (by omega), if_neg (by omega), if_pos trivial]
  ·show (((w.heap.push _).push _).push _)[w.heap.size + 1]? = _; simp only [Array.getElem?_push, Array.size_push]; rw [if_neg (by omega), if_pos trivial, HZ.out]; rfl
  ·show (((w.heap.push _).push _).push _)[w.heap.size + 2]? = _; simp only [Array.getElem?_push, Array.size_push]; rw [if_pos trivial, HZ.out]; rfl
 case round =>
  obtain ⟨k, hk, rfl, hbw, hsz, h0, h1, h2⟩ := hrel
  by_cases hlt : k < 16
  ·have c0 := (cell_of_row wr _ (4*k) _ _ _ h0).trans (ArrU8_get bs (4*k) (by rw [HB.out]; omega))
   have c1 := (cell_of_row wr _ (4*k+1) _ _ _ h0).trans (ArrU8_get bs (4*k+1) (by rw [HB.out]; omega))
   have c2 := (cell_of_row wr _ (4*k+2) _ _ _ h0).trans (ArrU8_get bs (4*k+2) (by rw [HB.out]; omega))
   have c3 := (cell_of_row wr _ (4*k+3) _ _ _ h0).trans (ArrU8_get bs (4*k+3) (by rw [HB.out]; omega))
   obtain ⟨old, ho⟩ := SW_get bs k (by omega) k (by omega)
   have cs := (cell_of_row wr _ k _ _ _ h2).trans ho
   have fs := frozen_of_row wr _ k _ _ h2
   have H0 := hid h0
   have H1 := hid h1
   have H2 := hid h2
   have w0 : IntKind.i64.wrap (4 * (k:Int)) = 4 * (k:Int) := IntWalk.i64_in _ (by omega)
   have w1 : IntKind.i64.wrap (4 * (k:Int) + 1) = 4 * (k:Int) + 1 := IntWalk.i64_in _ (by omega)
   have w2 : IntKind.i64.wrap (4 * (k:Int) + 2) = 4 * (k:Int) + 2 := IntWalk.i64_in _ (by omega)
   have w3 : IntKind.i64.wrap (4 * (k:Int) + 3) = 4 * (k:Int) + 3 := IntWalk.i64_in _ (by omega)
   have n0 : 0 ≤ 4 * (k:Int) := by omega
   have n1 : 0 ≤ 4 * (k:Int) + 1 := by omega
   have n2 : 0 ≤ 4 * (k:Int) + 2 := by omega
   have n3 : 0 ≤ 4 * (k:Int) + 3 := by omega
   have b0 : 4 * (k:Int) < 64 := by omega
   have b1 : 4 * (k:Int) + 1 < 64 := by omega
   have b2 : 4 * (k:Int) + 2 < 64 := by omega
   have b3 : 4 * (k:Int) + 3 < 64 := by omega
   have b4 : (k:Int) < 64 := by omega
   have t0 : (4 * (k:Int)).toNat = 4 * k := by omega
   have t1 : (4 * (k:Int) + 1).toNat = 4 * k + 1 := by omega
   have t2 : (4 * (k:Int) + 2).toNat = 4 * k + 2 := by omega
   have t3 : (4 * (k:Int) + 3).toNat = 4 * k + 3 := by omega
   clear h0 h1 h2 ho
   go_wp2
   go_still_tail 31, (by kernel_rfl)
   clear w0 w1 w2 w3 n0 n1 n2 n3 b0 b1 b2 b3 t0 t1 t2 t3 c0 c1 c2 c3
   change wpList _ _ _ _ _ wr.drew
   go_wp2
   go_roundw
   case rel =>
    refine ⟨k + 1, by omega, by go_num, ?_, ?_, ?_, ?_, ?_⟩
    ·exact (hbw.setCell (by simp; omega) _).drew
    ·simpa [World.setCell] using hsz
    ·exact (heap_setCell_other _ _ _ _ (by simp; omega)).trans H0.out
    ·exact (heap_setCell_other _ _ _ _ (by simp)).trans H1.out
    ·refine (heap_setCell_same _ _ _ _ _ _ H2.out).trans ?_
     rw [SW_set bs k (by omega) _ (by rw [if_pos hlt]; rfl)]
   case measure => simp [intOf]; omega
  ·have hk16 : k = 16 := by omega
   rw [hk16] at h2
   clear hk16
   have hk16 : 16 ≤ k := by omega
   clear hlt
   have H0 := hid h0
   have H1 := hid h1
   have H2 := hid h2
   have HBW := hid hbw
   clear h0 h1 h2 hbw
   go_wp2
   have h0 := H0.out
   have h1 := H1.out
   have h2 := H2.out
   have hbw := HBW.out
   clear H0 H1 H2 HBW
   go_loopw [5] (fun i wx => ∃ t : Nat, 16 ≤ t ∧ t ≤ 64 ∧ i = .int .i64 t ∧ Below w.heap.size w wx ∧ w.heap.size + 2 < wx.heap.size ∧
     wx.heap[w.heap.size+1]? = some (.cells (SW bs 0) 160 (0,0)) ∧ wx.heap[w.heap.size+2]? = some (.cells (SW bs t) 160 (0,0))) (fun i _ => 64 - (intOf i).toNat)
   case atStart => exact ⟨16, by omega, by omega, rfl, hbw, hsz, h1, h2⟩
   case round =>
    clear hbw hsz h0 h1 h2
    obtain ⟨t, ht, ht2, rfl, hbw, hsz, h1, h2⟩ := hrel
    by_cases hlt : t < 64
    ·have c15 := (cell_of_row wr _ (t-15) _ _ _ h2).trans (SW_at bs t (t-15) (by omega))
     have c2 := (cell_of_row wr _ (t-2) _ _ _ h2).trans (SW_at bs t (t-2) (by omega))
     have c7 := (cell_of_row wr _ (t-7) _ _ _ h2).trans (SW_at bs t (t-7) (by omega))
     have c16 := (cell_of_row wr _ (t-16) _ _ _ h2).trans (SW_at bs t (t-16) (by omega))
     obtain ⟨old, ho⟩ := SW_get bs t (by omega) t (by omega)
     have cs := (cell_of_row wr _ t _ _ _ h2).trans ho
     have fs := frozen_of_row wr _ t _ _ h2
     have H1 := hid h1
     have H2 := hid h2
     generalize hL : sched bs t = L at c15 c2 c7 c16
     have HL := hid hL
     have w15 : IntKind.i64.wrap ((t:Int) - 15) = (t:Int) - 15 := IntWalk.i64_in _ (by omega)
     have w2 : IntKind.i64.wrap ((t:Int) - 2) = (t:Int) - 2 := IntWalk.i64_in _ (by omega)
     have w7 : IntKind.i64.wrap ((t:Int) - 7) = (t:Int) - 7 := IntWalk.i64_in _ (by omega)
     have w16 : IntKind.i64.wrap ((t:Int) - 16) = (t:Int) - 16 := IntWalk.i64_in _ (by omega)
     have n15 : 0 ≤ (t:Int) - 15 := by omega
     have n2 : 0 ≤ (t:Int) - 2 := by omega
     have n7 : 0 ≤ (t:Int) - 7 := by omega
     have n16 : 0 ≤ (t:Int) - 16 := by omega
     have b15 : (t:Int) - 15 < 64 := by omega
     have b2 : (t:Int) - 2 < 64 := by omega
     have b7 : (t:Int) - 7 < 64 := by omega
     have b16 : (t:Int) - 16 < 64 := by omega
     have b4 : (t:Int) < 64 := by omega
     have m7 : 7 ≤ (t:Int) := by omega
     have m16 : 16 ≤ (t:Int) := by omega
     have t15 : ((t:Int) - 15).toNat = t - 15 := by omega
     have t2 : ((t:Int) - 2).toNat = t - 2 := by omega
     have t7 : ((t:Int) - 7).toNat = t - 7 := by omega
     have t16 : ((t:Int) - 16).toNat = t - 16 := by omega
     clear h1 h2 ho hL
     go_wp2
     go_quiet (fail)
     go_wp2_with (go_at_call 105; refine (rotated_any _ _ _ (by omega) (by omega)).mono ?_; rintro e w' ⟨rfl, rfl⟩)
     obtain ⟨wq, hwq⟩ : ∃ x, x = wr.drewN nq := ⟨_, rfl⟩
     rw [← hwq]
     have d7 : wq.cell? ⟨w.heap.size + 1 + 1, t - 7, none⟩ = some (.int .u32 (L[t-7]?.getD 0)) := by rw [hwq]; exact c7
     have d16 : wq.cell? ⟨w.heap.size + 1 + 1, t - 16, none⟩ = some (.int .u32 (L[t-16]?.getD 0)) := by rw [hwq]; exact c16
     have ds : wq.cell? ⟨w.heap.size + 1 + 1, t, none⟩ = some (.int .u32 old) := by rw [hwq]; exact cs
     have dfs : wq.frozen? ⟨w.heap.size + 1 + 1, t, none⟩ = false := by rw [hwq]; exact fs
     have hh : wq.heap = wr.heap := by rw [hwq]; rfl
     have hbq : Below w.heap.size w wq := by rw [hwq]; exact below_drewN hbw nq
     have HH := hid hh
     clear hwq c15 c2 c7 c16 cs fs hh hbw
     go_still_tail 15, (by kernel_rfl)
     clear w15 w2 w7 w16 n15 n2 n7 n16 b15 b2 b7 b16 b4 t15 t2 t7 t16 m7 m16
     change wpList _ _ _ _ _ wq.drew
     go_wp2
     go_roundw
     case rel =>
      refine ⟨t + 1, by omega, by omega, by go_num, ?_, ?_, ?_, ?_⟩
      ·exact (hbq.setCell (by simp; omega) _).drew
      ·simpa [World.setCell, HH.out] using hsz
      ·exact (heap_setCell_other _ _ _ _ (by simp)).trans ((congrArg (fun h => h[w.heap.size+1]?) HH.out).trans H1.out)
      ·refine (heap_setCell_same _ _ _ _ _ _ ((congrArg (fun h => h[w.heap.size+2]?) HH.out).trans H2.out)).trans ?_
       rw [SW_set bs t (by omega) _ (by rw [if_neg (by omega), HL.out]; rfl)]
     case measure => simp [intOf]; omega
    ·obtain rfl : t = 64 := by omega
     have H1 := hid h1
     have H2 := hid h2
     clear h1 h2
     have HI := hid (show (Tryd.prog.info? 160).map (·.size) = some (SW bs 64).size by rw [SW_size bs 64 (by omega)]; kernel_rfl)
     go_wp2_with (first | (refine wpList_load_row rfl 160 (Operand.tmp 3) rfl (w.heap.size+1+1) rfl 160 (SW bs 64) (0,0) _ H2.out Tryd.underlying160 rfl HI.out ?_) | (refine wpList_store_row rfl 160 (Operand.tmp 2) (Operand.tmp 88) rfl (w.heap.size+1) (SW bs 64) rfl rfl 160 (SW bs 0) H1.out HI.out (by rw [SW_size bs 64 (by omega), SW_size bs 0 (by omega)]) (SW_one bs 64) ?_))
     refine bodyPost_ret (results_cell_row rfl _ _ (w.heap.size+1) 160 (SW bs 64) (0,0) _ rfl (setRow_heap _ _ _ _ _ _ H1.out) Tryd.underlying160 rfl HI.out) rfl ⟨?_, rfl⟩
     exact below_setRow hbw (by omega) _
theorem idx57 (x0 x1 x2 x3 x4 x5 x6 x7 : Int) (i : Nat) (u : World) (hi : i < 8) :
  (Instr.index 151 (.agg #[.int .u32 x0, .int .u32 x1, .int .u32 x2, .int .u32 x3, .int .u32 x4, .int .u32 x5, .int .u32 x6, .int .u32 x7]) (.int .i64 i)).run Tryd.prog u = .ok (.int .u32 ([x0, x1, x2, x3, x4, x5, x6, x7][i]?.getD 0)) u :=
 match i, hi with
 | 0, _ => by kernel_rfl
 | 1, _ => by kernel_rfl
 | 2, _ => by kernel_rfl
 | 3, _ => by kernel_rfl
 | 4, _ => by kernel_rfl
 | 5, _ => by kernel_rfl
 | 6, _ => by kernel_rfl
 | 7, _ => by kernel_rfl
set_option maxRecDepth 100000 in
set_option maxHeartbeats 400000 in
theorem compressed_any (s : S8) (bs : List Int) (w : World) (hb : bs.length = 64) (h0 : 1 < w.heap.size) (hK : ∀ t, t < 64 → w.cell? ⟨1, t, none⟩ = some (.int .u32 (Kt[t]?.getD 0))) :
  Calls Tryd.prog 99 #[.agg #[.int .u32 s.a, .int .u32 s.b, .int .u32 s.c, .int .u32 s.d, .int .u32 s.e, .int .u32 s.f, .int .u32 s.g, .int .u32 s.h], .agg (ArrU8 bs)] w fun e w' => Below w.heap.size w w' ∧ e = .returned (.agg (ArrU32 (compress s bs).list)) := by
 have HB := hid hb
 have HI58 := hid (show (Tryd.prog.info? 152).map (·.size) = some (ArrU8 bs).size by rw [show (ArrU8 bs).size = 64 by simp [ArrU8, hb]]; kernel_rfl)
 have HI65 := hid (show (Tryd.prog.info? 160).map (·.size) = some (SW bs 64).size by rw [SW_size bs 64 (by omega)]; kernel_rfl)
 have HK := hid hK
 clear hb hK
 obtain ⟨a, b, c, d, e, f, g, h⟩ := s
 go_enter Tryd.func99, Tryd.ntmps99
 go_wp2_with (first | (refine wpList_load_row rfl 152 (Operand.tmp 3) rfl (w.heap.size+1) rfl 152 (ArrU8 bs) (0,0) _ (by show (((w.heap.push _).push _).push _)[w.heap.size + 1]? = _; simp only [Array.getElem?_push, Array.size_push]; rw [if_neg (by omega), if_pos trivial]) Tryd.underlying152 rfl HI58.out ?_) | fail)
 refine (schedule_any bs _ HB.out).mono ?_
 rintro e w2 ⟨hb2, rfl⟩
 have hsz2 : w.heap.size + 3 ≤ w2.heap.size := by have := hb2.size; simp at this; omega
 have hst : w2.heap[w.heap.size]? = some (.cells #[.int .u32 a, .int .u32 b, .int .u32 c, .int .u32 d, .int .u32 e, .int .u32 f, .int .u32 g, .int .u32 h] 151 (0,0)) := by
  refine (hb2.block _ (by simp; omega)).trans ?_
  show (((w.heap.push _).push _).push _)[w.heap.size]? = _; simp only [Array.getElem?_push, Array.size_push]; rw [if_neg (by omega), if_neg (by omega), if_pos trivial]
 have hre : w2.heap[w.heap.size + 2]? = some (.cells #[.int .u32 0, .int .u32 0, .int .u32 0, .int .u32 0, .int .u32 0, .int .u32 0, .int .u32 0, .int .u32 0] 151 (0,0)) := by
  refine (hb2.block _ (by simp)).trans ?_
  show (((w.heap.push _).push _).push _)[w.heap.size + 2]? = _; simp only [Array.getElem?_push, Array.size_push]; rw [if_pos trivial]
 have hbw2 : Below w.heap.size w w2 := ((((Below.refl _ _).alloc (Nat.le_refl _) _).alloc (by simp) _).alloc (by simp; omega) _).trans (hb2.mono (by simp; omega))
 have HST := hid hst
 have HRE := hid hre
 have HBW := hid hbw2
 clear hst hre hbw2 hb2
 go_wp2_with (first | (refine wpList_store_row rfl 160 (Operand.tmp 5) (Operand.tmp 22) rfl w2.heap.size (SW bs 64) rfl rfl 160 _ (heap_alloc_new _ _) HI65.out (by rw [SW_size bs 64 (by omega)]; rfl) (SW_one bs 64) ?_) | fail)
 go_frame
 rw [World.setRow_alloc_new]
 have hbw3 : Below w.heap.size w (w2.alloc (.cells (SW bs 64) 160)) := HBW.out.alloc (by omega) _
 have hst3 : (w2.alloc (.cells (SW bs 64) 160)).heap[w.heap.size]? = some (.cells #[.int .u32 a, .int .u32 b, .int .u32 c, .int .u32 d, .int .u32 e, .int .u32 f, .int .u32 g, .int .u32 h] 151 (0,0)) := (heap_alloc_old _ _ (by omega)).trans HST.out
 have hre3 : (w2.alloc (.cells (SW bs 64) 160)).heap[w.heap.size + 2]? = some (.cells #[.int .u32 0, .int .u32 0, .int .u32 0, .int .u32 0, .int .u32 0, .int .u32 0, .int .u32 0, .int .u32 0] 151 (0,0)) := (heap_alloc_old _ _ (by omega)).trans HRE.out
 have hsw3 : (w2.alloc (.cells (SW bs 64) 160)).heap[w2.heap.size]? = some (.cells (SW bs 64) 160 (0,0)) := heap_alloc_new _ _
 have hsz3 : w2.heap.size < (w2.alloc (.cells (SW bs 64) 160)).heap.size := by simp
 have kc3 : ∀ t, t < 64 → (w2.alloc (.cells (SW bs 64) 160)).cell? ⟨1, t, none⟩ = some (.int .u32 (Kt[t]?.getD 0)) := fun t ht => (hbw3.cell (p := ⟨1, t, none⟩) h0).trans (HK.out t ht)
 have hsz4 : 1 < w2.heap.size := by omega
 generalize hB : w2.heap.size = B at *
 generalize (w2.alloc (.cells (SW bs 64) 160)) = w3 at *
 clear HST HRE HBW
 have q0 := cell_of_row w3 _ 0 _ _ _ hst3
 have q1 := cell_of_row w3 _ 1 _ _ _ hst3
 have q2 := cell_of_row w3 _ 2 _ _ _ hst3
 have q3 := cell_of_row w3 _ 3 _ _ _ hst3
 have q4 := cell_of_row w3 _ 4 _ _ _ hst3
 have q5 := cell_of_row w3 _ 5 _ _ _ hst3
 have q6 := cell_of_row w3 _ 6 _ _ _ hst3
 have q7 := cell_of_row w3 _ 7 _ _ _ hst3
 have KC := hid kc3
 clear kc3
 have HST := hid hst3
 have HRE := hid hre3
 have HSW := hid hsw3
 have HBW := hid hbw3
 have HBB := hid hB
 clear hst3 hre3 hsw3 hbw3 hB
 simp only [List.getElem?_toArray, List.getElem?_cons_zero, List.getElem?_cons_succ] at q0 q1 q2 q3 q4 q5 q6 q7
 go_quiet (fail)
 go_wp2
 go_quiet (fail)
 go_wp2
 go_loopw [6, 7, 8, 9, 10, 11, 12, 13, 39] (fun v6 v7 v8 v9 v10 v11 v12 v13 i wr => ∃ (t : Nat) (s : S8), t ≤ 64 ∧ i = .int .i64 t ∧ s = rnds ⟨a, b, c, d, e, f, g, h⟩ (sched bs 64) t ∧
   v6 = .int .u32 s.a ∧ v7 = .int .u32 s.b ∧ v8 = .int .u32 s.c ∧ v9 = .int .u32 s.d ∧ v10 = .int .u32 s.e ∧ v11 = .int .u32 s.f ∧ v12 = .int .u32 s.g ∧ v13 = .int .u32 s.h ∧ Below w3.heap.size w3 wr)
   (fun _ _ _ _ _ _ _ _ i _ => 64 - (intOf i).toNat)
 case atStart => exact ⟨0, ⟨a, b, c, d, e, f, g, h⟩, by omega, rfl, rfl, rfl, rfl, rfl, rfl, rfl, rfl, rfl, rfl, below_drewN (below_drewN (Below.refl _ _) _) _⟩
 case round =>
  clear q0 q1 q2 q3 q4 q5 q6 q7
  obtain ⟨t, ⟨a', b', c', d', e', f', g', h'⟩, ht, rfl, hs, rfl, rfl, rfl, rfl, rfl, rfl, rfl, rfl, hbr⟩ := hrel
  have HS := hid hs
  clear hs
  dsimp only
  by_cases hlt : t < 64
  ·have ck := (hbr.cell (p := ⟨1, t, none⟩) (by show 1 < _; omega)).trans (KC.out t hlt)
   have cw := (cell_of_row wr B t _ _ _ ((hbr.block B (by omega)).trans HSW.out)).trans (SW_at bs 64 t hlt)
   have b4 : (t:Int) < 64 := by omega
   generalize hkt : (Kt[t]?.getD 0) = kt at ck
   generalize hwt : ((sched bs 64)[t]?.getD 0) = wt at cw
   have HKT := hid hkt
   have HWT := hid hwt
   clear hkt hwt
   go_wp2_with (go_at_call 105; refine (rotated_any _ _ _ (by omega) (by omega)).mono ?_; rintro e w' ⟨rfl, rfl⟩)
   go_quiet (fail)
   go_wp2_with (go_at_call 105; refine (rotated_any _ _ _ (by omega) (by omega)).mono ?_; rintro e w' ⟨rfl, rfl⟩)
   go_roundw
   case rel =>
    refine ⟨t + 1, rnd ⟨a', b', c', d', e', f', g', h'⟩ kt wt, by omega, by go_num, ?_, rfl, rfl, rfl, rfl, rfl, rfl, rfl, rfl, below_drewN hbr _⟩
    show _ = rnd (rnds _ _ t) (Kt[t]?.getD 0) ((sched bs 64)[t]?.getD 0)
    rw [← HS.out, HKT.out, HWT.out]
   case measure => simp [intOf]; omega
  ·have ht64 : t = 64 := by omega
   have hs64 := HS.out
   rw [ht64] at hs64
   have HS64 := hid hs64
   have ht64' : 64 ≤ t := by omega
   have HR := hid hbr
   clear hs64 ht64 HS hbr hlt
   go_wp2
   have HIX : Hid (∀ (i : Nat) (u : World), i < 8 → (Instr.index 151 (.agg #[.int .u32 a', .int .u32 b', .int .u32 c', .int .u32 d', .int .u32 e', .int .u32 f', .int .u32 g', .int .u32 h']) (.int .i64 i)).run Tryd.prog u = .ok (.int .u32 ([a', b', c', d', e', f', g', h'][i]?.getD 0)) u) := hid fun i u hi => idx57 a' b' c' d' e' f' g' h' i u hi
   have hst := (HR.out.block w.heap.size (by omega)).trans HST.out
   have hre := (HR.out.block (w.heap.size + 2) (by omega)).trans HRE.out
   have hbw : Below w.heap.size w wr := HBW.out.trans (HR.out.mono (by omega))
   have hsz : w.heap.size + 2 < wr.heap.size := by have := HR.out.size; omega
   generalize hV : (#[.int .u32 a', .int .u32 b', .int .u32 c', .int .u32 d', .int .u32 e', .int .u32 f', .int .u32 g', .int .u32 h'] : Array Value) = V at *
   have HV := hid hV
   clear hV
   go_loopw [113] (fun i wx => ∃ k : Nat, k ≤ 8 ∧ i = .int .i64 k ∧ Below w.heap.size w wx ∧ w.heap.size + 2 < wx.heap.size ∧
     wx.heap[w.heap.size]? = some (.cells (ArrU32 (addL [a, b, c, d, e, f, g, h] [a', b', c', d', e', f', g', h'] k)) 151 (0,0)) ∧ wx.heap[w.heap.size+2]? = some (.cells #[.int .u32 0, .int .u32 0, .int .u32 0, .int .u32 0, .int .u32 0, .int .u32 0, .int .u32 0, .int .u32 0] 151 (0,0))) (fun i _ => 8 - (intOf i).toNat)
   case atStart => exact ⟨0, by omega, rfl, hbw, hsz, hst, hre⟩
   case round =>
    clear hst hre hbw hsz
    obtain ⟨k, hk, rfl, hbw, hsz, hst, hre⟩ := hrel
    by_cases hlt : k < 8
    ·have cs := (cell_of_row wr _ k _ _ _ hst).trans (addL_get _ _ k rfl rfl hlt)
     have fs := frozen_of_row wr _ k _ _ hst
     have b8 : (k:Int) < 8 := by omega
     have ix : ∀ u : World, (Instr.index 151 (.agg V) (.int .i64 k)).run Tryd.prog u = .ok (.int .u32 ([a', b', c', d', e', f', g', h'][k]?.getD 0)) u := fun u => HIX.out k u hlt
     generalize hx : [a', b', c', d', e', f', g', h'][k]?.getD 0 = x at ix
     generalize hy : [a, b, c, d, e, f, g, h][k]?.getD 0 = y at cs
     have HX := hid hx
     have HY := hid hy
     have H1 := hid hst
     have H2 := hid hre
     clear hx hy hst hre
     go_wp2
     go_roundw
     case rel =>
      refine ⟨k + 1, by omega, by go_num, ?_, ?_, ?_, ?_⟩
      ·exact (hbw.setCell (by simp) _)
      ·simpa [World.setCell] using hsz
      ·refine (heap_setCell_same _ _ _ _ _ _ H1.out).trans ?_
       rw [addL_set _ _ k rfl rfl hlt _ (by rw [HX.out, HY.out])]
      ·exact (heap_setCell_other _ _ _ _ (by simp)).trans H2.out
     case measure => simp [intOf]; omega
    ·have hk8 : k = 8 := by omega
     rw [hk8] at hst
     clear hk8
     have HI := hid (show (Tryd.prog.info? 151).map (·.size) = some (ArrU32 (addL [a, b, c, d, e, f, g, h] [a', b', c', d', e', f', g', h'] 8)).size by kernel_rfl)
     have H1 := hid hst
     have H2 := hid hre
     clear hst hre
     go_wp2_with (first | (refine wpList_load_row rfl 151 (Operand.tmp 2) rfl w.heap.size rfl 151 _ (0,0) _ H1.out Tryd.underlying151 rfl HI.out ?_) | (refine wpList_store_row rfl 151 (Operand.tmp 4) (Operand.tmp 124) rfl (w.heap.size+1+1) _ rfl rfl 151 _ H2.out HI.out rfl (ArrU32_one _) ?_))
     refine bodyPost_ret (results_cell_row rfl _ _ (w.heap.size+1+1) 151 (ArrU32 (addL [a, b, c, d, e, f, g, h] [a', b', c', d', e', f', g', h'] 8)) (0,0) _ rfl (setRow_heap _ _ _ _ _ _ H2.out) Tryd.underlying151 rfl HI.out) rfl ⟨?_, ?_⟩
     ·exact below_setRow hbw (by omega) _
     ·have := addL_end ⟨a, b, c, d, e, f, g, h⟩ ⟨a', b', c', d', e', f', g', h'⟩
      simp only [S8.list] at this
      rw [this, compress, ← HS64.out]
      rfl
end Go.Proofs.YtbmlkocpjboodaaDoor
namespace Go.Proofs.YtbmlkocpjboodaaDoor
open Go.RowKit
open Go.Lib (hid)
def iv : S8 := ⟨1779033703, 3144134277, 1013904242, 2773480762, 1359893119, 2600822924, 528734635, 1541459225⟩
def blk (l : List Int) : Nat → S8
 | 0 => iv
 | k + 1 => compress (blk l k) ((l.drop (64 * k)).take 64)
theorem blk_append (l x : List Int) (k : Nat) (h : 64 * k ≤ l.length) : blk (l ++ x) k = blk l k := by
 induction k with
 | zero => rfl
 | succ k ih =>
  simp only [blk]
  rw [ih (by omega), List.drop_append_of_le_length (by omega), List.take_append_of_le_length (by simp; omega)]
theorem splice_len {α : Type} (L : List α) (off : Nat) (cs : List α) (h : off + cs.length ≤ L.length) : (splice L off cs).length = L.length := by
 simp only [splice, List.length_append, List.length_take, List.length_drop]; omega
theorem splice_take {α : Type} (L : List α) (off : Nat) (cs : List α) (h : off + cs.length ≤ L.length) : (splice L off cs).take (off + cs.length) = L.take off ++ cs := by
 have h1 : (L.take off).length = off := by simp; omega
 unfold splice
 rw [← List.append_assoc, List.take_append_of_le_length (by simp; omega), List.take_of_length_le (by simp; omega)]
theorem hash_step (L bl x : List Int) (hl : bl.length = 64) (hbl : bl.take (L.length % 64) = L.drop (64 * (L.length / 64))) (hc : L.length % 64 + x.length ≤ 64) :
  (splice bl (L.length % 64) x).length = 64 ∧
  (L.length % 64 + x.length = 64 → compress (blk L (L.length / 64)) (splice bl (L.length % 64) x) = blk (L ++ x) ((L ++ x).length / 64) ∧
   (splice bl (L.length % 64) x).take ((L ++ x).length % 64) = (L ++ x).drop (64 * ((L ++ x).length / 64))) ∧
  (L.length % 64 + x.length < 64 → blk L (L.length / 64) = blk (L ++ x) ((L ++ x).length / 64) ∧
   (splice bl (L.length % 64) x).take ((L ++ x).length % 64) = (L ++ x).drop (64 * ((L ++ x).length / 64))) := by
 have h64 : (splice bl (L.length % 64) x).length = 64 := by rw [splice_len _ _ _ (by omega), hl]
 have ht := splice_take bl (L.length % 64) x (by omega)
 have hq : L.length = 64 * (L.length / 64) + L.length % 64 := by omega
 have hd : (L ++ x).drop (64 * (L.length / 64)) = (splice bl (L.length % 64) x).take (L.length % 64 + x.length) := by
  rw [ht, hbl, List.drop_append_of_le_length (by omega)]
 refine ⟨h64, fun h => ?_, fun h => ?_⟩
 ·have hn : (L ++ x).length / 64 = L.length / 64 + 1 := by simp only [List.length_append]; omega
  have hm : (L ++ x).length % 64 = 0 := by simp only [List.length_append]; omega
  rw [hn, hm]
  refine ⟨?_, ?_⟩
  ·simp only [blk]
   rw [blk_append L x _ (by omega), hd, h, List.take_take, Nat.min_self, List.take_of_length_le (by omega)]
  ·rw [List.take_zero, List.drop_of_length_le (by simp only [List.length_append]; omega)]
 ·have hn : (L ++ x).length / 64 = L.length / 64 := by simp only [List.length_append]; omega
  have hm : (L ++ x).length % 64 = L.length % 64 + x.length := by simp only [List.length_append]; omega
  rw [hn, hm]
  exact ⟨(blk_append L x _ (by omega)).symm, hd.symm⟩
/-- the cells of a hash -/
def hcells (s : S8) (bl : List Int) (n : Nat) : List Value := (s.list.map (Value.int .u32)) ++ (bl.map (Value.int .u8) ++ [.int .u64 n])
theorem hcells_len (s : S8) (bl : List Int) (n : Nat) (h : bl.length = 64) : (hcells s bl n).length = 73 := by simp [hcells, S8.list, h]
theorem hcells_n (s : S8) (bl : List Int) (n : Nat) (h : bl.length = 64) : (hcells s bl n).toArray[72]? = some (.int .u64 n) := by
 simp [hcells, S8.list, h]
theorem hcells_setn (s : S8) (bl : List Int) (n m : Nat) (h : bl.length = 64) : (hcells s bl n).toArray.setIfInBounds 72 (.int .u64 m) = (hcells s bl m).toArray := by
 simp [hcells, S8.list, h]
theorem hcells_splice (s : S8) (bl : List Int) (n : Nat) (h : bl.length = 64) (o : Nat) (x : List Int) (hx : o + x.length ≤ 64) :
  ((hcells s bl n).take (8 + o) ++ x.map (Value.int .u8) ++ (hcells s bl n).drop (8 + o + (x.map (Value.int .u8)).length)) = hcells s (splice bl o x) n := by
 have h8 : (s.list.map (Value.int .u32)).length = 8 := by simp [S8.list]
 unfold hcells splice
 generalize s.list.map (Value.int .u32) = A at h8
 rw [List.take_append, List.drop_append, List.take_append, List.drop_append]
 rw [List.take_of_length_le (by omega), List.drop_of_length_le (by omega)]
 simp only [h8, List.length_map, h, List.nil_append, List.map_append, List.map_take, List.map_drop, List.append_assoc]
 rw [show 8 + o - 8 = o by omega, show 8 + o + x.length - 8 = o + x.length by omega, show o - 64 = 0 by omega, show o + x.length - 64 = 0 by omega]
 simp
def HashAt (T : TypeId) (w : World) (H : Nat) (l : List Int) : Prop :=
 ∃ bl, w.heap[H]? = some (.cells (hcells (blk l (l.length / 64)) bl l.length).toArray T (0, 0)) ∧ bl.length = 64 ∧ bl.take (l.length % 64) = l.drop (64 * (l.length / 64))
theorem grownBy_setRow (w : World) (g : Nat) (cs : Array Value) : w.grownBy (w.setRow g cs) (some g) :=
 ⟨rfl, rfl, rfl, by simp, fun k _ hne => setRow_other _ _ _ _ (fun e => hne (by rw [e]))⟩
theorem grownBy_trans {a b c : World} {row : Option Nat} (h : a.grownBy b row) (k : b.grownBy c row) : a.grownBy c row :=
 ⟨k.os.trans h.os, k.tape.trans h.tape, k.output.trans h.output, Nat.le_trans h.size k.size, fun i hi hne => (k.block i (Nat.lt_of_lt_of_le hi h.size) hne).trans (h.block i hi hne)⟩
theorem grownBy_setCell (w : World) (a : Addr) (v : Value) : w.grownBy (w.setCell a v) (some a.block) :=
 ⟨rfl, rfl, rfl, by simp [World.setCell], fun k _ hne => heap_setCell_other _ _ _ _ (fun e => hne (by rw [e]))⟩
theorem grownBy_drewN (w : World) (n : Nat) (row : Option Nat) : w.grownBy (w.drewN n) row := ⟨rfl, rfl, rfl, Nat.le_refl _, fun _ _ _ => rfl⟩
theorem grownBy_of_below {w w' : World} (h : Below w.heap.size w w') (row : Option Nat) : w.grownBy w' row := ⟨h.os, h.tape, h.output, h.size, fun k hk _ => h.block k hk⟩
theorem wpList_copy_row {P : Program} {w : World} {ops : Array Oper} {rest : List Oper} {o : Oper} {a : Act} {Q : Exit → Act → World → Prop} (hgd : o.guard = none) (d s : Operand) (dT sT : TypeId)
  (ho : o.op = .call { callee := .builtin .copy, args := #[d, s], argTypes := #[dT, sT] }) (elem : TypeId) (hu : P.underlying dT = some (.slice elem)) (hsz : (P.info? elem).map (·.size) = some 1)
  (g off dLen dCap sLen sCap : Nat) (ad : Addr) (hd : a.eval d = .slice (some ⟨g, off, none⟩) dLen dCap) (hs : a.eval s = .slice (some ad) sLen sCap)
  (cur res : List Value) (t : TypeId) (hg : w.heap[g]? = some (.cells cur.toArray t (0, 0))) (cs : List Value) (hn : cs.length = Nat.min sLen dLen)
  (hsrc : ∀ j v, cs[j]? = some v → w.cell? (ad.add j) = some v) (hfit : off + cs.length ≤ cur.length) (h1 : ∀ v ∈ cs, v.oneCell' = true)
  (hres : cur.take off ++ cs ++ cur.drop (off + cs.length) = res)
  (h : ∀ w', w'.heap[g]? = some (.cells res.toArray t (0, 0)) → w.grownBy w' (some g) → wpList P ops Q rest (a.put o.dst (goInt cs.length)) w') :
  wpList P ops Q (o :: rest) a w := by
 refine wpList_plain hgd fun K hK => ?_
 have hrun := run_copy_row (P := P) w dT sT o.type elem g off dLen dCap ad sLen sCap cur.toArray t cs hu hsz hg hn hsrc (by simpa using hfit) h1
 simp only [hres] at hrun
 unfold Oper.wp
 simp [execOp, ho, resolve, invoke, builtin, hd, hs, hrun, Result.andThen]
 exact hK _ _ (h _ (setRow_heap _ _ _ _ _ _ hg) (grownBy_setRow _ _ _))
def lenV : Value → Nat | .slice _ n _ => n | _ => 0
theorem range_of_hcells {T : TypeId} {w : World} {H : Nat} {s : S8} {bl : List Int} {n : Nat} (h : w.heap[H]? = some (.cells (hcells s bl n).toArray T (0, 0))) (hl : bl.length = 64) :
  w.rangeAt H 0 (s.list.map (Value.int .u32)) ∧ w.rangeAt H 8 (bl.map (Value.int .u8)) ∧ w.there H 0 8 := by
 have h8 : (s.list.map (Value.int .u32)).length = 8 := by simp [S8.list]
 refine ⟨fun j v hv => ?_, fun j v hv => ?_, fun j hj => ⟨?_, frozen_of_row w H _ _ _ h⟩⟩
 ·have hj : j < 8 := by have := (List.getElem?_eq_some_iff.1 hv).1; omega
  rw [cell_of_row w H _ _ _ _ h, List.getElem?_toArray, hcells, List.getElem?_append_left (by omega), Nat.zero_add]; exact hv
 ·have hj : j < 64 := by have := (List.getElem?_eq_some_iff.1 hv).1; simp at this; omega
  rw [cell_of_row w H _ _ _ _ h, List.getElem?_toArray, hcells, List.getElem?_append_right (by omega), h8, List.getElem?_append_left (by simp; omega), show 8 + j - 8 = j by omega]; exact hv
 ·have hs : (hcells s bl n).length = 73 := hcells_len s bl n hl
  rw [cell_of_row w H _ _ _ _ h, List.getElem?_toArray, List.getElem?_eq_getElem (by omega)]; rfl
theorem hcells_set_state {T : TypeId} {w : World} {H : Nat} {s : S8} {bl : List Int} {n : Nat} (h : w.heap[H]? = some (.cells (hcells s bl n).toArray T (0, 0))) (s' : S8) :
  (w.setCells H 0 (s'.list.map (Value.int .u32))).heap[H]? = some (.cells (hcells s' bl n).toArray T (0, 0)) := by
 have h1 := heap_setCell_same w H 0 _ _ (.int .u32 s'.a) h
 have h2 := heap_setCell_same _ H 1 _ _ (.int .u32 s'.b) h1
 have h3 := heap_setCell_same _ H 2 _ _ (.int .u32 s'.c) h2
 have h4 := heap_setCell_same _ H 3 _ _ (.int .u32 s'.d) h3
 have h5 := heap_setCell_same _ H 4 _ _ (.int .u32 s'.e) h4
 have h6 := heap_setCell_same _ H 5 _ _ (.int .u32 s'.f) h5
 have h7 := heap_setCell_same _ H 6 _ _ (.int .u32 s'.g) h6
 have h8 := heap_setCell_same _ H 7 _ _ (.int .u32 s'.h) h7
 refine h8.trans ?_
 simp [hcells, S8.list]
theorem grownBy_setCells (b : Nat) : ∀ (vs : List Value) (o : Nat) (w : World), w.grownBy (w.setCells b o vs) (some b)
 | [], _, w => World.grownBy.refl w _
 | v :: r, o, w => by
  rw [World.setCells]
  exact grownBy_trans (grownBy_setCell w ⟨b, o, none⟩ v) (grownBy_setCells b r (o + 1) _)
theorem take_len_take {α : Type} (l : List α) (k : Nat) : l.take (l.take k).length = l.take k := by
 by_cases h : k ≤ l.length
 ·rw [List.length_take, Nat.min_eq_left h]
 ·rw [List.length_take, Nat.min_eq_right (by omega), List.take_length, List.take_of_length_le (by omega)]
theorem take_add_piece {α : Type} (l m L X : List α) (p k : Nat) (hL : l ++ m.take p = L) (hX : X = (m.drop p).take k) : l ++ m.take (p + X.length) = L ++ X := by
 rw [List.take_add, ← List.append_assoc, hL]
 congr 1
 rw [hX]; exact take_len_take _ _
def hasCells (w : World) (b o n : Nat) : Prop := ∀ j, j < n → (w.cell? ⟨b, o + j, none⟩).isSome = true
def cellsAt (w : World) (b o n : Nat) : Array Value := ((List.range n).map fun j => (w.cell? ⟨b, o + j, none⟩).getD undef).toArray
theorem hasCells_of_range {w : World} {b o n : Nat} {cs : List Value} (h : w.rangeAt b o cs) (hl : cs.length = n) : hasCells w b o n := fun j hj => h.isSome j (by omega)
theorem cellsAt_of_range {w : World} {b o n : Nat} {cs : List Value} (h : w.rangeAt b o cs) (hl : cs.length = n) : cellsAt w b o n = cs.toArray := by
 unfold cellsAt
 congr 1
 apply List.ext_getElem?
 intro j
 by_cases hj : j < cs.length
 ·rw [List.getElem?_map, List.getElem?_range (by omega), List.getElem?_eq_getElem hj]
  simp [h j _ (List.getElem?_eq_getElem hj)]
 ·rw [List.getElem?_eq_none (by simp; omega), List.getElem?_eq_none (by omega)]
theorem range_cellsAt {w : World} {b o n : Nat} (h : hasCells w b o n) : w.rangeAt b o (cellsAt w b o n).toList := by
 intro j v hv
 simp only [cellsAt] at hv
 have hj : j < n := by have := (List.getElem?_eq_some_iff.1 hv).1; simpa using this
 rw [List.getElem?_map, List.getElem?_range hj] at hv
 obtain ⟨x, hx⟩ := Option.isSome_iff_exists.1 (h j hj)
 simp only [Option.map_some, hx, Option.getD_some] at hv
 rw [hx, hv]
theorem cellsAt_size (w : World) (b o n : Nat) : (cellsAt w b o n).size = n := by simp [cellsAt]
def beAt (k : Nat) (j : Nat) : Int := (k : Int) / 2 ^ (56 - 8 * j) % 256
/-- a number's eight bytes -/
def be8 (k : Nat) : List Int := (List.range 8).map (beAt k)
theorem be8_take_succ (k j : Nat) (h : j < 8) : (be8 k).take (j + 1) = (be8 k).take j ++ [beAt k j] := by
 rw [List.take_succ_eq_append_getElem (by simpa [be8] using h)]; simp [be8]
theorem be8_len (k : Nat) : (be8 k).length = 8 := by simp [be8]
end Go.Proofs.YtbmlkocpjboodaaDoor
namespace Go.Proofs.YtbmlkocpjboodaaDoor
open Go.RowKit
open Go.Lib (hid)
def loadAt58 (x : Value) : Sem Value := Instr.loadAt 152 x
theorem loadAt58_eq (x : Value) : Instr.loadAt 152 x = loadAt58 x := rfl
theorem run_loadAt58 (w : World) (b o : Nat) (h : hasCells w b o 64) : (loadAt58 (.pointer (some ⟨b, o, none⟩))).run Tryd.prog w = .ok (.agg (cellsAt w b o 64)) w :=
 run_loadAt_mid (P := Tryd.prog) w b o 152 _ _ (range_cellsAt h) Tryd.underlying152 rfl (by show (Tryd.prog.info? 152).map (·.size) = some (cellsAt w b o 64).toList.length; rw [Array.length_toList, cellsAt_size]; kernel_rfl)
attribute [local go_sem ↓] loadAt58_eq
attribute [local go_sem] run_loadAt58
set_option maxRecDepth 100000 in
set_option maxHeartbeats 800000 in
theorem write_any (H : Nat) (l m : List Int) (bb off cap : Nat) (w : World) (hH : HashAt 154 w H l) (hne : bb ≠ H) (hbb : bb < w.heap.size) (hK0 : 1 < H)
  (hK : ∀ t, t < 64 → w.cell? ⟨1, t, none⟩ = some (.int .u32 (Kt[t]?.getD 0)))
  (hcap : m.length ≤ cap) (hlen : l.length + m.length < 1152921504606846976)
  (hc : ∀ i, i < m.length → w.cell? ⟨bb, off + i, none⟩ = some (.int .u8 (m[i]?.getD 0))) :
  Calls Tryd.prog 80 #[.pointer (some ⟨H, 0, none⟩), .slice (some ⟨bb, off, none⟩) m.length cap] w fun e w' => e = .returned (.tuple #[]) ∧ HashAt 154 w' H (l ++ m) ∧ w.grownBy w' (some H) := by
 have HS0 := hid (show 1 < w.heap.size from Nat.lt_trans hK0 (by obtain ⟨_, h, _⟩ := hH; exact (Array.getElem?_eq_some_iff.1 h).1))
 have HH := hid hH
 have HKK := hid hK
 have HC := hid hc
 clear hH hK hc
 generalize hm : m.length = len at *
 have HM := hid hm
 clear hm
 go_enter Tryd.func80, Tryd.ntmps80
 go_wp2_with fail
 go_loopw [1] (fun v1 wr => ∃ (p : Nat) (av : Option Addr), p ≤ len ∧ v1 = .slice av (len - p) (cap - p) ∧ (p < len → av = some ⟨bb, off + p, none⟩) ∧ HashAt 154 wr H (l ++ m.take p) ∧ w.grownBy wr (some H))
  (fun v1 _ => lenV v1)
 case atStart => exact ⟨0, some ⟨bb, off, none⟩, by omega, by simp, fun _ => by simp, by simpa using HH.out, World.grownBy.refl _ _⟩
 case round =>
  obtain ⟨p, av, hp, rfl, hav, hHr, hg⟩ := hrel
  by_cases hlt : p < len
  ·obtain rfl := hav hlt
   obtain ⟨bl, hcell, hbl, htk⟩ := hHr
   clear hav
   generalize hL : l ++ m.take p = L at hcell htk
   have hLn : L.length = l.length + p := by rw [← hL, List.length_append, List.length_take, HM.out]; omega
   have c72 := (cell_of_row wr H 72 _ _ _ hcell).trans (hcells_n _ bl L.length hbl)
   have f72 := frozen_of_row wr H 72 _ _ hcell
   have HCELL := hid hcell
   have HTK := hid htk
   have HLN := hid hLn
   have HL := hid hL
   have HG := hid hg
   have hb2 : L.length < 1152921504606846976 := by omega
   obtain ⟨u, hu⟩ : ∃ u : Nat, u = L.length % 64 := ⟨_, rfl⟩
   have eu : (L.length : Int) % 64 = u := by omega
   have u64 : u < 64 := by omega
   have ua : u ≤ 64 := by omega
   have ub : (u : Int) ≤ 64 := by omega
   have HU := hid hu
   clear hcell htk hLn hL hg hu
   obtain ⟨X, hX⟩ : ∃ X, X = (m.drop p).take (64 - u) := ⟨_, rfl⟩
   have hXl : X.length = Nat.min (len - p) (64 - u) := by rw [hX, List.length_take, List.length_drop, HM.out, Nat.min_comm]
   have hXs : ∀ j v, (X.map (Value.int .u8))[j]? = some v → wr.cell? ((⟨bb, off + p, none⟩ : Addr).add j) = some v := by
    intro j v hv
    rw [List.getElem?_map, Option.map_eq_some_iff] at hv
    obtain ⟨x, hx, rfl⟩ := hv
    have hj : j < X.length := (List.getElem?_eq_some_iff.1 hx).1
    have hj2 : p + j < len := by have h9 : Nat.min (len - p) (64 - u) ≤ len - p := Nat.min_le_left _ _; omega
    have e1 := HC.out (p + j) hj2
    rw [hX, List.getElem?_take, if_pos (by have h9 : Nat.min (len - p) (64 - u) ≤ 64 - u := Nat.min_le_right _ _; omega), List.getElem?_drop] at hx
    rw [hx] at e1
    have e2 : wr.cell? ⟨bb, off + (p + j), none⟩ = w.cell? ⟨bb, off + (p + j), none⟩ := World.cell?_of_block (w := w) (HG.out.block bb hbb (by simpa using hne))
    rw [Addr.add_mid, Nat.add_assoc, e2]
    exact e1
   have hXn : ∀ v ∈ X.map (Value.int .u8), v.oneCell' = true := by intro v hv; obtain ⟨x, _, rfl⟩ := List.mem_map.1 hv; rfl
   have hXf : u + X.length ≤ 64 := by have h9 : Nat.min (len - p) (64 - u) ≤ 64 - u := Nat.min_le_right _ _; omega
   have xpos : 0 < X.length := by rw [hXl]; show 0 < min (len - p) (64 - u); omega
   have X1 := hid hX
   have X2 := hid hXl
   have X3 := hid hXs
   have X4 := hid hXn
   clear hX hXl hXs hXn
   have hbl2 : (splice bl u X).length = 64 := by rw [splice_len _ _ _ (by omega)]; exact hbl
   by_cases hfull : u + X.length = 64
   ·have tb : ((u : Int) + (X.length : Int) == 64) = true := by rw [beq_iff_eq]; omega
    have HF := hid hfull
    clear hfull
    have xle : X.length ≤ len - p := by rw [X2.out]; exact Nat.min_le_left _ _
    have xcap : X.length ≤ cap - p := by omega
    obtain ⟨av2, hav, hav2⟩ : ∃ A : Option Addr, (if cap - p = X.length then some (⟨bb, off + p, none⟩ : Addr) else some ⟨bb, off + p + X.length, none⟩) = A ∧ Hid (p + X.length < len → A = some ⟨bb, off + (p + X.length), none⟩) := by
     by_cases h : cap - p = X.length
     ·exact ⟨some ⟨bb, off + p, none⟩, by simp [h], fun h' => by omega⟩
     ·exact ⟨some ⟨bb, off + p + X.length, none⟩, by simp [h], fun _ => by rw [Nat.add_assoc]⟩
    go_wp2_with (first | (refine wpList_copy_row rfl (Operand.tmp 19) (Operand.tmp 20) 31 31 rfl 5 Tryd.underlying31 (by kernel_rfl) H (8 + u) (64 - u) (64 - u) (len - p) (cap - p) ⟨bb, off + p, none⟩ rfl rfl _ (hcells (blk L (L.length / 64)) (splice bl u X) L.length) 154 HCELL.out (X.map (Value.int .u8)) (by rw [List.length_map, X2.out]) X3.out (by rw [hcells_len _ _ _ hbl, List.length_map]; omega) X4.out (hcells_splice _ _ _ hbl _ _ hXf) ?_; intro w1 h1 g1; have c73 := (cell_of_row w1 H 72 _ _ _ h1).trans (hcells_n _ _ L.length hbl2); have f73 := frozen_of_row w1 H 72 _ _ h1; have H1 := hid h1; have G1 := hid g1; clear h1 g1) | fail)
    have h2 : (w1.setCell ⟨H, 72, none⟩ (.int .u64 ((L.length : Int) + (X.length : Int)))).heap[H]? = some (.cells (hcells (blk L (L.length / 64)) (splice bl u X) (L.length + X.length)).toArray 154 (0, 0)) := by
     refine (heap_setCell_same _ _ _ _ _ _ H1.out).trans ?_
     rw [← Int.natCast_add, hcells_setn _ _ L.length _ hbl2]
    have g2 : w.grownBy (w1.setCell ⟨H, 72, none⟩ (.int .u64 ((L.length : Int) + (X.length : Int)))) (some H) := grownBy_trans (grownBy_trans HG.out G1.out) (grownBy_setCell _ _ _)
    generalize (w1.setCell ⟨H, 72, none⟩ (.int .u64 ((L.length : Int) + (X.length : Int)))) = w2 at *
    clear c73 f73 H1 G1
    obtain ⟨r0, r8, rt⟩ := range_of_hcells h2 hbl2
    have hHb : H < w2.heap.size := by rcases Nat.lt_or_ge H w2.heap.size with h | h; exact h; rw [Array.getElem?_eq_none h] at h2; cases h2
    have cC : ∀ wx : World, w.grownBy wx (some H) → wx.heap[H]? = some (.cells (hcells (blk L (L.length / 64)) (splice bl u X) (L.length + X.length)).toArray 154 (0, 0)) →
      Calls Tryd.prog 99 #[.agg ((blk L (L.length / 64)).list.map (Value.int .u32)).toArray, .agg ((splice bl u X).map (Value.int .u8)).toArray] wx fun e w' =>
       e = .returned (.agg ((compress (blk L (L.length / 64)) (splice bl u X)).list.map (Value.int .u32)).toArray) ∧ w.grownBy w' (some H) ∧ w'.heap[H]? = some (.cells (hcells (blk L (L.length / 64)) (splice bl u X) (L.length + X.length)).toArray 154 (0, 0)) := by
     intro wx hgx hhx
     have h0s : 1 < w.heap.size := HS0.out
     have hHx : H < wx.heap.size := by rcases Nat.lt_or_ge H wx.heap.size with h | h; exact h; rw [Array.getElem?_eq_none h] at hhx; cases hhx
     refine (compressed_any (blk L (L.length / 64)) (splice bl u X) wx hbl2 (by have := hgx.size; omega) (fun t ht => ?_)).mono ?_
     ·exact (World.cell?_of_block (w := w) (hgx.block 1 h0s (by simp; omega))).trans (HKK.out t ht)
     ·rintro e w' ⟨hb, he⟩
      exact ⟨he, grownBy_trans hgx (grownBy_of_below hb _), (hb.block H hHx).trans hhx⟩
    have hu57 := Tryd.underlying151
    have hu58 := Tryd.underlying152
    have hi57 : (Tryd.prog.info? 151).map (·.size) = some ((blk L (L.length / 64)).list.map (Value.int .u32)).length := by kernel_rfl
    have hi58 : (Tryd.prog.info? 152).map (·.size) = some ((splice bl u X).map (Value.int .u8)).length := by rw [List.length_map, hbl2]; kernel_rfl
    have h1x : ∀ v ∈ ((compress (blk L (L.length / 64)) (splice bl u X)).list.map (Value.int .u32)), v.oneCell' = true := by intro v hv; obtain ⟨x, _, rfl⟩ := List.mem_map.1 hv; rfl
    generalize hNS : compress (blk L (L.length / 64)) (splice bl u X) = ns at *
    generalize hOS : blk L (L.length / 64) = os at *
    generalize hBL : splice bl u X = bl2 at *
    have HNS := hid hNS
    have HOS := hid hOS
    have HBL := hid hBL
    clear hNS hOS hBL xcap hav HCELL
    obtain ⟨sa, sb, sc, sd, se, sf, sg, sh⟩ := os
    obtain ⟨na, nb, nc, nd, ne, nf, ng, nh⟩ := ns
    clear r0 rt h1x
    have cC2 := cC
    simp only [S8.list, List.map_cons, List.map_nil] at cC2
    clear cC
    have CC := hid cC2
    clear cC2
    have hS : ∀ wx : World, w.grownBy wx (some H) → wx.heap[H]? = some (.cells (hcells ⟨sa, sb, sc, sd, se, sf, sg, sh⟩ bl2 (L.length + X.length)).toArray 154 (0, 0)) →
      w.grownBy wx (some H) ∧ wx.heap[H]? = some (.cells (hcells ⟨sa, sb, sc, sd, se, sf, sg, sh⟩ bl2 (L.length + X.length)).toArray 154 (0, 0)) ∧ wx.rangeAt H 8 (bl2.map (Value.int .u8)) ∧ wx.cell? ⟨H, 0, none⟩ = some (.int .u32 sa) ∧ wx.cell? ⟨H, 1, none⟩ = some (.int .u32 sb) ∧ wx.cell? ⟨H, 2, none⟩ = some (.int .u32 sc) ∧ wx.cell? ⟨H, 3, none⟩ = some (.int .u32 sd) ∧ wx.cell? ⟨H, 4, none⟩ = some (.int .u32 se) ∧ wx.cell? ⟨H, 5, none⟩ = some (.int .u32 sf) ∧ wx.cell? ⟨H, 6, none⟩ = some (.int .u32 sg) ∧ wx.cell? ⟨H, 7, none⟩ = some (.int .u32 sh) ∧ wx.frozen? ⟨H, 0, none⟩ = false ∧ wx.frozen? ⟨H, 1, none⟩ = false ∧ wx.frozen? ⟨H, 2, none⟩ = false ∧ wx.frozen? ⟨H, 3, none⟩ = false ∧ wx.frozen? ⟨H, 4, none⟩ = false ∧ wx.frozen? ⟨H, 5, none⟩ = false ∧ wx.frozen? ⟨H, 6, none⟩ = false ∧ wx.frozen? ⟨H, 7, none⟩ = false := fun wx hg hh =>
     ⟨hg, hh, (range_of_hcells hh hbl2).2.1, cell_of_row wx H 0 _ _ _ hh, cell_of_row wx H 1 _ _ _ hh, cell_of_row wx H 2 _ _ _ hh, cell_of_row wx H 3 _ _ _ hh, cell_of_row wx H 4 _ _ _ hh, cell_of_row wx H 5 _ _ _ hh, cell_of_row wx H 6 _ _ _ hh, cell_of_row wx H 7 _ _ _ hh,
      frozen_of_row wx H 0 _ _ hh, frozen_of_row wx H 1 _ _ hh, frozen_of_row wx H 2 _ _ hh, frozen_of_row wx H 3 _ _ hh, frozen_of_row wx H 4 _ _ hh, frozen_of_row wx H 5 _ _ hh, frozen_of_row wx H 6 _ _ hh, frozen_of_row wx H 7 _ _ hh⟩
    have HS := hid hS
    clear hS
    have G2 := hid (show w.grownBy w2.drew (some H) from ⟨g2.os, g2.tape, g2.output, g2.size, g2.block⟩)
    have H2 := hid (show w2.drew.heap[H]? = some (.cells (hcells ⟨sa, sb, sc, sd, se, sf, sg, sh⟩ bl2 (L.length + X.length)).toArray 154 (0, 0)) from h2)
    obtain ⟨_, _, hr8, c0, c1, c2, c3, c4, c5, c6, c7, _, _, _, _, _, _, _, _⟩ := HS.out _ G2.out H2.out
    have hha : hasCells w2.drew H 8 64 := hasCells_of_range hr8 (by rw [List.length_map]; exact hbl2)
    have hca : cellsAt w2.drew H 8 64 = (bl2.map (Value.int .u8)).toArray := cellsAt_of_range hr8 (by rw [List.length_map]; exact hbl2)
    clear g2 h2 r8 hu57 hi57 hu58 hi58 hr8
    go_region_with (go_at_call 99; (with_reducible refine (CC.out w2.drew G2.out H2.out).mono ?_); rintro e w3 ⟨rfl, g3, h3⟩; clear hha hca c0 c1 c2 c3 c4 c5 c6 c7; obtain ⟨_, _, _, c0, c1, c2, c3, c4, c5, c6, c7, f0, f1, f2, f3, f4, f5, f6, f7⟩ := HS.out _ g3 h3; have G3 := hid g3; have H3 := hid h3; clear g3 h3)
    all_goals
     go_wp2_with fail
     go_roundw
     case rel =>
      have hs := hash_step L bl X hbl HTK.out (by rw [← HU.out]; omega)
      rw [← HU.out] at hs
      have h5 := hcells_set_state H3.out ⟨na, nb, nc, nd, ne, nf, ng, nh⟩
      have e1 := take_add_piece l m L X p (64 - u) HL.out X1.out
      refine ⟨p + X.length, av2, by omega, by rw [Nat.sub_sub, Nat.sub_sub], hav2.out, ?_, ?_⟩
      ·rw [e1]
       have e2 := (hs.2.1 HF.out).1
       have e3 := (hs.2.1 HF.out).2
       rw [HOS.out, HBL.out, HNS.out] at e2
       rw [HBL.out] at e3
       refine ⟨bl2, ?_, hbl2, e3⟩
       rw [← e2, List.length_append]
       exact h5
      ·exact grownBy_trans G3.out (grownBy_setCells H ((⟨na, nb, nc, nd, ne, nf, ng, nh⟩ : S8).list.map (Value.int .u32)) 0 w3)
     case measure => simp [lenV]; omega
   ·have tb : ((u : Int) + (X.length : Int) == 64) = false := by rw [beq_eq_false_iff_ne]; omega
    have hlt64 : u + X.length < 64 := by omega
    have HF := hid hlt64
    clear hfull hlt64
    have xle : X.length ≤ len - p := by rw [X2.out]; exact Nat.min_le_left _ _
    have xcap : X.length ≤ cap - p := by omega
    obtain ⟨av2, hav, hav2⟩ : ∃ A : Option Addr, (if cap - p = X.length then some (⟨bb, off + p, none⟩ : Addr) else some ⟨bb, off + p + X.length, none⟩) = A ∧ Hid (p + X.length < len → A = some ⟨bb, off + (p + X.length), none⟩) := by
     by_cases h : cap - p = X.length
     ·exact ⟨some ⟨bb, off + p, none⟩, by simp [h], fun h' => by omega⟩
     ·exact ⟨some ⟨bb, off + p + X.length, none⟩, by simp [h], fun _ => by rw [Nat.add_assoc]⟩
    go_wp2_with (first | (refine wpList_copy_row rfl (Operand.tmp 19) (Operand.tmp 20) 31 31 rfl 5 Tryd.underlying31 (by kernel_rfl) H (8 + u) (64 - u) (64 - u) (len - p) (cap - p) ⟨bb, off + p, none⟩ rfl rfl _ (hcells (blk L (L.length / 64)) (splice bl u X) L.length) 154 HCELL.out (X.map (Value.int .u8)) (by rw [List.length_map, X2.out]) X3.out (by rw [hcells_len _ _ _ hbl, List.length_map]; omega) X4.out (hcells_splice _ _ _ hbl _ _ hXf) ?_; intro w1 h1 g1; have c73 := (cell_of_row w1 H 72 _ _ _ h1).trans (hcells_n _ _ L.length hbl2); have f73 := frozen_of_row w1 H 72 _ _ h1; have H1 := hid h1; have G1 := hid g1; clear h1 g1) | fail)
    have h2 : (w1.setCell ⟨H, 72, none⟩ (.int .u64 ((L.length : Int) + (X.length : Int)))).heap[H]? = some (.cells (hcells (blk L (L.length / 64)) (splice bl u X) (L.length + X.length)).toArray 154 (0, 0)) := by
     refine (heap_setCell_same _ _ _ _ _ _ H1.out).trans ?_
     rw [← Int.natCast_add, hcells_setn _ _ L.length _ hbl2]
    have g2 : w.grownBy (w1.setCell ⟨H, 72, none⟩ (.int .u64 ((L.length : Int) + (X.length : Int)))) (some H) := grownBy_trans (grownBy_trans HG.out G1.out) (grownBy_setCell _ _ _)
    go_roundw
    case rel =>
     have hs := hash_step L bl X hbl HTK.out (by rw [← HU.out]; omega)
     rw [← HU.out] at hs
     have e1 := take_add_piece l m L X p (64 - u) HL.out X1.out
     refine ⟨p + X.length, av2, by omega, by rw [Nat.sub_sub, Nat.sub_sub], hav2.out, ?_, g2⟩
     rw [e1]
     have e2 := (hs.2.2 HF.out).1
     refine ⟨splice bl u X, ?_, hbl2, (hs.2.2 HF.out).2⟩
     rw [← e2, List.length_append]
     exact h2
    case measure => simp [lenV]; omega
  ·have hp2 : p = len := by omega
   rw [hp2, ← HM.out, List.take_length] at hHr
   have hp3 : len ≤ p := by omega
   clear hav hlt hp2
   have H1 := hid hHr
   have G1 := hid hg
   clear hHr hg
   go_wp2_with fail
   go_end0
   exact ⟨rfl, H1.out, G1.out⟩
end Go.Proofs.YtbmlkocpjboodaaDoor
