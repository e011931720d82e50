import Derived.WalkKit
import Derived.ProofKit
import Derived.BigQuiet
import Derived.Deep.QuietTactic
import Derived.WalkSpells
import Derived.WalkLawsBesides
import Derived.Lib.Hide
import Derived.Deep.MidRow
import Derived.Deep.WholeRow
import Derived.BigFrame
import Derived.Maps.RangeWalk
import Derived.Laws.CopyOwn
import Derived.StillTailTactics
namespace Go.Proofs.YtkajpcjmcpollaaDoor
open Go.RowKit
def rotI (x : Int) (n : Nat) : Int := bits BinOp.or IntKind.u32 (x / 2 ^ n) (x * 2 ^ (32 - n) % 4294967296)
def zeros (n : Nat) : List Int := List.replicate n 0
def w32 (x : Int) : Int := IntKind.u32.wrap x
def wordAt (bs : List Int) (t : Nat) : Int :=
  bits .or .u32 (bits .or .u32 (bits .or .u32 (bs[4 * t]?.getD 0 % 4294967296 * 16777216 % 4294967296) (bs[4 * t + 1]?.getD 0 % 4294967296 * 65536 % 4294967296)) (bs[4 * t + 2]?.getD 0 % 4294967296 * 256 % 4294967296)) (bs[4 * t + 3]?.getD 0 % 4294967296)
def sig0 (x : Int) : Int := bits BinOp.xor IntKind.u32 (bits BinOp.xor IntKind.u32 (rotI x 7) (rotI x 18)) (x / 8)
def sig1 (x : Int) : Int := bits BinOp.xor IntKind.u32 (bits BinOp.xor IntKind.u32 (rotI x 17) (rotI x 19)) (x / 1024)
def nextW (l : List Int) (t : Nat) : Int :=
  (sig1 (l[t - 2]?.getD 0) + l[t - 7]?.getD 0 + sig0 (l[t - 15]?.getD 0) + l[t - 16]?.getD 0) % 4294967296
def sched (bs : List Int) : Nat → List Int
  | 0 => []
  | t + 1 => sched bs t ++ [if t < 16 then wordAt bs t else nextW (sched bs t) t]
theorem sched_len (bs : List Int) (t : Nat) : (sched bs t).length = t := by
  induction t with
  | zero => rfl
  | succ t ih => simp [sched, ih]
def SW (bs : List Int) (k : Nat) : Array Value := ((sched bs k ++ zeros (64 - k)).map (Value.int .u32)).toArray
def ArrU8 (bs : List Int) : Array Value := (bs.map (Value.int .u8)).toArray
theorem ArrU8_get (bs : List Int) (i : Nat) (h : i < bs.length) : (ArrU8 bs)[i]? = some (.int .u8 (bs[i]?.getD 0)) := by
  simp [ArrU8, h]
theorem SW_size (bs : List Int) (k : Nat) (hk : k ≤ 64) : (SW bs k).size = 64 := by
  simp [SW, sched_len, zeros]; omega
theorem SW_get (bs : List Int) (k : Nat) (hk : k ≤ 64) (i : Nat) (hi : i < 64) : ∃ x, (SW bs k)[i]? = some (.int .u32 x) := by
  have : i < (SW bs k).size := by rw [SW_size bs k hk]; exact hi
  rw [Array.getElem?_eq_getElem this]
  simp only [SW, List.getElem_toArray, List.getElem_map]
  exact ⟨_, rfl⟩
theorem SW_set (bs : List Int) (k : Nat) (hk : k < 64) (x : Int) (hx : x = if k < 16 then wordAt bs k else nextW (sched bs k) k) : (SW bs k).setIfInBounds k (.int .u32 x) = SW bs (k + 1) := by
  subst hx
  have hl := sched_len bs k
  simp only [SW, sched, zeros]
  rw [List.setIfInBounds_toArray]
  congr 1
  rw [show 64 - k = (64 - (k + 1)) + 1 by omega, List.replicate_succ]
  simp [hl]
theorem SW_at (bs : List Int) (k : Nat) (i : Nat) (hi : i < k) : (SW bs k)[i]? = some (.int .u32 ((sched bs k)[i]?.getD 0)) := by
  have hl := sched_len bs k
  simp [SW, List.getElem?_append, hl, hi]
theorem SW_one (bs : List Int) (k : Nat) : (SW bs k).all (·.oneCell') = true := by
  simp [SW, Value.oneCell']
def Kt : List Int := [1116352408, 1899447441, 3049323471, 3921009573, 961987163, 1508970993, 2453635748, 2870763221, 3624381080, 310598401, 607225278, 1426881987, 1925078388, 2162078206, 2614888103, 3248222580, 3835390401, 4022224774, 264347078, 604807628, 770255983, 1249150122, 1555081692, 1996064986, 2554220882, 2821834349, 2952996808, 3210313671, 3336571891, 3584528711, 113926993, 338241895, 666307205, 773529912, 1294757372, 1396182291, 1695183700, 1986661051, 2177026350, 2456956037, 2730485921, 2820302411, 3259730800, 3345764771, 3516065817, 3600352804, 4094571909, 275423344, 430227734, 506948616, 659060556, 883997877, 958139571, 1322822218, 1537002063, 1747873779, 1955562222, 2024104815, 2227730452, 2361852424, 2428436474, 2756734187, 3204031479, 3329325298]
structure S8 where
  a : Int
  b : Int
  c : Int
  d : Int
  e : Int
  f : Int
  g : Int
  h : Int
def S8.list (s : S8) : List Int := [s.a, s.b, s.c, s.d, s.e, s.f, s.g, s.h]
def ArrU32 (l : List Int) : Array Value := (l.map (Value.int .u32)).toArray
def Sig0 (x : Int) : Int := bits BinOp.xor IntKind.u32 (bits BinOp.xor IntKind.u32 (rotI x 2) (rotI x 13)) (rotI x 22)
def Sig1 (x : Int) : Int := bits BinOp.xor IntKind.u32 (bits BinOp.xor IntKind.u32 (rotI x 6) (rotI x 11)) (rotI x 25)
def chI (e f g : Int) : Int := bits BinOp.xor IntKind.u32 (bits BinOp.and IntKind.u32 e f) (bits BinOp.and IntKind.u32 (bits BinOp.xor IntKind.u32 (if IntKind.u32.signed = true then -1 else IntKind.u32.max) e) g)
def majI (a b c : Int) : Int := bits BinOp.xor IntKind.u32 (bits BinOp.xor IntKind.u32 (bits BinOp.and IntKind.u32 a b) (bits BinOp.and IntKind.u32 a c)) (bits BinOp.and IntKind.u32 b c)
def T1 (s : S8) (k w : Int) : Int := (s.h + Sig1 s.e + chI s.e s.f s.g + k + w) % 4294967296
def T2 (s : S8) : Int := (Sig0 s.a + majI s.a s.b s.c) % 4294967296
def rnd (s : S8) (k w : Int) : S8 := ⟨(T1 s k w + T2 s) % 4294967296, s.a, s.b, s.c, (s.d + T1 s k w) % 4294967296, s.e, s.f, s.g⟩
def rnds (s : S8) (W : List Int) : Nat → S8
  | 0 => s
  | t + 1 => rnd (rnds s W t) (Kt[t]?.getD 0) (W[t]?.getD 0)
def addS (s v : S8) : S8 := ⟨(s.a + v.a) % 4294967296, (s.b + v.b) % 4294967296, (s.c + v.c) % 4294967296, (s.d + v.d) % 4294967296, (s.e + v.e) % 4294967296, (s.f + v.f) % 4294967296, (s.g + v.g) % 4294967296, (s.h + v.h) % 4294967296⟩
/-- one block -/
def compress (s : S8) (bs : List Int) : S8 := addS s (rnds s (sched bs 64) 64)
def addL (st v : List Int) (i : Nat) : List Int := (List.zipWith (fun a b => (a + b) % 4294967296) st v).take i ++ st.drop i
theorem addL_len (st v : List Int) (i : Nat) (hs : st.length = 8) (hv : v.length = 8) (hi : i ≤ 8) : (addL st v i).length = 8 := by
  simp [addL, hs, hv]; omega
theorem addL_get (st v : List Int) (i : Nat) (hs : st.length = 8) (hv : v.length = 8) (hi : i < 8) : (ArrU32 (addL st v i))[i]? = some (.int .u32 (st[i]?.getD 0)) := by
  have h2 : i < st.length := by omega
  simp only [ArrU32, addL, List.getElem?_toArray, List.getElem?_map]
  rw [List.getElem?_append_right (by simp; omega)]
  simp only [List.length_take, List.length_zipWith, hs, hv, Nat.min_self, Nat.min_eq_left (Nat.le_of_lt hi), Nat.sub_self, List.getElem?_drop, Nat.add_zero]
  rw [List.getElem?_eq_getElem h2]; rfl
theorem addL_set (st v : List Int) (i : Nat) (hs : st.length = 8) (hv : v.length = 8) (hi : i < 8) (x : Int) (hx : x = (st[i]?.getD 0 + v[i]?.getD 0) % 4294967296) :
    (ArrU32 (addL st v i)).setIfInBounds i (.int .u32 x) = ArrU32 (addL st v (i + 1)) := by
  subst hx
  apply Array.ext_getElem?
  intro j
  simp only [ArrU32, addL, List.setIfInBounds_toArray, List.getElem?_toArray, List.getElem?_set, List.length_map, List.getElem?_map]
  by_cases hj : i = j
  · subst hj
    have h2 : i < st.length := by omega
    have h3 : i < v.length := by omega
    rw [if_pos rfl, if_pos (by simp; omega), List.getElem?_append_left (by simp; omega)]
    rw [List.getElem?_take, if_pos (by omega), List.getElem?_eq_getElem (l := List.zipWith _ st v) (by simp; omega)]
    rw [List.getElem_zipWith, List.getElem?_eq_getElem h2, List.getElem?_eq_getElem h3]
    rfl
  · rw [if_neg hj]
    congr 1
    by_cases h : j < i
    · rw [List.getElem?_append_left (by simp; omega), List.getElem?_append_left (by simp; omega)]
      simp only [List.getElem?_take]
      rw [if_pos h, if_pos (by omega)]
    · rw [List.getElem?_append_right (by simp; omega), List.getElem?_append_right (by simp; omega)]
      simp only [List.length_take, List.length_zipWith, hs, hv, List.getElem?_drop]
      congr 1; omega
theorem addL_end (s v : S8) : ArrU32 (addL s.list v.list 8) = ArrU32 (addS s v).list := by
  simp [addL, S8.list, addS]
theorem ArrU32_one (l : List Int) : (ArrU32 l).all (·.oneCell') = true := by
  simp [ArrU32, Value.oneCell']
end Go.Proofs.YtkajpcjmcpollaaDoor
