/- the reference's pager: Put, SetRoot -/
import Derived.Test.YtdkjkibdncbibaaGreatCm24
namespace Go.Proofs.YtdkjkibdncbibaaGreat
open Go.RowKit
open Go.Lib (hid)
def rputE (now : List (List Int)) (n : Int) : Int := if rin now n = true then 0 else 2
def rputN (now : List (List Int)) (n : Int) (b : List Int) : List (List Int) := if rin now n = true then now.set n.toNat b else now
section
variable {w w' : World} {B P gn : Nat} {nv wv : Value} {ar us : Int} {now : List (List Int)}
theorem RPg.put (h : RPg w B P gn nv wv ar us now) {i : Nat} {b : List Int} (hr : Rng b) (hn : BkC w' B gn nv (now.set i b)) (hc : Chg (fun q => q = gn) w w') : RPg w' B P gn nv wv ar us (now.set i b) :=
  { box := (hc.block P h.lt.1 h.np).trans h.box, nw := hn, np := h.np, bp := h.bp, ne := (by rw [List.length_set]; exact h.ne)
    rg := fun l hl => by
      rcases List.mem_or_eq_of_mem_set hl with h1 | h1
      · exact h.rg l h1
      · rw [h1]; exact hr }
end
set_option maxRecDepth 100000 in
set_option maxHeartbeats 1000000 in
theorem rput_any (B P gn : Nat) (nv wv : Value) (ar us : Int) (now : List (List Int)) (n : Int) (b : List Int) (w : World) (h : RPg w B P gn nv wv ar us now) (hn : n ≤ 9223372036854775807) (hu : nAt (z0 now) 0 ≤ now.length) (hb : b.length = 256) (hbr : Rng b) :
  Calls Tryz.prog 42 #[.pointer (some ⟨P, 0, none⟩), .int .i64 n, .agg (ArrU8 b)] w fun e w' => e = .returned (.int .i64 (rputE now n)) ∧ RPg w' B P gn nv wv ar us (rputN now n b) ∧ Chg (fun q => q = gn) w w' := by
 have HI35 := hid (show (Tryz.prog.info? 50).map (·.size) = some 256 by kernel_rfl)
 have SB := hid (show (ArrU8 b).size = 256 by rw [ArrU8_size, hb])
 have hb1 : Below w.heap.size w (w.alloc (.cells (ArrU8 b) 50)) := (Below.refl _ _).alloc (Nat.le_refl _) _
 have h1 := h.fresh hb1
 have HIN := hid (rin_any B P gn nv wv ar us now n _ h1 hn)
 have H1 := hid h1
 have HB1 := hid hb1
 have HBR := hid (And.intro hb hbr)
 have HLG := hid h.lt.2
 obtain ⟨cap, rfl⟩ := h.nw.1
 by_cases hr : rin now n = true
 ·obtain ⟨n1, n2⟩ := rin_lt hr hu
  obtain ⟨m, rfl⟩ : ∃ m : Nat, n = (m : Int) := ⟨n.toNat, by omega⟩
  have hm : m < now.length := by omega
  obtain ⟨l, hl⟩ : ∃ l, now[m]? = some l := ⟨_, List.getElem?_eq_getElem hm⟩
  have HTH := hid (bk_row H1.out.nw m l hl).2
  have HM := hid hm
  have HE := hid (show rputE now (m : Int) = 0 ∧ rputN now (m : Int) b = now.set m b by unfold rputE rputN; rw [if_pos hr, if_pos hr]; exact ⟨rfl, rfl⟩)
  have hml : (m : Int) < (now.length : Int) := n2
  have HS := hid (show (w.alloc (.cells (ArrU8 b) 50)).drew.heap[P]? = some (.cells #[.slice (some ⟨gn, 0, none⟩) now.length cap, wv, .int .i64 ar, .int .i64 us] 44 (0, 0)) ∧ (w.alloc (.cells (ArrU8 b) 50)).drew.heap[w.heap.size]? = some (.cells (ArrU8 b) 50 (0, 0)) from ⟨h1.box, heap_alloc_new _ _⟩)
  clear h h1 hb1 hl n1 n2 hm hb hbr
  go_enter Tryz.func42, Tryz.ntmps42
  go_wp2_with fail
  refine HIN.out.mono ?_
  rintro e w1 ⟨rfl, rfl⟩
  rw [hr]
  clear hr
  go_wp2_with fail
  refine wp_region_held_drew (S := fun u => u.heap[P]? = some (.cells #[.slice (some ⟨gn, 0, none⟩) now.length cap, wv, .int .i64 ar, .int .i64 us] 44 (0, 0)) ∧ u.heap[w.heap.size]? = some (.cells (ArrU8 b) 50 (0, 0))) (by kernel_rfl) (HS.out) (fun hHeld => ?_)
  refine tk (i := 0) (oi := ⟨some 11, .move (.tmp 0), 33, "ref.go:56", #[], none⟩) (v := ?_) (Or.inl ⟨by rfl, ?_⟩) ?_
  rotate_left 1
  ·(intro u hSw; go_simp; try with_reducible rfl)
  try simp only [Act.put, sA, sB, sC]
  refine tk (i := 1) (oi := ⟨some 12, .nilCheck (.tmp 11), 0, "ref.go:56", #[⟨0, .data⟩], none⟩) (v := ?_) (Or.inl ⟨by rfl, ?_⟩) ?_
  rotate_left 1
  ·(intro u hSw; go_simp; try with_reducible rfl)
  try simp only [Act.put, sA, sB, sC]
  refine tk (i := 2) (oi := ⟨some 13, .fieldAddr 44 (.tmp 12) 0, 0, "ref.go:56", #[⟨1, .data⟩], none⟩) (v := ?_) (Or.inl ⟨by rfl, ?_⟩) ?_
  rotate_left 1
  ·(intro u hSw; go_simp; try with_reducible rfl)
  try simp only [Act.put, sA, sB, sC]
  refine tk (i := 3) (oi := ⟨some 14, .load 25 (.tmp 13), 25, "ref.go:56", #[⟨2, .data⟩], none⟩) (v := ?_) (Or.inl ⟨by rfl, ?_⟩) ?_
  rotate_left 1
  ·(intro u hSw; have p0 := (cell_of_row u P 0 _ _ _ hSw.1).trans (show (#[Value.slice (some ⟨gn, 0, none⟩) now.length cap, wv, .int .i64 ar, .int .i64 us] : Array Value)[0]? = some (.slice (some ⟨gn, 0, none⟩) now.length cap) from rfl); go_simp; try with_reducible rfl)
  try simp only [Act.put, sA, sB, sC]
  refine tk (i := 4) (oi := ⟨some 15, .move (.tmp 1), 3, "ref.go:56", #[], none⟩) (v := ?_) (Or.inl ⟨by rfl, ?_⟩) ?_
  rotate_left 1
  ·(intro u hSw; go_simp; try with_reducible rfl)
  try simp only [Act.put, sA, sB, sC]
  refine tk (i := 5) (oi := ⟨some 16, .load 50 (.tmp 5), 50, "ref.go:56", #[], none⟩) (v := ?_) (Or.inl ⟨by rfl, ?_⟩) ?_
  rotate_left 1
  ·intro u hSw
   refine exec_load_row 50 (Operand.tmp 5) ?_ u w.heap.size ?_ (ArrU8 b) 50 (0, 0) _ hSw.2 Tryz.underlying50 rfl (by rw [HI35.out, SB.out]) <;> rfl
  try simp only [Act.put, sA, sB, sC]
  refine tk (i := 6) (oi := ⟨some 17, .indexAddr 25 (.tmp 14) (.tmp 15), 0, "ref.go:56", #[⟨3, .data⟩, ⟨4, .data⟩, ⟨0, .phase⟩, ⟨1, .phase⟩, ⟨2, .phase⟩, ⟨3, .phase⟩, ⟨4, .phase⟩, ⟨5, .phase⟩], none⟩) (v := ?_) (Or.inl ⟨by rfl, ?_⟩) ?_
  rotate_left 1
  ·(intro u hSw; go_simp; try with_reducible rfl)
  try simp only [Act.put, sA, sB, sC]
  refine wpAnyH_ready (rs := [7]) (by kernel_rfl) (by simp) ?_
  refine (AllReadyH.cons (o := ⟨none, .store 50 (.tmp 17) (.tmp 16), 0, "ref.go:56", #[⟨6, .data⟩, ⟨5, .data⟩, ⟨0, .phase⟩, ⟨1, .phase⟩, ⟨2, .phase⟩, ⟨3, .phase⟩, ⟨4, .phase⟩, ⟨5, .phase⟩], none⟩) rfl (fun K hK => ?_) AllReadyH.nil)
  refine step_of_skip ?_ (exec_store_mid 50 (Operand.tmp 17) (Operand.tmp 16) ?_ gn (m * 256) (ArrU8 b) ?_ ?_ (by rw [SB.out]; exact HTH.out) (by rw [SB.out]; exact HI35.out) (ArrU8_one _)) ?_
  rfl
  rfl
  rfl
  rfl
  have hcs : Chg (fun q => q = gn) (w.alloc (.cells (ArrU8 b) 50)) ((w.alloc (.cells (ArrU8 b) 50)).drew.setCells gn (m * 256) (b.map (Value.int .u8))) := Chg.setCells gn _ _ _ (Chg.fresh (F := fun q => q = gn) (Below.refl _ _).drew) rfl
  have HCS := hid hcs
  have HS2 := hid (show ((w.alloc (.cells (ArrU8 b) 50)).drew.setCells gn (m * 256) (b.map (Value.int .u8))).heap[P]? = some (.cells #[.slice (some ⟨gn, 0, none⟩) now.length cap, wv, .int .i64 ar, .int .i64 us] 44 (0, 0)) ∧ ((w.alloc (.cells (ArrU8 b) 50)).drew.setCells gn (m * 256) (b.map (Value.int .u8))).heap[w.heap.size]? = some (.cells (ArrU8 b) 50 (0, 0)) from ⟨(hcs.block P H1.out.lt.1 H1.out.np).trans HS.out.1, (hcs.block w.heap.size (by simp) (by have := HLG.out; omega)).trans HS.out.2⟩)
  refine hK.out _ _ HS2.out (fun hHeld => ?_)
  clear hK K
  try simp only [Act.put]
  refine wpAnyH_done (by kernel_rfl) ?_ _
  go_wp2_with fail
  go_ret
  have hbk := (H1.out.nw.of (w' := (w.alloc (.cells (ArrU8 b) 50)).drew) rfl H1.out.nw.2.2.1).set m HM.out b HBR.out.1
  exact ⟨by rw [HE.out.1]; rfl, by rw [HE.out.2]; exact H1.out.put HBR.out.2 hbk HCS.out, (Chg.fresh (F := fun q => q = gn) HB1.out).trans HCS.out (fun _ h => .inl h)⟩
 ·have HE := hid (show rputE now n = 2 ∧ rputN now n b = now by unfold rputE rputN; rw [if_neg hr, if_neg hr]; exact ⟨rfl, rfl⟩)
  have hrf : rin now n = false := by simpa using hr
  clear h h1 hb1 hb hbr hr
  go_enter Tryz.func42, Tryz.ntmps42
  go_wp2_with fail
  refine HIN.out.mono ?_
  rintro e w1 ⟨rfl, rfl⟩
  rw [hrf]
  clear hrf
  go_wp2_with fail
  go_ret
  exact ⟨by rw [HE.out.1]; rfl, by rw [HE.out.2]; exact H1.out, Chg.fresh HB1.out⟩
def rsrE (n : Int) : Int := if 0 ≤ n ∧ n < 16 then 0 else 2
def rsrN (now : List (List Int)) (n : Int) (x : Nat) : List (List Int) := if 0 ≤ n ∧ n < 16 then now.set 0 (putL (z0 now) (8 * (2 + n.toNat)) (be8 x)) else now
theorem putL_rng {l xs : List Int} {n : Nat} (hl : Rng l) (hx : Rng xs) : Rng (putL l n xs) := by
 intro y hy
 unfold putL at hy
 rcases List.mem_append.1 hy with h | h
 ·rcases List.mem_append.1 h with h | h
  ·exact hl y (List.mem_of_mem_take h)
  ·exact hx y h
 ·exact hl y (List.mem_of_mem_drop h)
theorem RPg.z0 {w : World} {B P gn : Nat} {nv wv : Value} {ar us : Int} {now : List (List Int)} (h : RPg w B P gn nv wv ar us now) : (z0 now).length = 256 ∧ Rng (Go.Proofs.YtdkjkibdncbibaaGreat.z0 now) :=
 ⟨(h.nw.2.2.2.1 0 _ (z0_get h.ne)).1, h.rg _ (List.mem_of_getElem? (z0_get h.ne))⟩
/-- the reference's set, told by its pager -/
theorem RPg.set {w : World} {B P gn : Nat} {nv wv : Value} {ar us : Int} {now : List (List Int)} (h : RPg w B P gn nv wv ar us now) (i at_ x : Nat) (l : List Int) (hl : now[i]? = some l) (hat : at_ + 8 ≤ 256) (hx : x < 18446744073709551616) (o : Nat) (ho : o = i * 256) :
  Calls Tryz.prog 41 #[.pointer (some ⟨gn, o, none⟩), .int .i64 (at_ : Int), .int .u64 (x : Int)] w fun e w' => e = .returned (.tuple #[]) ∧ RPg w' B P gn nv wv ar us (now.set i (putL l at_ (be8 x))) ∧ Chg (fun q => q = gn) w w' := by
 subst ho
 refine (rset5_any B gn nv now i at_ x l w h.nw hl hat hx).mono ?_
 rintro e w' ⟨rfl, h1, h2⟩
 exact ⟨rfl, h.put (putL_rng (h.rg l (List.mem_of_getElem? hl)) (be8_rng x)) h1 h2, h2⟩
set_option maxRecDepth 100000 in
set_option maxHeartbeats 1000000 in
theorem rsetroot_any (B P gn : Nat) (nv wv : Value) (ar us : Int) (now : List (List Int)) (n : Int) (x : Nat) (w : World) (h : RPg w B P gn nv wv ar us now) (hx : x < 18446744073709551616) :
  Calls Tryz.prog 47 #[.pointer (some ⟨P, 0, none⟩), .int .i64 n, .int .u64 (x : Int)] w fun e w' => e = .returned (.int .i64 (rsrE n)) ∧ RPg w' B P gn nv wv ar us (rsrN now n x) ∧ Chg (fun q => q = gn) w w' := by
 have HH := hid h
 have HX := hid hx
 obtain ⟨cap, rfl⟩ := h.nw.1
 have c0 := (cell_of_row w P 0 _ _ _ h.box).trans (show (#[Value.slice (some ⟨gn, 0, none⟩) now.length cap, wv, .int .i64 ar, .int .i64 us] : Array Value)[0]? = some (.slice (some ⟨gn, 0, none⟩) now.length cap) from rfl)
 have hlen : 0 < (now.length : Int) := by have := h.ne; omega
 by_cases h0 : n < 0
 ·have HR := hid (show rsrE n = 2 ∧ rsrN now n x = now by unfold rsrE rsrN; rw [if_neg (by omega), if_neg (by omega)]; exact ⟨rfl, rfl⟩)
  clear h hx
  go_enter Tryz.func47, Tryz.ntmps47
  go_wp2_with fail
  go_ret
  exact ⟨by rw [HR.out.1]; rfl, by rw [HR.out.2]; exact HH.out, Chg.refl _ _⟩
 ·by_cases h15 : n > 15
  ·have HR := hid (show rsrE n = 2 ∧ rsrN now n x = now by unfold rsrE rsrN; rw [if_neg (by omega), if_neg (by omega)]; exact ⟨rfl, rfl⟩)
   clear h hx
   go_enter Tryz.func47, Tryz.ntmps47
   go_wp2_with fail
   go_ret
   exact ⟨by rw [HR.out.1]; rfl, by rw [HR.out.2]; exact HH.out, Chg.refl _ _⟩
  ·obtain ⟨m, rfl⟩ : ∃ m : Nat, n = (m : Int) := ⟨n.toNat, by omega⟩
   have HR := hid (show rsrE (m : Int) = 0 ∧ rsrN now (m : Int) x = now.set 0 (putL (z0 now) (16 + 8 * m) (be8 x)) by
    unfold rsrE rsrN
    rw [if_pos ⟨by omega, by omega⟩, if_pos ⟨by omega, by omega⟩, show ((m : Int)).toNat = m from rfl, show 8 * (2 + m) = 16 + 8 * m by omega]
    exact ⟨rfl, rfl⟩)
   have HNU := hid (h.set 0 (16 + 8 * m) x (z0 now) (z0_get h.ne) (by omega) hx 0 rfl)
   have hw8 : IntKind.i64.wrap (8 * (m : Int)) = 8 * (m : Int) := wrap_i64 _ (by omega) (by omega)
   have hw16 : IntKind.i64.wrap (16 + 8 * (m : Int)) = ((16 + 8 * m : Nat) : Int) := by rw [wrap_i64 _ (by omega) (by omega)]; omega
   clear h hx
   go_enter Tryz.func47, Tryz.ntmps47
   go_wp2_with fail
   refine HNU.out.mono ?_
   rintro e w' ⟨rfl, hrp, hch⟩
   have HX2 := hid (And.intro hrp hch)
   clear hrp hch HNU
   go_wp2_with fail
   go_ret
   exact ⟨by rw [HR.out.1]; rfl, by rw [HR.out.2]; exact HX2.out.1, HX2.out.2⟩
end Go.Proofs.YtdkjkibdncbibaaGreat
/- the reference's pager: Free, Alloc -/
namespace Go.Proofs.YtdkjkibdncbibaaGreat
open Go.RowKit
open Go.Lib (hid)
section
variable {w w' : World} {B P gn : Nat} {nv wv : Value} {ar us : Int} {now : List (List Int)}
theorem RPg.clr (h : RPg w B P gn nv wv ar us now) (m : Nat) (hm : m < now.length) : RPg (w.setCells gn (m * 256) ((zeros 256).map (Value.int .u8))) B P gn nv wv ar us (now.set m (zeros 256)) ∧ Chg (fun q => q = gn) w (w.setCells gn (m * 256) ((zeros 256).map (Value.int .u8))) := by
 have hc : Chg (fun q => q = gn) w (w.setCells gn (m * 256) ((zeros 256).map (Value.int .u8))) := Chg.setCells gn _ _ _ (Chg.refl _ w) rfl
 exact ⟨h.put (rng_zeros _) (h.nw.set m hm (zeros 256) (zeros_len _)) hc, hc⟩
theorem RPg.drew (h : RPg w B P gn nv wv ar us now) : RPg w.drew B P gn nv wv ar us now := h.fresh (Below.refl _ _).drew
end
theorem Chg.drewL {F : Nat → Prop} {a b : World} (h : Chg F a b) : Chg F a b.drew := h.trans (Chg.fresh (F := fun _ => False) (Below.refl _ b).drew) (fun _ h => h.elim)
theorem z0_set {now : List (List Int)} (m : Nat) (b : List Int) (h : 0 < m) : z0 (now.set m b) = z0 now := by
 unfold z0
 rw [List.getElem?_set, if_neg (by omega)]
def rfrN (now : List (List Int)) (n : Int) : List (List Int) := if rin now n = true then (now.set n.toNat (putL (zeros 256) 0 (be8 (nAt (z0 now) 1)))).set 0 (putL (z0 now) 8 (be8 n.toNat)) else now
set_option maxRecDepth 100000 in
set_option maxHeartbeats 2000000 in
theorem rfree_any (B P gn : Nat) (nv wv : Value) (ar us : Int) (now : List (List Int)) (n : Int) (w : World) (h : RPg w B P gn nv wv ar us now) (hn : n ≤ 9223372036854775807) (hu : nAt (z0 now) 0 ≤ now.length) (hl4 : now.length ≤ 4096) :
  Calls Tryz.prog 45 #[.pointer (some ⟨P, 0, none⟩), .int .i64 n] w fun e w' => e = .returned (.int .i64 (rputE now n)) ∧ RPg w' B P gn nv wv ar us (rfrN now n) ∧ Chg (fun q => q = gn) w w' := by
 have HI35 := hid (show (Tryz.prog.info? 50).map (·.size) = some 256 by kernel_rfl)
 have SZ := hid (show (ArrU8 (zeros 256)).size = 256 by rw [ArrU8_size, zeros_len])
 have hbl : ∀ u : World, (Instr.build 50 #[]).run Tryz.prog u = .ok (.agg (ArrU8 (zeros 256))) u := fun u => by kernel_rfl
 have HIN := hid (rin_any B P gn nv wv ar us now n _ h hn)
 have HH := hid h
 obtain ⟨cap, rfl⟩ := h.nw.1
 have c0 := (cell_of_row _ P 0 _ _ _ h.box).trans (show (#[Value.slice (some ⟨gn, 0, none⟩) now.length cap, wv, .int .i64 ar, .int .i64 us] : Array Value)[0]? = some (.slice (some ⟨gn, 0, none⟩) now.length cap) from rfl)
 by_cases hr : rin now n = true
 ·obtain ⟨n1, n2⟩ := rin_lt hr hu
  obtain ⟨m, rfl⟩ : ∃ m : Nat, n = (m : Int) := ⟨n.toNat, by omega⟩
  have hm : m < now.length := by omega
  have HM := hid hm
  have HE := hid (show rputE now (m : Int) = 0 ∧ rfrN now (m : Int) = (now.set m (putL (zeros 256) 0 (be8 (nAt (z0 now) 1)))).set 0 (putL (z0 now) 8 (be8 m)) by unfold rputE rfrN; rw [if_pos hr, if_pos hr]; exact ⟨rfl, rfl⟩)
  have hml : (m : Int) < (now.length : Int) := n2
  have hmg : 0 < m := by omega
  have hne := h.ne
  obtain ⟨l, hl⟩ : ∃ l, now[m]? = some l := ⟨_, List.getElem?_eq_getElem hm⟩
  have HTH := hid (bk_row h.nw m l hl).2
  have HCL := hid (h.clr m hm)
  have h3 := (h.clr m hm).1
  generalize hw3 : w.setCells gn (m * 256) ((zeros 256).map (Value.int .u8)) = w3 at *
  have HW3 := hid hw3
  have HR3 := hid h3.drew
  have HNU := hid (h3.drew.num 0 8 (z0 now) (by rw [z0_get h3.ne, z0_set m _ hmg]) (by decide) 0 rfl)
  have hbe : beI (((z0 now).drop 8).take 8) < 18446744073709551616 := nAt_lt _ h.z0.2 1
  have HBE := hid (show beI (((z0 now).drop 8).take 8) = nAt (z0 now) 1 from rfl)
  have HST := hid (h3.drew.set m 0 (beI (((z0 now).drop 8).take 8)) (zeros 256) (by rw [List.getElem?_set, if_pos rfl, if_pos hm]) (by decide) hbe (m * 256) rfl)
  have HS3 := hid h3.drew.box
  have hwm : IntKind.u64.wrap (m : Int) = (m : Int) := wrap_u64n _ (by omega) (by omega)
  have c3 := (cell_of_row _ P 0 _ _ _ h3.box).trans (show (#[Value.slice (some ⟨gn, 0, none⟩) now.length cap, wv, .int .i64 ar, .int .i64 us] : Array Value)[0]? = some (.slice (some ⟨gn, 0, none⟩) now.length cap) from rfl)
  have HLG := hid (show m < 18446744073709551616 by omega)
  clear h h3 hl n1 n2 hm hw3
  go_enter Tryz.func45, Tryz.ntmps45
  go_wp2_with fail
  refine HIN.out.mono ?_
  rintro e w1 ⟨rfl, rfl⟩
  rw [hr]
  clear hr
  go_wp2_with (refine wpList_store_mid rfl 50 (Operand.tmp 15) (Operand.tmp 14) rfl gn (m * 256) (ArrU8 (zeros 256)) rfl rfl (by rw [SZ.out]; exact HTH.out) (by rw [SZ.out]; exact HI35.out) (ArrU8_one _) ?_)
  rw [show w.setCells gn (m * 256) (ArrU8 (zeros 256)).toList = w3 from HW3.out]
  go_wp2_with fail
  refine wp_region_held_drew (S := fun u => u.heap[P]? = some (.cells #[.slice (some ⟨gn, 0, none⟩) now.length cap, wv, .int .i64 ar, .int .i64 us] 44 (0, 0))) (by kernel_rfl) (HS3.out) (fun hHeld => ?_)
  refine tk (i := 0) (oi := ⟨some 16, .move (.tmp 0), 33, "ref.go:83", #[], none⟩) (v := ?_) (Or.inl ⟨by rfl, ?_⟩) ?_
  rotate_left 1
  ·(intro u hSw; go_simp; try with_reducible rfl)
  try simp only [Act.put, sA, sB, sC]
  refine tk (i := 1) (oi := ⟨some 17, .nilCheck (.tmp 16), 0, "ref.go:83", #[⟨0, .data⟩], none⟩) (v := ?_) (Or.inl ⟨by rfl, ?_⟩) ?_
  rotate_left 1
  ·(intro u hSw; go_simp; try with_reducible rfl)
  try simp only [Act.put, sA, sB, sC]
  refine tk (i := 2) (oi := ⟨some 18, .fieldAddr 44 (.tmp 17) 0, 0, "ref.go:83", #[⟨1, .data⟩], none⟩) (v := ?_) (Or.inl ⟨by rfl, ?_⟩) ?_
  rotate_left 1
  ·(intro u hSw; go_simp; try with_reducible rfl)
  try simp only [Act.put, sA, sB, sC]
  refine tk (i := 3) (oi := ⟨some 19, .load 25 (.tmp 18), 25, "ref.go:83", #[⟨2, .data⟩], none⟩) (v := ?_) (Or.inl ⟨by rfl, ?_⟩) ?_
  rotate_left 1
  ·(intro u hSw; have p0 := (cell_of_row u P 0 _ _ _ hSw).trans (show (#[Value.slice (some ⟨gn, 0, none⟩) now.length cap, wv, .int .i64 ar, .int .i64 us] : Array Value)[0]? = some (.slice (some ⟨gn, 0, none⟩) now.length cap) from rfl); go_simp; try with_reducible rfl)
  try simp only [Act.put, sA, sB, sC]
  refine tk (i := 4) (oi := ⟨some 20, .move (.tmp 1), 3, "ref.go:83", #[], none⟩) (v := ?_) (Or.inl ⟨by rfl, ?_⟩) ?_
  rotate_left 1
  ·(intro u hSw; go_simp; try with_reducible rfl)
  try simp only [Act.put, sA, sB, sC]
  refine tk (i := 5) (oi := ⟨some 21, .indexAddr 25 (.tmp 19) (.tmp 20), 0, "ref.go:83", #[⟨3, .data⟩, ⟨4, .data⟩], none⟩) (v := ?_) (Or.inl ⟨by rfl, ?_⟩) ?_
  rotate_left 1
  ·(intro u hSw; go_simp; try with_reducible rfl)
  try simp only [Act.put, sA, sB, sC]
  refine tk (i := 6) (oi := ⟨some 22, .move (.tmp 0), 33, "ref.go:83", #[], none⟩) (v := ?_) (Or.inl ⟨by rfl, ?_⟩) ?_
  rotate_left 1
  ·(intro u hSw; go_simp; try with_reducible rfl)
  try simp only [Act.put, sA, sB, sC]
  refine tk (i := 7) (oi := ⟨some 23, .nilCheck (.tmp 22), 0, "ref.go:83", #[⟨6, .data⟩], none⟩) (v := ?_) (Or.inl ⟨by rfl, ?_⟩) ?_
  rotate_left 1
  ·(intro u hSw; go_simp; try with_reducible rfl)
  try simp only [Act.put, sA, sB, sC]
  refine tk (i := 8) (oi := ⟨some 24, .fieldAddr 44 (.tmp 23) 0, 0, "ref.go:83", #[⟨7, .data⟩], none⟩) (v := ?_) (Or.inl ⟨by rfl, ?_⟩) ?_
  rotate_left 1
  ·(intro u hSw; go_simp; try with_reducible rfl)
  try simp only [Act.put, sA, sB, sC]
  refine tk (i := 9) (oi := ⟨some 25, .load 25 (.tmp 24), 25, "ref.go:83", #[⟨8, .data⟩], none⟩) (v := ?_) (Or.inl ⟨by rfl, ?_⟩) ?_
  rotate_left 1
  ·(intro u hSw; have p0 := (cell_of_row u P 0 _ _ _ hSw).trans (show (#[Value.slice (some ⟨gn, 0, none⟩) now.length cap, wv, .int .i64 ar, .int .i64 us] : Array Value)[0]? = some (.slice (some ⟨gn, 0, none⟩) now.length cap) from rfl); go_simp; try with_reducible rfl)
  try simp only [Act.put, sA, sB, sC]
  refine tk (i := 10) (oi := ⟨some 26, .indexAddr 25 (.tmp 25) (.const (Value.int IntKind.i64 0)), 0, "ref.go:83", #[⟨9, .data⟩], none⟩) (v := ?_) (Or.inl ⟨by rfl, ?_⟩) ?_
  rotate_left 1
  ·(intro u hSw; go_simp; try with_reducible rfl)
  try simp only [Act.put, sA, sB, sC]
  refine wpAnyH_ready (rs := [11]) (by kernel_rfl) (by simp) ?_
  refine (AllReadyH.cons (o := ⟨some 27, .call ⟨.value (.func 77), #[.tmp 26, .const (Value.int IntKind.i64 8)], #[89, 3]⟩, 60, "ref.go:83", #[⟨10, .data⟩], none⟩) rfl (fun K hK => ?_) AllReadyH.nil)
  go_simp
  refine HNU.out.mono ?_
  rintro e w4 ⟨rfl, rfl⟩
  go_wp2_with fail
  refine hK.out _ _ HS3.out (fun hHeld => ?_)
  clear hK K
  try simp only [Act.put, sA, sB, sC]
  refine wpAnyH_ready (rs := [12]) (by kernel_rfl) (by simp) ?_
  refine (AllReadyH.cons (o := ⟨some 28, .call ⟨.value (.func 41), #[.tmp 21, .const (Value.int IntKind.i64 0), .tmp 27], #[89, 3, 60]⟩, 0, "ref.go:83", #[⟨5, .data⟩, ⟨11, .data⟩, ⟨11, .chain⟩], none⟩) rfl (fun K hK => ?_) AllReadyH.nil)
  go_simp
  refine HST.out.mono ?_
  rintro e w5 ⟨rfl, hrp, hch⟩
  have HR5 := hid hrp
  have HC5 := hid hch
  have HS5 := hid hrp.box
  clear hrp hch
  go_wp2_with fail
  refine hK.out _ _ HS5.out (fun hHeld => ?_)
  clear hK K
  try simp only [Act.put, sA, sB, sC]
  refine wpAnyH_done (by kernel_rfl) ?_ _
  have hgz : ((now.set m (zeros 256)).set m (putL (zeros 256) 0 (be8 (beI (((z0 now).drop 8).take 8)))))[0]? = some (z0 now) := by
   rw [List.getElem?_set, if_neg (by omega), List.getElem?_set, if_neg (by omega)]
   exact z0_get HH.out.ne
  have HLS := hid (HR5.out.set 0 8 m (z0 now) hgz (by decide) HLG.out 0 rfl)
  have c5 := (cell_of_row _ P 0 _ _ _ HS5.out).trans (show (#[Value.slice (some ⟨gn, 0, none⟩) now.length cap, wv, .int .i64 ar, .int .i64 us] : Array Value)[0]? = some (.slice (some ⟨gn, 0, none⟩) now.length cap) from rfl)
  clear hgz c0 c3
  go_wp2_with fail
  refine HLS.out.mono ?_
  rintro e w6 ⟨rfl, hrp, hch⟩
  have HX := hid (And.intro hrp hch)
  clear hrp hch HLS
  go_wp2_with fail
  go_ret
  refine ⟨by rw [HE.out.1]; rfl, ?_, ((HCL.out.2.drewL).trans HC5.out (fun _ h => .inl h)).trans HX.out.2 (fun _ h => .inl h)⟩
  rw [HE.out.2]
  have h1 := HX.out.1
  rw [List.set_set, HBE.out] at h1
  have h2 : RPg w6 B P gn (.slice (some ⟨gn, 0, none⟩) now.length cap) wv ar us ((now.set m (putL (zeros 256) 0 (be8 (nAt (z0 now) 1)))).set 0 (putL (z0 now) 8 (be8 m))) := h1
  exact h2
 ·have HE := hid (show rputE now n = 2 ∧ rfrN now n = now by unfold rputE rfrN; rw [if_neg hr, if_neg hr]; exact ⟨rfl, rfl⟩)
  have hrf : rin now n = false := by simpa using hr
  clear h hr
  go_enter Tryz.func45, Tryz.ntmps45
  go_wp2_with fail
  refine HIN.out.mono ?_
  rintro e w1 ⟨rfl, rfl⟩
  rw [hrf]
  clear hrf
  go_wp2_with fail
  go_ret
  exact ⟨by rw [HE.out.1]; rfl, by rw [HE.out.2]; exact HH.out, Chg.refl _ _⟩
end Go.Proofs.YtdkjkibdncbibaaGreat
/- the reference's pager: Alloc -/
namespace Go.Proofs.YtdkjkibdncbibaaGreat
open Go.RowKit
open Go.Lib (hid)
def ralA (now : List (List Int)) : Prop := 1 ≤ nAt (z0 now) 1 ∧ nAt (z0 now) 1 < nAt (z0 now) 0
instance (now : List (List Int)) : Decidable (ralA now) := by unfold ralA; infer_instance
def ralV (now : List (List Int)) : Int × Int := if ralA now then ((nAt (z0 now) 1 : Nat), 0) else if now.length ≤ nAt (z0 now) 0 then (0, 42) else ((nAt (z0 now) 0 : Nat), 0)
def ralN (now : List (List Int)) : List (List Int) := if ralA now then (now.set 0 (putL (z0 now) 8 (be8 (beI ((now[nAt (z0 now) 1]?.getD []).take 8))))).set (nAt (z0 now) 1) (zeros 256)
 else if now.length ≤ nAt (z0 now) 0 then now else (now.set 0 (putL (z0 now) 0 (be8 (nAt (z0 now) 0 + 1)))).set (nAt (z0 now) 0) (zeros 256)
set_option maxRecDepth 100000 in
set_option maxHeartbeats 2000000 in
theorem ralloc_any (B P gn : Nat) (nv wv : Value) (ar us : Int) (now : List (List Int)) (w : World) (h : RPg w B P gn nv wv ar us now) (hu : nAt (z0 now) 0 ≤ now.length) (hl4 : now.length ≤ 4096) :
  Calls Tryz.prog 44 #[.pointer (some ⟨P, 0, none⟩)] w fun e w' => e = .returned (.tuple #[.int .i64 (ralV now).1, .int .i64 (ralV now).2]) ∧ RPg w' B P gn nv wv ar us (ralN now) ∧ Chg (fun q => q = gn) w w' := by
 have HI35 := hid (show (Tryz.prog.info? 50).map (·.size) = some 256 by kernel_rfl)
 have SZ := hid (show (ArrU8 (zeros 256)).size = 256 by rw [ArrU8_size, zeros_len])
 have hbl : ∀ u : World, (Instr.build 50 #[]).run Tryz.prog u = .ok (.agg (ArrU8 (zeros 256))) u := fun u => by kernel_rfl
 have HH := hid h
 have hne := h.ne
 obtain ⟨cap, rfl⟩ := h.nw.1
 have c0 := (cell_of_row _ P 0 _ _ _ h.box).trans (show (#[Value.slice (some ⟨gn, 0, none⟩) now.length cap, wv, .int .i64 ar, .int .i64 us] : Array Value)[0]? = some (.slice (some ⟨gn, 0, none⟩) now.length cap) from rfl)
 have HN0 := hid (show Calls Tryz.prog 77 #[.pointer (some ⟨gn, 0, none⟩), .int .i64 0] w fun e w' => w = w' ∧ e = .returned (.int .u64 (nAt (z0 now) 0 : Nat)) from h.num 0 0 (z0 now) (z0_get h.ne) (by decide) 0 rfl)
 have HN1 := hid (show Calls Tryz.prog 77 #[.pointer (some ⟨gn, 0, none⟩), .int .i64 8] w fun e w' => w = w' ∧ e = .returned (.int .u64 (nAt (z0 now) 1 : Nat)) from h.num 0 8 (z0 now) (z0_get h.ne) (by decide) 0 rfl)
 have hN1b := nAt_lt _ h.z0.2 1
 by_cases hA : ralA now
 ·have HE := hid (show ralV now = (((nAt (z0 now) 1 : Nat) : Int), 0) ∧ ralN now = (now.set 0 (putL (z0 now) 8 (be8 (beI ((now[nAt (z0 now) 1]?.getD []).take 8))))).set (nAt (z0 now) 1) (zeros 256) by unfold ralV ralN; rw [if_pos hA, if_pos hA]; exact ⟨rfl, rfl⟩)
  unfold ralA at hA
  obtain ⟨u, hud⟩ : ∃ u, u = nAt (z0 now) 0 := ⟨_, rfl⟩
  obtain ⟨m, hmd⟩ : ∃ m, m = nAt (z0 now) 1 := ⟨_, rfl⟩
  rw [← hud] at HN0 hu hA
  rw [← hmd] at HN1 hA HE hN1b
  have hm : m < now.length := by omega
  obtain ⟨l, hl⟩ : ∃ l, now[m]? = some l := ⟨_, List.getElem?_eq_getElem hm⟩
  have hlr := h.rg l (List.mem_of_getElem? hl)
  have HLB := hid (show beI ((l.drop 0).take 8) < 18446744073709551616 from nAt_lt _ hlr 0)
  have HEL := hid (show now[m]?.getD [] = l by rw [hl]; rfl)
  have HNU := hid (h.drew.num m 0 l hl (by decide) (m * 256) rfl)
  have HST := hid (h.drew.set 0 8 (beI ((l.drop 0).take 8)) (z0 now) (z0_get h.ne) (by decide) HLB.out 0 rfl)
  have HS0 := hid h.drew.box
  have hml : (m : Int) < (now.length : Int) := by omega
  have hg1 : (m : Int) ≥ 1 := by omega
  have hg2 : (m : Int) < (u : Int) := by omega
  have HM := hid hm
  have HWR := hid (show IntKind.i64.wrap (m : Int) = (m : Int) from wrap_i64 _ (by omega) (by omega))
  have hwr := HWR.out
  clear h hl hlr hud hmd hu hA hN1b
  go_enter Tryz.func44, Tryz.ntmps44
  go_wp2_with fail
  refine HN0.out.mono ?_
  rintro e w1 ⟨rfl, rfl⟩
  go_wp2_with fail
  refine HN1.out.mono ?_
  rintro e w1 ⟨rfl, rfl⟩
  go_wp2_with fail
  refine wp_region_held_drew (S := fun u => u.heap[P]? = some (.cells #[.slice (some ⟨gn, 0, none⟩) now.length cap, wv, .int .i64 ar, .int .i64 us] 44 (0, 0))) (by kernel_rfl) (HS0.out) (fun hHeld => ?_)
  refine tk (i := 0) (oi := ⟨some 25, .move (.tmp 0), 33, "ref.go:65", #[], none⟩) (v := ?_) (Or.inl ⟨by rfl, ?_⟩) ?_
  rotate_left 1
  ·(intro u hSw; go_simp; try with_reducible rfl)
  try simp only [Act.put, sA, sB, sC]
  refine tk (i := 1) (oi := ⟨some 26, .nilCheck (.tmp 25), 0, "ref.go:65", #[⟨0, .data⟩], none⟩) (v := ?_) (Or.inl ⟨by rfl, ?_⟩) ?_
  rotate_left 1
  ·(intro u hSw; go_simp; try with_reducible rfl)
  try simp only [Act.put, sA, sB, sC]
  refine tk (i := 2) (oi := ⟨some 27, .fieldAddr 44 (.tmp 26) 0, 0, "ref.go:65", #[⟨1, .data⟩], none⟩) (v := ?_) (Or.inl ⟨by rfl, ?_⟩) ?_
  rotate_left 1
  ·(intro u hSw; go_simp; try with_reducible rfl)
  try simp only [Act.put, sA, sB, sC]
  refine tk (i := 3) (oi := ⟨some 28, .load 25 (.tmp 27), 25, "ref.go:65", #[⟨2, .data⟩], none⟩) (v := ?_) (Or.inl ⟨by rfl, ?_⟩) ?_
  rotate_left 1
  ·(intro u hSw; have p0 := (cell_of_row u P 0 _ _ _ hSw).trans (show (#[Value.slice (some ⟨gn, 0, none⟩) now.length cap, wv, .int .i64 ar, .int .i64 us] : Array Value)[0]? = some (.slice (some ⟨gn, 0, none⟩) now.length cap) from rfl); go_simp; try with_reducible rfl)
  try simp only [Act.put, sA, sB, sC]
  refine tk (i := 4) (oi := ⟨some 29, .indexAddr 25 (.tmp 28) (.const (Value.int IntKind.i64 0)), 0, "ref.go:65", #[⟨3, .data⟩], none⟩) (v := ?_) (Or.inl ⟨by rfl, ?_⟩) ?_
  rotate_left 1
  ·(intro u hSw; go_simp; try with_reducible rfl)
  try simp only [Act.put, sA, sB, sC]
  refine tk (i := 5) (oi := ⟨some 30, .move (.tmp 0), 33, "ref.go:65", #[], none⟩) (v := ?_) (Or.inl ⟨by rfl, ?_⟩) ?_
  rotate_left 1
  ·(intro u hSw; go_simp; try with_reducible rfl)
  try simp only [Act.put, sA, sB, sC]
  refine tk (i := 6) (oi := ⟨some 31, .nilCheck (.tmp 30), 0, "ref.go:65", #[⟨5, .data⟩], none⟩) (v := ?_) (Or.inl ⟨by rfl, ?_⟩) ?_
  rotate_left 1
  ·(intro u hSw; go_simp; try with_reducible rfl)
  try simp only [Act.put, sA, sB, sC]
  refine tk (i := 7) (oi := ⟨some 32, .fieldAddr 44 (.tmp 31) 0, 0, "ref.go:65", #[⟨6, .data⟩], none⟩) (v := ?_) (Or.inl ⟨by rfl, ?_⟩) ?_
  rotate_left 1
  ·(intro u hSw; go_simp; try with_reducible rfl)
  try simp only [Act.put, sA, sB, sC]
  refine tk (i := 8) (oi := ⟨some 33, .load 25 (.tmp 32), 25, "ref.go:65", #[⟨7, .data⟩], none⟩) (v := ?_) (Or.inl ⟨by rfl, ?_⟩) ?_
  rotate_left 1
  ·(intro u hSw; have p0 := (cell_of_row u P 0 _ _ _ hSw).trans (show (#[Value.slice (some ⟨gn, 0, none⟩) now.length cap, wv, .int .i64 ar, .int .i64 us] : Array Value)[0]? = some (.slice (some ⟨gn, 0, none⟩) now.length cap) from rfl); go_simp; try with_reducible rfl)
  try simp only [Act.put, sA, sB, sC]
  refine tk (i := 9) (oi := ⟨some 34, .move (.tmp 5), 60, "ref.go:65", #[], none⟩) (v := ?_) (Or.inl ⟨by rfl, ?_⟩) ?_
  rotate_left 1
  ·(intro u hSw; go_simp; try with_reducible rfl)
  try simp only [Act.put, sA, sB, sC]
  refine tk (i := 10) (oi := ⟨some 35, .indexAddr 25 (.tmp 33) (.tmp 34), 0, "ref.go:65", #[⟨8, .data⟩, ⟨9, .data⟩], none⟩) (v := ?_) (Or.inl ⟨by rfl, ?_⟩) ?_
  rotate_left 1
  ·(intro u hSw; go_simp; try with_reducible rfl)
  try simp only [Act.put, sA, sB, sC]
  refine wpAnyH_ready (rs := [11]) (by kernel_rfl) (by simp) ?_
  refine (AllReadyH.cons (o := ⟨some 36, .call ⟨.value (.func 77), #[.tmp 35, .const (Value.int IntKind.i64 0)], #[89, 3]⟩, 60, "ref.go:65", #[⟨10, .data⟩], none⟩) rfl (fun K hK => ?_) AllReadyH.nil)
  go_simp
  refine HNU.out.mono ?_
  rintro e w4 ⟨rfl, rfl⟩
  go_wp2_with fail
  refine hK.out _ _ HS0.out (fun hHeld => ?_)
  clear hK K
  try simp only [Act.put, sA, sB, sC]
  refine wpAnyH_ready (rs := [12]) (by kernel_rfl) (by simp) ?_
  refine (AllReadyH.cons (o := ⟨some 37, .call ⟨.value (.func 41), #[.tmp 29, .const (Value.int IntKind.i64 8), .tmp 36], #[89, 3, 60]⟩, 0, "ref.go:65", #[⟨4, .data⟩, ⟨11, .data⟩, ⟨11, .chain⟩], none⟩) rfl (fun K hK => ?_) AllReadyH.nil)
  go_simp
  refine HST.out.mono ?_
  rintro e w5 ⟨rfl, hrp, hch⟩
  have HR5 := hid hrp
  have HC5 := hid hch
  clear hrp hch
  go_wp2_with fail
  refine hK.out _ _ HR5.out.box (fun hHeld => ?_)
  clear hK K
  try simp only [Act.put, sA, sB, sC]
  refine wpAnyH_done (by kernel_rfl) ?_ _
  have hm5 : m < (now.set 0 (putL (z0 now) 8 (be8 (beI ((l.drop 0).take 8))))).length := by rw [List.length_set]; exact HM.out
  obtain ⟨l5, hl5⟩ : ∃ l5, (now.set 0 (putL (z0 now) 8 (be8 (beI ((l.drop 0).take 8)))))[m]? = some l5 := ⟨_, List.getElem?_eq_getElem hm5⟩
  have HTH := hid (bk_row HR5.out.nw m l5 hl5).2
  have HCL := hid (show RPg (w5.setCells gn (m * 256) (ArrU8 (zeros 256)).toList) B P gn _ wv ar us _ ∧ Chg (fun q => q = gn) w5 (w5.setCells gn (m * 256) (ArrU8 (zeros 256)).toList) from HR5.out.clr m hm5)
  have c5 := (cell_of_row _ P 0 _ _ _ HR5.out.box).trans (show (#[Value.slice (some ⟨gn, 0, none⟩) now.length cap, wv, .int .i64 ar, .int .i64 us] : Array Value)[0]? = some (.slice (some ⟨gn, 0, none⟩) now.length cap) from rfl)
  clear c0 hm5 hl5
  go_wp2_with (refine wpList_store_mid rfl 50 (Operand.tmp 44) (Operand.tmp 43) rfl gn (m * 256) (ArrU8 (zeros 256)) rfl rfl (by rw [SZ.out]; exact HTH.out) (by rw [SZ.out]; exact HI35.out) (ArrU8_one _) ?_; generalize w5.setCells gn (m * 256) (ArrU8 (zeros 256)).toList = w6 at *)
  go_ret2
  refine ⟨by rw [HE.out.1]; rfl, ?_, ((Chg.fresh (F := fun q => q = gn) (Below.refl _ w).drew).trans HC5.out (fun _ h => .inl h)).trans HCL.out.2 (fun _ h => .inl h)⟩
  rw [HE.out.2, HEL.out]
  exact HCL.out.1
 ·have hA2 := hA
  unfold ralA at hA2
  obtain ⟨u, hud⟩ : ∃ u, u = nAt (z0 now) 0 := ⟨_, rfl⟩
  obtain ⟨m, hmd⟩ : ∃ m, m = nAt (z0 now) 1 := ⟨_, rfl⟩
  by_cases hf : now.length ≤ nAt (z0 now) 0
  ·have HE := hid (show ralV now = (0, 42) ∧ ralN now = now by unfold ralV ralN; rw [if_neg hA, if_neg hA, if_pos hf, if_pos hf]; exact ⟨rfl, rfl⟩)
   rw [← hud] at HN0 hf hA2
   rw [← hmd] at HN1 hA2
   have hwl : IntKind.u64.wrap (now.length : Int) = (now.length : Int) := wrap_u64n _ (by omega) (by omega)
   have hge : (u : Int) ≥ (now.length : Int) := by omega
   clear h hud hmd hu hA hN1b hf
   by_cases h1 : 1 ≤ m
   ·have hg1 : (m : Int) ≥ 1 := by omega
    have hg2 : ¬ (m : Int) < (u : Int) := by omega
    clear hA2 h1
    go_enter Tryz.func44, Tryz.ntmps44
    go_wp2_with fail
    refine HN0.out.mono ?_
    rintro e w1 ⟨rfl, rfl⟩
    go_wp2_with fail
    refine HN1.out.mono ?_
    rintro e w1 ⟨rfl, rfl⟩
    go_wp2_with fail
    go_ret2
    exact ⟨by rw [HE.out.1]; rfl, by rw [HE.out.2]; exact HH.out, Chg.refl _ _⟩
   ·have hg1 : ¬ (m : Int) ≥ 1 := by omega
    clear hA2 h1
    go_enter Tryz.func44, Tryz.ntmps44
    go_wp2_with fail
    refine HN0.out.mono ?_
    rintro e w1 ⟨rfl, rfl⟩
    go_wp2_with fail
    refine HN1.out.mono ?_
    rintro e w1 ⟨rfl, rfl⟩
    go_wp2_with fail
    go_ret2
    exact ⟨by rw [HE.out.1]; rfl, by rw [HE.out.2]; exact HH.out, Chg.refl _ _⟩
  ·have HE := hid (show ralV now = (((nAt (z0 now) 0 : Nat) : Int), 0) ∧ ralN now = (now.set 0 (putL (z0 now) 0 (be8 (nAt (z0 now) 0 + 1)))).set (nAt (z0 now) 0) (zeros 256) by unfold ralV ralN; rw [if_neg hA, if_neg hA, if_neg hf, if_neg hf]; exact ⟨rfl, rfl⟩)
   rw [← hud] at HN0 hf hA2 HE
   rw [← hmd] at HN1 hA2
   have hwl : IntKind.u64.wrap (now.length : Int) = (now.length : Int) := wrap_u64n _ (by omega) (by omega)
   have hge : ¬ (u : Int) ≥ (now.length : Int) := by omega
   have hul : (u : Int) < (now.length : Int) := by omega
   have hwu : IntKind.u64.wrap ((u : Int) + 1) = ((u + 1 : Nat) : Int) := by rw [wrap_u64n _ (by omega) (by omega)]; omega
   have hwi : IntKind.i64.wrap (u : Int) = (u : Int) := wrap_i64 _ (by omega) (by omega)
   have HST := hid (h.set 0 0 (u + 1) (z0 now) (z0_get h.ne) (by decide) (by omega) 0 rfl)
   have HM := hid (show u < now.length by omega)
   clear h hud hmd hu hA hN1b hf
   by_cases h1 : 1 ≤ m
   ·have hg1 : (m : Int) ≥ 1 := by omega
    have hg2 : ¬ (m : Int) < (u : Int) := by omega
    clear hA2 h1
    go_enter Tryz.func44, Tryz.ntmps44
    go_wp2_with fail
    refine HN0.out.mono ?_
    rintro e w1 ⟨rfl, rfl⟩
    go_wp2_with fail
    refine HN1.out.mono ?_
    rintro e w1 ⟨rfl, rfl⟩
    go_wp2_with fail
    refine HST.out.mono ?_
    rintro e w5 ⟨rfl, hrp, hch⟩
    have HR5 := hid hrp
    have HC5 := hid hch
    clear hrp hch HST
    have hm5 : u < (now.set 0 (putL (z0 now) 0 (be8 (u + 1)))).length := by rw [List.length_set]; exact HM.out
    obtain ⟨l5, hl5⟩ : ∃ l5, (now.set 0 (putL (z0 now) 0 (be8 (u + 1))))[u]? = some l5 := ⟨_, List.getElem?_eq_getElem hm5⟩
    have HTH := hid (bk_row HR5.out.nw u l5 hl5).2
    have HCL := hid (show RPg (w5.setCells gn (u * 256) (ArrU8 (zeros 256)).toList) B P gn _ wv ar us _ ∧ Chg (fun q => q = gn) w5 (w5.setCells gn (u * 256) (ArrU8 (zeros 256)).toList) from HR5.out.clr u hm5)
    have c5 := (cell_of_row _ P 0 _ _ _ HR5.out.box).trans (show (#[Value.slice (some ⟨gn, 0, none⟩) now.length cap, wv, .int .i64 ar, .int .i64 us] : Array Value)[0]? = some (.slice (some ⟨gn, 0, none⟩) now.length cap) from rfl)
    clear c0 hm5 hl5
    go_wp2_with (refine wpList_store_mid rfl 50 (Operand.tmp 69) (Operand.tmp 68) rfl gn (u * 256) (ArrU8 (zeros 256)) rfl rfl (by rw [SZ.out]; exact HTH.out) (by rw [SZ.out]; exact HI35.out) (ArrU8_one _) ?_; generalize w5.setCells gn (u * 256) (ArrU8 (zeros 256)).toList = w6 at *)
    go_ret2
    refine ⟨by rw [HE.out.1]; rfl, ?_, HC5.out.trans HCL.out.2 (fun _ h => .inl h)⟩
    rw [HE.out.2]
    exact HCL.out.1
   ·have hg1 : ¬ (m : Int) ≥ 1 := by omega
    clear hA2 h1
    go_enter Tryz.func44, Tryz.ntmps44
    go_wp2_with fail
    refine HN0.out.mono ?_
    rintro e w1 ⟨rfl, rfl⟩
    go_wp2_with fail
    refine HN1.out.mono ?_
    rintro e w1 ⟨rfl, rfl⟩
    go_wp2_with fail
    refine HST.out.mono ?_
    rintro e w5 ⟨rfl, hrp, hch⟩
    have HR5 := hid hrp
    have HC5 := hid hch
    clear hrp hch HST
    have hm5 : u < (now.set 0 (putL (z0 now) 0 (be8 (u + 1)))).length := by rw [List.length_set]; exact HM.out
    obtain ⟨l5, hl5⟩ : ∃ l5, (now.set 0 (putL (z0 now) 0 (be8 (u + 1))))[u]? = some l5 := ⟨_, List.getElem?_eq_getElem hm5⟩
    have HTH := hid (bk_row HR5.out.nw u l5 hl5).2
    have HCL := hid (show RPg (w5.setCells gn (u * 256) (ArrU8 (zeros 256)).toList) B P gn _ wv ar us _ ∧ Chg (fun q => q = gn) w5 (w5.setCells gn (u * 256) (ArrU8 (zeros 256)).toList) from HR5.out.clr u hm5)
    have c5 := (cell_of_row _ P 0 _ _ _ HR5.out.box).trans (show (#[Value.slice (some ⟨gn, 0, none⟩) now.length cap, wv, .int .i64 ar, .int .i64 us] : Array Value)[0]? = some (.slice (some ⟨gn, 0, none⟩) now.length cap) from rfl)
    clear c0 hm5 hl5
    go_wp2_with (refine wpList_store_mid rfl 50 (Operand.tmp 69) (Operand.tmp 68) rfl gn (u * 256) (ArrU8 (zeros 256)) rfl rfl (by rw [SZ.out]; exact HTH.out) (by rw [SZ.out]; exact HI35.out) (ArrU8_one _) ?_; generalize w5.setCells gn (u * 256) (ArrU8 (zeros 256)).toList = w6 at *)
    go_ret2
    refine ⟨by rw [HE.out.1]; rfl, ?_, HC5.out.trans HCL.out.2 (fun _ h => .inl h)⟩
    rw [HE.out.2]
    exact HCL.out.1
end Go.Proofs.YtdkjkibdncbibaaGreat
