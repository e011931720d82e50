/- stage 7: Prove of the reference -/
import Derived.Test.YtbmlkocpjboodaaDoorMb25
namespace Go.Proofs.YtbmlkocpjboodaaDoor
open Go.RowKit
open Go.Lib (hid)
theorem pvF_len (fr to : List Int) (e : Bool) : ∀ (m : Nat) (l : List (List Int × Nat)) (lo hi : List Int) (low up : Bool), (∀ x ∈ l, x.1.length ≤ 65535) → (pvF fr to e m l lo hi low up).length ≤ 65600 * l.length + 33
 | 0, l, lo, hi, low, up, h => by unfold pvF; simp only [List.length_cons, List.length_nil]; omega
 | m + 1, l, lo, hi, low, up, h => by
  unfold pvF
  cases hx : l[topI l]? with
  | none => simp only [List.length_cons, List.length_nil]; omega
  | some x =>
   have hi' := (List.getElem?_eq_some_iff.1 hx).1
   have h1 := h x (List.mem_of_getElem? hx)
   simp only []
   split
   ·rw [List.length_append, rRoot_len]; simp only [List.length_cons, List.length_nil]; omega
   ·have q1 := pvF_len fr to e m (l.take (topI l)) lo x.1 low true (fun y hy => h y (List.mem_of_mem_take hy))
    have q2 := pvF_len fr to e m (l.drop (topI l + 1)) x.1 hi true up (fun y hy => h y (List.mem_of_mem_drop hy))
    rw [List.length_take] at q1
    rw [List.length_drop] at q2
    simp only [List.length_append, List.length_cons, List.length_nil, be8_len]
    rw [Nat.min_eq_left (Nat.le_of_lt hi')] at q1
    omega
theorem zero32 (u : World) : (zeroValue 35).run Tryd.prog u = .ok (.agg (ArrU8 (zeros 32))) u := by kernel_rfl
theorem Own.to {w w' : World} {B : Nat} {v v' : Value} {l m : List Int} {b : Nat} {w0 : World} (h : Own w B v l) (h' : Own w' B v' m) (hc : Chg (fun g => v.ownBlock = some g) w w') (hb : Below b w0 w) (hB : b ≤ B) (hs : b ≤ w0.heap.size) : Below b w0 w' :=
 hb.trans (hc.below (B := b) (fun q e => Nat.le_trans hB (World.ownsRow.lt h q e).1) (Nat.le_trans hs hb.size))
set_option maxRecDepth 100000 in
set_option maxHeartbeats 8000000 in
theorem refProve_nil (w : World) (v : Value) (lo hi : List Int) (low up : Bool) (fr to : List Int) (e : Bool) (es : List (List Int × Nat)) (he : es = []) (hv : RfC w v es) :
  Calls Tryd.prog 19 #[v, .string (str lo), .string (str hi), .bool low, .bool up, .string (str fr), .string (str to), .bool e] w fun d w' => ∃ v', d = .returned v' ∧ Own w' w.heap.size v' (rPv fr to e es lo hi low up) ∧ Below w.heap.size w w' := by
 subst he
 obtain ⟨a, c, rfl, -, -⟩ := hv
 rw [List.length_nil]
 rw [rPv_nil]
 go_enter Tryd.func19, Tryd.ntmps19
 go_wp2_with fail
 go_ret
 exact ⟨_, rfl, own_lit1 (heap_alloc_new _ _) (Nat.le_refl _), (Below.refl _ _).alloc (Nat.le_refl _) _⟩
set_option maxRecDepth 100000 in
set_option maxHeartbeats 8000000 in
theorem refProve_any (fr to : List Int) (e : Bool) (gf : Rng fr) (gt : Rng to) : ∀ (m : Nat) (w : World) (v : Value) (es : List (List Int × Nat)) (lo hi : List Int) (low up : Bool), es.length ≤ m → RfC w v es → (∀ x ∈ es, Rng x.1 ∧ x.1.length ≤ 65535 ∧ x.2 < 9223372036854775808) → es.length ≤ 1048576 → Rng lo → Rng hi →
  Calls Tryd.prog 19 #[v, .string (str lo), .string (str hi), .bool low, .bool up, .string (str fr), .string (str to), .bool e] w fun d w' => ∃ v', d = .returned v' ∧ Own w' w.heap.size v' (rPv fr to e es lo hi low up) ∧ Below w.heap.size w w' := by
 intro m
 induction m with
 | zero =>
  intro w v es lo hi low up hm hv _ _ _ _
  exact refProve_nil w v lo hi low up fr to e es (List.eq_nil_of_length_eq_zero (by omega)) hv
 | succ m ih =>
  intro w v es lo hi low up hm hv hes hn glo ghi
  by_cases h0 : es.length = 0
  ·exact refProve_nil w v lo hi low up fr to e es (List.eq_nil_of_length_eq_zero h0) hv
  have hT := topI_lt (l := es) (by omega)
  have hx : es[topI es]? = some (es[topI es]'hT) := List.getElem?_eq_getElem hT
  generalize es[topI es]'hT = x at hx
  have hP := rPv_at (fr := fr) (to := to) (e := e) (lo := lo) (hi := hi) (low := low) (up := up) hx
  have hTOP := fun u (hu : Below w.heap.size w u) => refTop_any u v es (hv.below hu).rfs (fun y hy => ⟨(hes y hy).1, (hes y hy).2.1⟩) (by omega) hn
  have gx := hes x (List.mem_of_getElem? hx)
  have hl1 : (es.take (topI es)).length = topI es := by rw [List.length_take]; omega
  obtain ⟨av, cv, rfl, hcv, hall⟩ := id hv
  obtain ⟨g, o, rfl, hgl, hc0, hc1⟩ := hall _ x hx
  obtain ⟨a2, hsl, hvd⟩ := hv.drop (topI es + 1) (by omega)
  have hvt := hv.take (topI es) (by omega)
  have HL1 := hid (fun u (hu : Below w.heap.size w u) => ih u _ (es.take (topI es)) lo x.1 low true (by rw [List.length_take]; omega) (hvt.below hu) (fun y hy => hes y (List.mem_of_mem_take hy)) (by rw [List.length_take]; omega) glo gx.1)
  have HL2 := hid (fun u (hu : Below w.heap.size w u) => ih u _ (es.drop (topI es + 1)) x.1 hi true up (by rw [List.length_drop]; omega) (hvd.below hu) (fun y hy => hes y (List.mem_of_mem_drop hy)) (by rw [List.length_drop]; omega) gx.1 ghi)
  have HRT := hid (fun u (hu : Below w.heap.size w u) => refRoot_any es.length u _ es (Nat.le_refl _) (hv.below hu) hes hn)
  have HRL := hid (rRoot_len es)
  have HU := hid (fun (u : World) => run_upto u (some ⟨g, o, none⟩) es.length cv (topI es) (by omega) hcv)
  have HO := hid (fun (u : World) => (run_on u (some ⟨g, o, none⟩) es.length cv (topI es + 1) (by omega)).trans (by rw [hsl]))
  have q1 := pvF_len fr to e (es.take (topI es)).length (es.take (topI es)) lo x.1 low true (fun y hy => (hes y (List.mem_of_mem_take hy)).2.1)
  have q2 := pvF_len fr to e (es.drop (topI es + 1)).length (es.drop (topI es + 1)) x.1 hi true up (fun y hy => (hes y (List.mem_of_mem_drop hy)).2.1)
  rw [show pvF fr to e (es.take (topI es)).length (es.take (topI es)) lo x.1 low true = rPv fr to e (es.take (topI es)) lo x.1 low true from rfl, hl1] at q1
  rw [show pvF fr to e (es.drop (topI es + 1)).length (es.drop (topI es + 1)) x.1 hi true up = rPv fr to e (es.drop (topI es + 1)) x.1 hi true up from rfl, List.length_drop] at q2
  generalize rPv fr to e (es.take (topI es)) lo x.1 low true = P1 at *
  generalize rPv fr to e (es.drop (topI es + 1)) x.1 hi true up = P2 at *
  generalize rPv fr to e es lo hi low up = PP at *
  generalize rRoot es = R at *
  generalize hn2 : es.length - (topI es + 1) = n2 at *
  generalize topI es = T at *
  generalize es.length = n at *
  have HTOP := hid hTOP
  have HM := hid (fun u => refMisses_any u lo hi fr to low up e glo ghi gf gt)
  have HC := hid (fun u (hu : Below w.heap.size w u) => (show u.cell? ⟨g, o + T * 2, none⟩ = some (.string (str x.1)) ∧ u.cell? ⟨g, o + T * 2 + 1, none⟩ = some (.int .i64 (x.2 : Int)) from ⟨(World.cell?_of_block (a := ⟨g, o + T * 2, none⟩) (hu.block g hgl)).trans hc0, (World.cell?_of_block (a := ⟨g, o + T * 2 + 1, none⟩) (hu.block g hgl)).trans hc1⟩))
  have ht0 : (0 : Int) ≤ (T : Int) := by omega
  have ht1 : (T : Int) < (n : Int) := by omega
  have hn0 : ¬ ((n : Int) = 0) := by omega
  have HN := hid (And.intro hn (And.intro gx (And.intro q1 q2)))
  have HN2 := hid (And.intro hn2 hT)
  clear hTOP gx hc0 hc1 hgl hall hv hvd hvt hsl hx hes hl1 hT h0 hm ih hcv glo ghi gf gt q1 q2 hn hn2
  generalize hq : missQ lo hi low up fr to e = q at *
  clear hq
  cases q with
  | true =>
   have HP := hid (show PP = [1] ++ R from hP.trans (if_pos rfl))
   clear hP
   go_enter Tryd.func19, Tryd.ntmps19
   go_wp2_with fail
   refine (HM.out w).mono ?_
   rintro d w1 ⟨rfl, rfl⟩
   have hR := HRT.out w1 (Below.refl _ _)
   go_wp2_with fail
   refine hR.mono ?_
   rintro d w2 ⟨rfl, hb2⟩
   obtain ⟨Z, hZ, hz⟩ : ∃ Z : Array Value, Z.size = 32 ∧ ∀ u : World, (zeroValue 35).run Tryd.prog u = .ok (.agg Z) u := ⟨_, sz32 _ (zeros_len _), zero32⟩
   have HZ := hid (hZ.trans (sz32 R HRL.out).symm)
   have HI := hid (info_re32 R HRL.out)
   have HB2 := hid hb2
   clear hb2 hR hZ
   have SA := fun u => slice32_re u w2.heap.size
   go_wp2_with (first
    | (refine wpList_store_nw rfl 35 (Operand.tmp 17) (Operand.tmp 34) rfl w2 _ 35 rfl w2.heap.size (ArrU8 R) rfl rfl rfl HI.out HZ.out (ArrU8_one _) ?_; intro w3 hd3 hb3 hs3; have HD3 := hid hd3; have HB3 := hid (HB2.out.trans (hb3.mono HB2.out.size)); have HS3 := hid hs3; clear hd3 hb3 hs3)
    | (at_builtin; refine wpList_append_OwnT (o := ⟨some 37, _, _, _, _, _⟩) rfl (Operand.tmp 35) (Operand.tmp 36) rfl w1.heap.size (.slice (some ⟨w3.heap.size, 0, none⟩) 1 1) [1] rfl (own_lit1 (heap_alloc_new _ _) HB3.out.size) (.slice (some ⟨w2.heap.size, 0, none⟩) 32 32) R rfl (box_bs ((heap_alloc_old _ _ (blk_lt HD3.out)).trans HD3.out) HRL.out) (by rw [HRL.out]; decide) (Nat.le_trans HB3.out.size (by rw [World.size_alloc]; omega)) ?_; intro v4 w4 ho4 hc4 ht4; obtain ⟨a4, n4, c4, rfl⟩ := Own.slc ho4; have H4 := hid (And.intro ho4 hc4); clear ho4 hc4 ht4))
   go_ret
   refine ⟨_, rfl, by rw [HP.out]; exact H4.out.1, ?_⟩
   exact (HB3.out.alloc HB3.out.size _).trans (H4.out.2.below (fun q e => by injection e with e; have e : w3.heap.size = q := e; have := HB3.out.size; omega) (Nat.le_trans HB3.out.size (by rw [World.size_alloc]; omega)))
  | false =>
   have HP := hid (show PP = [2] ++ (P1 ++ ([(x.1.length : Int) / 256, (x.1.length : Int) % 256] ++ (x.1 ++ (be8 x.2 ++ P2)))) from hP.trans (if_neg (by decide)))
   clear hP HRT HRL
   go_enter Tryd.func19, Tryd.ntmps19
   go_wp2_with fail
   refine (HM.out w).mono ?_
   rintro d w1 ⟨rfl, rfl⟩
   have hTP := HTOP.out w1 (Below.refl _ _)
   go_wp2_with fail
   refine hTP.mono ?_
   rintro d w3 ⟨rfl, hb3⟩
   have c0 := (HC.out w3 hb3).1
   have HB3 := hid hb3
   clear hb3 hTP
   go_wp2_with (first
    | (refine wpList_of_run (o := ⟨some 48, _, _, _, _, _⟩) rfl (exec_upto (Operand.tmp 46) (Operand.tmp 47) rfl _ _ rfl rfl _ (HU.out _)) ?_))
   refine (HL1.out _ (HB3.out.alloc HB3.out.size _)).mono ?_
   rintro d w4 ⟨v55, rfl, ho55, hb55⟩
   obtain ⟨a55, n55, c55, rfl⟩ := Own.slc ho55
   have HBS := hid ho55.bs
   have HOL := hid (show Own w4 w1.heap.size (.slice (some ⟨w3.heap.size, 0, none⟩) 1 1) [2] from own_lit1 ((hb55.block _ (by rw [World.size_alloc]; omega)).trans (heap_alloc_new _ _)) HB3.out.size)
   have HB4 := hid ((HB3.out.alloc HB3.out.size _).trans (hb55.mono (Nat.le_trans HB3.out.size (by rw [World.size_alloc]; omega))))
   have HLEN := hid (show 1 + P1.length + 65535 + 16 + P2.length ≤ 1099511627776 by have h := HN.out; have h2 := HN2.out; have e1 := h.1; have e2 := h.2.2.1; have e3 := h.2.2.2; omega)
   have hsl := str_len x.1
   have HKL := hid HN.out.2.1
   have HWB := hid (show [IntKind.u8.wrap ((x.1.length : Int) / 256), IntKind.u8.wrap (x.1.length : Int)] = [(x.1.length : Int) / 256, (x.1.length : Int) % 256] by have := HN.out.2.1.2.1; rw [IntKind.wrap_u8, IntKind.wrap_u8]; congr 1; omega)
   clear ho55 hb55
   go_wp2_with (first
    | (at_builtin; refine wpList_append_OwnT (o := ⟨some 56, _, _, _, _, _⟩) rfl (Operand.tmp 45) (Operand.tmp 55) rfl w1.heap.size (.slice (some ⟨w3.heap.size, 0, none⟩) 1 1) [2] rfl HOL.out _ P1 rfl HBS.out (by have := HLEN.out; simp only [List.length_cons, List.length_nil]; omega) HB4.out.size ?_; intro v5 w5 ho5 hc5 ht5; have HB5 := hid (HOL.out.to ho5 hc5 HB4.out (Nat.le_refl _) (Nat.le_refl _)); obtain ⟨a5, n5, c5, rfl⟩ := Own.slc ho5; have H5 := hid ho5; clear ho5 hc5 ht5)
    | (at_builtin; refine wpList_append_OwnT (o := ⟨some 66, _, _, _, _, _⟩) rfl (Operand.tmp 57) (Operand.tmp 65) rfl w1.heap.size _ ([2] ++ P1) rfl (H5.out.alloc _) (.slice (some ⟨w5.heap.size, 0, none⟩) 2 2) [IntKind.u8.wrap ((x.1.length : Int) / 256), IntKind.u8.wrap (x.1.length : Int)] rfl (lit_bs w5 5 [IntKind.u8.wrap ((x.1.length : Int) / 256), IntKind.u8.wrap (x.1.length : Int)] (0, 0) 2 2 rfl (Nat.le_refl _)) (by have := HLEN.out; simp only [List.length_append, List.length_cons, List.length_nil]; omega) (Nat.le_trans HB5.out.size (by rw [World.size_alloc]; omega)) ?_; intro v6 w6 ho6 hc6 ht6; have HB6 := hid ((H5.out.alloc _).to ho6 hc6 (HB5.out.alloc HB5.out.size _) (Nat.le_refl _) (Nat.le_refl _)); obtain ⟨a6, n6, c6, rfl⟩ := Own.slc ho6; rw [HWB.out] at ho6; have H6 := hid ho6; obtain ⟨W7, a7, c7, q7, b7, k7⟩ := conv_str w6 x.1 HKL.out.1; have Q7 := hid q7; have HB7 := hid (HB6.out.trans (b7.mono HB6.out.size)); have H7 := hid (And.intro k7 (ho6.below b7 (Nat.le_refl _))); clear ho6 hc6 ht6 q7 b7 k7)
    | (refine wpList_of_run (o := ⟨some 69, _, _, _, _, _⟩) rfl (exec_conv (Operand.tmp 68) rfl _ rfl _ Q7.out) ?_)
    | (at_builtin; refine wpList_append_OwnT (o := ⟨some 70, _, _, _, _, _⟩) rfl (Operand.tmp 67) (Operand.tmp 69) rfl w1.heap.size _ (([2] ++ P1) ++ [(x.1.length : Int) / 256, (x.1.length : Int) % 256]) rfl H7.out.2 _ x.1 rfl H7.out.1 (by have := HLEN.out; have := HKL.out.2.1; simp only [List.length_append, List.length_cons, List.length_nil]; omega) HB7.out.size ?_; intro v8 w8 ho8 hc8 ht8; have HB8 := hid (H7.out.2.to ho8 hc8 HB7.out (Nat.le_refl _) (Nat.le_refl _)); obtain ⟨a8, n8, c8, rfl⟩ := Own.slc ho8; have H8 := hid ho8; have c1 := (HC.out w8 HB8.out).2; have hw64 : IntKind.u64.wrap (x.2 : Int) = (x.2 : Int) := IntWalk.u64_in _ (by have := HKL.out.2.2; omega); clear ho8 hc8 ht8))
   refine (refNum7_any x.2 w8 (by have := HKL.out.2.2; omega)).mono ?_
   rintro d w9 ⟨v78, rfl, ho78, hb78⟩
   obtain ⟨a78, c78, rfl⟩ := ownsRow_slc ho78
   have HB9 := hid (HB8.out.trans (hb78.mono HB8.out.size))
   have H9 := hid (And.intro (show Bs w9 _ (be8 x.2) from Bs_of_own ho78) (H8.out.below hb78 (Nat.le_refl _)))
   have hadd : IntKind.i64.wrap ((T : Int) + 1) = ((T + 1 : Nat) : Int) := by have h := HN.out.1; have h2 := HN2.out.2; rw [IntWalk.i64_in _ (by omega)]; omega
   clear ho78 hb78
   go_wp2_with (first
    | (at_builtin; refine wpList_append_OwnT (o := ⟨some 79, _, _, _, _, _⟩) rfl (Operand.tmp 71) (Operand.tmp 78) rfl w1.heap.size _ ((([2] ++ P1) ++ [(x.1.length : Int) / 256, (x.1.length : Int) % 256]) ++ x.1) rfl H9.out.2 _ (be8 x.2) rfl H9.out.1 (by have := HLEN.out; have := HKL.out.2.1; simp only [List.length_append, List.length_cons, List.length_nil, be8_len]; omega) HB9.out.size ?_; intro v10 w10 ho10 hc10 ht10; have HB10 := hid (H9.out.2.to ho10 hc10 HB9.out (Nat.le_refl _) (Nat.le_refl _)); obtain ⟨a10, n10, c10, rfl⟩ := Own.slc ho10; have H10 := hid ho10; clear ho10 hc10 ht10)
    | (refine wpList_of_run (o := ⟨some 84, _, _, _, _, _⟩) rfl (exec_on (Operand.tmp 81) (Operand.tmp 83) rfl _ _ rfl rfl _ (HO.out _)) ?_))
   refine (HL2.out _ HB10.out).mono ?_
   rintro d w11 ⟨v91, rfl, ho91, hb91⟩
   obtain ⟨a91, n91, c91, rfl⟩ := Own.slc ho91
   have HB11 := hid (HB10.out.trans (hb91.mono HB10.out.size))
   have H11 := hid (And.intro ho91.bs (H10.out.below hb91 (Nat.le_refl _)))
   clear ho91 hb91
   go_wp2_with (first
    | (at_builtin; refine wpList_append_OwnT (o := ⟨some 92, _, _, _, _, _⟩) rfl (Operand.tmp 80) (Operand.tmp 91) rfl w1.heap.size _ (((([2] ++ P1) ++ [(x.1.length : Int) / 256, (x.1.length : Int) % 256]) ++ x.1) ++ be8 x.2) rfl H11.out.2 _ P2 rfl H11.out.1 (by have := HLEN.out; have := HKL.out.2.1; simp only [List.length_append, List.length_cons, List.length_nil, be8_len]; omega) HB11.out.size ?_; intro v12 w12 ho12 hc12 ht12; have HB12 := hid (H11.out.2.to ho12 hc12 HB11.out (Nat.le_refl _) (Nat.le_refl _)); obtain ⟨a12, n12, c12, rfl⟩ := Own.slc ho12; have H12 := hid ho12; clear ho12 hc12 ht12))
   go_ret
   refine ⟨_, rfl, by rw [HP.out]; exact H12.out.eq (by simp only [List.append_assoc]), HB12.out⟩
end Go.Proofs.YtbmlkocpjboodaaDoor
/- stage 7: valid of any list; slices whose bytes may be spoilt -/
namespace Go.Proofs.YtbmlkocpjboodaaDoor
open Go.RowKit
open Go.Lib (hid)
/-- a list of entries is read, whatever its counts -/
def EnSZ (w : World) (v : Value) (es : List (List Int × Int)) : Prop :=
 ∃ a c, v = .slice a es.length c ∧ ∀ (i : Nat) (x : List Int × Int), es[i]? = some x → ∃ g kv, a = some ⟨g, 0, none⟩ ∧ g < w.heap.size ∧ w.cell? ⟨g, i * 2, none⟩ = some kv ∧ w.cell? ⟨g, i * 2 + 1, none⟩ = some (.int .i64 x.2) ∧ Bs w kv x.1
theorem EnSZ.ens {w : World} {v : Value} {es : List (List Int × Nat)} (h : EnSZ w v (es.map toI)) : EnS w v es := by
 obtain ⟨a, c, e, h⟩ := h
 refine ⟨a, c, by rw [e, List.length_map], fun i x hx => ?_⟩
 exact h i (toI x) (by rw [List.getElem?_map, hx]; rfl)
theorem enZ_get : ∀ (l : List (Value × Int)) (i : Nat) (x : Value × Int) (j : Nat), l[i]? = some x → j < 2 → (enZ l)[i * 2 + j]? = ([x.1, Value.int .i64 x.2] : List Value)[j]?
 | [], i, x, j, h, _ => by simp at h
 | y :: l, 0, x, j, h, hj => by
  injection h with h
  subst h
  show ([y.1, Value.int .i64 y.2] ++ enZ l)[0 * 2 + j]? = _
  rw [List.getElem?_append_left (by simp; omega), Nat.zero_mul, Nat.zero_add]
 | y :: l, i + 1, x, j, h, hj => by
  have ih := enZ_get l i x j (by simpa using h) hj
  show ([y.1, Value.int .i64 y.2] ++ enZ l)[(i + 1) * 2 + j]? = _
  rw [List.getElem?_append_right (by simp; omega)]
  rw [← ih]
  congr 1
  simp only [List.length_cons, List.length_nil]
  omega
/-- an own row of entries: its cells -/
theorem EnRZ.at {w : World} {B : Nat} {K : Nat → Prop} {v : Value} {es : List (List Int × Int)} (h : EnRZ w B K v es) : ∃ a c, v = .slice a es.length c ∧ ∀ (i : Nat) (x : List Int × Int), es[i]? = some x → ∃ g kv, a = some ⟨g, 0, none⟩ ∧ g < w.heap.size ∧ ¬ K g ∧ w.cell? ⟨g, i * 2, none⟩ = some kv ∧ w.cell? ⟨g, i * 2 + 1, none⟩ = some (.int .i64 x.2) ∧ KWs w K kv x.1 := by
 obtain ⟨xs, h1, h2, h3, h4⟩ := h
 obtain ⟨e1, ⟨rfl, hn⟩ | ⟨g, cap, cur, rfl, q1, q2, q3, q4, q5, q6⟩⟩ := h2
 ·exact ⟨none, 0, by rw [hn], fun i x hx => by have := (List.getElem?_eq_some_iff.1 hx).1; omega⟩
 ·refine ⟨some ⟨g, 0, none⟩, cap, rfl, fun i x hx => ?_⟩
  have hi := (List.getElem?_eq_some_iff.1 hx).1
  have hy : xs[i]? = some (xs[i]'(by omega)) := List.getElem?_eq_getElem (by omega)
  generalize xs[i]'(by omega) = y at hy
  obtain ⟨k1, k2⟩ := h4 i y x hy hx
  have hc : ∀ j, j < 2 → w.cell? ⟨g, i * 2 + j, none⟩ = ([y.1, Value.int .i64 y.2] : List Value)[j]? := fun j hj => by
   rw [cell_of_row _ _ _ _ _ _ q2, ← Array.getElem?_toList, ← enZ_get xs i y j hy hj, ← q6, List.getElem?_take, if_pos (by omega)]
  refine ⟨g, y.1, rfl, blk_lt q2, h3 g rfl, hc 0 (by omega), ?_, k2⟩
  rw [← k1]
  exact hc 1 (by omega)
theorem EnRZ.ens {w : World} {B : Nat} {K : Nat → Prop} {v : Value} {es : List (List Int × Int)} (h : EnRZ w B K v es) : EnSZ w v es := by
 obtain ⟨a, c, e, h⟩ := h.at
 refine ⟨a, c, e, fun i x hx => ?_⟩
 obtain ⟨g, kv, h1, h2, -, h3, h4, h5⟩ := h i x hx
 exact ⟨g, kv, h1, h2, h3, h4, h5.1.1⟩
theorem enZ_map : ∀ xs : List (Value × Nat), enZ (xs.map (fun x => (x.1, (x.2 : Int)))) = enL xs
 | [] => rfl
 | x :: xs => by
  show [x.1, Value.int .i64 (x.2 : Int)] ++ enZ (xs.map _) = [x.1, Value.int .i64 (x.2 : Int)] ++ enL xs
  rw [enZ_map xs]
theorem EnRW.z {w : World} {B : Nat} {K : Nat → Prop} {v : Value} {es : List (List Int × Nat)} (h : EnRW w B K v es) : EnRZ w B K v (es.map toI) := by
 obtain ⟨xs, h1, h2, h3, h4⟩ := h
 refine ⟨xs.map (fun x => (x.1, (x.2 : Int))), by rw [List.length_map, List.length_map, h1], by rw [List.length_map, enZ_map]; exact h2, h3, fun i x y hx hy => ?_⟩
 rw [List.getElem?_map, Option.map_eq_some_iff] at hx hy
 obtain ⟨x0, hx0, rfl⟩ := hx
 obtain ⟨y0, hy0, rfl⟩ := hy
 obtain ⟨q1, q2⟩ := h4 i x0 y0 hx0 hy0
 exact ⟨by show (x0.2 : Int) = (y0.2 : Int); rw [q1], q2⟩
/-- a row of entries whose keys' bytes, all in blocks of F, may be written -/
def SpR (w : World) (F : Nat → Prop) (v : Value) (ns : List Nat) : Prop :=
 ∃ a c, v = .slice a ns.length c ∧ ∀ (i n : Nat), ns[i]? = some n → ∃ g a' c', a = some ⟨g, 0, none⟩ ∧ ¬ F g ∧ g < w.heap.size ∧ w.cell? ⟨g, i * 2, none⟩ = some (.slice a' n c') ∧ (n = 0 ∨ ∃ b, a' = some ⟨b, 0, none⟩ ∧ F b ∧ Soft w b n)
theorem EnRZ.spr {w : World} {B : Nat} {K : Nat → Prop} {v : Value} {es : List (List Int × Int)} (h : EnRZ w B K v es) : SpR w (fun q => K q ∧ q < w.heap.size) v (es.map (fun x => x.1.length)) := by
 obtain ⟨a, c, e, h⟩ := h.at
 refine ⟨a, c, by rw [List.length_map]; exact e, fun i n hn => ?_⟩
 rw [List.getElem?_map, Option.map_eq_some_iff] at hn
 obtain ⟨x, hx, rfl⟩ := hn
 obtain ⟨g, kv, h1, h2, h3, h4, -, h5⟩ := h i x hx
 rcases h5.2 with h0 | ⟨b, c', e', hs, hf⟩
 ·obtain ⟨a', c', rfl⟩ := h5.form
  exact ⟨g, a', c', h1, fun q => h3 q.1, h2, h4, .inl h0⟩
 ·subst e'
  exact ⟨g, _, c', h1, fun q => h3 q.1, h2, h4, .inr ⟨b, rfl, ⟨hs, hf.lt⟩, hf⟩⟩
theorem Soft.set' {w : World} {b b' n : Nat} (h : Soft w b' n) (j : Nat) (v : Int) : Soft (w.setCell ⟨b, j, none⟩ (.int .u8 v)) b' n := by
 by_cases e : b' = b
 ·subst e
  exact h.set j v
 ·exact h.of (heap_setCell_other w ⟨b, j, none⟩ b' _ e)
theorem SpR.set {w : World} {F : Nat → Prop} {v : Value} {ns : List Nat} (h : SpR w F v ns) {b : Nat} (hb : F b) (j : Nat) (u : Int) : SpR (w.setCell ⟨b, j, none⟩ (.int .u8 u)) F v ns := by
 obtain ⟨a, c, e, h⟩ := h
 refine ⟨a, c, e, fun i n hn => ?_⟩
 obtain ⟨g, a', c', h1, h2, h3, h4, h5⟩ := h i n hn
 have hgb : g ≠ b := fun e => h2 (e ▸ hb)
 refine ⟨g, a', c', h1, h2, by rw [World.size_setCell]; exact h3, (World.cell?_of_block (a := ⟨g, i * 2, none⟩) (heap_setCell_other w ⟨b, j, none⟩ g _ hgb)).trans h4, h5.imp id ?_⟩
 rintro ⟨b', e1, e2, e3⟩
 exact ⟨b', e1, e2, e3.set' j u⟩
theorem SpR.drew {w : World} {F : Nat → Prop} {v : Value} {ns : List Nat} (h : SpR w F v ns) : SpR w.drew F v ns := h
/-- a spoiling loop under way -/
def SpI (w0 : World) (F : Nat → Prop) (v : Value) (ns : List Nat) (u : World) : Prop := SpR u F v ns ∧ Chg F w0 u
theorem SpI.set {w0 w : World} {F : Nat → Prop} {v : Value} {ns : List Nat} (h : SpI w0 F v ns w) {b : Nat} (hb : F b) (j : Nat) (u : Int) : SpI w0 F v ns (w.setCell ⟨b, j, none⟩ (.int .u8 u)) := ⟨h.1.set hb j u, h.2.setCell ⟨b, j, none⟩ _ (.inl hb)⟩
set_option maxRecDepth 100000 in
set_option maxHeartbeats 8000000 in
theorem validZ_any (w : World) (v : Value) (es : List (List Int × Int)) (hes : EnSZ w v es) (hr : ∀ x ∈ es, Rng x.1) (hn : es.length ≤ 1048576) :
  Calls Tryd.prog 30 #[v] w fun d w' => d = .returned (.bool (mayF none es)) ∧ Below w.heap.size w w' := by
 have HE := hid hes
 have HRN := hid hr
 obtain ⟨al, cl, rfl, -⟩ := hes
 generalize hR : mayF none es = R at *
 have HR0 := hid hR
 generalize hL : es.length = n at *
 have HL := hid hL
 clear hr hL hR
 go_enter Tryd.func30, Tryd.ntmps30
 go_wp2_with fail
 go_loopw [7] (fun i wr => ∃ j : Nat, i = .int .i64 (j : Int) ∧ j ≤ n ∧ mayF (prevK es j) (es.drop j) = R ∧ Below w.heap.size w wr) (fun i _ => n - (intOf i).toNat)
 case atStart => exact ⟨0, rfl, Nat.zero_le _, HR0.out, Below.refl _ _⟩
 case round =>
  obtain ⟨j, rfl, hj, hR, hbw⟩ := hrel
  by_cases hjl : j < n
  ·have hjl' : j < es.length := by rw [HL.out]; exact hjl
   have hx : es[j]? = some (es[j]'hjl') := List.getElem?_eq_getElem _
   have hdr : es.drop j = es[j]'hjl' :: es.drop (j + 1) := List.drop_eq_getElem_cons hjl'
   generalize es[j]'hjl' = x at hx hdr
   have hpk : prevK es (j + 1) = some x.1 := by unfold prevK; rw [if_neg (by omega), Nat.add_sub_cancel, hx]; rfl
   rw [hdr] at hR
   unfold mayF at hR
   rw [← hpk] at hR
   obtain ⟨a', c', he, hall⟩ := HE.out
   injection he with e1 e0 e2
   clear e0
   subst e1 e2
   obtain ⟨g, kv, hag, hgl, hc0, hc1, hbs⟩ := hall j x hx
   subst hag
   obtain ⟨ak, ck, rfl⟩ : ∃ a c, kv = .slice a x.1.length c := by obtain ⟨a, c, h, _⟩ := hbs; exact ⟨a, c, h⟩
   have c0 : wr.cell? ⟨g, j * 2, none⟩ = some (.slice ak x.1.length ck) := (World.cell?_of_block (a := ⟨g, j * 2, none⟩) (hbw.block g hgl)).trans hc0
   have c1 : wr.cell? ⟨g, j * 2 + 1, none⟩ = some (.int .i64 x.2) := (World.cell?_of_block (a := ⟨g, j * 2 + 1, none⟩) (hbw.block g hgl)).trans hc1
   have hj0 : (0 : Int) ≤ (j : Int) := by omega
   have hj1 : (j : Int) < (n : Int) := by omega
   have HX := hid (And.intro hx (And.intro hbs (And.intro hbw hjl)))
   have HBA := hid (hbw.alloc hbw.size (.cells #[.slice ak x.1.length ck, .int .i64 x.2] 33))
   clear hx hbs hbw hall hc0 hc1 hgl hj hjl hdr hpk
   by_cases k1 : x.2 < 1
   ·have HR := hid (show false = R from by rw [← hR, decide_eq_true k1]; rfl)
    clear hR
    go_wp2_with fail
    go_ret
    exact ⟨by rw [← HR.out]; rfl, HBA.out⟩
   ·by_cases k2 : (x.1.length : Int) > 65535
    ·have HR := hid (show false = R from by rw [← hR, decide_eq_true (show 65535 < x.1.length by omega)]; simp)
     clear hR
     go_wp2_with fail
     go_ret
     exact ⟨by rw [← HR.out]; rfl, HBA.out⟩
    ·rw [decide_eq_false k1, decide_eq_false (show ¬ 65535 < x.1.length by omega), Bool.not_false, Bool.true_and, Bool.true_and] at hR
     by_cases hz : j = 0
     ·subst hz
      have HR := hid (show mayF (prevK es 1) (es.drop 1) = R from by rw [← hR]; rfl)
      clear hR
      go_wp2_with fail
      have hb : Below w.heap.size w (wr.alloc (.cells #[.slice ak x.1.length ck, .int .i64 x.2] 33)) := HBA.out
      generalize (wr.alloc (.cells #[.slice ak x.1.length ck, .int .i64 x.2] 33)) = wq at *
      refine wp_region_held_drew (S := fun _ => True) (by kernel_rfl) (trivial) (fun hHeld => ?_)
      refine tk (i := 0) (oi := ⟨some 21, .move (.tmp 3), 3, "merkle.go:41", #[], none⟩) (v := ?_) (Or.inl ⟨by rfl, ?_⟩) ?_
      rotate_left 1
      ·(intro u hSw; go_simp; try with_reducible rfl)
      try simp only [Act.put, sA, sB, sC]
      refine tk (i := 1) (oi := ⟨some 22, .binOp BinOp.gtr 3 (.tmp 21) (.const (Value.int IntKind.i64 0)) 3, 4, "merkle.go:41", #[⟨0, .data⟩], none⟩) (v := ?_) (Or.inl ⟨by rfl, ?_⟩) ?_
      rotate_left 1
      ·(intro u hSw; go_simp; try with_reducible rfl)
      try simp only [Act.put, sA, sB, sC]
      refine tk (i := 2) (oi := ⟨some 23, .move (.tmp 22), 4, "merkle.go:41", #[⟨1, .data⟩], none⟩) (v := ?_) (Or.inl ⟨by rfl, ?_⟩) ?_
      rotate_left 1
      ·(intro u hSw; go_simp; try with_reducible rfl)
      try simp only [Act.put, sA, sB, sC]
      refine tk (i := 3) (oi := ⟨some 24, .move (.tmp 0), 26, "merkle.go:41", #[⟨2, .guard⟩], some (2, true)⟩) (v := undef) (by exact .inr ⟨by rfl, rfl⟩) ?_
      try simp only [Act.put, sA, sB, sC]
      refine tk (i := 4) (oi := ⟨some 25, .move (.tmp 3), 3, "merkle.go:41", #[⟨2, .guard⟩], some (2, true)⟩) (v := undef) (by exact .inr ⟨by rfl, rfl⟩) ?_
      try simp only [Act.put, sA, sB, sC]
      refine tk (i := 5) (oi := ⟨some 26, .binOp BinOp.sub 3 (.tmp 25) (.const (Value.int IntKind.i64 1)) 3, 3, "merkle.go:41", #[⟨4, .data⟩, ⟨2, .guard⟩], some (2, true)⟩) (v := undef) (by exact .inr ⟨by rfl, rfl⟩) ?_
      try simp only [Act.put, sA, sB, sC]
      refine tk (i := 6) (oi := ⟨some 27, .indexAddr 26 (.tmp 24) (.tmp 26), 0, "merkle.go:41", #[⟨3, .data⟩, ⟨5, .data⟩, ⟨2, .guard⟩], some (2, true)⟩) (v := undef) (by exact .inr ⟨by rfl, rfl⟩) ?_
      try simp only [Act.put, sA, sB, sC]
      refine tk (i := 7) (oi := ⟨some 28, .fieldAddr 33 (.tmp 27) 0, 0, "merkle.go:41", #[⟨6, .data⟩, ⟨2, .guard⟩], some (2, true)⟩) (v := undef) (by exact .inr ⟨by rfl, rfl⟩) ?_
      try simp only [Act.put, sA, sB, sC]
      refine tk (i := 8) (oi := ⟨some 29, .load 31 (.tmp 28), 31, "merkle.go:41", #[⟨7, .data⟩, ⟨2, .guard⟩], some (2, true)⟩) (v := undef) (by exact .inr ⟨by rfl, rfl⟩) ?_
      try simp only [Act.put, sA, sB, sC]
      refine tk (i := 9) (oi := ⟨some 30, .fieldAddr 33 (.tmp 4) 0, 0, "merkle.go:41", #[⟨2, .guard⟩], some (2, true)⟩) (v := undef) (by exact .inr ⟨by rfl, rfl⟩) ?_
      try simp only [Act.put, sA, sB, sC]
      refine tk (i := 10) (oi := ⟨some 31, .load 31 (.tmp 30), 31, "merkle.go:41", #[⟨9, .data⟩, ⟨2, .guard⟩], some (2, true)⟩) (v := undef) (by exact .inr ⟨by rfl, rfl⟩) ?_
      try simp only [Act.put, sA, sB, sC]
      refine tk (i := 11) (oi := ⟨some 32, .call ⟨.value (.func 56), #[.tmp 29, .tmp 31], #[31, 31]⟩, 3, "merkle.go:41", #[⟨8, .data⟩, ⟨10, .data⟩, ⟨2, .chain⟩, ⟨2, .guard⟩], some (2, true)⟩) (v := undef) (by exact .inr ⟨by rfl, rfl⟩) ?_
      try simp only [Act.put, sA, sB, sC]
      refine tk (i := 12) (oi := ⟨some 33, .binOp BinOp.geq 3 (.tmp 32) (.const (Value.int IntKind.i64 0)) 3, 4, "merkle.go:41", #[⟨11, .data⟩, ⟨2, .guard⟩], some (2, true)⟩) (v := undef) (by exact .inr ⟨by rfl, rfl⟩) ?_
      try simp only [Act.put, sA, sB, sC]
      refine tk (i := 13) (oi := ⟨some 34, .pick (.tmp 23) (.tmp 33) (.const (Value.bool false)), 4, "merkle.go:41", #[⟨2, .data⟩, ⟨12, .data⟩], none⟩) (v := ?_) (Or.inl ⟨by rfl, ?_⟩) ?_
      rotate_left 1
      ·(intro u hSw; go_simp; try with_reducible rfl)
      try simp only [Act.put, sA, sB, sC]
      refine wpAnyH_done (by kernel_rfl) ?_ _
      have HB2 := hid hb.drew
      clear hb HBA
      go_wp2_with fail
      go_roundw
      case rel => exact ⟨1, rfl, HX.out.2.2.2, HR.out, HB2.out⟩
      case measure => have := HX.out.2.2.2; simp [intOf]; omega
     ·obtain ⟨i, rfl⟩ : ∃ i, j = i + 1 := ⟨j - 1, by omega⟩
      obtain ⟨y, hy⟩ : ∃ y, es[i]? = some y := ⟨_, List.getElem?_eq_getElem (by have := HX.out.2.2.2; rw [HL.out]; omega)⟩
      have goy := HRN.out y (List.mem_of_getElem? hy)
      have gox := HRN.out x (List.mem_of_getElem? HX.out.1)
      have hpk : prevK es (i + 1) = some y.1 := by unfold prevK; rw [if_neg (by omega), Nat.add_sub_cancel, hy]; rfl
      rw [hpk, Option.elim_some] at hR
      obtain ⟨a', c', he, hall⟩ := HE.out
      injection he with e1 e0 e2
      clear e0
      subst e1 e2
      obtain ⟨g', kv', hag, hgl, hc0, -, hbs⟩ := hall i y hy
      injection hag with hag
      injection hag with hg1 _ _
      subst hg1
      obtain ⟨ay, cy, rfl⟩ : ∃ a c, kv' = .slice a y.1.length c := by obtain ⟨a, c, h, _⟩ := hbs; exact ⟨a, c, h⟩
      have HCC := hid (fun u (hu : Below w.heap.size w u) => (World.cell?_of_block (a := ⟨g, i * 2, none⟩) (hu.block g hgl)).trans hc0)
      have HCM := hid (fun u (hu : Below w.heap.size w u) => compare_any _ _ y.1 x.1 u (hbs.below hu) (HX.out.2.1.below hu) goy gox)
      generalize cmpI y.1 x.1 = cm at *
      have hi0 : (0 : Int) ≤ (i : Int) := by omega
      have hi1 : (i : Int) < (n : Int) := by omega
      clear goy gox hall hgl hc0 hbs hy hz hpk HBA
      by_cases k3 : cm < 0
      ·rw [decide_eq_true k3] at hR
       have HR := hid (show mayF (prevK es (i + 1 + 1)) (es.drop (i + 1 + 1)) = R from by rw [← hR]; rfl)
       have hc2 : ¬ cm ≥ 0 := by omega
       have hc3 : ¬ 0 ≤ cm := by omega
       clear hR
       go_wp2_with fail
       have hX : (wr.alloc (.cells #[.slice ak x.1.length ck, .int .i64 x.2] 33)).heap[wr.heap.size]? = some (.cells #[.slice ak x.1.length ck, .int .i64 x.2] 33 (0, 0)) := heap_alloc_new _ _
       have hb : Below w.heap.size w (wr.alloc (.cells #[.slice ak x.1.length ck, .int .i64 x.2] 33)) := HX.out.2.2.1.alloc HX.out.2.2.1.size _
       generalize (wr.alloc (.cells #[.slice ak x.1.length ck, .int .i64 x.2] 33)) = wq at *
       have hS := And.intro hb.drew (show wq.drew.cell? ⟨wr.heap.size, 0, none⟩ = some (.slice ak x.1.length ck) from cell_of_row wq wr.heap.size 0 _ _ _ hX)
       have hb := hb.drew
       generalize wr.heap.size = X at *
       refine wp_region_held_drew (S := fun u => Below w.heap.size w u ∧ u.cell? ⟨X, 0, none⟩ = some (.slice ak x.1.length ck)) (by kernel_rfl) (hS) (fun hHeld => ?_)
       refine tk (i := 0) (oi := ⟨some 21, .move (.tmp 3), 3, "merkle.go:41", #[], none⟩) (v := ?_) (Or.inl ⟨by rfl, ?_⟩) ?_
       rotate_left 1
       ·(intro u hSw; go_simp; try with_reducible rfl)
       try simp only [Act.put, sA, sB, sC]
       refine tk (i := 1) (oi := ⟨some 22, .binOp BinOp.gtr 3 (.tmp 21) (.const (Value.int IntKind.i64 0)) 3, 4, "merkle.go:41", #[⟨0, .data⟩], none⟩) (v := .bool true) (Or.inl ⟨by rfl, ?_⟩) ?_
       ·intro u hSw
        go_simp
       try simp only [Act.put, sA, sB, sC]
       refine tk (i := 2) (oi := ⟨some 23, .move (.tmp 22), 4, "merkle.go:41", #[⟨1, .data⟩], none⟩) (v := ?_) (Or.inl ⟨by rfl, ?_⟩) ?_
       rotate_left 1
       ·(intro u hSw; go_simp; try with_reducible rfl)
       try simp only [Act.put, sA, sB, sC]
       refine tk (i := 3) (oi := ⟨some 24, .move (.tmp 0), 26, "merkle.go:41", #[⟨2, .guard⟩], some (2, true)⟩) (v := ?_) (Or.inl ⟨by rfl, ?_⟩) ?_
       rotate_left 1
       ·(intro u hSw; go_simp; try with_reducible rfl)
       try simp only [Act.put, sA, sB, sC]
       refine tk (i := 4) (oi := ⟨some 25, .move (.tmp 3), 3, "merkle.go:41", #[⟨2, .guard⟩], some (2, true)⟩) (v := ?_) (Or.inl ⟨by rfl, ?_⟩) ?_
       rotate_left 1
       ·(intro u hSw; go_simp; try with_reducible rfl)
       try simp only [Act.put, sA, sB, sC]
       refine tk (i := 5) (oi := ⟨some 26, .binOp BinOp.sub 3 (.tmp 25) (.const (Value.int IntKind.i64 1)) 3, 3, "merkle.go:41", #[⟨4, .data⟩, ⟨2, .guard⟩], some (2, true)⟩) (v := .int .i64 (i : Int)) (Or.inl ⟨by rfl, ?_⟩) ?_
       ·intro u hSw
        go_simp; first | done | exact IntWalk.i64_in _ (by omega) | (rw [IntWalk.i64_in _ (by omega)]; omega)
       try simp only [Act.put, sA, sB, sC]
       refine tk (i := 6) (oi := ⟨some 27, .indexAddr 26 (.tmp 24) (.tmp 26), 0, "merkle.go:41", #[⟨3, .data⟩, ⟨5, .data⟩, ⟨2, .guard⟩], some (2, true)⟩) (v := ?_) (Or.inl ⟨by rfl, ?_⟩) ?_
       rotate_left 1
       ·(intro u hSw; go_simp; try with_reducible rfl)
       try simp only [Act.put, sA, sB, sC]
       refine tk (i := 7) (oi := ⟨some 28, .fieldAddr 33 (.tmp 27) 0, 0, "merkle.go:41", #[⟨6, .data⟩, ⟨2, .guard⟩], some (2, true)⟩) (v := ?_) (Or.inl ⟨by rfl, ?_⟩) ?_
       rotate_left 1
       ·(intro u hSw; go_simp; try with_reducible rfl)
       try simp only [Act.put, sA, sB, sC]
       refine tk (i := 8) (oi := ⟨some 29, .load 31 (.tmp 28), 31, "merkle.go:41", #[⟨7, .data⟩, ⟨2, .guard⟩], some (2, true)⟩) (v := ?_) (Or.inl ⟨by rfl, ?_⟩) ?_
       rotate_left 1
       ·(intro u hSw; have y0 := HCC.out _ hSw.1; have y1 := hSw.2; go_simp; try with_reducible rfl)
       try simp only [Act.put, sA, sB, sC]
       refine tk (i := 9) (oi := ⟨some 30, .fieldAddr 33 (.tmp 4) 0, 0, "merkle.go:41", #[⟨2, .guard⟩], some (2, true)⟩) (v := ?_) (Or.inl ⟨by rfl, ?_⟩) ?_
       rotate_left 1
       ·(intro u hSw; go_simp; try with_reducible rfl)
       try simp only [Act.put, sA, sB, sC]
       refine tk (i := 10) (oi := ⟨some 31, .load 31 (.tmp 30), 31, "merkle.go:41", #[⟨9, .data⟩, ⟨2, .guard⟩], some (2, true)⟩) (v := ?_) (Or.inl ⟨by rfl, ?_⟩) ?_
       rotate_left 1
       ·(intro u hSw; have y0 := HCC.out _ hSw.1; have y1 := hSw.2; go_simp; try with_reducible rfl)
       try simp only [Act.put, sA, sB, sC]
       refine wpAnyH_ready (rs := [11]) (by kernel_rfl) (by simp) ?_
       refine (AllReadyH.cons (o := ⟨some 32, .call ⟨.value (.func 56), #[.tmp 29, .tmp 31], #[31, 31]⟩, 3, "merkle.go:41", #[⟨8, .data⟩, ⟨10, .data⟩, ⟨2, .chain⟩, ⟨2, .guard⟩], some (2, true)⟩) rfl (fun K hK => ?_) AllReadyH.nil)
       try (generalize World.drew wq = ud at *)
       go_simp
       refine (HCM.out _ hb).mono ?_
       rintro e w9 ⟨rfl, rfl⟩
       go_wp2_with fail
       refine hK.out _ _ hS (fun hHeld => ?_)
       clear hK K
       try simp only [Act.put, sA, sB, sC]
       refine tk (i := 12) (oi := ⟨some 33, .binOp BinOp.geq 3 (.tmp 32) (.const (Value.int IntKind.i64 0)) 3, 4, "merkle.go:41", #[⟨11, .data⟩, ⟨2, .guard⟩], some (2, true)⟩) (v := .bool false) (Or.inl ⟨by rfl, ?_⟩) ?_
       ·(intro u hSw; go_simp; try with_reducible rfl)
       try simp only [Act.put, sA, sB, sC]
       refine tk (i := 13) (oi := ⟨some 34, .pick (.tmp 23) (.tmp 33) (.const (Value.bool false)), 4, "merkle.go:41", #[⟨2, .data⟩, ⟨12, .data⟩], none⟩) (v := ?_) (Or.inl ⟨by rfl, ?_⟩) ?_
       rotate_left 1
       ·(intro u hSw; go_simp; try with_reducible rfl)
       try simp only [Act.put, sA, sB, sC]
       refine wpAnyH_done (by kernel_rfl) ?_ _
       have HB2 := hid hb
       clear hb hX hS
       go_wp2_with fail
       go_roundw
       case rel => exact ⟨i + 2, by go_num, HX.out.2.2.2, HR.out, HB2.out⟩
       case measure => have := HX.out.2.2.2; simp [intOf]; omega
      ·rw [decide_eq_false k3] at hR
       have HR := hid (show false = R from by rw [← hR]; rfl)
       have hc2 : cm ≥ 0 := by omega
       have hc3 : 0 ≤ cm := by omega
       clear hR k3
       go_wp2_with fail
       have hX : (wr.alloc (.cells #[.slice ak x.1.length ck, .int .i64 x.2] 33)).heap[wr.heap.size]? = some (.cells #[.slice ak x.1.length ck, .int .i64 x.2] 33 (0, 0)) := heap_alloc_new _ _
       have hb : Below w.heap.size w (wr.alloc (.cells #[.slice ak x.1.length ck, .int .i64 x.2] 33)) := HX.out.2.2.1.alloc HX.out.2.2.1.size _
       generalize (wr.alloc (.cells #[.slice ak x.1.length ck, .int .i64 x.2] 33)) = wq at *
       have hS := And.intro hb.drew (show wq.drew.cell? ⟨wr.heap.size, 0, none⟩ = some (.slice ak x.1.length ck) from cell_of_row wq wr.heap.size 0 _ _ _ hX)
       have hb := hb.drew
       generalize wr.heap.size = X at *
       refine wp_region_held_drew (S := fun u => Below w.heap.size w u ∧ u.cell? ⟨X, 0, none⟩ = some (.slice ak x.1.length ck)) (by kernel_rfl) (hS) (fun hHeld => ?_)
       refine tk (i := 0) (oi := ⟨some 21, .move (.tmp 3), 3, "merkle.go:41", #[], none⟩) (v := ?_) (Or.inl ⟨by rfl, ?_⟩) ?_
       rotate_left 1
       ·(intro u hSw; go_simp; try with_reducible rfl)
       try simp only [Act.put, sA, sB, sC]
       refine tk (i := 1) (oi := ⟨some 22, .binOp BinOp.gtr 3 (.tmp 21) (.const (Value.int IntKind.i64 0)) 3, 4, "merkle.go:41", #[⟨0, .data⟩], none⟩) (v := .bool true) (Or.inl ⟨by rfl, ?_⟩) ?_
       ·intro u hSw
        go_simp
       try simp only [Act.put, sA, sB, sC]
       refine tk (i := 2) (oi := ⟨some 23, .move (.tmp 22), 4, "merkle.go:41", #[⟨1, .data⟩], none⟩) (v := ?_) (Or.inl ⟨by rfl, ?_⟩) ?_
       rotate_left 1
       ·(intro u hSw; go_simp; try with_reducible rfl)
       try simp only [Act.put, sA, sB, sC]
       refine tk (i := 3) (oi := ⟨some 24, .move (.tmp 0), 26, "merkle.go:41", #[⟨2, .guard⟩], some (2, true)⟩) (v := ?_) (Or.inl ⟨by rfl, ?_⟩) ?_
       rotate_left 1
       ·(intro u hSw; go_simp; try with_reducible rfl)
       try simp only [Act.put, sA, sB, sC]
       refine tk (i := 4) (oi := ⟨some 25, .move (.tmp 3), 3, "merkle.go:41", #[⟨2, .guard⟩], some (2, true)⟩) (v := ?_) (Or.inl ⟨by rfl, ?_⟩) ?_
       rotate_left 1
       ·(intro u hSw; go_simp; try with_reducible rfl)
       try simp only [Act.put, sA, sB, sC]
       refine tk (i := 5) (oi := ⟨some 26, .binOp BinOp.sub 3 (.tmp 25) (.const (Value.int IntKind.i64 1)) 3, 3, "merkle.go:41", #[⟨4, .data⟩, ⟨2, .guard⟩], some (2, true)⟩) (v := .int .i64 (i : Int)) (Or.inl ⟨by rfl, ?_⟩) ?_
       ·intro u hSw
        go_simp; first | done | exact IntWalk.i64_in _ (by omega) | (rw [IntWalk.i64_in _ (by omega)]; omega)
       try simp only [Act.put, sA, sB, sC]
       refine tk (i := 6) (oi := ⟨some 27, .indexAddr 26 (.tmp 24) (.tmp 26), 0, "merkle.go:41", #[⟨3, .data⟩, ⟨5, .data⟩, ⟨2, .guard⟩], some (2, true)⟩) (v := ?_) (Or.inl ⟨by rfl, ?_⟩) ?_
       rotate_left 1
       ·(intro u hSw; go_simp; try with_reducible rfl)
       try simp only [Act.put, sA, sB, sC]
       refine tk (i := 7) (oi := ⟨some 28, .fieldAddr 33 (.tmp 27) 0, 0, "merkle.go:41", #[⟨6, .data⟩, ⟨2, .guard⟩], some (2, true)⟩) (v := ?_) (Or.inl ⟨by rfl, ?_⟩) ?_
       rotate_left 1
       ·(intro u hSw; go_simp; try with_reducible rfl)
       try simp only [Act.put, sA, sB, sC]
       refine tk (i := 8) (oi := ⟨some 29, .load 31 (.tmp 28), 31, "merkle.go:41", #[⟨7, .data⟩, ⟨2, .guard⟩], some (2, true)⟩) (v := ?_) (Or.inl ⟨by rfl, ?_⟩) ?_
       rotate_left 1
       ·(intro u hSw; have y0 := HCC.out _ hSw.1; have y1 := hSw.2; go_simp; try with_reducible rfl)
       try simp only [Act.put, sA, sB, sC]
       refine tk (i := 9) (oi := ⟨some 30, .fieldAddr 33 (.tmp 4) 0, 0, "merkle.go:41", #[⟨2, .guard⟩], some (2, true)⟩) (v := ?_) (Or.inl ⟨by rfl, ?_⟩) ?_
       rotate_left 1
       ·(intro u hSw; go_simp; try with_reducible rfl)
       try simp only [Act.put, sA, sB, sC]
       refine tk (i := 10) (oi := ⟨some 31, .load 31 (.tmp 30), 31, "merkle.go:41", #[⟨9, .data⟩, ⟨2, .guard⟩], some (2, true)⟩) (v := ?_) (Or.inl ⟨by rfl, ?_⟩) ?_
       rotate_left 1
       ·(intro u hSw; have y0 := HCC.out _ hSw.1; have y1 := hSw.2; go_simp; try with_reducible rfl)
       try simp only [Act.put, sA, sB, sC]
       refine wpAnyH_ready (rs := [11]) (by kernel_rfl) (by simp) ?_
       refine (AllReadyH.cons (o := ⟨some 32, .call ⟨.value (.func 56), #[.tmp 29, .tmp 31], #[31, 31]⟩, 3, "merkle.go:41", #[⟨8, .data⟩, ⟨10, .data⟩, ⟨2, .chain⟩, ⟨2, .guard⟩], some (2, true)⟩) rfl (fun K hK => ?_) AllReadyH.nil)
       try (generalize World.drew wq = ud at *)
       go_simp
       refine (HCM.out _ hb).mono ?_
       rintro e w9 ⟨rfl, rfl⟩
       go_wp2_with fail
       refine hK.out _ _ hS (fun hHeld => ?_)
       clear hK K
       try simp only [Act.put, sA, sB, sC]
       refine tk (i := 12) (oi := ⟨some 33, .binOp BinOp.geq 3 (.tmp 32) (.const (Value.int IntKind.i64 0)) 3, 4, "merkle.go:41", #[⟨11, .data⟩, ⟨2, .guard⟩], some (2, true)⟩) (v := .bool true) (Or.inl ⟨by rfl, ?_⟩) ?_
       ·(intro u hSw; go_simp; try with_reducible rfl)
       try simp only [Act.put, sA, sB, sC]
       refine tk (i := 13) (oi := ⟨some 34, .pick (.tmp 23) (.tmp 33) (.const (Value.bool false)), 4, "merkle.go:41", #[⟨2, .data⟩, ⟨12, .data⟩], none⟩) (v := ?_) (Or.inl ⟨by rfl, ?_⟩) ?_
       rotate_left 1
       ·(intro u hSw; go_simp; try with_reducible rfl)
       try simp only [Act.put, sA, sB, sC]
       refine wpAnyH_done (by kernel_rfl) ?_ _
       have HB2 := hid hb
       clear hb hX hS
       go_wp2_with fail
       go_ret
       exact ⟨by rw [← HR.out]; rfl, HB2.out⟩
  ·have hje : j = n := by omega
   subst hje
   rw [← HL.out, List.drop_length] at hR
   have HR := hid (show true = R from hR)
   have HB := hid hbw
   clear hbw hR
   go_wp2_with fail
   go_ret
   exact ⟨by rw [← HR.out]; rfl, HB.out⟩
set_option maxRecDepth 100000 in
set_option maxHeartbeats 8000000 in
theorem build_no (w : World) (v : Value) (es : List (List Int × Int)) (hes : EnSZ w v es) (hv : Calls Tryd.prog 30 #[v] w fun d w' => d = .returned (.bool false) ∧ Below w.heap.size w w') :
  Calls Tryd.prog 11 #[v] w fun d w' => d = .returned (.pointer none) ∧ Below w.heap.size w w' := by
 obtain ⟨al, cl, rfl, -⟩ := hes
 have HV := hid hv
 clear hv
 go_enter Tryd.func11, Tryd.ntmps11
 go_wp2_with fail
 refine HV.out.mono ?_
 rintro d w1 ⟨rfl, hb1⟩
 have HB := hid hb1
 clear hb1
 go_wp2_with fail
 go_ret
 exact ⟨rfl, HB.out⟩
end Go.Proofs.YtbmlkocpjboodaaDoor
