/- the writer of print: tables, as, reference, joinsLast -/
import Derived.Test.YtegkbagnbnoopaaGreatDoorPs13
import Derived.Test.YtegkbagnbnoopaaGreatDoorPs18
namespace Go.Proofs.YtegkbagnbnoopaaGreatDoor
open Go.ChangeShapes Go.WideShapes Go.ChangeAt Go.RowKit Go.Deep
open Go.Lib (hid)
/-- the tables of print and of the library, as they were laid -/
structure Tabs (w : World) : Prop where
 ops : ∀ k, k < 30 → w.cell? ⟨4, 2 * k, none⟩ = some (.string (str (opT k))) ∧ w.cell? ⟨4, 2 * k + 1, none⟩ = some (.int .i64 (opL k))
 uni : ∀ k, k < 4 → w.cell? ⟨1, k, none⟩ = some (.string (str (unionT k)))
 joi : ∀ k, k < 3 → w.cell? ⟨3, k, none⟩ = some (.string (str (joinT k)))
 pow : Lib.TabIs Tryz.prog w "internal/strconv.uint64pow10" .u64 Lib.pow10Tab
 mx : ∃ m, w.cell? ⟨8, 0, none⟩ = some (.int .i64 m)
theorem var_keep {w u : World} {P : Program} {n : String} {cs : Array Value} (hb : Below w.heap.size w u) (h : w.var? P n = some cs) : u.var? P n = some cs := by
 unfold World.var? at h ⊢
 cases hg : P.globalNamed n with
 | none => rw [hg] at h; cases h
 | some g =>
  rw [hg] at h
  simp only [Option.bind_some] at h ⊢
  cases hx : w.heap[g]? with
  | none => rw [hx] at h; cases h
  | some o => rw [hb.block g (bx_lt hx), hx]; rw [hx] at h; exact h
theorem cell_keep {w u : World} {p : Addr} {v : Value} (hb : Below w.heap.size w u) (h : w.cell? p = some v) : u.cell? p = some v := (World.cell?_of_block (hb.block p.block (World.block_lt_of_cell? w p h))).trans h
theorem Tabs.keep {w u : World} (h : Tabs w) (hb : Below w.heap.size w u) : Tabs u :=
 ⟨fun k hk => ⟨cell_keep hb (h.ops k hk).1, cell_keep hb (h.ops k hk).2⟩, fun k hk => cell_keep hb (h.uni k hk), fun k hk => cell_keep hb (h.joi k hk), var_keep hb h.pow, by obtain ⟨m, hm⟩ := h.mx; exact ⟨m, cell_keep hb hm⟩⟩
theorem grow_below (w : World) (k : Nat) (os : Array Obj) : Below w.heap.size w (Sort.grow (w.drewN k) os) :=
 ⟨rfl, rfl, rfl, by simp [Sort.grow], fun i hi => by simp [Sort.grow, Array.getElem?_append, hi]⟩
set_option maxRecDepth 100000 in
set_option maxHeartbeats 6400000 in
theorem as_any {w : World} {A H B : Nat} {g : Option Nat} {s : Wr} (nm : List Int) (hc : WrC w A H B g s) (hr : Rng nm) (hl : (asF nm s).tx.length ≤ 1099511627775) : Calls Tryz.prog 106 #[.pointer (some ⟨H, 0, none⟩), .string (str nm)] w (WrE w A H B g (asF nm s)) := by
 by_cases hn : nm = []
 ·subst hn
  have he : ((str []).toList == []) = true := by rw [str_toL]; rfl
  have he2 : ((str []).toList != []) = false := by rw [bne, he]; rfl
  have HC := hid hc
  clear hc hr hl
  go_enter Tryz.func106, Tryz.ntmps106
  go_wp2_with fail
  refine bodyPost_ret (results_none rfl _ _ _) rfl ?_
  exact ⟨rfl, g, HC.out, WK.refl H B w g⟩
 ·have he : ((str nm).toList == []) = false := (by rw [str_toL [] ]; rfl : ((str nm).toList == []) = ((str nm).toList == (str []).toList)).trans ((str_beq hr (rngB rfl)).trans (decide_eq_false hn))
  have he2 : ((str nm).toList != []) = true := by rw [bne, he]; rfl
  have e : asF nm s = s.put [[97, 115], nm] := if_neg hn
  rw [e] at hl ⊢
  have HP := hid (put_two [97, 115] nm ⟨#[97, 115]⟩ (str nm) rfl rfl hc (rngB rfl) hr hl)
  clear hc hr hl hn e
  go_enter Tryz.func106, Tryz.ntmps106
  go_wp2_with (go_at_call 47; refine HP.out.mono ?_; clear HP; rintro e w1 ⟨rfl, g1, hc1, hk⟩; have HS1 := hid hc1; have HK1 := hid hk; clear hc1 hk)
  refine bodyPost_ret (results_none rfl _ _ _) rfl ?_
  exact ⟨rfl, g1, HS1.out, HK1.out⟩
set_option maxRecDepth 100000 in
set_option maxHeartbeats 6400000 in
theorem reference_any {w : World} {A H B : Nat} {g : Option Nat} {s : Wr} {x : Ex} {a0 a1 : Option Addr} {n0 k0 n1 k1 : Nat} (hc : WrC w A H B g s) (h1 : Rng x.tb) (h2 : Rng x.nm) (hl : (refF x.tb x.nm s).tx.length ≤ 1099511627775) : Calls Tryz.prog 120 #[.pointer (some ⟨H, 0, none⟩), .agg #[.int .i64 x.op, .string (str x.tb), .string (str x.nm), .int .i64 x.v.k, .int .i64 x.v.n, .string (str x.v.s), .slice a0 n0 k0, .slice a1 n1 k1]] w (WrE w A H B g (refF x.tb x.nm s)) := by
 have HX := hid (new_els hc (.cells #[.int .i64 x.op, .string (str x.tb), .string (str x.nm), .int .i64 x.v.k, .int .i64 x.v.n, .string (str x.v.s), .slice a0 n0 k0, .slice a1 n1 k1] 40))
 have HS := hid (fun o => hc.alloc o)
 by_cases hn : x.tb = []
 ·have he : ((str x.tb).toList == []) = true := by rw [hn, str_toL]; rfl
  have he2 : ((str x.tb).toList != []) = false := by rw [bne, he]; rfl
  have e : refF x.tb x.nm s = s.put [x.nm] := if_pos hn
  rw [e] at hl ⊢
  have HP := hid (fun o => put_oneB (w.heap.size + 1) (by simp) x.nm (str x.nm) rfl (HS.out o) h2 hl)
  clear hc h1 h2 hl hn e
  go_enter Tryz.func120, Tryz.ntmps120
  go_wp2_with (go_at_call 47; refine (HP.out _).mono ?_; clear HP; rintro e w1 ⟨rfl, g1, hc1, hk⟩; have HS1 := hid hc1; have HK1 := hid (((WK.refl H B w g).alloc _).trans hk); clear hc1 hk)
  refine bodyPost_ret (results_none rfl _ _ _) rfl ?_
  exact ⟨rfl, g1, HS1.out, HK1.out⟩
 ·have he : ((str x.tb).toList == []) = false := (by rw [str_toL [] ]; rfl : ((str x.tb).toList == []) = ((str x.tb).toList == (str []).toList)).trans ((str_beq h1 (rngB rfl)).trans (decide_eq_false hn))
  have he2 : ((str x.tb).toList != []) = true := by rw [bne, he]; rfl
  have e : refF x.tb x.nm s = (s.put [x.tb, [46]]).put [x.nm] := if_neg hn
  rw [e] at hl ⊢
  have hm := put_mono (s.put [x.tb, [46]]) [x.nm]
  have HP := hid (fun o => put_twoB (w.heap.size + 1) (by simp) x.tb [46] (str x.tb) ⟨#[46]⟩ rfl rfl (HS.out o) h1 (rngB rfl) (by omega))
  have HQ := hid (fun (g1 : Option Nat) (u : World) (h : WrC u A H B g1 (s.put [x.tb, [46]])) => put_one x.nm (str x.nm) rfl h h2 hl)
  clear hc h1 h2 hl hn e hm
  go_enter Tryz.func120, Tryz.ntmps120
  go_wp2_with (first
   | (go_at_call 47; refine (HP.out _).mono ?_; clear HP; rintro e w1 ⟨rfl, g1, hc1, hk⟩; have HX1 := hid (HX.out.keep hk); have HS1 := hid hc1; have HK1 := hid (((WK.refl H B w g).alloc _).trans hk); clear hc1 hk; have y0 := cell_at HX1.out.at_ 0 rfl; have y1 := cell_at HX1.out.at_ 1 rfl; have y2 := cell_at HX1.out.at_ 2 rfl; have y3 := cell_at HX1.out.at_ 3 rfl; have y4 := cell_at HX1.out.at_ 4 rfl; have y5 := cell_at HX1.out.at_ 5 rfl; have y6 := cell_at HX1.out.at_ 6 rfl; have y7 := cell_at HX1.out.at_ 7 rfl)
   | (go_at_call 47; refine (HQ.out _ _ HS1.out).mono ?_; clear HQ; rintro e w2 ⟨rfl, g2, hc2, hk⟩; have HS2 := hid hc2; have HK2 := hid (HK1.out.trans hk); clear hc2 hk)
   | fail)
  refine bodyPost_ret (results_none rfl _ _ _) rfl ?_
  exact ⟨rfl, g2, HS2.out, HK2.out⟩
set_option maxRecDepth 100000 in
set_option maxHeartbeats 6400000 in
theorem joinsLast_any {w : World} {A H B : Nat} {g : Option Nat} {s : Wr} {x : Ex} {a0 a1 : Option Addr} {n0 k0 n1 k1 : Nat} (hc : WrC w A H B g s) : Calls Tryz.prog 108 #[.pointer (some ⟨H, 0, none⟩), .agg #[.int .i64 x.op, .string (str x.tb), .string (str x.nm), .int .i64 x.v.k, .int .i64 x.v.n, .string (str x.v.s), .slice a0 n0 k0, .slice a1 n1 k1]] w (BO w (joinsF x.op x.v s)) := by
 have hr := hc.rng
 have b1 := cell_at hc.box 1 rfl
 have b2 := cell_at hc.box 2 rfl
 have hne : w.heap.size ≠ H := by have := bx_lt hc.box; omega
 have hlt := bx_lt hc.box
 have k1_ := str_c s.la [110, 111, 116] hr (rngB rfl) [110, 111, 116] rfl
 have k2_ := str_c s.la [45] hr (rngB rfl) [45] rfl
 have HJ := hid (show joinsF x.op x.v s = if x.op = 26 then decide (s.la = [110, 111, 116]) else if x.op = 1 then decide (s.la = [45]) && (s.ti && (decide (x.v.k = 1) && decide (0 ≤ x.v.n))) else false from rfl)
 rw [HJ.out]
 clear hc hr HJ
 have kk : (x.v.k == (1 : Int)) = decide (x.v.k = 1) := rfl
 generalize decide (s.la = [110, 111, 116]) = d1 at *
 generalize decide (s.la = [45]) = d2 at *
 generalize hd4 : decide (0 ≤ x.v.n) = d4 at *
 generalize decide (x.v.k = 1) = d3 at *
 generalize s.ti = d5 at *
 generalize s.la = la at *
 by_cases h26 : x.op = 26
 ·rw [if_pos h26]
  have f1 : (x.op == (26 : Int)) = true := beq_iff_eq.2 h26
  clear h26
  go_enter Tryz.func108, Tryz.ntmps108
  go_wp2_with fail
  go_ret
  exact ⟨rfl, (Below.refl _ _).alloc (Nat.le_refl _) _⟩
 ·have f1 : (x.op == (26 : Int)) = false := beq_eq_false_iff_ne.2 h26
  rw [if_neg h26]
  by_cases h1 : x.op = 1
  ·rw [if_pos h1]
   have f2 : (x.op == (1 : Int)) = true := beq_iff_eq.2 h1
   clear h26 h1
   cases d2 <;> cases d5 <;> cases d3 <;> cases d4
   all_goals
    go_enter Tryz.func108, Tryz.ntmps108
    go_wp2_with fail
    go_ret
    exact ⟨rfl, (Below.refl _ _).alloc (Nat.le_refl _) _⟩
  ·rw [if_neg h1]
   have f2 : (x.op == (1 : Int)) = false := beq_eq_false_iff_ne.2 h1
   clear h26 h1
   go_enter Tryz.func108, Tryz.ntmps108
   go_wp2_with fail
   go_ret
   exact ⟨rfl, (Below.refl _ _).alloc (Nat.le_refl _) _⟩
end Go.Proofs.YtegkbagnbnoopaaGreatDoor
/- the writer of print: value -/
namespace Go.Proofs.YtegkbagnbnoopaaGreatDoor
open Go.ChangeShapes Go.WideShapes Go.ChangeAt Go.RowKit Go.Deep
open Go.Lib (hid)
theorem str_byI (l : List UInt8) : str (byI l) = ⟨l.toArray⟩ := by
 unfold str byI
 rw [List.map_map]
 congr 2
 refine (List.map_congr_left (fun c _ => ?_)).trans (List.map_id l)
 simp
theorem rng_byI (l : List UInt8) : Rng (byI l) := by
  intro x hx
  obtain ⟨c, _, rfl⟩ := List.mem_map.1 hx
  have := c.toNat_lt
  omega
theorem quote_eq (z : List UInt8) : (⟨#[39]⟩ : ByteArray) ++ ⟨z.toArray⟩ ++ ⟨#[39]⟩ = str (39 :: (byI z ++ [39])) := by
 have e : str (39 :: (byI z ++ [39])) = ⟨(39 :: (z ++ [39])).toArray⟩ := by
  have h := str_byI (39 :: (z ++ [39]))
  rw [← h]
  congr 1
  simp [byI]
 rw [e]
 apply ByteArray.ext
 simp [ByteArray.data_append]
theorem fbool (b : Bool) (w : World) : Calls Tryz.prog 128 #[.bool b] w fun e w' => e = .returned (.string (if b = true then ⟨#[116, 114, 117, 101]⟩ else ⟨#[102, 97, 108, 115, 101]⟩)) ∧ Below w.heap.size w w' := by
 have h2 : Calls Tryz.prog 130 #[.bool b] w fun e w' => e = .returned (.string (if b = true then ⟨#[116, 114, 117, 101]⟩ else ⟨#[102, 97, 108, 115, 101]⟩)) ∧ Below w.heap.size w w' := by
  cases b
  all_goals
   go_enter Tryz.func130, Tryz.ntmps130
   go_wp2_with fail
   go_ret
   exact ⟨rfl, Below.refl _ _⟩
 have H2 := hid h2
 clear h2
 generalize (if b = true then (⟨#[116, 114, 117, 101]⟩ : ByteArray) else ⟨#[102, 97, 108, 115, 101]⟩) = z at *
 go_enter Tryz.func128, Tryz.ntmps128
 go_wp2_with (go_at_call 130; refine H2.out.mono ?_; rintro e w1 ⟨rfl, hb⟩; have HB := hid hb; clear hb)
 go_ret
 exact ⟨rfl, HB.out⟩
set_option maxRecDepth 100000 in
set_option maxHeartbeats 6400000 in
theorem value_any {w : World} {A H B : Nat} {g : Option Nat} {s : Wr} (v : Val) (hT : Tabs w) (hc : WrC w A H B g s) (ov : v.OK) (hvl : v.s.length ≤ 1073741823) (hl : (valF v s).tx.length ≤ 1099511627775) :
  Calls Tryz.prog 119 #[.pointer (some ⟨H, 0, none⟩), .agg #[.int .i64 v.k, .int .i64 v.n, .string (str v.s)]] w (WrE w A H B g (valF v s)) := by
 have HS := hid (fun o => hc.alloc o)
 have HTB := hid (fun o => hT.keep ((Below.refl w.heap.size w).alloc (Nat.le_refl _) o))
 have HW := hid ((WK.refl H B w g))
 have hsz := str_len v.s
 by_cases h1 : v.k = 1
 ·have f1 : (v.k == (1 : Int)) = true := beq_iff_eq.2 h1
  have e : valF v s = s.put [byI (Lib.itoa v.n)] := if_pos h1
  rw [e] at hl ⊢
  have HF := hid (fun o => Tryz.strconv_FormatInt_10 v.n ov.2.2.2.1 ov.2.2.2.2 (w.alloc o) (HTB.out o).pow)
  have HP := hid (fun (u : World) (h : WrC u A H B g s) => put_one (byI (Lib.itoa v.n)) ⟨(Lib.itoa v.n).toArray⟩ (str_byI _).symm h (rng_byI _) hl)
  clear hT hc ov hl e h1
  generalize Lib.itoa v.n = z at *
  go_enter Tryz.func119, Tryz.ntmps119
  go_wp2_with (first
   | (go_at_call 50; refine (HF.out _).mono ?_; clear HF; rintro e w1 ⟨rfl, k, os, hw⟩; have hb := grow_below (w.alloc (.cells #[.int .i64 v.k, .int .i64 v.n, .string (str v.s)] 38)) k os; rw [← hw] at hb; have HS1 := hid ((HS.out _).fresh hb); have HK1 := hid ((HW.out.alloc _).trans (WK.fresh hb)); clear hw hb)
   | (go_at_call 47; refine (HP.out _ HS1.out).mono ?_; clear HP; rintro e w3 ⟨rfl, g1, hc1, hk⟩; have HS3 := hid hc1; have HK3 := hid (HK1.out.trans hk); clear hc1 hk)
   | fail)
  refine bodyPost_ret (results_none rfl _ _ _) rfl ?_
  exact ⟨rfl, g1, HS3.out, HK3.out⟩
 have f1 : (v.k == (1 : Int)) = false := beq_eq_false_iff_ne.2 h1
 by_cases h2 : v.k = 2
 ·have f2 : (v.k == (2 : Int)) = true := beq_iff_eq.2 h2
  have e : valF v s = s.put [39 :: (byI (Lib.replaceAll (v.s.map (fun c => UInt8.ofNat c.toNat)) [39] [39, 39]) ++ [39])] := by unfold valF; rw [if_neg h1, if_pos h2]
  rw [e] at hl ⊢
  obtain ⟨m, -⟩ := hT.mx
  have HF := hid (fun (o : Obj) => by
   obtain ⟨m, hm⟩ := (HTB.out o).mx
   have hcl := Lib.countB_mul_le ⟨#[39]⟩ (by decide) _ (str v.s) (Nat.le_refl _)
   have h39 : (⟨#[39]⟩ : ByteArray).size = 1 := rfl
   have h3939 : (⟨#[39, 39]⟩ : ByteArray).size = 2 := rfl
   rw [h39] at hcl
   exact Tryz.strings_ReplaceAll (str v.s) ⟨#[39]⟩ ⟨#[39, 39]⟩ m (w.alloc o) (by omega) hm (by decide) (by rw [h3939]; omega))
  have hR : (Lib.replaceAll (str v.s).data.toList (⟨#[39]⟩ : ByteArray).data.toList (⟨#[39, 39]⟩ : ByteArray).data.toList) = Lib.replaceAll (v.s.map (fun c => UInt8.ofNat c.toNat)) [39] [39, 39] := rfl
  rw [hR] at HF
  clear hT hc ov e h1 h2 hR
  generalize Lib.replaceAll (v.s.map (fun c => UInt8.ofNat c.toNat)) [39] [39, 39] = z at *
  have HP := hid (fun (u : World) (h : WrC u A H B g s) (c : ByteArray) (hcc : c = str (39 :: (byI z ++ [39]))) => put_one (39 :: (byI z ++ [39])) c hcc h (by
   intro x hx
   rcases List.mem_cons.1 hx with rfl | hx
   ·decide
   ·rcases List.mem_append.1 hx with hx | hx
    ·exact rng_byI z x hx
    ·rw [List.mem_singleton] at hx; subst hx; decide) hl)
  have hzl : z.length ≤ 1099511627775 := by
   have h := (put1_len s (39 :: (byI z ++ [39]))).1
   have h2 : (s.put1 (39 :: (byI z ++ [39]))).tx.length ≤ 1099511627775 := hl
   have h3 : (39 :: (byI z ++ [39])).length = z.length + 2 := by simp [byI]
   rw [h3] at h
   omega
  have hz1 : (⟨z.toArray⟩ : ByteArray).size = z.length := by simp [ByteArray.size]
  have hz2 : ((⟨#[39]⟩ : ByteArray) ++ ⟨z.toArray⟩).size = z.length + 1 := by rw [ByteArray.size_append, hz1]; show 1 + z.length = _; omega
  generalize z.length = zn at *
  clear hl
  go_enter Tryz.func119, Tryz.ntmps119
  go_wp2_with (first
   | (go_at_call 127; refine (HF.out _).mono ?_; clear HF; rintro e w1 ⟨rfl, hb⟩; have HS1 := hid ((HS.out _).fresh hb); have HK1 := hid ((HW.out.alloc _).trans (WK.fresh hb)); clear hb)
   | (go_at_call 47; refine (HP.out _ HS1.out _ (quote_eq z)).mono ?_; clear HP; rintro e w3 ⟨rfl, g1, hc1, hk⟩; have HS3 := hid hc1; have HK3 := hid (HK1.out.trans hk); clear hc1 hk)
   | fail)
  refine bodyPost_ret (results_none rfl _ _ _) rfl ?_
  exact ⟨rfl, g1, HS3.out, HK3.out⟩
 have f2 : (v.k == (2 : Int)) = false := beq_eq_false_iff_ne.2 h2
 by_cases h3 : v.k = 3
 ·have f3 : (v.k == (3 : Int)) = true := beq_iff_eq.2 h3
  have kn : (v.n == (1 : Int)) = decide (v.n = 1) := rfl
  have e : valF v s = s.put [if v.n = 1 then [116, 114, 117, 101] else [102, 97, 108, 115, 101]] := by unfold valF; rw [if_neg h1, if_neg h2, if_pos h3]
  rw [e] at hl ⊢
  have HF := hid (fun u => fbool (decide (v.n = 1)) u)
  have HP := hid (fun (u : World) (h : WrC u A H B g s) => put_one (if v.n = 1 then [116, 114, 117, 101] else [102, 97, 108, 115, 101]) (if decide (v.n = 1) = true then ⟨#[116, 114, 117, 101]⟩ else ⟨#[102, 97, 108, 115, 101]⟩) (by by_cases h : v.n = 1 <;> simp [h] <;> rfl) h (by split <;> exact rngB rfl) hl)
  clear hT hc ov hl e h1 h2 h3
  generalize (if v.n = 1 then ([116, 114, 117, 101] : List Int) else [102, 97, 108, 115, 101]) = q at *
  generalize decide (v.n = 1) = b at *
  generalize (if b = true then (⟨#[116, 114, 117, 101]⟩ : ByteArray) else ⟨#[102, 97, 108, 115, 101]⟩) = z at *
  go_enter Tryz.func119, Tryz.ntmps119
  go_wp2_with (first
   | (go_at_call 128; refine (HF.out _).mono ?_; clear HF; rintro e w1 ⟨rfl, hb⟩; have HS1 := hid ((HS.out _).fresh hb); have HK1 := hid ((HW.out.alloc _).trans (WK.fresh hb)); clear hb)
   | (go_at_call 47; refine (HP.out _ HS1.out).mono ?_; clear HP; rintro e w3 ⟨rfl, g1, hc1, hk⟩; have HS3 := hid hc1; have HK3 := hid (HK1.out.trans hk); clear hc1 hk)
   | fail)
  refine bodyPost_ret (results_none rfl _ _ _) rfl ?_
  exact ⟨rfl, g1, HS3.out, HK3.out⟩
 have f3 : (v.k == (3 : Int)) = false := beq_eq_false_iff_ne.2 h3
 have e : valF v s = s.put [[110, 117, 108, 108]] := by unfold valF; rw [if_neg h1, if_neg h2, if_neg h3]
 rw [e] at hl ⊢
 have HP := hid (fun o => put_oneB (w.heap.size + 1) (by simp) [110, 117, 108, 108] ⟨#[110, 117, 108, 108]⟩ rfl (HS.out o) (rngB rfl) hl)
 clear hT hc ov hl e h1 h2 h3
 go_enter Tryz.func119, Tryz.ntmps119
 go_wp2_with (go_at_call 47; refine (HP.out _).mono ?_; clear HP; rintro e w3 ⟨rfl, g1, hc1, hk⟩; have HS3 := hid hc1; have HK3 := hid ((HW.out.alloc _).trans hk); clear hc1 hk)
 refine bodyPost_ret (results_none rfl _ _ _) rfl ?_
 exact ⟨rfl, g1, HS3.out, HK3.out⟩
end Go.Proofs.YtegkbagnbnoopaaGreatDoor
/- the writer of print: clause, key, item, expr -/
namespace Go.Proofs.YtegkbagnbnoopaaGreatDoor
open Go.ChangeShapes Go.WideShapes Go.ChangeAt Go.RowKit Go.Deep
open Go.Lib (hid)
theorem exsWr_map : ∀ l : List Ex, exsWr l = l.map Ex.wr
 | [] => rfl
 | x :: l => by unfold exsWr; rw [exsWr_map l]; rfl
theorem itsWr_map : ∀ l : List It, itsWr l = l.map It.wr
 | [] => rfl
 | x :: l => by unfold itsWr; rw [itsWr_map l]; rfl
theorem obsWr_map : ∀ l : List Ob, obsWr l = l.map Ob.wr
 | [] => rfl
 | x :: l => by unfold obsWr; rw [obsWr_map l]; rfl
theorem call_wexpr (args : Array Value) (u : World) : (callFunc 74 args).run Tryz.prog u = .ok (.enter 74 args) u := by kernel_rfl
theorem call_witem (args : Array Value) (u : World) : (callFunc 92 args).run Tryz.prog u = .ok (.enter 92 args) u := by kernel_rfl
theorem call_wkey (args : Array Value) (u : World) : (callFunc 49 args).run Tryz.prog u = .ok (.enter 49 args) u := by kernel_rfl
/-- an expression is written -/
def XE (w0 : World) (x : Ex) : Prop := ∀ a, ExV w0 a x → W1 w0 74 a (x.wr 1)
theorem clauseF_mo (kw : List Int) (L : List (Wr → Wr)) (h : ∀ f ∈ L, Mo f) : Mo (clauseF kw L) := fun s => by
 unfold clauseF
 split
 ·exact Nat.le_refl _
 ·exact Nat.le_trans (put_mono s [kw]) (listF_mo L true h _)
set_option maxRecDepth 100000 in
set_option maxHeartbeats 6400000 in
theorem clauseW {w0 : World} (kw : List Int) (c : ByteArray) (hkc : c = str kw) (hkr : Rng kw) {l : List Ex} {v : Value} (hv : DIs w0 v (.sl (exsDa l))) (hn : l.length ≤ 1073741823) (hE : ∀ x ∈ l, XE w0 x) (hM : ∀ x ∈ l, Mo (x.wr 1)) :
  W2 w0 61 (.string c) v (clauseF kw ((exsWr l).map (fun f => f 1))) := by
 subst hkc
 intro A H B g s w hA hw hc hl
 rw [show (exsWr l).map (fun f => f 1) = l.map (fun x => x.wr 1) by rw [exsWr_map, List.map_map]; rfl] at hl ⊢
 cases l with
 | nil =>
  obtain ⟨a, c, rfl, -, -⟩ := exs_rows hv
  have HC := hid hc
  clear hc hl hE hM hv hw hn
  go_enter Tryz.func61, Tryz.ntmps61
  go_wp2_with fail
  refine bodyPost_ret (results_none rfl _ _ _) rfl ?_
  exact ⟨rfl, g, HC.out, WK.refl H B w g⟩
 | cons y r =>
  have hmo : ∀ f ∈ (y :: r).map (fun x => x.wr 1), Mo f := fun f hf => by obtain ⟨x, hx, rfl⟩ := List.mem_map.1 hf; exact hM x hx
  have e : clauseF kw ((y :: r).map (fun x => x.wr 1)) s = listF true ((y :: r).map (fun x => x.wr 1)) (s.put [kw]) := if_neg (by simp)
  rw [e] at hl ⊢
  have hm := listF_mo _ true hmo (s.put [kw])
  have HP := hid (put_one kw (str kw) rfl hc hkr (by omega))
  have HQ := hid (fun (g1 : Option Nat) (u : World) (h : WrC u A H B g1 (s.put [kw])) (hu : Below w0.heap.size w0 u) => list_ex (fun x => x.wr 1) 74 call_wexpr hA hu h hv hn (fun x hx a ha => hE x hx a ha) hM hl)
  have HCC := hid hc
  have HW := hid hw
  obtain ⟨a, c, rfl, -, -⟩ := exs_rows hv
  have hd : decide (0 < (y :: r).length) = true := decide_eq_true (by simp)
  clear hc hl hE hM hv hw hn e hm hmo hkr
  generalize listF true ((y :: r).map (fun x => x.wr 1)) (s.put [kw]) = sZ at *
  generalize (y :: r).length = n at *
  go_enter Tryz.func61, Tryz.ntmps61
  go_wp2_with (first
   | (go_at_call 47; refine HP.out.mono ?_; clear HP; rintro e w1 ⟨rfl, g1, hc1, hk⟩; have HS1 := hid hc1; have HB1 := hid (hk.low HCC.out hA HW.out); have HK1 := hid hk; clear hc1 hk)
   | (go_at_call 85; refine (HQ.out _ _ HS1.out HB1.out).mono ?_; clear HQ; rintro e w2 ⟨rfl, g2, hc2, hk⟩; have HS2 := hid hc2; have HK2 := hid (HK1.out.trans hk); clear hc2 hk)
   | fail)
  refine bodyPost_ret (results_none rfl _ _ _) rfl ?_
  exact ⟨rfl, g2, HS2.out, HK2.out⟩
set_option maxRecDepth 100000 in
set_option maxHeartbeats 6400000 in
theorem key_step {w0 : World} {x : Ob} (hE : XE w0 x.x) (hM : Mo (x.x.wr 1)) (a : Value) (ha : ObV w0 a x) : W1 w0 49 a x.wr := by
 intro A H B g s w hA hw hc hl
 obtain ⟨p0, p1, rfl, h0, h1⟩ := ha
 obtain ⟨e0, m0, z0, rfl⟩ := dis_slice h0
 obtain ⟨e1, m1, z1, rfl⟩ := dis_slice h1
 have HX := hid (new_els hc (.cells #[.int .i64 x.x.op, .string (str x.x.tb), .string (str x.x.nm), .int .i64 x.x.v.k, .int .i64 x.x.v.n, .string (str x.x.v.s), .slice e0 m0 z0, .slice e1 m1 z1, .bool x.down] 58))
 have E1 : x.wr s = if x.down = true then (x.x.wr 1 s).put [[100, 101, 115, 99]] else x.x.wr 1 s := by cases x; unfold Ob.wr; rfl
 rw [E1] at hl ⊢
 have hb2 : (x.x.wr 1 s).tx.length ≤ 1099511627775 := by
  split at hl
  ·have := put_mono (x.x.wr 1 s) [[100, 101, 115, 99]]; omega
  ·exact hl
 have HEX := hid (fun (o : Obj) => hE (.agg #[.int .i64 x.x.op, .string (str x.x.tb), .string (str x.x.nm), .int .i64 x.x.v.k, .int .i64 x.x.v.n, .string (str x.x.v.s), .slice e0 m0 z0, .slice e1 m1 z1]) ⟨_, _, rfl, h0, h1⟩ A H B g s (w.alloc o) hA (hw.alloc hw.size o) (hc.alloc o) hb2)
 generalize hsx : x.x.wr 1 s = sx at *
 clear hsx
 by_cases hd : x.down = true
 case neg =>
  rw [if_neg hd] at hl ⊢
  have hd : x.down = false := by simpa using hd
  clear hc hw hE hM hl h0 h1 E1 hb2
  generalize x.down = xd at *
  subst hd
  go_enter Tryz.func49, Tryz.ntmps49
  go_wp2_with (go_at_call 74; refine (HEX.out _).mono ?_; clear HEX; rintro e w1 ⟨rfl, g1, hc1, hk⟩; have HX1 := hid (HX.out.keep hk); have HS1 := hid hc1; have HK1 := hid (((WK.refl H B w g).alloc _).trans hk); clear hc1 hk; have y0 := cell_at HX1.out.at_ 0 rfl; have y1 := cell_at HX1.out.at_ 1 rfl; have y2 := cell_at HX1.out.at_ 2 rfl; have y3 := cell_at HX1.out.at_ 3 rfl; have y4 := cell_at HX1.out.at_ 4 rfl; have y5 := cell_at HX1.out.at_ 5 rfl; have y6 := cell_at HX1.out.at_ 6 rfl; have y7 := cell_at HX1.out.at_ 7 rfl; have y8 := cell_at HX1.out.at_ 8 rfl)
  refine bodyPost_ret (results_none rfl _ _ _) rfl ?_
  exact ⟨rfl, g1, HS1.out, HK1.out⟩
 case pos =>
  rw [if_pos hd] at hl ⊢
  have HP := hid (fun (g1 : Option Nat) (u : World) (h : WrC u A H B g1 sx) => put_one [100, 101, 115, 99] ⟨#[100, 101, 115, 99]⟩ rfl h (rngB rfl) hl)
  clear hc hw hE hM hl h0 h1 E1 hb2
  generalize x.down = xd at *
  subst hd
  go_enter Tryz.func49, Tryz.ntmps49
  go_wp2_with (first
   | (go_at_call 74; refine (HEX.out _).mono ?_; clear HEX; rintro e w1 ⟨rfl, g1, hc1, hk⟩; have HX1 := hid (HX.out.keep hk); have HS1 := hid hc1; have HK1 := hid (((WK.refl H B w g).alloc _).trans hk); clear hc1 hk; have y0 := cell_at HX1.out.at_ 0 rfl; have y1 := cell_at HX1.out.at_ 1 rfl; have y2 := cell_at HX1.out.at_ 2 rfl; have y3 := cell_at HX1.out.at_ 3 rfl; have y4 := cell_at HX1.out.at_ 4 rfl; have y5 := cell_at HX1.out.at_ 5 rfl; have y6 := cell_at HX1.out.at_ 6 rfl; have y7 := cell_at HX1.out.at_ 7 rfl; have y8 := cell_at HX1.out.at_ 8 rfl)
   | (go_at_call 47; refine (HP.out _ _ HS1.out).mono ?_; clear HP; rintro e w2 ⟨rfl, g2, hc2, hk⟩; have HS2 := hid hc2; have HK2 := hid (HK1.out.trans hk); clear hc2 hk)
   | fail)
  refine bodyPost_ret (results_none rfl _ _ _) rfl ?_
  exact ⟨rfl, g2, HS2.out, HK2.out⟩
set_option maxRecDepth 100000 in
set_option maxHeartbeats 6400000 in
theorem witem_step {w0 : World} {x : It} (hE : x.star = false → XE w0 x.x) (hr : Rng x.nm) (a : Value) (ha : ItV w0 a x) : W1 w0 92 a x.wr := by
 intro A H B g s w hA hw hc hl
 obtain ⟨p0, p1, rfl, h0, h1⟩ := ha
 obtain ⟨e0, m0, z0, rfl⟩ := dis_slice h0
 obtain ⟨e1, m1, z1, rfl⟩ := dis_slice h1
 have HX := hid (new_els hc (.cells #[.bool x.star, .int .i64 x.x.op, .string (str x.x.tb), .string (str x.x.nm), .int .i64 x.x.v.k, .int .i64 x.x.v.n, .string (str x.x.v.s), .slice e0 m0 z0, .slice e1 m1 z1, .string (str x.nm)] 42))
 have E1 : x.wr s = if x.star = true then s.put [[42]] else asF x.nm (x.x.wr 1 s) := by cases x; unfold It.wr; rfl
 rw [E1] at hl ⊢
 by_cases hd : x.star = true
 case pos =>
  rw [if_pos hd] at hl ⊢
  have HP := hid (fun o => put_oneB (w.heap.size + 1) (by simp) [42] ⟨#[42]⟩ rfl (hc.alloc o) (rngB rfl) hl)
  clear hc hw hE hl h0 h1 E1 hr
  generalize x.star = xd at *
  subst hd
  go_enter Tryz.func92, Tryz.ntmps92
  go_wp2_with (go_at_call 47; refine (HP.out _).mono ?_; clear HP; rintro e w1 ⟨rfl, g1, hc1, hk⟩; have HS1 := hid hc1; have HK1 := hid (((WK.refl H B w g).alloc _).trans hk); clear hc1 hk)
  refine bodyPost_ret (results_none rfl _ _ _) rfl ?_
  exact ⟨rfl, g1, HS1.out, HK1.out⟩
 case neg =>
  rw [if_neg hd] at hl ⊢
  have hd : x.star = false := by simpa using hd
  have hb2 : (x.x.wr 1 s).tx.length ≤ 1099511627775 := by
   unfold asF at hl
   split at hl
   ·exact hl
   ·have := put_mono (x.x.wr 1 s) [[97, 115], x.nm]; omega
  have HEX := hid (fun (o : Obj) => hE hd (.agg #[.int .i64 x.x.op, .string (str x.x.tb), .string (str x.x.nm), .int .i64 x.x.v.k, .int .i64 x.x.v.n, .string (str x.x.v.s), .slice e0 m0 z0, .slice e1 m1 z1]) ⟨_, _, rfl, h0, h1⟩ A H B g s (w.alloc o) hA (hw.alloc hw.size o) (hc.alloc o) hb2)
  have HAS := hid (fun (g1 : Option Nat) (u : World) (h : WrC u A H B g1 (x.x.wr 1 s)) => as_any x.nm h hr hl)
  clear hc hw hE hl h0 h1 E1 hr hb2
  generalize x.x.wr 1 s = sx at *
  generalize x.star = xd at *
  subst hd
  go_enter Tryz.func92, Tryz.ntmps92
  go_wp2_with (first
   | (go_at_call 74; refine (HEX.out _).mono ?_; clear HEX; rintro e w1 ⟨rfl, g1, hc1, hk⟩; have HX1 := hid (HX.out.keep hk); have HS1 := hid hc1; have HK1 := hid (((WK.refl H B w g).alloc _).trans hk); clear hc1 hk; have y0 := cell_at HX1.out.at_ 0 rfl; have y1 := cell_at HX1.out.at_ 1 rfl; have y2 := cell_at HX1.out.at_ 2 rfl; have y3 := cell_at HX1.out.at_ 3 rfl; have y4 := cell_at HX1.out.at_ 4 rfl; have y5 := cell_at HX1.out.at_ 5 rfl; have y6 := cell_at HX1.out.at_ 6 rfl; have y7 := cell_at HX1.out.at_ 7 rfl; have y8 := cell_at HX1.out.at_ 8 rfl; have y9 := cell_at HX1.out.at_ 9 rfl)
   | (go_at_call 106; refine (HAS.out _ _ HS1.out).mono ?_; clear HAS; rintro e w2 ⟨rfl, g2, hc2, hk⟩; have HS2 := hid hc2; have HK2 := hid (HK1.out.trans hk); clear hc2 hk)
   | fail)
  refine bodyPost_ret (results_none rfl _ _ _) rfl ?_
  exact ⟨rfl, g2, HS2.out, HK2.out⟩
set_option maxRecDepth 100000 in
set_option maxHeartbeats 6400000 in
theorem wexpr_step {w0 : World} {x : Ex} (hO : ∀ a, ExV w0 a x → W2 w0 95 a (.int .i64 1) (x.wr 1)) : XE w0 x := by
 intro a ha A H B g s w hA hw hc hl
 have hop := hO a ha
 obtain ⟨p0, p1, rfl, h0, h1⟩ := ha
 obtain ⟨e0, m0, z0, rfl⟩ := dis_slice h0
 obtain ⟨e1, m1, z1, rfl⟩ := dis_slice h1
 have HO := hid (fun o => hop A H B g s (w.alloc o) hA (hw.alloc hw.size o) (hc.alloc o) hl)
 clear hop hO hc hw hl h0 h1
 go_enter Tryz.func74, Tryz.ntmps74
 go_wp2_with (go_at_call 95; refine (HO.out _).mono ?_; clear HO; rintro e w1 ⟨rfl, g1, hc1, hk⟩; have HS1 := hid hc1; have HK1 := hid (((WK.refl H B w g).alloc _).trans hk); clear hc1 hk)
 refine bodyPost_ret (results_none rfl _ _ _) rfl ?_
 exact ⟨rfl, g1, HS1.out, HK1.out⟩
end Go.Proofs.YtegkbagnbnoopaaGreatDoor
/- the writer of print: operand -/
namespace Go.Proofs.YtegkbagnbnoopaaGreatDoor
open Go.ChangeShapes Go.WideShapes Go.ChangeAt Go.RowKit Go.Deep
open Go.Lib (hid)
theorem call_wop1 (args : Array Value) (u : World) : (callFunc 109 args).run Tryz.prog u = .ok (.enter 109 args) u := by kernel_rfl
def opx (x : Ex) : Wr → Wr := opF x.op x.tb x.nm x.v (exsWr x.args) (qusWr x.qs)
theorem wr_eq (x : Ex) (least : Int) (s : Wr) : x.wr least s = operF x.op x.v (opx x) least s := by cases x; rfl
theorem par_mo {f : Wr → Wr} (h : Mo f) : Mo (Wr.par f) := fun s => Nat.le_trans (put_mono s [[40]]) (Nat.le_trans (h _) (put_mono _ [[41]]))
theorem operF_mo {op : Int} {v : Val} {f : Wr → Wr} {least : Int} (h : Mo f) : Mo (operF op v f least) := fun s => by
 unfold operF
 split
 ·exact par_mo h s
 ·exact h s
set_option maxRecDepth 100000 in
set_option maxHeartbeats 6400000 in
theorem op1_step {x : Ex} {w0 u : World} {A H B bc bx : Nat} {g : Option Nat} {s : Wr} (hOp : ∀ a, ExV w0 a x → W1 w0 110 a (opx x)) (hA : w0.heap.size ≤ A) (hu : Below w0.heap.size w0 u) (hc : WrC u A H B g s)
  {e0 e1 : Option Addr} {m0 z0 m1 z1 : Nat} (h0 : DIs w0 (.slice e0 m0 z0) (.sl (exsDa x.args))) (h1 : DIs w0 (.slice e1 m1 z1) (.sl (qusDa x.qs)))
  (hb : u.heap[bc]? = some (.cells #[.pointer (some ⟨H, 0, none⟩)] 69 (0, 0))) (hx : u.heap[bx]? = some (.cells #[.int .i64 x.op, .string (str x.tb), .string (str x.nm), .int .i64 x.v.k, .int .i64 x.v.n, .string (str x.v.s), .slice e0 m0 z0, .slice e1 m1 z1] 40 (0, 0))) (hl : (opx x s).tx.length ≤ 1099511627775) :
  Calls Tryz.prog 109 #[.pointer (some ⟨bc, 0, none⟩), .pointer (some ⟨bx, 0, none⟩)] u (WrE u A H B g (opx x s)) := by
 have HO := hid (hOp (.agg #[.int .i64 x.op, .string (str x.tb), .string (str x.nm), .int .i64 x.v.k, .int .i64 x.v.n, .string (str x.v.s), .slice e0 m0 z0, .slice e1 m1 z1]) ⟨_, _, rfl, h0, h1⟩ A H B g s u hA hu hc hl)
 have c0 := cell_at hb 0 rfl
 have y0 := cell_at hx 0 rfl
 have y1 := cell_at hx 1 rfl
 have y2 := cell_at hx 2 rfl
 have y3 := cell_at hx 3 rfl
 have y4 := cell_at hx 4 rfl
 have y5 := cell_at hx 5 rfl
 have y6 := cell_at hx 6 rfl
 have y7 := cell_at hx 7 rfl
 clear hOp hu hc h0 h1 hb hx hl
 go_enter Tryz.func109, Tryz.ntmps109
 go_wp2_with (go_at_call 110; refine HO.out.mono ?_; clear HO; rintro e w1 ⟨rfl, g1, hc1, hk⟩; have HS1 := hid hc1; have HK1 := hid hk; clear hc1 hk)
 refine bodyPost_ret (results_none rfl _ _ _) rfl ?_
 exact ⟨rfl, g1, HS1.out, HK1.out⟩
set_option maxRecDepth 100000 in
set_option maxHeartbeats 6400000 in
theorem operand_step {w0 : World} {x : Ex} (hT : Tabs w0) (hOp : ∀ a, ExV w0 a x → W1 w0 110 a (opx x)) (hM : Mo (opx x)) (o0 : 0 ≤ x.op) (o1 : x.op < 30) (least : Int) (a : Value) (ha : ExV w0 a x) : W2 w0 95 a (.int .i64 least) (x.wr least) := by
 intro A H B g s w hA hw hc hl
 obtain ⟨p0, p1, rfl, h0, h1⟩ := ha
 obtain ⟨e0, m0, z0, rfl⟩ := dis_slice h0
 obtain ⟨e1, m1, z1, rfl⟩ := dis_slice h1
 rw [wr_eq] at hl ⊢
 have HC2 := hid (fun (o1 o2 : Obj) => (hc.alloc o1).alloc o2)
 have HB2 := hid (fun (o1 o2 : Obj) => (hw.alloc hw.size o1).alloc (by have := hw.size; simp; omega) o2)
 have HK2 := hid (fun (o1 o2 : Obj) => ((WK.refl H B w g).alloc o1).alloc o2)
 have HXC := hid (fun (o2 : Obj) => (new_els hc (.cells #[.pointer (some ⟨H, 0, none⟩)] 69)).keep (g' := g) ((WK.refl H B _ g).alloc o2))
 have HXX := hid (fun (o1 : Obj) => (show Els H B ((w.alloc o1).alloc (.cells #[.int .i64 x.op, .string (str x.tb), .string (str x.nm), .int .i64 x.v.k, .int .i64 x.v.n, .string (str x.v.s), .slice e0 m0 z0, .slice e1 m1 z1] 40)) g (w.heap.size + 1) (.cells #[.int .i64 x.op, .string (str x.tb), .string (str x.nm), .int .i64 x.v.k, .int .i64 x.v.n, .string (str x.v.s), .slice e0 m0 z0, .slice e1 m1 z1] 40) from by
  have h := new_els (hc.alloc o1) (.cells #[.int .i64 x.op, .string (str x.tb), .string (str x.nm), .int .i64 x.v.k, .int .i64 x.v.n, .string (str x.v.s), .slice e0 m0 z0, .slice e1 m1 z1] 40)
  rwa [show (w.alloc o1).heap.size = w.heap.size + 1 from by simp] at h))
 have HJL := hid (fun (o1 o2 : Obj) => joinsLast_any (x := x) (a0 := e0) (n0 := m0) (k0 := z0) (a1 := e1) (n1 := m1) (k1 := z1) ((hc.alloc o1).alloc o2))
 have hbd : (opx x s).tx.length ≤ 1099511627775 ∨ True := .inr trivial
 obtain ⟨k, hk⟩ : ∃ k : Nat, x.op = (k : Int) := ⟨x.op.toNat, by omega⟩
 have hk30 : k < 30 := by omega
 have tt := (hT.keep (hw)).ops k hk30
 have t1 := tt.2
 rw [← hk] at t1
 have t1b : w.cell? ⟨4, k * 2 + 1, none⟩ = some (.int .i64 (opL x.op)) := by rw [Nat.mul_comm]; exact t1
 have hgl := World.block_lt_of_cell? w _ t1
 have HPAR := hid (fun (u : World) (hu : Below w0.heap.size w0 u) (h : WrC u A H B g s) (bc bx : Nat) (hx1 : Els H B u g bc (.cells #[.pointer (some ⟨H, 0, none⟩)] 69)) (hx2 : Els H B u g bx (.cells #[.int .i64 x.op, .string (str x.tb), .string (str x.nm), .int .i64 x.v.k, .int .i64 x.v.n, .string (str x.v.s), .slice e0 m0 z0, .slice e1 m1 z1] 40)) (hl2 : (Wr.par (opx x) s).tx.length ≤ 1099511627775) =>
  inParens_any (opx x) 109 #[.pointer (some ⟨bc, 0, none⟩), .pointer (some ⟨bx, 0, none⟩)] h hM hl2 call_wop1 (fun g1 u1 hc1 hk1 hl1 => op1_step hOp hA (hk1.low h hA hu) hc1 h0 h1 (hx1.keep hk1).at_ (hx2.keep hk1).at_ hl1))
 have HOPN := hid (fun (u : World) (hu : Below w0.heap.size w0 u) (h : WrC u A H B g s) (hl2 : (opx x s).tx.length ≤ 1099511627775) => hOp (.agg #[.int .i64 x.op, .string (str x.tb), .string (str x.nm), .int .i64 x.v.k, .int .i64 x.v.n, .string (str x.v.s), .slice e0 m0 z0, .slice e1 m1 z1]) ⟨_, _, rfl, h0, h1⟩ A H B g s u hA hu h hl2)
 have EO := hid (show operF x.op x.v (opx x) least s = if opL x.op < least ∨ joinsF x.op x.v s = true then Wr.par (opx x) s else opx x s from rfl)
 rw [EO.out] at hl ⊢
 clear hT hOp hM hw hc h0 h1 hbd tt EO o0 o1
 by_cases hlv : opL x.op < least
 ·rw [if_pos (.inl hlv)] at hl ⊢
  have d1 : decide (opL x.op < least) = true := decide_eq_true hlv
  have HP := hid (fun (o1 o2 : Obj) (bc bx : Nat) (hx1 : _) (hx2 : _) => HPAR.out _ (HB2.out o1 o2) (HC2.out o1 o2) bc bx hx1 hx2 hl)
  clear HPAR HOPN HJL hlv hl
  generalize opL x.op = lv at *
  generalize x.op = xo at *
  subst hk
  go_enter Tryz.func95, Tryz.ntmps95
  go_wp2_with (go_at_call 79; refine (HP.out _ _ w.heap.size (w.heap.size + 1) (HXC.out _) (HXX.out _)).mono ?_; clear HP; rintro e w1 ⟨rfl, g1, hc1, hk1⟩; have HS1 := hid hc1; have HK1 := hid ((HK2.out _ _).trans hk1); clear hc1 hk1)
  refine bodyPost_ret (results_none rfl _ _ _) rfl ?_
  exact ⟨rfl, g1, HS1.out, HK1.out⟩
 ·have d1 : decide (opL x.op < least) = false := decide_eq_false hlv
  by_cases hj : joinsF x.op x.v s = true
  ·rw [if_pos (.inr hj)] at hl ⊢
   rw [hj] at HJL
   have HP := hid (fun (u : World) (hu : Below w0.heap.size w0 u) (h : WrC u A H B g s) (bc bx : Nat) (hx1 : _) (hx2 : _) => HPAR.out u hu h bc bx hx1 hx2 hl)
   have HC3 := hid (fun (o1 o2 : Obj) (u : World) (hb : Below ((w.alloc o1).alloc o2).heap.size ((w.alloc o1).alloc o2) u) => And.intro ((HC2.out o1 o2).fresh hb) ((HK2.out o1 o2).trans (WK.fresh hb)))
   clear HPAR HOPN hlv hl hj
   generalize opL x.op = lv at *
   generalize x.op = xo at *
   subst hk
   go_enter Tryz.func95, Tryz.ntmps95
   go_wp2_with (first
    | (go_at_call 108; refine (HJL.out _ _).mono ?_; clear HJL; rintro e w1 ⟨rfl, hb⟩; have HS1 := hid (HC3.out _ _ _ hb).1; have HK1 := hid (HC3.out _ _ _ hb).2; have HE1 := hid ((HXC.out _).keep (WK.fresh (H := H) (B := B) (g := g) hb)); have HE2 := hid ((HXX.out _).keep (WK.fresh (H := H) (B := B) (g := g) hb)); have HB1 := hid ((HB2.out _ _).trans (hb.mono (HB2.out _ _).size)); clear hb; have z0 := cell_at HE1.out.at_ 0 rfl)
    | (go_at_call 79; refine (HP.out _ HB1.out HS1.out w.heap.size (w.heap.size + 1) HE1.out HE2.out).mono ?_; clear HP; rintro e w2 ⟨rfl, g1, hc1, hk1⟩; have HS2 := hid hc1; have HK2' := hid (HK1.out.trans hk1); clear hc1 hk1)
    | fail)
   refine bodyPost_ret (results_none rfl _ _ _) rfl ?_
   exact ⟨rfl, g1, HS2.out, HK2'.out⟩
  ·rw [if_neg (by intro h; rcases h with h | h; exact hlv h; exact hj h)] at hl ⊢
   have hj : joinsF x.op x.v s = false := by simpa using hj
   rw [hj] at HJL
   have HP := hid (fun (u : World) (hu : Below w0.heap.size w0 u) (h : WrC u A H B g s) => HOPN.out u hu h hl)
   have HC3 := hid (fun (o1 o2 : Obj) (u : World) (hb : Below ((w.alloc o1).alloc o2).heap.size ((w.alloc o1).alloc o2) u) => And.intro ((HC2.out o1 o2).fresh hb) ((HK2.out o1 o2).trans (WK.fresh hb)))
   clear HPAR HOPN hlv hl hj
   generalize opL x.op = lv at *
   generalize x.op = xo at *
   subst hk
   go_enter Tryz.func95, Tryz.ntmps95
   go_wp2_with (first
    | (go_at_call 108; refine (HJL.out _ _).mono ?_; clear HJL; rintro e w1 ⟨rfl, hb⟩; have HS1 := hid (HC3.out _ _ _ hb).1; have HK1 := hid (HC3.out _ _ _ hb).2; have HE1 := hid ((HXC.out _).keep (WK.fresh (H := H) (B := B) (g := g) hb)); have HE2 := hid ((HXX.out _).keep (WK.fresh (H := H) (B := B) (g := g) hb)); have HB1 := hid ((HB2.out _ _).trans (hb.mono (HB2.out _ _).size)); clear hb; have z0 := cell_at HE1.out.at_ 0 rfl; have y0 := cell_at HE2.out.at_ 0 rfl; have y1 := cell_at HE2.out.at_ 1 rfl; have y2 := cell_at HE2.out.at_ 2 rfl; have y3 := cell_at HE2.out.at_ 3 rfl; have y4 := cell_at HE2.out.at_ 4 rfl; have y5 := cell_at HE2.out.at_ 5 rfl; have y6 := cell_at HE2.out.at_ 6 rfl; have y7 := cell_at HE2.out.at_ 7 rfl)
    | (go_at_call 110; refine (HP.out _ HB1.out HS1.out).mono ?_; clear HP; rintro e w2 ⟨rfl, g1, hc1, hk1⟩; have HS2 := hid hc1; have HK2' := hid (HK1.out.trans hk1); clear hc1 hk1)
    | fail)
   refine bodyPost_ret (results_none rfl _ _ _) rfl ?_
   exact ⟨rfl, g1, HS2.out, HK2'.out⟩
end Go.Proofs.YtegkbagnbnoopaaGreatDoor
/- the writer of print: inner, unit, body, binary -/
namespace Go.Proofs.YtegkbagnbnoopaaGreatDoor
open Go.ChangeShapes Go.WideShapes Go.ChangeAt Go.RowKit Go.Deep
open Go.Lib (hid)
theorem call_win1 (args : Array Value) (u : World) : (callFunc 107 args).run Tryz.prog u = .ok (.enter 107 args) u := by kernel_rfl
def CBd (w0 : World) (x : Qu) : Prop := ∀ a, QuV w0 a x → W1 w0 46 a x.bd
def CSw (w0 : World) (x : Se) : Prop := ∀ a, SeV w0 a x → W1 w0 72 a x.wr
theorem qusWr_map : ∀ l : List Qu, qusWr l = l.map (fun x => (x.op, x.bd))
 | [] => rfl
 | x :: l => by unfold qusWr; rw [qusWr_map l]; rfl
set_option maxRecDepth 100000 in
set_option maxHeartbeats 6400000 in
theorem in1_step {x : Qu} {w0 u : World} {A H B bc bx : Nat} {g : Option Nat} {s : Wr} (hB : CBd w0 x) (hA : w0.heap.size ≤ A) (hu : Below w0.heap.size w0 u) (hc : WrC u A H B g s) {a0 : Option Addr} {n0 k0 : Nat} {a1 : Option Addr} {n1 k1 : Nat} {a2 : Option Addr} {n2 k2 : Nat} {a3 : Option Addr} {n3 k3 : Nat} {a4 : Option Addr} {n4 k4 : Nat} {a5 : Option Addr} {n5 k5 : Nat} {a6 : Option Addr} {n6 k6 : Nat} (h0 : DIs w0 (.slice a0 n0 k0) (.sl (qusDa x.parts))) (h1 : DIs w0 (.slice a1 n1 k1) (.sl (itsDa x.sel.items))) (h2 : DIs w0 (.slice a2 n2 k2) (.sl (sosDa x.sel.fro))) (h3 : DIs w0 (.slice a3 n3 k3) (.sl (exsDa x.sel.wh))) (h4 : DIs w0 (.slice a4 n4 k4) (.sl (exsDa x.sel.gr))) (h5 : DIs w0 (.slice a5 n5 k5) (.sl (exsDa x.sel.hv))) (h6 : DIs w0 (.slice a6 n6 k6) (.sl (obsDa x.ord)))
  (hb : u.heap[bc]? = some (.cells #[.pointer (some ⟨H, 0, none⟩)] 69 (0, 0))) (hx : u.heap[bx]? = some (.cells #[.int .i64 x.op, .slice a0 n0 k0, .bool x.sel.dist, .slice a1 n1 k1, .slice a2 n2 k2, .slice a3 n3 k3, .slice a4 n4 k4, .slice a5 n5 k5, .slice a6 n6 k6, .bool x.lim, .int .i64 x.n] 30 (0, 0))) (hl : (x.bd s).tx.length ≤ 1099511627775) :
  Calls Tryz.prog 107 #[.pointer (some ⟨bc, 0, none⟩), .pointer (some ⟨bx, 0, none⟩)] u (WrE u A H B g (x.bd s)) := by
 have HO := hid (hB (.agg #[.int .i64 x.op, .slice a0 n0 k0, .bool x.sel.dist, .slice a1 n1 k1, .slice a2 n2 k2, .slice a3 n3 k3, .slice a4 n4 k4, .slice a5 n5 k5, .slice a6 n6 k6, .bool x.lim, .int .i64 x.n]) ⟨_, _, _, _, _, _, _, rfl, h0, h1, h2, h3, h4, h5, h6⟩ A H B g s u hA hu hc hl)
 have c0 := cell_at hb 0 rfl
 have y0 := cell_at hx 0 rfl
 have y1 := cell_at hx 1 rfl
 have y2 := cell_at hx 2 rfl
 have y3 := cell_at hx 3 rfl
 have y4 := cell_at hx 4 rfl
 have y5 := cell_at hx 5 rfl
 have y6 := cell_at hx 6 rfl
 have y7 := cell_at hx 7 rfl
 have y8 := cell_at hx 8 rfl
 have y9 := cell_at hx 9 rfl
 have y10 := cell_at hx 10 rfl
 clear hB hu hc h0 h1 h2 h3 h4 h5 h6 hb hx hl
 go_enter Tryz.func107, Tryz.ntmps107
 go_wp2_with (go_at_call 46; refine HO.out.mono ?_; clear HO; rintro e w1 ⟨rfl, g1, hc1, hk⟩; have HS1 := hid hc1; have HK1 := hid hk; clear hc1 hk)
 refine bodyPost_ret (results_none rfl _ _ _) rfl ?_
 exact ⟨rfl, g1, HS1.out, HK1.out⟩
set_option maxRecDepth 100000 in
set_option maxHeartbeats 6400000 in
theorem winner_step {w0 : World} {x : Qu} (hB : CBd w0 x) (hM : Mo x.bd) (a : Value) (ha : QuV w0 a x) : W1 w0 94 a (Wr.par x.bd) := by
 intro A H B g s w hA hw hc hl
 obtain ⟨p0, p1, p2, p3, p4, p5, p6, rfl, h0, h1, h2, h3, h4, h5, h6⟩ := ha
 obtain ⟨a0, n0, k0, rfl⟩ := dis_slice h0
 obtain ⟨a1, n1, k1, rfl⟩ := dis_slice h1
 obtain ⟨a2, n2, k2, rfl⟩ := dis_slice h2
 obtain ⟨a3, n3, k3, rfl⟩ := dis_slice h3
 obtain ⟨a4, n4, k4, rfl⟩ := dis_slice h4
 obtain ⟨a5, n5, k5, rfl⟩ := dis_slice h5
 obtain ⟨a6, n6, k6, rfl⟩ := dis_slice h6
 have HC2 := hid (fun (o1 o2 : Obj) => (hc.alloc o1).alloc o2)
 have HB2 := hid (fun (o1 o2 : Obj) => (hw.alloc hw.size o1).alloc (by have := hw.size; simp; omega) o2)
 have HK2 := hid (fun (o1 o2 : Obj) => ((WK.refl H B w g).alloc o1).alloc o2)
 have HXC := hid (fun (o2 : Obj) => (new_els hc (.cells #[.pointer (some ⟨H, 0, none⟩)] 69)).keep (g' := g) ((WK.refl H B _ g).alloc o2))
 have HXX := hid (fun (o1 : Obj) => (show Els H B ((w.alloc o1).alloc (.cells #[.int .i64 x.op, .slice a0 n0 k0, .bool x.sel.dist, .slice a1 n1 k1, .slice a2 n2 k2, .slice a3 n3 k3, .slice a4 n4 k4, .slice a5 n5 k5, .slice a6 n6 k6, .bool x.lim, .int .i64 x.n] 30)) g (w.heap.size + 1) (.cells #[.int .i64 x.op, .slice a0 n0 k0, .bool x.sel.dist, .slice a1 n1 k1, .slice a2 n2 k2, .slice a3 n3 k3, .slice a4 n4 k4, .slice a5 n5 k5, .slice a6 n6 k6, .bool x.lim, .int .i64 x.n] 30) from by
  have h := new_els (hc.alloc o1) (.cells #[.int .i64 x.op, .slice a0 n0 k0, .bool x.sel.dist, .slice a1 n1 k1, .slice a2 n2 k2, .slice a3 n3 k3, .slice a4 n4 k4, .slice a5 n5 k5, .slice a6 n6 k6, .bool x.lim, .int .i64 x.n] 30)
  rwa [show (w.alloc o1).heap.size = w.heap.size + 1 from by simp] at h))
 have HP := hid (fun (u : World) (hu : Below w0.heap.size w0 u) (h : WrC u A H B g s) (bc bx : Nat) (hx1 : Els H B u g bc (.cells #[.pointer (some ⟨H, 0, none⟩)] 69)) (hx2 : Els H B u g bx (.cells #[.int .i64 x.op, .slice a0 n0 k0, .bool x.sel.dist, .slice a1 n1 k1, .slice a2 n2 k2, .slice a3 n3 k3, .slice a4 n4 k4, .slice a5 n5 k5, .slice a6 n6 k6, .bool x.lim, .int .i64 x.n] 30)) =>
  inParens_any x.bd 107 #[.pointer (some ⟨bc, 0, none⟩), .pointer (some ⟨bx, 0, none⟩)] h hM hl call_win1 (fun g1 u1 hc1 hk1 hl1 => in1_step hB hA (hk1.low h hA hu) hc1 h0 h1 h2 h3 h4 h5 h6 (hx1.keep hk1).at_ (hx2.keep hk1).at_ hl1))
 clear hB hM hw hc hl h0 h1 h2 h3 h4 h5 h6
 go_enter Tryz.func94, Tryz.ntmps94
 go_wp2_with (go_at_call 79; refine (HP.out _ (HB2.out _ _) (HC2.out _ _) w.heap.size (w.heap.size + 1) (HXC.out _) (HXX.out _)).mono ?_; clear HP; rintro e w1 ⟨rfl, g1, hc1, hk1⟩; have HS1 := hid hc1; have HK1 := hid ((HK2.out _ _).trans hk1); clear hc1 hk1)
 refine bodyPost_ret (results_none rfl _ _ _) rfl ?_
 exact ⟨rfl, g1, HS1.out, HK1.out⟩
set_option maxRecDepth 100000 in
set_option maxHeartbeats 6400000 in
theorem unit_step {w0 : World} {x : Qu} (hB : CBd w0 x) (hS : x.op = 1 → CSw w0 x.sel) (hM : Mo x.bd) (a : Value) (ha : QuV w0 a x) : W1 w0 73 a (unitF (x.op, x.bd)) := by
 intro A H B g s w hA hw hc hl
 have hin := winner_step hB hM a ha
 obtain ⟨p0, p1, p2, p3, p4, p5, p6, rfl, h0, h1, h2, h3, h4, h5, h6⟩ := ha
 obtain ⟨a0, n0, k0, rfl⟩ := dis_slice h0
 obtain ⟨a1, n1, k1, rfl⟩ := dis_slice h1
 obtain ⟨a2, n2, k2, rfl⟩ := dis_slice h2
 obtain ⟨a3, n3, k3, rfl⟩ := dis_slice h3
 obtain ⟨a4, n4, k4, rfl⟩ := dis_slice h4
 obtain ⟨a5, n5, k5, rfl⟩ := dis_slice h5
 obtain ⟨a6, n6, k6, rfl⟩ := dis_slice h6
 by_cases h1_ : x.op = 1
 ·have e : unitF (x.op, x.bd) s = x.sel.wr s := by
   unfold unitF
   rw [if_pos h1_]
   obtain ⟨op, ps, sel, od, li, nn⟩ := x
   exact if_pos h1_
  rw [e] at hl ⊢
  have f1 : (x.op == (1 : Int)) = true := beq_iff_eq.2 h1_
  have HO := hid (fun (o : Obj) => hS h1_ (.agg #[.bool x.sel.dist, .slice a1 n1 k1, .slice a2 n2 k2, .slice a3 n3 k3, .slice a4 n4 k4, .slice a5 n5 k5]) ⟨_, _, _, _, _, rfl, h1, h2, h3, h4, h5⟩ A H B g s (w.alloc o) hA (hw.alloc hw.size o) (hc.alloc o) hl)
  clear hin hB hS hM hw hc hl h0 h1 h2 h3 h4 h5 h6 e h1_
  go_enter Tryz.func73, Tryz.ntmps73
  go_wp2_with (go_at_call 72; refine (HO.out _).mono ?_; clear HO; rintro e w1 ⟨rfl, g1, hc1, hk⟩; have HS1 := hid hc1; have HK1 := hid (((WK.refl H B w g).alloc _).trans hk); clear hc1 hk)
  refine bodyPost_ret (results_none rfl _ _ _) rfl ?_
  exact ⟨rfl, g1, HS1.out, HK1.out⟩
 ·have e : unitF (x.op, x.bd) s = Wr.par x.bd s := if_neg h1_
  rw [e] at hl ⊢
  have f1 : (x.op == (1 : Int)) = false := beq_eq_false_iff_ne.2 h1_
  have HO := hid (fun (o : Obj) => hin A H B g s (w.alloc o) hA (hw.alloc hw.size o) (hc.alloc o) hl)
  clear hin hB hS hM hw hc hl h0 h1 h2 h3 h4 h5 h6 e h1_
  go_enter Tryz.func73, Tryz.ntmps73
  go_wp2_with (go_at_call 94; refine (HO.out _).mono ?_; clear HO; rintro e w1 ⟨rfl, g1, hc1, hk⟩; have HS1 := hid hc1; have HK1 := hid (((WK.refl H B w g).alloc _).trans hk); clear hc1 hk)
  refine bodyPost_ret (results_none rfl _ _ _) rfl ?_
  exact ⟨rfl, g1, HS1.out, HK1.out⟩
end Go.Proofs.YtegkbagnbnoopaaGreatDoor
