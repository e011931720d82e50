/- stage 7: a proof's bytes grow: meet's walk -/
import Derived.Test.YtbmlkocpjboodaaDoorMv11
namespace Go.Proofs.YtbmlkocpjboodaaDoor
open Go.RowKit
open Go.Lib (hid)
set_option maxRecDepth 100000 in
set_option maxHeartbeats 1000000 in
theorem mnum_own (v : Value) (l : List Int) (B k : Nat) (w : World) (hown : Own w B v l) (hB : B ≤ w.heap.size) (hn : l.length + 8 ≤ 1099511627776) (hk : k < 9223372036854775808) :
  Calls Tryd.prog 87 #[v, .int .i64 k] w fun e w' => ∃ v', e = .returned v' ∧ Own w' B v' (l ++ be8 k) ∧ Chg (fun g => v.ownBlock = some g) w w' ∧ OwnTo w v v' := by
 have HO := hid hown
 have HK := hid hk
 clear hown hk
 go_enter Tryd.func87, Tryd.ntmps87
 go_wp2_with fail
 go_loopw [0, 5] (fun v0 s wr => ∃ j : Nat, j ≤ 8 ∧ s = .int .i64 (56 - 8 * (j : Int)) ∧ Own wr B v0 (l ++ (be8 k).take j) ∧ Chg (fun g => v.ownBlock = some g) w wr ∧ OwnTo w v v0)
  (fun _ s _ => (intOf s + 8).toNat)
 case atStart => exact ⟨0, by omega, by simp, by simpa using HO.out, Chg.refl _ _, OwnTo.refl _ _⟩
 case round =>
  obtain ⟨j, hj, rfl, hown, hbw, hot⟩ := hrel
  have hsz := hbw.size
  by_cases hlt : j < 8
  ·have HB := hid (be8_take_succ k j hlt)
   have HOW := hid (And.intro hown (And.intro hbw hot))
   have HLEN := hid (show (l ++ (be8 k).take j).length + [beAt k j].length ≤ 1099511627776 by rw [List.length_append, List.length_take, be8_len]; simp only [List.length_cons, List.length_nil]; omega)
   have HBS := hid (show B ≤ (wr.alloc (.cells #[.int .u8 (beAt k j)] 5)).heap.size by rw [World.size_alloc]; omega)
   clear hbw hown hot
   go_wp2_with (at_builtin; refine wpList_append_OwnT rfl (Operand.tmp 10) (Operand.tmp 15) rfl B _ (l ++ (be8 k).take j) rfl (HOW.out.1.alloc _) _ [beAt k j] rfl (lit_bs wr 5 [beAt k j] (0, 0) 1 1 rfl (Nat.le_refl _)) HLEN.out HBS.out ?_; intro v' w1 ho hc ht; have HA := hid (And.intro ho (And.intro hc ht)); clear ho hc ht)
   go_roundw
   case rel =>
    refine ⟨j + 1, by omega, by congr 1; omega, ?_, ?_, ?_⟩
    ·rw [HB.out, ← List.append_assoc]; exact HA.out.1
    ·exact (HOW.out.2.1.alloc _).trans HA.out.2.1 (fun i hi => HOW.out.2.2 i hi)
    ·exact HOW.out.2.2.trans (fun g hg => (HA.out.2.2 g hg).imp id (fun h => by rw [World.size_alloc] at h; omega)) hsz
   case measure => simp [intOf]; omega
  ·have hj8 : j = 8 := by omega
   rw [hj8] at hown
   have e8 : (be8 k).take 8 = be8 k := List.take_of_length_le (by rw [be8_len]; omega)
   rw [e8] at hown
   have hj9 : 8 ≤ j := by omega
   have HOW := hid (And.intro hown (And.intro hbw hot))
   clear hbw hown hj8 e8 hlt hot
   go_wp2_with fail
   go_ret
   exact ⟨_, rfl, HOW.out.1, HOW.out.2.1, HOW.out.2.2⟩
/-- a proof under way, opened: what a region's walk wants -/
theorem PI.opn {B Pb Sb : Nat} {S : Nat → Prop} {fv tv : Value} {fr to : List Int} {e : Bool} {w u : World} {s s' : List Int} {J : Nat → Prop} {b : Nat} {kv lp rp : Value} {k : List Int} {n : Nat} {rk dg : List Int} {pr : Bool} (h : PI B Pb Sb S fv tv fr to e w s J) (hx : w.heap[b]? = some (.cells (ndC kv n rk lp rp dg pr) 115 (0, 0))) (hSb : S b) (hk : KIs w S kv k)
  (hs : Stp (PI B Pb Sb S fv tv fr to e) J w u s') :
  ∃ J1 sa sn sc, PI B Pb Sb S fv tv fr to e u s' J1 ∧ u.heap[Pb]? = some (.cells #[.slice sa sn sc] 31 (0, 0)) ∧ Own u B (.slice sa sn sc) s' ∧ Chg J w u ∧ (∀ q, J1 q → J q ∨ w.heap.size ≤ q) ∧
   (∀ u', Chg J1 u u' → u'.cell? ⟨b, 0, none⟩ = some kv ∧ u'.cell? ⟨b, 1, none⟩ = some (.int .i64 n)) ∧ KIs u S kv k ∧
   (∀ u1 u2, Below u.heap.size u u1 → Chg (fun g => (Value.slice sa sn sc).ownBlock = some g) u1 u2 → u2.heap[Pb]? = some (.cells #[.slice sa sn sc] 31 (0, 0)) ∧ Chg J1 u u2 ∧ (∀ v, Chg J1 u (u2.setCell ⟨Pb, 0, none⟩ v))) := by
 have hnJ : ∀ q, S q → ¬ J q := fun q hq hj => (h.low q hj).2 hq
 have hxu := hs.blk hx (hnJ b hSb)
 obtain ⟨J1, h1, h2, h3⟩ := id hs
 obtain ⟨sv, k1, k2, k3, k4⟩ := id h1.box
 obtain ⟨sa, sn, sc, rfl⟩ := k2.slc
 have hnJ1 : ¬ J1 b := fun hj => (h1.low b hj).2 hSb
 refine ⟨J1, sa, sn, sc, h1, k1, k2, h2, h3, fun u' hu => ?_, hk.cg h2 (fun q _ hq => hnJ q hq), fun u1 u2 hb hc => ?_⟩
 ·have hxu' := (hu.block b (blk_lt hxu) hnJ1).trans hxu
  exact ⟨(cell_of_row _ b 0 _ _ _ hxu').trans ndC_0, (cell_of_row _ b 1 _ _ _ hxu').trans ndC_1⟩
 ·have hp1 := (hb.block _ (blk_lt k1)).trans k1
  have hp2 := (hc.block _ (blk_lt hp1) (fun hh => (k3 Pb hh).1 rfl)).trans hp1
  have hc2 : Chg J1 u u2 := (Chg.fresh (F := J1) hb).trans hc (fun i hi => .inl ((k4 i).2 (.inr hi)))
  exact ⟨hp2, hc2, fun v => hc2.setCell ⟨Pb, 0, none⟩ v (.inl ((k4 Pb).2 (.inl rfl)))⟩
set_option maxRecDepth 100000 in
set_option maxHeartbeats 8000000 in
theorem prMeet_any {B Pb Sb : Nat} {S : Nat → Prop} {fv tv : Value} {fr to : List Int} {e : Bool} (w : World) (s : List Int) (J : Nat → Prop) (b : Nat) (kv lp rp : Value) (k : List Int) (n : Nat) (rk dg : List Int) (h : PI B Pb Sb S fv tv fr to e w s J) (hx : w.heap[b]? = some (.cells (ndC kv n rk lp rp dg false) 115 (0, 0))) (hSb : S b) (hk : KIs w S kv k) (hkl : k.length ≤ 65535) (hn : n < 9223372036854775808) (hbd : (prM s k n).length ≤ 1099511627776) :
  Calls Tryd.prog 86 #[.pointer (some ⟨b, 0, none⟩), .pointer (some ⟨Pb, 0, none⟩)] w fun d w' => d = .returned (.tuple #[]) ∧ Stp (PI B Pb Sb S fv tv fr to e) J w w' (prM s k n) := by
 have hst0 := Stp.below (I := PI B Pb Sb S fv tv fr to e) (fun _ _ _ _ h hb => PI.keep h hb) (Stp.refl (I := PI B Pb Sb S fv tv fr to e) h) (Below.refl w.heap.size w).drew
 have HOP := hid (fun u s' (hs : Stp (PI B Pb Sb S fv tv fr to e) J w u s') => PI.opn (B := B) (Pb := Pb) (Sb := Sb) (fv := fv) (tv := tv) (fr := fr) (to := to) (e := e) h hx hSb hk hs)
 obtain ⟨ak, ck, rfl⟩ := hk.form
 have HLB := hid h.lo.1
 have HBD := hid (And.intro hbd (And.intro hkl hn))
 have HWB := hid (show [IntKind.u8.wrap ((k.length : Int) / 256), IntKind.u8.wrap (k.length : Int)] = [(k.length : Int) / 256, (k.length : Int) % 256] by rw [IntKind.wrap_u8, IntKind.wrap_u8]; congr 1; omega)
 have HL0 := hid (show s.length + [IntKind.u8.wrap ((k.length : Int) / 256), IntKind.u8.wrap (k.length : Int)].length ≤ 1099511627776 by unfold prM at hbd; simp only [List.length_append, List.length_cons, List.length_nil] at hbd ⊢; omega)
 have HL1 := hid (show (s ++ [(k.length : Int) / 256, (k.length : Int) % 256]).length + k.length ≤ 1099511627776 by unfold prM at hbd; simp only [List.length_append, List.length_cons, List.length_nil] at hbd ⊢; omega)
 have HL2 := hid (show ((s ++ [(k.length : Int) / 256, (k.length : Int) % 256]) ++ k).length + 8 ≤ 1099511627776 by unfold prM at hbd; rw [List.length_append, be8_len] at hbd; exact hbd)
 have HB0 := hid (show B ≤ w.drew.heap.size by have q := (hst0.chg).size; have := h.lo.1; obtain ⟨sv, k1, -⟩ := h.box; have q2 := blk_lt k1; exact Nat.le_trans this (Nat.le_of_lt q2))
 obtain ⟨J0, sa0, sn0, sc0, hI, hp, ho, hc0, hj0, hcell, hk0, hap⟩ := HOP.out _ _ hst0
 have HI0 := hid (And.intro hI (And.intro hp (And.intro ho (And.intro hc0 (And.intro hj0 (And.intro hcell (And.intro hk0 hap)))))))
 have cP : w.drew.cell? ⟨Pb, 0, none⟩ = some (.slice sa0 sn0 sc0) := cell_of_row _ Pb 0 _ _ _ hp
 have hch : Chg J0 w.drew w.drew := Chg.refl _ _
 have hbl : Below w.drew.heap.size w.drew w.drew := Below.refl _ _
 clear h hx hSb hk hbd hkl hn hst0 hI hp ho hc0 hj0 hcell hk0 hap
 go_enter Tryd.func86, Tryd.ntmps86
 go_wp2_with fail
 refine wp_region_held_drew (S := fun u => u.cell? ⟨b, 0, none⟩ = some (.slice ak k.length ck)) (by kernel_rfl) ((HI0.out.2.2.2.2.2.1 _ hch).1) (fun hHeld => ?_)
 refine tk (i := 1) (oi := ⟨some 4, .move (.tmp 0), 68, "proof.go:88", #[], none⟩) (v := ?_) (Or.inl ⟨by rfl, ?_⟩) ?_
 rotate_left 1
 ·(intro u hSw; go_simp; try with_reducible rfl)
 try simp only [Act.put, sA, sB, sC]
 refine tk (i := 2) (oi := ⟨some 5, .nilCheck (.tmp 4), 0, "proof.go:88", #[⟨1, .data⟩], none⟩) (v := ?_) (Or.inl ⟨by rfl, ?_⟩) ?_
 rotate_left 1
 ·(intro u hSw; go_simp; try with_reducible rfl)
 try simp only [Act.put, sA, sB, sC]
 refine tk (i := 3) (oi := ⟨some 6, .fieldAddr 115 (.tmp 5) 0, 0, "proof.go:88", #[⟨2, .data⟩], none⟩) (v := ?_) (Or.inl ⟨by rfl, ?_⟩) ?_
 rotate_left 1
 ·(intro u hSw; go_simp; try with_reducible rfl)
 try simp only [Act.put, sA, sB, sC]
 refine tk (i := 4) (oi := ⟨some 7, .fieldAddr 66 (.tmp 6) 0, 0, "proof.go:88", #[⟨3, .data⟩], none⟩) (v := ?_) (Or.inl ⟨by rfl, ?_⟩) ?_
 rotate_left 1
 ·(intro u hSw; go_simp; try with_reducible rfl)
 try simp only [Act.put, sA, sB, sC]
 refine tk (i := 5) (oi := ⟨some 8, .fieldAddr 33 (.tmp 7) 0, 0, "proof.go:88", #[⟨4, .data⟩], none⟩) (v := ?_) (Or.inl ⟨by rfl, ?_⟩) ?_
 rotate_left 1
 ·(intro u hSw; go_simp; try with_reducible rfl)
 try simp only [Act.put, sA, sB, sC]
 refine tk (i := 6) (oi := ⟨some 9, .load 31 (.tmp 8), 31, "proof.go:88", #[⟨5, .data⟩], none⟩) (v := ?_) (Or.inl ⟨by rfl, ?_⟩) ?_
 rotate_left 1
 ·(intro u hSw; have q0 : u.cell? ⟨b, 0, none⟩ = some (.slice ak k.length ck) := hSw; go_simp; try with_reducible rfl)
 try simp only [Act.put, sA, sB, sC]
 refine tk (i := 7) (oi := ⟨some 10, .call ⟨.builtin .len, #[.tmp 9], #[31]⟩, 3, "proof.go:88", #[⟨6, .data⟩], none⟩) (v := ?_) (Or.inl ⟨by rfl, ?_⟩) ?_
 rotate_left 1
 ·(intro u hSw; go_simp; try with_reducible rfl)
 try simp only [Act.put, sA, sB, sC]
 refine tk (i := 8) (oi := ⟨some 11, .binOp BinOp.shr 3 (.tmp 10) (.const (Value.int IntKind.u64 8)) 79, 3, "proof.go:88", #[⟨7, .data⟩], none⟩) (v := ?_) (Or.inl ⟨by rfl, ?_⟩) ?_
 rotate_left 1
 ·(intro u hSw; go_simp; try with_reducible rfl)
 try simp only [Act.put, sA, sB, sC]
 refine tk (i := 9) (oi := ⟨some 12, .convert 3 5 (.tmp 11), 5, "proof.go:88", #[⟨8, .data⟩], none⟩) (v := ?_) (Or.inl ⟨by rfl, ?_⟩) ?_
 rotate_left 1
 ·(intro u hSw; have q0 : u.cell? ⟨b, 0, none⟩ = some (.slice ak k.length ck) := hSw; go_simp; try with_reducible rfl)
 try simp only [Act.put, sA, sB, sC]
 refine tk (i := 10) (oi := ⟨some 13, .move (.tmp 0), 68, "proof.go:88", #[], none⟩) (v := ?_) (Or.inl ⟨by rfl, ?_⟩) ?_
 rotate_left 1
 ·(intro u hSw; go_simp; try with_reducible rfl)
 try simp only [Act.put, sA, sB, sC]
 refine tk (i := 11) (oi := ⟨some 14, .nilCheck (.tmp 13), 0, "proof.go:88", #[⟨10, .data⟩], none⟩) (v := ?_) (Or.inl ⟨by rfl, ?_⟩) ?_
 rotate_left 1
 ·(intro u hSw; go_simp; try with_reducible rfl)
 try simp only [Act.put, sA, sB, sC]
 refine tk (i := 12) (oi := ⟨some 15, .fieldAddr 115 (.tmp 14) 0, 0, "proof.go:88", #[⟨11, .data⟩], none⟩) (v := ?_) (Or.inl ⟨by rfl, ?_⟩) ?_
 rotate_left 1
 ·(intro u hSw; go_simp; try with_reducible rfl)
 try simp only [Act.put, sA, sB, sC]
 refine tk (i := 13) (oi := ⟨some 16, .fieldAddr 66 (.tmp 15) 0, 0, "proof.go:88", #[⟨12, .data⟩], none⟩) (v := ?_) (Or.inl ⟨by rfl, ?_⟩) ?_
 rotate_left 1
 ·(intro u hSw; go_simp; try with_reducible rfl)
 try simp only [Act.put, sA, sB, sC]
 refine tk (i := 14) (oi := ⟨some 17, .fieldAddr 33 (.tmp 16) 0, 0, "proof.go:88", #[⟨13, .data⟩], none⟩) (v := ?_) (Or.inl ⟨by rfl, ?_⟩) ?_
 rotate_left 1
 ·(intro u hSw; go_simp; try with_reducible rfl)
 try simp only [Act.put, sA, sB, sC]
 refine tk (i := 15) (oi := ⟨some 18, .load 31 (.tmp 17), 31, "proof.go:88", #[⟨14, .data⟩], none⟩) (v := ?_) (Or.inl ⟨by rfl, ?_⟩) ?_
 rotate_left 1
 ·(intro u hSw; have q0 : u.cell? ⟨b, 0, none⟩ = some (.slice ak k.length ck) := hSw; go_simp; try with_reducible rfl)
 try simp only [Act.put, sA, sB, sC]
 refine tk (i := 16) (oi := ⟨some 19, .call ⟨.builtin .len, #[.tmp 18], #[31]⟩, 3, "proof.go:88", #[⟨15, .data⟩], none⟩) (v := ?_) (Or.inl ⟨by rfl, ?_⟩) ?_
 rotate_left 1
 ·(intro u hSw; go_simp; try with_reducible rfl)
 try simp only [Act.put, sA, sB, sC]
 refine tk (i := 17) (oi := ⟨some 20, .convert 3 5 (.tmp 19), 5, "proof.go:88", #[⟨16, .data⟩], none⟩) (v := ?_) (Or.inl ⟨by rfl, ?_⟩) ?_
 rotate_left 1
 ·(intro u hSw; have q0 : u.cell? ⟨b, 0, none⟩ = some (.slice ak k.length ck) := hSw; go_simp; try with_reducible rfl)
 try simp only [Act.put, sA, sB, sC]
 refine wpAnyH_ready (rs := [0, 18]) (by kernel_rfl) (by simp) ?_
 refine (AllReadyH.cons (o := ⟨some 3, .load 31 (.tmp 1), 31, "proof.go:88", #[], none⟩) rfl (fun K hK => ?_) (AllReadyH.cons (o := ⟨some 21, .buildSlice 31 2 #[(0, .tmp 12), (1, .tmp 20)], 31, "proof.go:88", #[⟨9, .data⟩, ⟨17, .data⟩], none⟩) rfl (fun K hK => ?_) AllReadyH.nil))
 ·go_simp
  refine hK.out _ _ (HI0.out.2.2.2.2.2.1 _ hch).1 (fun hHeld => ?_)
  clear hK K
  try simp only [Act.put, sA, sB, sC]
  refine wpAnyH_ready (rs := [18]) (by kernel_rfl) (by simp) ?_
  refine (AllReadyH.cons (o := ⟨some 21, .buildSlice 31 2 #[(0, .tmp 12), (1, .tmp 20)], 31, "proof.go:88", #[⟨9, .data⟩, ⟨17, .data⟩], none⟩) rfl (fun K hK => ?_) AllReadyH.nil)
  go_simp
  change K _ (World.alloc (World.drew w) _)
  refine al_step2 hbl (fun nu hbn q hcn => ?_)
  have hap := HI0.out.2.2.2.2.2.2.2 nu nu hbn (Chg.refl _ _)
  have hch := hap.2.1
  have cP := cell_of_row _ Pb 0 _ _ _ hap.1
  have hbl := hbn
  have HLQ := hid q
  clear hap hcn q
  refine hK.out _ _ (HI0.out.2.2.2.2.2.1 _ hch).1 (fun hHeld => ?_)
  clear hK K
  try simp only [Act.put, sA, sB, sC]
  refine wpAnyH_ready (rs := [19]) (by kernel_rfl) (by simp) ?_
  refine (AllReadyH.cons (o := ⟨some 22, .call ⟨.builtin .append, #[.tmp 3, .tmp 21], #[31, 31]⟩, 31, "proof.go:88", #[⟨0, .data⟩, ⟨18, .data⟩], none⟩) rfl (fun K hK => ?_) AllReadyH.nil)
  refine step_append_OwnT (by rfl) (Operand.tmp 3) (Operand.tmp 21) (by rfl) B (.slice sa0 sn0 sc0) s (by rfl) (HI0.out.2.2.1.below hbl (Nat.le_refl _)) (.slice (some ⟨w.heap.size, 0, none⟩) 2 2) [IntKind.u8.wrap ((k.length : Int) / 256), IntKind.u8.wrap (k.length : Int)] (by rfl) (bs_blk HLQ.out rfl rfl) HL0.out (Nat.le_trans HB0.out hbl.size) (fun v4 w4 ho hc ht => ?_)
  obtain ⟨a4, n4, c4, rfl⟩ := ho.slc
  have HP4 := hid (HI0.out.2.2.2.2.2.2.2 _ w4 hbl hc)
  have cP := cell_of_row _ Pb 0 _ _ _ HP4.out.1
  have fP := frozen_of_row _ Pb 0 _ _ HP4.out.1
  have HA := hid (And.intro hbl (And.intro ho (And.intro hc ht)))
  clear ho hc ht
  refine hK.out _ _ (HI0.out.2.2.2.2.2.1 _ HP4.out.2.1).1 (fun hHeld => ?_)
  clear hK K
  try simp only [Act.put, sA, sB, sC]
  refine wpAnyH_ready (rs := [20]) (by kernel_rfl) (by simp) ?_
  refine (AllReadyH.cons (o := ⟨none, .store 31 (.tmp 1) (.tmp 22), 0, "proof.go:88", #[⟨19, .data⟩, ⟨19, .chain⟩, ⟨0, .phase⟩, ⟨1, .phase⟩, ⟨2, .phase⟩, ⟨3, .phase⟩, ⟨4, .phase⟩, ⟨5, .phase⟩, ⟨6, .phase⟩, ⟨7, .phase⟩, ⟨8, .phase⟩, ⟨9, .phase⟩, ⟨10, .phase⟩, ⟨11, .phase⟩, ⟨12, .phase⟩, ⟨13, .phase⟩, ⟨14, .phase⟩, ⟨15, .phase⟩, ⟨16, .phase⟩, ⟨17, .phase⟩, ⟨18, .phase⟩, ⟨19, .phase⟩], none⟩) rfl (fun K hK => ?_) AllReadyH.nil)
  go_simp
  refine hK.out _ _ (HI0.out.2.2.2.2.2.1 _ (HP4.out.2.2 _)).1 (fun hHeld => ?_)
  clear hK K
  try simp only [Act.put]
  refine wpAnyH_done (by kernel_rfl) ?_ _
  have hst1 := Stp.join HI0.out.2.2.2.1 HI0.out.2.2.2.2.1 (HI0.out.1.app HI0.out.2.1 HA.out.1 HA.out.2.1 HA.out.2.2.1 HA.out.2.2.2)
  rw [HWB.out] at hst1
  clear cP hch hbl fP HLQ HP4 HI0 HA
  generalize w4.setCell ⟨Pb, 0, none⟩ (.slice a4 n4 c4) = w5 at *
  replace hst1 := Stp.below (I := PI B Pb Sb S fv tv fr to e) (fun _ _ _ _ h hb => PI.keep h hb) hst1 (Below.refl w5.heap.size w5).drew
  obtain ⟨J1, sa1, sn1, sc1, hI, hp, ho, hc0, hj0, hcell, hk0, hap⟩ := HOP.out _ _ hst1
  have HI1 := hid (And.intro hI (And.intro hp (And.intro ho (And.intro hc0 (And.intro hj0 (And.intro hcell (And.intro hk0 hap)))))))
  have HB1 := hid (Nat.le_trans HB0.out hst1.chg.size)
  have cP : w5.drew.cell? ⟨Pb, 0, none⟩ = some (.slice sa1 sn1 sc1) := cell_of_row _ Pb 0 _ _ _ hp
  clear hI hp ho hc0 hj0 hcell hk0 hap hst1
  go_wp2_with fail
  refine wp_region_held_drew (S := fun u => u.cell? ⟨b, 0, none⟩ = some (.slice ak k.length ck)) (by kernel_rfl) ((HI1.out.2.2.2.2.2.1 _ (Chg.refl _ _)).1) (fun hHeld => ?_)
  refine tk (i := 1) (oi := ⟨some 24, .move (.tmp 0), 68, "proof.go:89", #[], none⟩) (v := ?_) (Or.inl ⟨by rfl, ?_⟩) ?_
  rotate_left 1
  ·(intro u hSw; go_simp; try with_reducible rfl)
  try simp only [Act.put, sA, sB, sC]
  refine tk (i := 2) (oi := ⟨some 25, .nilCheck (.tmp 24), 0, "proof.go:89", #[⟨1, .data⟩], none⟩) (v := ?_) (Or.inl ⟨by rfl, ?_⟩) ?_
  rotate_left 1
  ·(intro u hSw; go_simp; try with_reducible rfl)
  try simp only [Act.put, sA, sB, sC]
  refine tk (i := 3) (oi := ⟨some 26, .fieldAddr 115 (.tmp 25) 0, 0, "proof.go:89", #[⟨2, .data⟩], none⟩) (v := ?_) (Or.inl ⟨by rfl, ?_⟩) ?_
  rotate_left 1
  ·(intro u hSw; go_simp; try with_reducible rfl)
  try simp only [Act.put, sA, sB, sC]
  refine tk (i := 4) (oi := ⟨some 27, .fieldAddr 66 (.tmp 26) 0, 0, "proof.go:89", #[⟨3, .data⟩], none⟩) (v := ?_) (Or.inl ⟨by rfl, ?_⟩) ?_
  rotate_left 1
  ·(intro u hSw; go_simp; try with_reducible rfl)
  try simp only [Act.put, sA, sB, sC]
  refine tk (i := 5) (oi := ⟨some 28, .fieldAddr 33 (.tmp 27) 0, 0, "proof.go:89", #[⟨4, .data⟩], none⟩) (v := ?_) (Or.inl ⟨by rfl, ?_⟩) ?_
  rotate_left 1
  ·(intro u hSw; go_simp; try with_reducible rfl)
  try simp only [Act.put, sA, sB, sC]
  refine tk (i := 6) (oi := ⟨some 29, .load 31 (.tmp 28), 31, "proof.go:89", #[⟨5, .data⟩], none⟩) (v := ?_) (Or.inl ⟨by rfl, ?_⟩) ?_
  rotate_left 1
  ·(intro u hSw; have q0 : u.cell? ⟨b, 0, none⟩ = some (.slice ak k.length ck) := hSw; go_simp; try with_reducible rfl)
  try simp only [Act.put, sA, sB, sC]
  refine wpAnyH_ready (rs := [0]) (by kernel_rfl) (by simp) ?_
  refine (AllReadyH.cons (o := ⟨some 23, .load 31 (.tmp 1), 31, "proof.go:89", #[], none⟩) rfl (fun K hK => ?_) AllReadyH.nil)
  go_simp
  refine hK.out _ _ (HI1.out.2.2.2.2.2.1 _ (Chg.refl _ _)).1 (fun hHeld => ?_)
  clear hK K
  try simp only [Act.put, sA, sB, sC]
  refine wpAnyH_ready (rs := [7]) (by kernel_rfl) (by simp) ?_
  refine (AllReadyH.cons (o := ⟨some 30, .call ⟨.builtin .append, #[.tmp 23, .tmp 29], #[31, 31]⟩, 31, "proof.go:89", #[⟨0, .data⟩, ⟨6, .data⟩], none⟩) rfl (fun K hK => ?_) AllReadyH.nil)
  refine step_append_OwnT (by rfl) (Operand.tmp 23) (Operand.tmp 29) (by rfl) B (.slice sa1 sn1 sc1) _ (by rfl) HI1.out.2.2.1 (.slice ak k.length ck) k (by rfl) HI1.out.2.2.2.2.2.2.1.1 HL1.out HB1.out (fun v6 w6 ho hc ht => ?_)
  obtain ⟨a6, n6, c6, rfl⟩ := ho.slc
  have HP6 := hid (HI1.out.2.2.2.2.2.2.2 _ w6 (Below.refl _ _) hc)
  have cQ := cell_of_row _ Pb 0 _ _ _ HP6.out.1
  have fQ := frozen_of_row _ Pb 0 _ _ HP6.out.1
  have HA := hid (And.intro ho (And.intro hc ht))
  clear ho hc ht
  refine hK.out _ _ (HI1.out.2.2.2.2.2.1 _ HP6.out.2.1).1 (fun hHeld => ?_)
  clear hK K
  try simp only [Act.put, sA, sB, sC]
  refine wpAnyH_ready (rs := [8]) (by kernel_rfl) (by simp) ?_
  refine (AllReadyH.cons (o := ⟨none, .store 31 (.tmp 1) (.tmp 30), 0, "proof.go:89", #[⟨7, .data⟩, ⟨7, .chain⟩, ⟨0, .phase⟩, ⟨1, .phase⟩, ⟨2, .phase⟩, ⟨3, .phase⟩, ⟨4, .phase⟩, ⟨5, .phase⟩, ⟨6, .phase⟩, ⟨7, .phase⟩], none⟩) rfl (fun K hK => ?_) AllReadyH.nil)
  go_simp
  refine hK.out _ _ (HI1.out.2.2.2.2.2.1 _ (HP6.out.2.2 _)).1 (fun hHeld => ?_)
  clear hK K
  try simp only [Act.put]
  refine wpAnyH_done (by kernel_rfl) ?_ _
  have hst2 := Stp.join HI1.out.2.2.2.1 HI1.out.2.2.2.2.1 (HI1.out.1.app HI1.out.2.1 (Below.refl _ _) HA.out.1 HA.out.2.1 HA.out.2.2)
  clear cP cQ fQ HP6 HI1 HA
  generalize w6.setCell ⟨Pb, 0, none⟩ (.slice a6 n6 c6) = w7 at *
  replace hst2 := Stp.below (I := PI B Pb Sb S fv tv fr to e) (fun _ _ _ _ h hb => PI.keep h hb) hst2 (Below.refl w7.heap.size w7).drew
  obtain ⟨J2, sa2, sn2, sc2, hI, hp, ho, hc0, hj0, hcell, hk0, hap⟩ := HOP.out _ _ hst2
  have HI2 := hid (And.intro hI (And.intro hp (And.intro ho (And.intro hc0 (And.intro hj0 (And.intro hcell (And.intro hk0 hap)))))))
  have HB2 := hid (Nat.le_trans HB0.out hst2.chg.size)
  have cP : w7.drew.cell? ⟨Pb, 0, none⟩ = some (.slice sa2 sn2 sc2) := cell_of_row _ Pb 0 _ _ _ hp
  clear hI hp ho hc0 hj0 hcell hk0 hap hst2
  go_wp2_with fail
  refine wp_region_held_drew (S := fun u => u.cell? ⟨b, 1, none⟩ = some (.int .i64 (n : Int))) (by kernel_rfl) ((HI2.out.2.2.2.2.2.1 _ (Chg.refl _ _)).2) (fun hHeld => ?_)
  refine tk (i := 1) (oi := ⟨some 32, .move (.tmp 0), 68, "proof.go:90", #[], none⟩) (v := ?_) (Or.inl ⟨by rfl, ?_⟩) ?_
  rotate_left 1
  ·(intro u hSw; go_simp; try with_reducible rfl)
  try simp only [Act.put, sA, sB, sC]
  refine tk (i := 2) (oi := ⟨some 33, .nilCheck (.tmp 32), 0, "proof.go:90", #[⟨1, .data⟩], none⟩) (v := ?_) (Or.inl ⟨by rfl, ?_⟩) ?_
  rotate_left 1
  ·(intro u hSw; go_simp; try with_reducible rfl)
  try simp only [Act.put, sA, sB, sC]
  refine tk (i := 3) (oi := ⟨some 34, .fieldAddr 115 (.tmp 33) 0, 0, "proof.go:90", #[⟨2, .data⟩], none⟩) (v := ?_) (Or.inl ⟨by rfl, ?_⟩) ?_
  rotate_left 1
  ·(intro u hSw; go_simp; try with_reducible rfl)
  try simp only [Act.put, sA, sB, sC]
  refine tk (i := 4) (oi := ⟨some 35, .fieldAddr 66 (.tmp 34) 0, 0, "proof.go:90", #[⟨3, .data⟩], none⟩) (v := ?_) (Or.inl ⟨by rfl, ?_⟩) ?_
  rotate_left 1
  ·(intro u hSw; go_simp; try with_reducible rfl)
  try simp only [Act.put, sA, sB, sC]
  refine tk (i := 5) (oi := ⟨some 36, .fieldAddr 33 (.tmp 35) 1, 0, "proof.go:90", #[⟨4, .data⟩], none⟩) (v := ?_) (Or.inl ⟨by rfl, ?_⟩) ?_
  rotate_left 1
  ·(intro u hSw; go_simp; try with_reducible rfl)
  try simp only [Act.put, sA, sB, sC]
  refine tk (i := 6) (oi := ⟨some 37, .load 2 (.tmp 36), 2, "proof.go:90", #[⟨5, .data⟩], none⟩) (v := ?_) (Or.inl ⟨by rfl, ?_⟩) ?_
  rotate_left 1
  ·(intro u hSw; have q1 : u.cell? ⟨b, 1, none⟩ = some (.int .i64 (n : Int)) := hSw; go_simp; try with_reducible rfl)
  try simp only [Act.put, sA, sB, sC]
  refine wpAnyH_ready (rs := [0]) (by kernel_rfl) (by simp) ?_
  refine (AllReadyH.cons (o := ⟨some 31, .load 31 (.tmp 1), 31, "proof.go:90", #[], none⟩) rfl (fun K hK => ?_) AllReadyH.nil)
  go_simp
  refine hK.out _ _ (HI2.out.2.2.2.2.2.1 _ (Chg.refl _ _)).2 (fun hHeld => ?_)
  clear hK K
  try simp only [Act.put, sA, sB, sC]
  refine wpAnyH_ready (rs := [7]) (by kernel_rfl) (by simp) ?_
  refine (AllReadyH.cons (o := ⟨some 38, .call ⟨.value (.func 87), #[.tmp 31, .tmp 37], #[31, 2]⟩, 31, "proof.go:90", #[⟨0, .data⟩, ⟨6, .data⟩], none⟩) rfl (fun K hK => ?_) AllReadyH.nil)
  go_simp
  refine (mnum_own _ _ B n _ HI2.out.2.2.1 HB2.out HL2.out HBD.out.2.2).mono ?_
  rintro d w8 ⟨v8, rfl, ho, hc, ht⟩
  obtain ⟨a8, n8, c8, rfl⟩ := ho.slc
  have HP8 := hid (HI2.out.2.2.2.2.2.2.2 _ w8 (Below.refl _ _) hc)
  have cR := cell_of_row _ Pb 0 _ _ _ HP8.out.1
  have fR := frozen_of_row _ Pb 0 _ _ HP8.out.1
  have HA8 := hid (And.intro ho (And.intro hc ht))
  clear ho hc ht
  go_wp2_with fail
  refine hK.out _ _ (HI2.out.2.2.2.2.2.1 _ HP8.out.2.1).2 (fun hHeld => ?_)
  clear hK K
  try simp only [Act.put, sA, sB, sC]
  refine wpAnyH_ready (rs := [8]) (by kernel_rfl) (by simp) ?_
  refine (AllReadyH.cons (o := ⟨none, .store 31 (.tmp 1) (.tmp 38), 0, "proof.go:90", #[⟨7, .data⟩, ⟨7, .chain⟩, ⟨0, .phase⟩, ⟨1, .phase⟩, ⟨2, .phase⟩, ⟨3, .phase⟩, ⟨4, .phase⟩, ⟨5, .phase⟩, ⟨6, .phase⟩, ⟨7, .phase⟩], none⟩) rfl (fun K hK => ?_) AllReadyH.nil)
  go_simp
  refine hK.out _ _ (HI2.out.2.2.2.2.2.1 _ (HP8.out.2.2 _)).2 (fun hHeld => ?_)
  clear hK K
  try simp only [Act.put]
  refine wpAnyH_done (by kernel_rfl) ?_ _
  go_end0
  exact ⟨rfl, Stp.join HI2.out.2.2.2.1 HI2.out.2.2.2.2.1 (HI2.out.1.app HI2.out.2.1 (Below.refl _ _) HA8.out.1 HA8.out.2.1 HA8.out.2.2)⟩
 ·go_simp
  change K _ (World.alloc (World.drew w) _)
  refine al_step2 hbl (fun nu hbn q hcn => ?_)
  have hap := HI0.out.2.2.2.2.2.2.2 nu nu hbn (Chg.refl _ _)
  have hch := hap.2.1
  have cP := cell_of_row _ Pb 0 _ _ _ hap.1
  have hbl := hbn
  have HLQ := hid q
  clear hap hcn q
  refine hK.out _ _ (HI0.out.2.2.2.2.2.1 _ hch).1 (fun hHeld => ?_)
  clear hK K
  try simp only [Act.put, sA, sB, sC]
  refine wpAnyH_ready (rs := [0]) (by kernel_rfl) (by simp) ?_
  refine (AllReadyH.cons (o := ⟨some 3, .load 31 (.tmp 1), 31, "proof.go:88", #[], none⟩) rfl (fun K hK => ?_) AllReadyH.nil)
  go_simp
  refine hK.out _ _ (HI0.out.2.2.2.2.2.1 _ hch).1 (fun hHeld => ?_)
  clear hK K
  try simp only [Act.put, sA, sB, sC]
  refine wpAnyH_ready (rs := [19]) (by kernel_rfl) (by simp) ?_
  refine (AllReadyH.cons (o := ⟨some 22, .call ⟨.builtin .append, #[.tmp 3, .tmp 21], #[31, 31]⟩, 31, "proof.go:88", #[⟨0, .data⟩, ⟨18, .data⟩], none⟩) rfl (fun K hK => ?_) AllReadyH.nil)
  refine step_append_OwnT (by rfl) (Operand.tmp 3) (Operand.tmp 21) (by rfl) B (.slice sa0 sn0 sc0) s (by rfl) (HI0.out.2.2.1.below hbl (Nat.le_refl _)) (.slice (some ⟨w.heap.size, 0, none⟩) 2 2) [IntKind.u8.wrap ((k.length : Int) / 256), IntKind.u8.wrap (k.length : Int)] (by rfl) (bs_blk HLQ.out rfl rfl) HL0.out (Nat.le_trans HB0.out hbl.size) (fun v4 w4 ho hc ht => ?_)
  obtain ⟨a4, n4, c4, rfl⟩ := ho.slc
  have HP4 := hid (HI0.out.2.2.2.2.2.2.2 _ w4 hbl hc)
  have cP := cell_of_row _ Pb 0 _ _ _ HP4.out.1
  have fP := frozen_of_row _ Pb 0 _ _ HP4.out.1
  have HA := hid (And.intro hbl (And.intro ho (And.intro hc ht)))
  clear ho hc ht
  refine hK.out _ _ (HI0.out.2.2.2.2.2.1 _ HP4.out.2.1).1 (fun hHeld => ?_)
  clear hK K
  try simp only [Act.put, sA, sB, sC]
  refine wpAnyH_ready (rs := [20]) (by kernel_rfl) (by simp) ?_
  refine (AllReadyH.cons (o := ⟨none, .store 31 (.tmp 1) (.tmp 22), 0, "proof.go:88", #[⟨19, .data⟩, ⟨19, .chain⟩, ⟨0, .phase⟩, ⟨1, .phase⟩, ⟨2, .phase⟩, ⟨3, .phase⟩, ⟨4, .phase⟩, ⟨5, .phase⟩, ⟨6, .phase⟩, ⟨7, .phase⟩, ⟨8, .phase⟩, ⟨9, .phase⟩, ⟨10, .phase⟩, ⟨11, .phase⟩, ⟨12, .phase⟩, ⟨13, .phase⟩, ⟨14, .phase⟩, ⟨15, .phase⟩, ⟨16, .phase⟩, ⟨17, .phase⟩, ⟨18, .phase⟩, ⟨19, .phase⟩], none⟩) rfl (fun K hK => ?_) AllReadyH.nil)
  go_simp
  refine hK.out _ _ (HI0.out.2.2.2.2.2.1 _ (HP4.out.2.2 _)).1 (fun hHeld => ?_)
  clear hK K
  try simp only [Act.put]
  refine wpAnyH_done (by kernel_rfl) ?_ _
  have hst1 := Stp.join HI0.out.2.2.2.1 HI0.out.2.2.2.2.1 (HI0.out.1.app HI0.out.2.1 HA.out.1 HA.out.2.1 HA.out.2.2.1 HA.out.2.2.2)
  rw [HWB.out] at hst1
  clear cP hch hbl fP HLQ HP4 HI0 HA
  generalize w4.setCell ⟨Pb, 0, none⟩ (.slice a4 n4 c4) = w5 at *
  replace hst1 := Stp.below (I := PI B Pb Sb S fv tv fr to e) (fun _ _ _ _ h hb => PI.keep h hb) hst1 (Below.refl w5.heap.size w5).drew
  obtain ⟨J1, sa1, sn1, sc1, hI, hp, ho, hc0, hj0, hcell, hk0, hap⟩ := HOP.out _ _ hst1
  have HI1 := hid (And.intro hI (And.intro hp (And.intro ho (And.intro hc0 (And.intro hj0 (And.intro hcell (And.intro hk0 hap)))))))
  have HB1 := hid (Nat.le_trans HB0.out hst1.chg.size)
  have cP : w5.drew.cell? ⟨Pb, 0, none⟩ = some (.slice sa1 sn1 sc1) := cell_of_row _ Pb 0 _ _ _ hp
  clear hI hp ho hc0 hj0 hcell hk0 hap hst1
  go_wp2_with fail
  refine wp_region_held_drew (S := fun u => u.cell? ⟨b, 0, none⟩ = some (.slice ak k.length ck)) (by kernel_rfl) ((HI1.out.2.2.2.2.2.1 _ (Chg.refl _ _)).1) (fun hHeld => ?_)
  refine tk (i := 1) (oi := ⟨some 24, .move (.tmp 0), 68, "proof.go:89", #[], none⟩) (v := ?_) (Or.inl ⟨by rfl, ?_⟩) ?_
  rotate_left 1
  ·(intro u hSw; go_simp; try with_reducible rfl)
  try simp only [Act.put, sA, sB, sC]
  refine tk (i := 2) (oi := ⟨some 25, .nilCheck (.tmp 24), 0, "proof.go:89", #[⟨1, .data⟩], none⟩) (v := ?_) (Or.inl ⟨by rfl, ?_⟩) ?_
  rotate_left 1
  ·(intro u hSw; go_simp; try with_reducible rfl)
  try simp only [Act.put, sA, sB, sC]
  refine tk (i := 3) (oi := ⟨some 26, .fieldAddr 115 (.tmp 25) 0, 0, "proof.go:89", #[⟨2, .data⟩], none⟩) (v := ?_) (Or.inl ⟨by rfl, ?_⟩) ?_
  rotate_left 1
  ·(intro u hSw; go_simp; try with_reducible rfl)
  try simp only [Act.put, sA, sB, sC]
  refine tk (i := 4) (oi := ⟨some 27, .fieldAddr 66 (.tmp 26) 0, 0, "proof.go:89", #[⟨3, .data⟩], none⟩) (v := ?_) (Or.inl ⟨by rfl, ?_⟩) ?_
  rotate_left 1
  ·(intro u hSw; go_simp; try with_reducible rfl)
  try simp only [Act.put, sA, sB, sC]
  refine tk (i := 5) (oi := ⟨some 28, .fieldAddr 33 (.tmp 27) 0, 0, "proof.go:89", #[⟨4, .data⟩], none⟩) (v := ?_) (Or.inl ⟨by rfl, ?_⟩) ?_
  rotate_left 1
  ·(intro u hSw; go_simp; try with_reducible rfl)
  try simp only [Act.put, sA, sB, sC]
  refine tk (i := 6) (oi := ⟨some 29, .load 31 (.tmp 28), 31, "proof.go:89", #[⟨5, .data⟩], none⟩) (v := ?_) (Or.inl ⟨by rfl, ?_⟩) ?_
  rotate_left 1
  ·(intro u hSw; have q0 : u.cell? ⟨b, 0, none⟩ = some (.slice ak k.length ck) := hSw; go_simp; try with_reducible rfl)
  try simp only [Act.put, sA, sB, sC]
  refine wpAnyH_ready (rs := [0]) (by kernel_rfl) (by simp) ?_
  refine (AllReadyH.cons (o := ⟨some 23, .load 31 (.tmp 1), 31, "proof.go:89", #[], none⟩) rfl (fun K hK => ?_) AllReadyH.nil)
  go_simp
  refine hK.out _ _ (HI1.out.2.2.2.2.2.1 _ (Chg.refl _ _)).1 (fun hHeld => ?_)
  clear hK K
  try simp only [Act.put, sA, sB, sC]
  refine wpAnyH_ready (rs := [7]) (by kernel_rfl) (by simp) ?_
  refine (AllReadyH.cons (o := ⟨some 30, .call ⟨.builtin .append, #[.tmp 23, .tmp 29], #[31, 31]⟩, 31, "proof.go:89", #[⟨0, .data⟩, ⟨6, .data⟩], none⟩) rfl (fun K hK => ?_) AllReadyH.nil)
  refine step_append_OwnT (by rfl) (Operand.tmp 23) (Operand.tmp 29) (by rfl) B (.slice sa1 sn1 sc1) _ (by rfl) HI1.out.2.2.1 (.slice ak k.length ck) k (by rfl) HI1.out.2.2.2.2.2.2.1.1 HL1.out HB1.out (fun v6 w6 ho hc ht => ?_)
  obtain ⟨a6, n6, c6, rfl⟩ := ho.slc
  have HP6 := hid (HI1.out.2.2.2.2.2.2.2 _ w6 (Below.refl _ _) hc)
  have cQ := cell_of_row _ Pb 0 _ _ _ HP6.out.1
  have fQ := frozen_of_row _ Pb 0 _ _ HP6.out.1
  have HA := hid (And.intro ho (And.intro hc ht))
  clear ho hc ht
  refine hK.out _ _ (HI1.out.2.2.2.2.2.1 _ HP6.out.2.1).1 (fun hHeld => ?_)
  clear hK K
  try simp only [Act.put, sA, sB, sC]
  refine wpAnyH_ready (rs := [8]) (by kernel_rfl) (by simp) ?_
  refine (AllReadyH.cons (o := ⟨none, .store 31 (.tmp 1) (.tmp 30), 0, "proof.go:89", #[⟨7, .data⟩, ⟨7, .chain⟩, ⟨0, .phase⟩, ⟨1, .phase⟩, ⟨2, .phase⟩, ⟨3, .phase⟩, ⟨4, .phase⟩, ⟨5, .phase⟩, ⟨6, .phase⟩, ⟨7, .phase⟩], none⟩) rfl (fun K hK => ?_) AllReadyH.nil)
  go_simp
  refine hK.out _ _ (HI1.out.2.2.2.2.2.1 _ (HP6.out.2.2 _)).1 (fun hHeld => ?_)
  clear hK K
  try simp only [Act.put]
  refine wpAnyH_done (by kernel_rfl) ?_ _
  have hst2 := Stp.join HI1.out.2.2.2.1 HI1.out.2.2.2.2.1 (HI1.out.1.app HI1.out.2.1 (Below.refl _ _) HA.out.1 HA.out.2.1 HA.out.2.2)
  clear cP cQ fQ HP6 HI1 HA
  generalize w6.setCell ⟨Pb, 0, none⟩ (.slice a6 n6 c6) = w7 at *
  replace hst2 := Stp.below (I := PI B Pb Sb S fv tv fr to e) (fun _ _ _ _ h hb => PI.keep h hb) hst2 (Below.refl w7.heap.size w7).drew
  obtain ⟨J2, sa2, sn2, sc2, hI, hp, ho, hc0, hj0, hcell, hk0, hap⟩ := HOP.out _ _ hst2
  have HI2 := hid (And.intro hI (And.intro hp (And.intro ho (And.intro hc0 (And.intro hj0 (And.intro hcell (And.intro hk0 hap)))))))
  have HB2 := hid (Nat.le_trans HB0.out hst2.chg.size)
  have cP : w7.drew.cell? ⟨Pb, 0, none⟩ = some (.slice sa2 sn2 sc2) := cell_of_row _ Pb 0 _ _ _ hp
  clear hI hp ho hc0 hj0 hcell hk0 hap hst2
  go_wp2_with fail
  refine wp_region_held_drew (S := fun u => u.cell? ⟨b, 1, none⟩ = some (.int .i64 (n : Int))) (by kernel_rfl) ((HI2.out.2.2.2.2.2.1 _ (Chg.refl _ _)).2) (fun hHeld => ?_)
  refine tk (i := 1) (oi := ⟨some 32, .move (.tmp 0), 68, "proof.go:90", #[], none⟩) (v := ?_) (Or.inl ⟨by rfl, ?_⟩) ?_
  rotate_left 1
  ·(intro u hSw; go_simp; try with_reducible rfl)
  try simp only [Act.put, sA, sB, sC]
  refine tk (i := 2) (oi := ⟨some 33, .nilCheck (.tmp 32), 0, "proof.go:90", #[⟨1, .data⟩], none⟩) (v := ?_) (Or.inl ⟨by rfl, ?_⟩) ?_
  rotate_left 1
  ·(intro u hSw; go_simp; try with_reducible rfl)
  try simp only [Act.put, sA, sB, sC]
  refine tk (i := 3) (oi := ⟨some 34, .fieldAddr 115 (.tmp 33) 0, 0, "proof.go:90", #[⟨2, .data⟩], none⟩) (v := ?_) (Or.inl ⟨by rfl, ?_⟩) ?_
  rotate_left 1
  ·(intro u hSw; go_simp; try with_reducible rfl)
  try simp only [Act.put, sA, sB, sC]
  refine tk (i := 4) (oi := ⟨some 35, .fieldAddr 66 (.tmp 34) 0, 0, "proof.go:90", #[⟨3, .data⟩], none⟩) (v := ?_) (Or.inl ⟨by rfl, ?_⟩) ?_
  rotate_left 1
  ·(intro u hSw; go_simp; try with_reducible rfl)
  try simp only [Act.put, sA, sB, sC]
  refine tk (i := 5) (oi := ⟨some 36, .fieldAddr 33 (.tmp 35) 1, 0, "proof.go:90", #[⟨4, .data⟩], none⟩) (v := ?_) (Or.inl ⟨by rfl, ?_⟩) ?_
  rotate_left 1
  ·(intro u hSw; go_simp; try with_reducible rfl)
  try simp only [Act.put, sA, sB, sC]
  refine tk (i := 6) (oi := ⟨some 37, .load 2 (.tmp 36), 2, "proof.go:90", #[⟨5, .data⟩], none⟩) (v := ?_) (Or.inl ⟨by rfl, ?_⟩) ?_
  rotate_left 1
  ·(intro u hSw; have q1 : u.cell? ⟨b, 1, none⟩ = some (.int .i64 (n : Int)) := hSw; go_simp; try with_reducible rfl)
  try simp only [Act.put, sA, sB, sC]
  refine wpAnyH_ready (rs := [0]) (by kernel_rfl) (by simp) ?_
  refine (AllReadyH.cons (o := ⟨some 31, .load 31 (.tmp 1), 31, "proof.go:90", #[], none⟩) rfl (fun K hK => ?_) AllReadyH.nil)
  go_simp
  refine hK.out _ _ (HI2.out.2.2.2.2.2.1 _ (Chg.refl _ _)).2 (fun hHeld => ?_)
  clear hK K
  try simp only [Act.put, sA, sB, sC]
  refine wpAnyH_ready (rs := [7]) (by kernel_rfl) (by simp) ?_
  refine (AllReadyH.cons (o := ⟨some 38, .call ⟨.value (.func 87), #[.tmp 31, .tmp 37], #[31, 2]⟩, 31, "proof.go:90", #[⟨0, .data⟩, ⟨6, .data⟩], none⟩) rfl (fun K hK => ?_) AllReadyH.nil)
  go_simp
  refine (mnum_own _ _ B n _ HI2.out.2.2.1 HB2.out HL2.out HBD.out.2.2).mono ?_
  rintro d w8 ⟨v8, rfl, ho, hc, ht⟩
  obtain ⟨a8, n8, c8, rfl⟩ := ho.slc
  have HP8 := hid (HI2.out.2.2.2.2.2.2.2 _ w8 (Below.refl _ _) hc)
  have cR := cell_of_row _ Pb 0 _ _ _ HP8.out.1
  have fR := frozen_of_row _ Pb 0 _ _ HP8.out.1
  have HA8 := hid (And.intro ho (And.intro hc ht))
  clear ho hc ht
  go_wp2_with fail
  refine hK.out _ _ (HI2.out.2.2.2.2.2.1 _ HP8.out.2.1).2 (fun hHeld => ?_)
  clear hK K
  try simp only [Act.put, sA, sB, sC]
  refine wpAnyH_ready (rs := [8]) (by kernel_rfl) (by simp) ?_
  refine (AllReadyH.cons (o := ⟨none, .store 31 (.tmp 1) (.tmp 38), 0, "proof.go:90", #[⟨7, .data⟩, ⟨7, .chain⟩, ⟨0, .phase⟩, ⟨1, .phase⟩, ⟨2, .phase⟩, ⟨3, .phase⟩, ⟨4, .phase⟩, ⟨5, .phase⟩, ⟨6, .phase⟩, ⟨7, .phase⟩], none⟩) rfl (fun K hK => ?_) AllReadyH.nil)
  go_simp
  refine hK.out _ _ (HI2.out.2.2.2.2.2.1 _ (HP8.out.2.2 _)).2 (fun hHeld => ?_)
  clear hK K
  try simp only [Act.put]
  refine wpAnyH_done (by kernel_rfl) ?_ _
  go_end0
  exact ⟨rfl, Stp.join HI2.out.2.2.2.1 HI2.out.2.2.2.2.1 (HI2.out.1.app HI2.out.2.1 (Below.refl _ _) HA8.out.1 HA8.out.2.1 HA8.out.2.2)⟩
end Go.Proofs.YtbmlkocpjboodaaDoor
