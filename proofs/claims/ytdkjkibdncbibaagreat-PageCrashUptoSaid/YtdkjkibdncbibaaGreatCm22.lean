/- a checkpoint on any disk -/
import Derived.Test.YtdkjkibdncbibaaGreatCm21
namespace Go.Proofs.YtdkjkibdncbibaaGreat
open Go.RowKit
open Go.Lib (hid)
theorem sy_L (s : DS) (h : s.L.length ≤ 4096) : s.sy.L.length ≤ 268421000 := by
 unfold DS.sy
 dsimp only
 split
 ·simp
 ·omega
theorem sy_L2 (s : DS) (h : s.L.length ≤ 4096) : s.sy.L.length ≤ 8192 := by
 unfold DS.sy
 dsimp only
 split
 ·simp
 ·omega
theorem wr_L8 (nb rm : Int) (s : DS) (n : Int) (b : List Int) (h : s.L.length ≤ 4096) : (s.wr nb rm n b).L.length ≤ 8192 := by
 unfold DS.wr
 dsimp only
 split
 ·simp; omega
 ·omega
theorem ws_room {nb rm : Int} : ∀ (l : List (Int × List Int)) (s : DS), (∀ x ∈ l, 0 ≤ x.1 ∧ x.1 < nb ∧ x.1 < rm) → (s.ws nb rm l).2 ≠ 42
 | [], s, _ => by show (0 : Int) ≠ 42; decide
 | x :: r, s, hx => by
  have h := hx x (List.mem_cons_self ..)
  unfold DS.ws
  split
  ·exact ws_room r _ (fun y hy => hx y (List.mem_cons_of_mem _ hy))
  ·show s.we nb rm x.1 ≠ 42
   unfold DS.we wErr
   split
   ·split
    ·rw [if_neg (by omega)]; decide
    ·decide
   ·decide
/-- where no block lies beyond the room no write is refused for it -/
theorem wsy_room {nb rm : Int} (l : List (Int × List Int)) (s : DS) (hx : ∀ x ∈ l, 0 ≤ x.1 ∧ x.1 < nb ∧ x.1 < rm) : (s.wsy nb rm l).2 ≠ 42 := by
 unfold DS.wsy
 split
 ·show DS.se _ ≠ 42
  unfold DS.se
  split <;> decide
 ·exact ws_room l s hx
def Ck2 (k : PK) (v : PV) (rs : List (List Int)) (W : Int → List Int) (w : World) (e : Ending) (w' : World) : Prop :=
 ∃ E v', e = .returned (.int .i64 E) ∧ PE k v w v' w' ∧ SameM v v' ∧ CkR k v rs W E v' ∧ (k.nb ≤ k.rm → E ≠ 42 ∧ (v.s.fz = -1 → E = 0 ∧ v'.s.fz = -1))
set_option maxRecDepth 100000 in
set_option maxHeartbeats 8000000 in
theorem checkpoint2 (k : PK) (v : PV) (rs : List (List Int)) (W : Int → List Int) (w : World) (h : PgS k v w) (hj : PJ k v) (hg : PL k v rs W) (hL0 : v.s.L = []) (hW : ∀ n, (W n).length = 256 ∧ Rng (W n)) (ha : v.a + 1 < 1099511627776) (hb : v.b + 1 < 1099511627776) :
    Calls Tryz.prog 50 #[.pointer (some ⟨k.P, 0, none⟩)] w (Ck2 k v rs W w) := by
  have hz := zero35
  have HI35 := hid (show (Tryz.prog.info? 50).map (·.size) = some 256 by kernel_rfl)
  have SZ := hid (show (ArrU8 (zeros 256)).size = 256 by rw [ArrU8_size, zeros_len])
  have HIL := hid (show (Tryz.prog.info? 63).map (·.size) = some ([.pointer (some ⟨k.D, 0, none⟩), .int .i64 k.sz] : List Value).length by kernel_rfl)
  have H := hid h
  have HJ := hid hj
  have HG := hid hg
  have HAB := hid (And.intro ha hb)
  have HL0 := hid hL0
  have HWB := hid hW
  have p3 := (cell_of_row w k.P 3 _ _ _ h.box).trans (PC_lo 3 (by decide))
  have hlen : v.lg.length ≤ 4096 := by
    have h1 := nodup_len (k.nb - k.sz).toNat (gk v.lg) h.lg.nodup (fun x hx => by have := hg.lgk x hx; have := hj.z2; omega)
    have h2 : (gk v.lg).length = v.lg.length := by simp [gk]
    have := hj.z1; have := hj.z3
    omega
  have HSO := hid (sortedL_any h.lg (fun n hn => by have := hg.lgk n hn; have := hj.z3; have := hj.z1; omega) (by omega))
  have HLK := hid (fun x (hx : x ∈ srt (gk v.lg)) => hg.lgk x ((srt_mem _ x).1 hx))
  have HLN := hid (show (srt (gk v.lg)).length ≤ 4096 by rw [srt_len]; simp only [gk, List.length_map]; exact hlen)
  have HZ := hid (show 3 ≤ k.sz ∧ k.sz < k.nb ∧ k.nb ≤ 4096 from ⟨hj.z1, hj.z2, hj.z3⟩)
  have HSD := hid (show ∃ HL, HL = homeL k.sz W (srt (gk v.lg)) from ⟨_, rfl⟩)
  obtain ⟨HL, hHL⟩ := HSD.out
  have HHL := hid hHL
  clear h hj hg ha hb hlen hL0 hW HSD hHL
  go_enter Tryz.func50, Tryz.ntmps50
  go_wp2_with fail
  refine (keysL_any (some v.Lm) w).mono ?_
  rintro e wk ⟨rfl, rfl⟩
  go_wp2_with fail
  refine HSO.out.mono ?_
  rintro e w1 ⟨nv, rfl, hrow, hb1⟩
  generalize hl : srt (gk v.lg) = l at *
  have HLE0 := hid hl
  have hbw : Below w.heap.size w w1 := ((Below.refl _ w).alloc (Nat.le_refl _) _).trans (hb1.mono (by simp))
  have hnum := hrow.nums
  have hnlt := hrow.lt
  have H1 := hid (H.out.fresh hbw)
  have HBW := hid hbw
  have HNL := hid (fun g hg => hnlt g hg)
  obtain ⟨na, nc, rfl, hcells⟩ := hnum
  have HNC := hid hcells
  have hll : (l.length : Int) ≤ 4096 := by have := HLN.out; omega
  clear hl hbw hrow hb1 hnlt hcells p3
  generalize hle : l.length = len at *
  have HLE := hid hle
  clear hle
  go_wp2_with fail
  have HHL2 := hid (show HL = homeL k.sz W (srt (gk v.lg)) from by rw [HLE0.out]; exact HHL.out)
  have HLL := hid (show HL.length = len by rw [HHL.out, homeL, List.length_map]; exact HLE.out)
  have HLI := hid (show ∀ i x, l[i]? = some x → HL.take (i + 1) = HL.take i ++ [(k.sz + x, W x)] from fun i x hx => by
    have h1 : HL[i]? = some (k.sz + x, W x) := by rw [HHL.out, homeL, List.getElem?_map, hx]; rfl
    rw [List.take_add_one, h1]; rfl)
  go_loopw [17] (fun iv wr => ∃ (i : Nat) (lv' : Value), i ≤ len ∧ iv = .int .i64 (i : Int) ∧ PE k v w1 { v with s := (v.s.ws k.nb k.rm (HL.take i)).1, lv := lv' } wr ∧ (v.s.ws k.nb k.rm (HL.take i)).2 = 0) (fun iv _ => len - (intOf iv).toNat)
  case atStart => exact ⟨0, v.lv, by omega, rfl, PE.same H1.out (Below.refl _ _), rfl⟩
  case round =>
    obtain ⟨i, lv', hi, rfl, hpe, h20⟩ := hrel
    obtain ⟨s1, hs1⟩ : ∃ s1, s1 = (v.s.ws k.nb k.rm (HL.take i)).1 := ⟨_, rfl⟩
    rw [← hs1] at hpe
    have HS1 := hid hs1
    have HPE := hid hpe
    have H20 := hid h20
    have hdn : s1.dn = false := by rw [hs1]; exact ws_dn _ _ _ _ HG.out.dn (by rw [h20]; decide)
    have HDN := hid hdn
    have HLB := hid (show s1.L.length ≤ i from by
      have h1 := ws_L k.nb k.rm (HL.take i) v.s
      rw [HL0.out] at h1
      rw [hs1]
      have h2 : (HL.take i).length ≤ i := by rw [List.length_take]; omega
      simp only [List.length_nil] at h1
      omega)
    have HFB := hid (hpe.1.dkl)
    have HFR := hid (show ∀ n, Rng (s1.f n) from fun n => by
      rw [hs1]
      exact ws_rng (fun y hy => by
        have hy := List.mem_of_mem_take hy
        rw [HHL.out] at hy
        obtain ⟨m, _, rfl⟩ := homeL_mem hy
        exact (HWB.out m).2) HG.out.g.rng n)
    clear hs1 h20
    by_cases hlt : i < len
    · have hne : l ≠ [] := by intro e; have := HLE.out; rw [e] at this; simp at this; omega
      obtain ⟨g, rfl, hgl, hgc⟩ := HNC.out.resolve_left hne
      obtain ⟨x, hxi⟩ : ∃ x, l[i]? = some x := ⟨_, List.getElem?_eq_getElem (by rw [HLE.out]; exact hlt)⟩
      have hgp : ¬ PF k v g := fun hp => by
        have h1 := (H.out.lt _ hp).2
        have h2 := (HNL.out g rfl).1
        omega
      have cx : wr.cell? ⟨g, i, none⟩ = some (.int .i64 x) := by
        have h2 := hgc i x hxi
        unfold World.cell? at h2 ⊢
        simp only at h2 ⊢
        rw [hpe.2.1.block g hgl hgp]
        exact h2
      have hxr := HLK.out x (List.mem_of_getElem? hxi)
      have hxg : x ∈ gk v.lg := (srt_mem _ x).1 (by rw [HLE0.out]; exact List.mem_of_getElem? hxi)
      have hpj : PJ k { v with s := s1, lv := lv' } := HJ.out.disk (s' := s1) (hpe.1.dkl) HFR.out lv' v.av v.a v.b v.c v.pe
      have hst := stored_any k { v with s := s1, lv := lv' } x wr hpe.1 hpj.pin hxr
      have hfar : ∀ m, m < k.sz → s1.f m = v.s.f m := fun m hm => by
        rw [HS1.out]
        refine ws_far _ _ _ _ _ (fun y hy => ?_)
        have hy := List.mem_of_mem_take hy
        rw [HHL.out] at hy
        obtain ⟨q, hq, rfl⟩ := homeL_mem hy
        have := (HLK.out q hq).1
        show k.sz + q ≠ m
        omega
      have hval : sto k { v with s := s1, lv := lv' } x = W x := (stoF_same (f := v.s.f) HG.out.lgr (fun m _ hm => hfar m hm) x (.inl hxg)).trans (HG.out.w x hxr.1 hxr.2)
      clear hfar
      rw [hval] at hst
      simp only [hdn, Bool.false_eq_true, if_false] at hst
      have HST := hid hst
      have HXR := hid hxr
      have HXI := hid (HLI.out i x hxi)
      have hsl := (HWB.out x).1
      have hsr := (HWB.out x).2
      clear hpe hne hgl hgc hxi hgp hpj hxr hxg hst hval hdn
      go_wp2_with fail
      refine HST.out.mono ?_
      rintro e wa ⟨rfl, hba⟩
      have HPA := hid (PE.post HPE.out hba)
      have hxn := heap_alloc_new wa (.cells (ArrU8 (zeros 256)) 50)
      have HXN := hid hxn
      clear hba hxn cx
      generalize hbb : W x = bb at *
      have HBB := hid hbb
      have SB := hid (show (ArrU8 bb).size = 256 by rw [ArrU8_size, hsl])
      have HBL := hid hsl
      clear hsl hsr hbb
      go_wp2_with (first | (refine wpList_store_row rfl 50 (Operand.tmp 5) (Operand.tmp 25) rfl wa.heap.size (ArrU8 bb) rfl rfl 50 (ArrU8 (zeros 256)) HXN.out (by rw [HI35.out, SB.out]) (by rw [SB.out, SZ.out]) (ArrU8_one _) ?_) | fail)
      have hpb := PE.post HPA.out (new_below (Below.refl _ wa) (.cells (ArrU8 (zeros 256)) 50) (ArrU8 bb))
      have hxb := new_at wa (ArrU8 (zeros 256)) (ArrU8 bb) 50
      have hXn : ¬ PF k { v with s := s1, lv := lv' } wa.heap.size := fun hp => by have := (HPA.out.1.lt _ hp).2; omega
      generalize (wa.alloc (.cells (ArrU8 (zeros 256)) 50)).setRow wa.heap.size (ArrU8 bb) = wb at *
      generalize wa.heap.size = X at *
      have HPB := hid hpb
      have HXB := hid hxb
      have HXN2 := hid hXn
      have HS0 := hid (show wb.drew.heap[k.P]? = some (.cells (PC k v) 82 (0, 0)) ∧ wb.drew.heap[X]? = some (.cells (ArrU8 bb) 50 (0, 0)) from ⟨hpb.1.box, hxb⟩)
      clear hpb hxb hXn
      obtain ⟨E1, hE1⟩ : ∃ E1, E1 = s1.we k.nb k.rm (k.sz + x) := ⟨_, rfl⟩
      have HE1 := hid hE1
      clear hE1
      refine wp_region_held_drew (S := fun u => u.heap[k.P]? = some (.cells (PC k v) 82 (0, 0)) ∧ u.heap[X]? = some (.cells (ArrU8 bb) 50 (0, 0))) (by kernel_rfl) (HS0.out) (fun hHeld => ?_)
      refine tk (i := 0) (oi := ⟨some 30, .move (.tmp 0), 30, "commit.go:36", #[], none⟩) (v := ?_) (Or.inl ⟨by rfl, ?_⟩) ?_
      rotate_left 1
      · (intro u hSw; go_simp; try with_reducible rfl)
      try simp only [Act.put, sA, sB, sC]
      refine tk (i := 1) (oi := ⟨some 31, .nilCheck (.tmp 30), 0, "commit.go:36", #[⟨0, .data⟩], none⟩) (v := ?_) (Or.inl ⟨by rfl, ?_⟩) ?_
      rotate_left 1
      · (intro u hSw; go_simp; try with_reducible rfl)
      try simp only [Act.put, sA, sB, sC]
      refine tk (i := 2) (oi := ⟨some 32, .fieldAddr 82 (.tmp 31) 1, 0, "commit.go:36", #[⟨1, .data⟩], none⟩) (v := ?_) (Or.inl ⟨by rfl, ?_⟩) ?_
      rotate_left 1
      · (intro u hSw; go_simp; try with_reducible rfl)
      try simp only [Act.put, sA, sB, sC]
      refine tk (i := 3) (oi := ⟨some 33, .load 63 (.tmp 32), 63, "commit.go:36", #[⟨2, .data⟩], none⟩) (v := ?_) (Or.inl ⟨by rfl, ?_⟩) ?_
      rotate_left 1
      · intro u hSw
        refine exec_load_mid 63 (Operand.tmp 32) ?_ k.P 1 ?_ _ _ (box_rl hSw.1) Tryz.underlying63 rfl HIL.out <;> rfl
      try simp only [Act.put, sA, sB, sC]
      refine tk (i := 4) (oi := ⟨some 34, .move (.tmp 4), 3, "commit.go:36", #[], none⟩) (v := ?_) (Or.inl ⟨by rfl, ?_⟩) ?_
      rotate_left 1
      · (intro u hSw; go_simp; try with_reducible rfl)
      try simp only [Act.put, sA, sB, sC]
      refine tk (i := 5) (oi := ⟨some 35, .load 50 (.tmp 5), 50, "commit.go:36", #[], none⟩) (v := ?_) (Or.inl ⟨by rfl, ?_⟩) ?_
      rotate_left 1
      · intro u hSw
        refine exec_load_row 50 (Operand.tmp 5) ?_ u X ?_ (ArrU8 bb) 50 (0, 0) _ hSw.2 Tryz.underlying50 rfl (by rw [HI35.out, SB.out]) <;> rfl
      try simp only [Act.put, sA, sB, sC]
      refine wpAnyH_ready (rs := [6]) (by kernel_rfl) (by simp) ?_
      refine (AllReadyH.cons (o := ⟨some 36, .call ⟨.value (.func 31), #[.tmp 33, .tmp 34, .tmp 35], #[63, 3, 50]⟩, 28, "commit.go:36", #[⟨3, .data⟩, ⟨4, .data⟩, ⟨5, .data⟩], none⟩) rfl (fun K hK => ?_) AllReadyH.nil)
      go_simp
      go_at_call 31
      have hd0 := HPB.out.1.fresh ((Below.refl _ wb).drew)
      refine (writeHome_any k.B k.D k.M k.nb k.rm s1.fz k.sz x s1.dn s1.f s1.L lv' bb wb.drew hd0.ls.dk HBL.out (by have := HLB.out; omega) (by have := HZ.out; omega) (by have := HXR.out; have := HZ.out; omega)).mono ?_
      rintro e wd ⟨rfl, lv2, hdk, hch, hft⟩
      have hp2 := hd0.redisk (s' := s1.wr k.nb k.rm (k.sz + x) bb) (lv' := lv2) hdk hch hft
      have hEE : wErr k.nb k.rm s1.fz (k.sz + x) s1.dn = E1 := HE1.out.symm
      rw [hEE]
      have HP2 := hid (PE.trans (PE.post HPB.out ((Below.refl _ wb).drew)) hp2)
      have HS1b := hid (show wd.heap[k.P]? = some (.cells (PC k v) 82 (0, 0)) ∧ wd.heap[X]? = some (.cells (ArrU8 bb) 50 (0, 0)) from ⟨hp2.1.box, (hp2.2.1.block X (Array.getElem?_eq_some_iff.1 HS0.out.2).1 HXN2.out).trans HS0.out.2⟩)
      clear hd0 hdk hch hft hp2 hEE
      go_wp2_with fail
      refine hK.out _ _ HS1b.out (fun hHeld => ?_)
      clear hK K
      try simp only [Act.put, sA, sB, sC]
      refine tk (i := 7) (oi := ⟨some 7, .assign (.tmp 36), 28, "commit.go:36", #[⟨6, .data⟩, ⟨6, .chain⟩, ⟨0, .phase⟩, ⟨1, .phase⟩, ⟨2, .phase⟩, ⟨3, .phase⟩, ⟨4, .phase⟩, ⟨5, .phase⟩, ⟨6, .phase⟩], none⟩) (v := ?_) (Or.inl ⟨by rfl, ?_⟩) ?_
      rotate_left 1
      · (intro u hSw; go_simp; try with_reducible rfl)
      try simp only [Act.put, sA, sB, sC]
      refine wpAnyH_done (by kernel_rfl) ?_ _
      have HW1 := hid (show v.s.ws k.nb k.rm (HL.take (i + 1)) = (s1.wr k.nb k.rm (k.sz + x) bb, E1) from by
        rw [HXI.out, ws_app, if_pos H20.out, ← HS1.out, ws_one, HE1.out])
      by_cases hE0 : E1 = 0
      · subst hE0
        go_wp2_with fail
        go_roundw
        case rel => exact ⟨i + 1, lv2, by omega, by go_num, by rw [HW1.out]; exact HP2.out, by rw [HW1.out]⟩
        case measure => simp [intOf]; omega
      · have HE0 := hid hE0
        go_wp2_with fail
        go_ret
        have hws : v.s.wsy k.nb k.rm HL = (s1.wr k.nb k.rm (k.sz + x) bb, E1) := by
          have h1 : v.s.ws k.nb k.rm HL = (s1.wr k.nb k.rm (k.sz + x) bb, E1) := by
            rw [← List.take_append_drop (i + 1) HL, ws_app, HW1.out, if_neg HE0.out]
          unfold DS.wsy
          rw [h1, if_neg HE0.out]
        have h1 := ck_one HG.out HL0.out HWB.out HZ.out.2.1 lv2 (by rw [← HHL2.out, hws]; exact HE0.out) (by rw [← HHL2.out, hws]; exact wr_L8 _ _ _ _ _ (by have := HLB.out; omega))
        rw [← HHL2.out, hws] at h1
        refine ⟨E1, _, rfl, PE.pre HBW.out HP2.out, ⟨rfl, rfl, rfl, rfl, rfl⟩, h1, fun hrm => ⟨?_, fun hfz => ?_⟩⟩
        · have h2 := wsy_room (nb := k.nb) (rm := k.rm) HL v.s (fun y hy => by
          rw [HHL.out] at hy
          obtain ⟨q, hq, rfl⟩ := homeL_mem hy
          have h3 := HLK.out q hq
          have h4 := HZ.out
          show 0 ≤ k.sz + q ∧ k.sz + q < k.nb ∧ k.sz + q < k.rm
          omega)
          rw [hws] at h2
          exact h2
        exfalso
        have h2 := wsy_calm (nb := k.nb) (rm := k.rm) HL (s := v.s) ⟨hfz, HG.out.dn⟩ (fun y hy => by
          rw [HHL.out] at hy
          obtain ⟨q, hq, rfl⟩ := homeL_mem hy
          have h3 := HLK.out q hq
          have h4 := HZ.out
          show 0 ≤ k.sz + q ∧ k.sz + q < k.nb ∧ k.sz + q < k.rm
          omega)
        rw [hws] at h2
        exact HE0.out h2.1
    · obtain rfl : i = len := by omega
      have htk : HL.take i = HL := List.take_of_length_le (by rw [HLL.out]; exact Nat.le_refl _)
      have HSY := hid (show v.s.wsy k.nb k.rm HL = (s1.sy, s1.se) from by
        have h1 := HS1.out
        have h2 := H20.out
        rw [htk] at h1 h2
        unfold DS.wsy
        rw [if_pos h2, ← h1])
      have hd := hpe.1
      have p1 := (cell_of_row wr k.P 1 _ _ _ hd.box).trans (PC_lo 1 (by decide))
      have HDS := hid (dsync_any k.B k.D k.M k.nb k.rm s1 lv' wr hd.ls.dk)
      have HD := hid hd
      clear hpe hd htk hdn
      go_wp2_with fail
      refine HDS.out.mono ?_
      rintro e ws ⟨rfl, lv2, hdk, hch, hft⟩
      have hp2 := HD.out.redisk (s' := s1.sy) (lv' := lv2) hdk hch hft
      have HP3 := hid (PE.trans HPE.out hp2)
      have p0 := (cell_of_row ws k.P 0 _ _ _ HP3.out.1.box).trans (PC_lo 0 (by decide))
      obtain ⟨E1, hE1⟩ : ∃ E1, E1 = s1.se := ⟨_, rfl⟩
      have HE1 := hid hE1
      rw [← hE1]
      clear hdk hch hft hp2 hE1 HDS p1
      by_cases hE0 : E1 = 0
      · subst hE0
        obtain ⟨s2, hs2⟩ : ∃ s2, s2 = s1.sy := ⟨_, rfl⟩
        have HS2 := hid hs2
        have hp3 := HP3.out
        rw [← hs2] at hp3
        have hls := hp3.1.ls
        rw [show ({ v with s := s2, lv := lv2 } : PV).pe = [] from HG.out.pe] at hls
        have HRS := hid (hls.restart (Int.le_refl 0) (by decide) (by show v.a < _; have := HAB.out.1; omega) (by show v.b < _; have := HAB.out.2; omega) (by rw [hs2]; exact sy_L _ (by have := HLB.out; omega)))
        have HP3b := hid hp3
        have hLz : s2.L = [] ∧ s2.L.length ≤ 4096 := by
          rw [hs2]
          have h1 : opOk s1.fz s1.dn = true := by
            have h2 := HE1.out
            unfold DS.se at h2
            by_cases ho : opOk s1.fz s1.dn = true
            · exact ho
            · rw [if_neg ho] at h2; exact absurd h2 (by decide)
          unfold DS.sy
          dsimp only
          rw [if_pos h1]
          exact ⟨rfl, Nat.zero_le _⟩
        have HLZ := hid hLz
        clear hs2 hp3 hls hLz
        go_wp2_with fail
        refine HRS.out.mono ?_
        rintro e wz ⟨rfl, lv3, av3, hls3, hch, hft⟩
        have hw2 : v.s.wsy k.nb k.rm HL = (s2, 0) := by rw [HSY.out, HS2.out, HE1.out]
        have HT := hid (fun lv4 av4 L4 => ck_two (lv' := lv4) (av' := av4) (L' := L4) HG.out HL0.out HWB.out HZ.out.2.1 HAB.out.1 HAB.out.2 (by rw [← HHL2.out, hw2]) (s1 := s2) (s2 := (s2.wsy k.nb k.rm (mw 0 (v.a + 1) (v.b + 1) 0)).1) (E := (s2.wsy k.nb k.rm (mw 0 (v.a + 1) (v.b + 1) 0)).2) (by rw [← HHL2.out, hw2]) rfl rfl (by
          have h1 := wsy_L k.nb k.rm (mw 0 (v.a + 1) (v.b + 1) 0) s2
          have h2 := HLZ.out.2
          have h3 : (mw 0 (v.a + 1) (v.b + 1) 0).length = 1 := rfl
          omega))
        have HCM0 := hid (show k.nb ≤ k.rm → (s2.wsy k.nb k.rm (mw 0 (v.a + 1) (v.b + 1) 0)).2 ≠ 42 from fun hrm => wsy_room _ s2 (fun y hy => by
            unfold mw at hy
            rw [List.mem_singleton] at hy
            subst hy
            have h4 := HZ.out
            show (0 : Int) ≤ 0 + (((v.a + 1) % 2 : Nat) : Int) ∧ (0 : Int) + (((v.a + 1) % 2 : Nat) : Int) < k.nb ∧ (0 : Int) + (((v.a + 1) % 2 : Nat) : Int) < k.rm
            omega))
        have HCM := hid (show v.s.fz = -1 → k.nb ≤ k.rm → (s2.wsy k.nb k.rm (mw 0 (v.a + 1) (v.b + 1) 0)).2 = 0 ∧ (s2.wsy k.nb k.rm (mw 0 (v.a + 1) (v.b + 1) 0)).1.fz = -1 from fun hfz hrm => by
          have h2 := wsy_calm (nb := k.nb) (rm := k.rm) HL (s := v.s) ⟨hfz, HG.out.dn⟩ (fun y hy => by
            rw [HHL.out] at hy
            obtain ⟨q, hq, rfl⟩ := homeL_mem hy
            have h3 := HLK.out q hq
            have h4 := HZ.out
            show 0 ≤ k.sz + q ∧ k.sz + q < k.nb ∧ k.sz + q < k.rm
            omega)
          rw [hw2] at h2
          have h5 := wsy_calm (nb := k.nb) (rm := k.rm) (mw 0 (v.a + 1) (v.b + 1) 0) (s := s2) (by have h6 : s2 = _ := h2.2; rw [h6]; exact ⟨rfl, rfl⟩) (fun y hy => by
            unfold mw at hy
            rw [List.mem_singleton] at hy
            subst hy
            have h4 := HZ.out
            show (0 : Int) ≤ 0 + (((v.a + 1) % 2 : Nat) : Int) ∧ (0 : Int) + (((v.a + 1) % 2 : Nat) : Int) < k.nb ∧ (0 : Int) + (((v.a + 1) % 2 : Nat) : Int) < k.rm
            omega)
          exact ⟨h5.1, by rw [h5.2]⟩)
        clear HRS hw2
        generalize hE2 : (s2.wsy k.nb k.rm (mw 0 (v.a + 1) (v.b + 1) 0)).2 = E2 at *
        generalize hs3 : (s2.wsy k.nb k.rm (mw 0 (v.a + 1) (v.b + 1) 0)).1 = s3 at *
        by_cases hE20 : E2 = 0
        · subst hE20
          simp only [if_true] at hls3
          have hp4 := PE.trans HP3b.out (HP3b.out.1.relog (s' := s3) (lv' := lv3) (a' := v.a + 1) (b' := v.b + 1) (c' := 0) (av' := av3) (pe' := []) hls3 hch hft)
          have hb4 := hp4.1.box
          have h5 : (wz.alloc (.map #[] 0)).heap[k.P]? = some (.cells (PC k v) 82 (0, 0)) := (heap_alloc_old _ _ hp4.1.ltP).trans hb4
          have hb6 := heap_setCell_same _ k.P 3 _ 82 (.map (some wz.heap.size)) h5
          rw [PC_set3] at hb6
          have hb7 := heap_setCell_same _ k.P 4 _ 82 (.int .i64 0) hb6
          rw [PC_set4] at hb7
          have hm7 : MapG (Value.int .i64) (((wz.alloc (.map #[] 0)).setCell ⟨k.P, 3, none⟩ (.map (some wz.heap.size))).setCell ⟨k.P, 4, none⟩ (.int .i64 0)) wz.heap.size [] := by
            have hlt := hp4.1.ltP
            refine (MapG.empty (Value.int .i64) wz).of ?_
            exact (heap_setCell_other _ _ _ _ (by simp; omega)).trans (heap_setCell_other _ _ _ _ (by simp; omega))
          have hp7 := hp4.1.rebox (h0' := v.h0) (h1' := v.h1) (en' := 0) (Lm' := wz.heap.size) (lg' := []) (Hm' := v.Hm) (ch' := v.ch) ((((Chg.refl (fun g => g = k.P) wz).alloc _).setCell ⟨k.P, 3, none⟩ _ (.inl rfl)).setCell ⟨k.P, 4, none⟩ _ (.inl rfl)) hb7 H.out.l0 H.out.l1 (.inr ⟨Nat.le_refl _, hm7⟩) (.inl ⟨rfl, rfl⟩) (by have e := hp4.1.ch.lt; have e2 : v.Hm < wz.heap.size := e; omega)
          have HP7 := hid (PE.pre HBW.out (PE.trans hp4 hp7))
          have c3 := (cell_of_row _ k.P 3 _ _ _ h5).trans (PC_lo 3 (by decide))
          have f3' := frozen_of_row _ k.P 3 _ _ h5
          have c4 := (cell_of_row _ k.P 4 _ _ _ hb6).trans (PC_lo 4 (by decide))
          have f4' := frozen_of_row _ k.P 4 _ _ hb6
          have hmk := run_mkmap_int
          clear hch hft hp4 hb4 h5 hb6 hb7 hm7 hp7 hls3 p0 hE2 hs3
          go_wp2_with fail
          go_ret
          have hT := (HT.out lv3 av3 wz.heap.size).2 trivial
          have hpe0 : v.pe = [] := HG.out.pe
          refine ⟨0, _, rfl, HP7.out, ⟨rfl, rfl, rfl, rfl, rfl⟩, ?_, fun h2 => ⟨by decide, fun h1 => ⟨rfl, (HCM.out h1 h2).2⟩⟩⟩
          rw [← hpe0]
          exact hT
        · have HE2 := hid hE20
          rw [if_neg hE20, if_neg hE20, if_neg hE20] at hls3
          have hp4 := PE.trans HP3b.out (HP3b.out.1.relog (s' := s3) (lv' := lv3) (a' := v.a) (b' := v.b) (c' := v.c) (av' := av3) (pe' := []) hls3 hch hft)
          have HP4 := hid (PE.pre HBW.out hp4)
          clear hch hft hp4 hls3 p0 hE2 hs3
          go_wp2_with fail
          go_ret
          have hT := (HT.out lv3 av3 0).1 HE2.out
          have hpe0 : v.pe = [] := HG.out.pe
          refine ⟨E2, _, rfl, HP4.out, ⟨rfl, rfl, rfl, rfl, rfl⟩, ?_, fun h2 => ⟨HCM0.out h2, fun h1 => HCM.out h1 h2⟩⟩
          rw [← hpe0]
          exact hT
      · have HE0 := hid hE0
        clear p0
        go_wp2_with fail
        go_ret
        have hws : v.s.wsy k.nb k.rm HL = (s1.sy, E1) := by rw [HSY.out, HE1.out]
        have h1 := ck_one HG.out HL0.out HWB.out HZ.out.2.1 lv2 (by rw [← HHL2.out, hws]; exact HE0.out) (by rw [← HHL2.out, hws]; exact sy_L2 _ (by have := HLB.out; omega))
        rw [← HHL2.out, hws] at h1
        refine ⟨E1, _, rfl, PE.pre HBW.out HP3.out, ⟨rfl, rfl, rfl, rfl, rfl⟩, h1, fun hrm => ⟨?_, fun hfz => ?_⟩⟩
        · have h2 := wsy_room (nb := k.nb) (rm := k.rm) HL v.s (fun y hy => by
          rw [HHL.out] at hy
          obtain ⟨q, hq, rfl⟩ := homeL_mem hy
          have h3 := HLK.out q hq
          have h4 := HZ.out
          show 0 ≤ k.sz + q ∧ k.sz + q < k.nb ∧ k.sz + q < k.rm
          omega)
          rw [hws] at h2
          exact h2
        exfalso
        have h2 := wsy_calm (nb := k.nb) (rm := k.rm) HL (s := v.s) ⟨hfz, HG.out.dn⟩ (fun y hy => by
          rw [HHL.out] at hy
          obtain ⟨q, hq, rfl⟩ := homeL_mem hy
          have h3 := HLK.out q hq
          have h4 := HZ.out
          show 0 ≤ k.sz + q ∧ k.sz + q < k.nb ∧ k.sz + q < k.rm
          omega)
        rw [hws] at h2
        exact HE0.out h2.1
end Go.Proofs.YtdkjkibdncbibaaGreat
/- a record brought to the log: plain -/
namespace Go.Proofs.YtdkjkibdncbibaaGreat
open Go.RowKit
open Go.Lib (hid)
theorem gl_rcL_out : ∀ (l : List Int) (lg : List (Int × Int)) (p n : Int), n ∉ l → gl (rcL lg p l) n = gl lg n
 | [], _, _, _, _ => rfl
 | m :: r, lg, p, n, h => by
  simp only [rcL]
  rw [gl_rcL_out r _ _ n (fun hn => h (by simp [hn])), gl_gp, if_neg (fun e => h (by simp [e]))]
theorem gl_rcL_in : ∀ (l : List Int) (lg : List (Int × Int)) (p : Int) (i : Nat) (n : Int), l.Nodup → l[i]? = some n → gl (rcL lg p l) n = some (p + 264 * i + 8)
 | [], _, _, _, _, _, h => by simp at h
 | m :: r, lg, p, 0, n, hd, h => by
  simp only [List.getElem?_cons_zero, Option.some.injEq] at h
  subst h
  simp only [rcL]
  rw [gl_rcL_out r _ _ m (List.nodup_cons.1 hd).1, gl_gp, if_pos rfl]
  congr 1
  omega
 | m :: r, lg, p, i + 1, n, hd, h => by
  simp only [List.getElem?_cons_succ] at h
  simp only [rcL]
  rw [gl_rcL_in r _ _ i n (List.nodup_cons.1 hd).2 h]
  congr 1
  push_cast
  omega
theorem recL_split (pg : Int → List Int) (l : List Int) (hp : ∀ n ∈ l, (pg n).length = 256) (i : Nat) (n : Int) (h : l[i]? = some n) : ∃ t, (recL pg l).drop (264 * i) = be8 n.toNat ++ pg n ++ t := by
 obtain ⟨hi, he⟩ := List.getElem?_eq_some_iff.1 h
 refine ⟨recL pg (l.drop (i + 1)), ?_⟩
 have h1 : recL pg l = recL pg (l.take i) ++ recL pg (l.drop i) := by
  unfold recL
  rw [← List.flatMap_append, List.take_append_drop]
 have h2 : (recL pg (l.take i)).length = 264 * i := by
  rw [recL_len _ _ (fun n hn => hp n (List.mem_of_mem_take hn)), List.length_take]
  omega
 rw [h1, List.drop_left' h2, List.drop_eq_getElem_cons hi, he]
 simp [recL, List.flatMap_cons]
theorem numsOf_recL (pg : Int → List Int) (l : List Int) (hp : ∀ n ∈ l, (pg n).length = 256) (hn : ∀ n ∈ l, 0 ≤ n ∧ n < 18446744073709551616) : numsOf (recL pg l) = l := by
 have hl := recL_len pg l hp
 apply List.ext_getElem?
 intro i
 unfold numsOf
 by_cases hi : i < l.length
 ·have hx := List.getElem?_eq_getElem hi
  obtain ⟨t, ht⟩ := recL_split pg l hp i _ hx
  rw [List.getElem?_map, List.getElem?_range (by rw [hl]; omega), hx]
  simp only [Option.map_some]
  rw [ht, List.append_assoc, List.take_left' (be8_len _)]
  have hb := hn _ (List.getElem_mem hi)
  rw [beI_be8 _ (by omega)]
  congr 1
  omega
 ·rw [List.getElem?_map, List.getElem?_eq_none (by rw [List.length_range]; omega), List.getElem?_eq_none (by omega)]
  rfl
/-- a page read out of the area's bytes -/
theorem arRd_area {f : Int → List Int} (hf : ∀ n, (f n).length = 256) {c x : Nat} (h : x + 256 ≤ c) : arRd f x = ((areaB f (0 + 2) c).drop x).take 256 := by
 have hg : ∀ p, p < c → (areaB f (0 + 2) c)[p]? = some (gb f p) := fun p hp => by
  unfold areaB
  rw [List.getElem?_take, if_pos hp]
  have hk : ∀ k p, p < 256 * k → (arB f (0 + 2) k)[p]? = some (gb f p) := by
   intro k
   induction k with
   | zero => intro p hp; omega
   | succ k ih =>
    intro p hp
    show (arB f (0 + 2) k ++ f (0 + 2 + (k : Nat)))[p]? = _
    have hl : (arB f (0 + 2) k).length = 256 * k := arB_len f (0 + 2) hf k
    by_cases h1 : p < 256 * k
    ·rw [List.getElem?_append_left (by omega)]; exact ih p h1
    ·rw [List.getElem?_append_right (by omega), hl]
     have e1 : p / 256 = k := by omega
     have e2 : p - 256 * k = p % 256 := by omega
     unfold gb
     rw [e1, e2]
     have e3 : (0 : Int) + 2 + (k : Nat) = 2 + (k : Nat) := by omega
     rw [e3, List.getElem?_eq_getElem (by rw [hf]; omega)]
     rfl
  exact hk c p (by omega)
 have hl := areaB_len f (0 + 2) hf c
 apply List.ext_getElem?
 intro i
 unfold arRd
 by_cases hi : i < 256
 ·rw [List.getElem?_map, List.getElem?_range hi, List.getElem?_take, if_pos hi, List.getElem?_drop, hg _ (by omega)]
  rfl
 ·rw [List.getElem?_eq_none (by simp; omega), List.getElem?_take, if_neg hi]
/-- what is stored behind a record that came to the log -/
theorem stoF_add {nb sz : Int} {f g : Int → List Int} {rs : List (List Int)} {c : Nat} {pg : Int → List Int} {l : List Int} {W : Int → List Int} (hf : ∀ n, (f n).length = 256) (hg : ∀ n, (g n).length = 256)
  (hrk : ∀ r ∈ rs, RecOK (nb - sz) r) (haf : areaB f (0 + 2) c = encs rs) (hag : areaB g (0 + 2) (c + (8 + (recL pg l).length)) = encs (rs ++ [recL pg l])) (hfar : ∀ m, sz ≤ m → g m = f m)
  (hp : ∀ n ∈ l, (pg n).length = 256) (hn : ∀ n ∈ l, 0 ≤ n ∧ n < 18446744073709551616) (hd : l.Nodup) (hw : ∀ n, 0 ≤ n → n < nb - sz → stoF sz f (lgF rs [] 0) n = W n) :
  ∀ n, 0 ≤ n → n < nb - sz → stoF sz g (lgF (rs ++ [recL pg l]) [] 0) n = if n ∈ l then pg n else W n := by
 intro n h0 h1
 have hc : (encs rs).length = c := by rw [← haf]; exact areaB_len _ _ hf c
 have hen := enF_encs rs 0 (fun r hr => (hrk r hr).mod)
 rw [hc, Int.zero_add] at hen
 have hlr := lgF_rng (m := (c : Int)) rs hrk [] 0 (Int.le_refl _) (fun n x hx => by simp [gl] at hx) (by rw [hc]; omega)
 have hrl := recL_len pg l hp
 rw [lgF_snoc, numsOf_recL pg l hp hn, hen]
 have heq : encs (rs ++ [recL pg l]) = encs rs ++ (be8 (recL pg l).length ++ recL pg l) := by rw [encs_snoc, List.append_assoc]
 by_cases hnl : n ∈ l
 ·rw [if_pos hnl]
  obtain ⟨i, hi, he⟩ := List.mem_iff_getElem.1 hnl
  have hx : l[i]? = some n := by rw [List.getElem?_eq_getElem hi, he]
  unfold stoF
  rw [gl_rcL_in l _ _ i n hd hx]
  dsimp only
  have ht : ((c : Int) + 8 + 264 * (i : Int) + 8).toNat = c + (8 + (264 * i + 8)) := by omega
  rw [ht, arRd_area hg (c := c + (8 + (recL pg l).length)) (by omega), hag, heq]
  rw [← List.drop_drop, List.drop_left' hc, ← List.drop_drop, List.drop_left' (be8_len _), ← List.drop_drop]
  obtain ⟨t, ht⟩ := recL_split pg l hp i n hx
  rw [ht, List.append_assoc, List.drop_left' (be8_len _), List.take_left' (hp n hnl)]
 ·rw [if_neg hnl, ← hw n h0 h1]
  unfold stoF
  rw [gl_rcL_out l _ _ n hnl]
  cases hgl : gl (lgF rs [] 0) n with
  | none => exact hfar _ (by omega)
  | some x =>
   dsimp only
   have hb := hlr n x hgl
   rw [arRd_area hg (c := c + (8 + (recL pg l).length)) (by omega), hag, heq, arRd_area hf (c := c) (by omega), haf, List.drop_append_of_le_length (by omega), List.take_append_of_le_length (by rw [List.length_drop]; omega)]
end Go.Proofs.YtdkjkibdncbibaaGreat
/- the log's Sync of a record of pages: plain -/
namespace Go.Proofs.YtdkjkibdncbibaaGreat
open Go.RowKit
open Go.Lib (hid)
theorem upF_lenW {f : Int → List Int} {L : List WR} (hf : ∀ n, (f n).length = 256) (hw : WOK L) (ks : List Bool) (t n : Int) : (upF f L ks t n).length = 256 :=
 redoF_len (undoF_len hf L hw) _ (fun x hx => hw x (survL_memL L ks x hx)) t _ n
theorem aw_lt {sz : Int} {s : DS} {c : Nat} {al : List Int} (h0 : 0 < al.length) (h : ((c + al.length : Nat) : Int) ≤ (sz - 2) * 256) {x : Int × List Int} (hx : x ∈ aw 0 s c al) : 0 ≤ x.1 ∧ x.1 < sz := by
 unfold aw at hx
 have h1 := wl_mem hx
 omega
theorem mw_lt {a b c : Nat} {x : Int × List Int} (hx : x ∈ mw 0 a b c) : 0 ≤ x.1 ∧ x.1 < 2 := by
 unfold mw at hx
 rw [List.mem_singleton] at hx
 subst hx
 show (0 : Int) ≤ 0 + ((a % 2 : Nat) : Int) ∧ (0 : Int) + ((a % 2 : Nat) : Int) < 2
 omega
theorem sy_far {nb rm sz : Int} {a b c n : Nat} {s sF : DS} {al : List Int} {E : Int} {aF cF : Nat} (hL : s.L = []) (h2 : 2 ≤ sz) (h0 : 0 < al.length) (hf : ((c + al.length : Nat) : Int) ≤ (sz - 2) * 256) (h : SyRes nb rm 0 a b c n s (aw 0 s c al) sF E aF cF) :
  ∀ m, sz ≤ m → sF.f m = s.f m ∧ ∀ ks t, upF sF.f sF.L ks t m = s.f m := by
 intro m hm
 have h1 : ∀ x ∈ aw 0 s c al, x.1 ≠ m := fun x hx => by have := aw_lt h0 hf hx; omega
 rcases h with ⟨_, rfl, _⟩ | ⟨hz, rfl, _⟩
 ·exact ⟨wsy_far _ _ _ _ _ h1, fun ks t => wsy_up _ _ _ _ hL _ h1 ks t⟩
 ·have h3 : ∀ x ∈ mw 0 (a + 1) b (c + n), x.1 ≠ m := fun x hx => by have := mw_lt hx; omega
  obtain ⟨_, hl, _⟩ := wsy_ok hz
  refine ⟨(wsy_far _ _ _ _ _ h3).trans (wsy_far _ _ _ _ _ h1), fun ks t => (wsy_up _ _ _ _ hl _ h3 ks t).trans (wsy_far _ _ _ _ _ h1)⟩
theorem recOK_recL {N : Int} {pg : Int → List Int} {l : List Int} (hp : ∀ n ∈ l, (pg n).length = 256 ∧ Rng (pg n)) (hn : ∀ n ∈ l, 0 ≤ n ∧ n < N) (hN : N ≤ 4096) : RecOK N (recL pg l) := by
 have h1 := numsOf_recL pg l (fun n hn => (hp n hn).1) (fun n h => by have := hn n h; omega)
 refine ⟨recL_rng pg l (fun n hn => (hp n hn).2), by rw [recL_len pg l (fun n hn => (hp n hn).1)]; omega, fun n h => ?_⟩
 rw [h1] at h
 exact (hn n h).2
def WN (l : List Int) (pg W : Int → List Int) (n : Int) : List Int := if n ∈ l then pg n else W n
theorem stoF_old {nb sz : Int} {f g : Int → List Int} {rs : List (List Int)} {c : Nat} (hf : ∀ n, (f n).length = 256) (hg : ∀ n, (g n).length = 256)
  (hrk : ∀ r ∈ rs, RecOK (nb - sz) r) (haf : areaB f (0 + 2) c = encs rs) (hag : areaB g (0 + 2) c = encs rs) (hfar : ∀ m, sz ≤ m → g m = f m) : ∀ n, 0 ≤ n → stoF sz g (lgF rs [] 0) n = stoF sz f (lgF rs [] 0) n := by
 intro n h0
 have hc : (encs rs).length = c := by rw [← haf]; exact areaB_len _ _ hf c
 have hlr := lgF_rng (m := (c : Int)) rs hrk [] 0 (Int.le_refl _) (fun n x hx => by simp [gl] at hx) (by rw [hc]; omega)
 unfold stoF
 cases hgl : gl (lgF rs [] 0) n with
 | none => exact hfar _ (by omega)
 | some x =>
  dsimp only
  have hb := hlr n x hgl
  rw [arRd_area hg (c := c) (by omega), hag, arRd_area hf (c := c) (by omega), haf]
section
variable {k : PK} {v : PV} {rs : List (List Int)} {W : Int → List Int}
theorem sync_plain (h : PL k v rs W) (hL : v.s.L = []) (hz : k.sz < k.nb) {pg : Int → List Int} {l : List Int} (hp : ∀ n ∈ l, (pg n).length = 256 ∧ Rng (pg n)) (hn : ∀ n ∈ l, 0 ≤ n ∧ n < k.nb - k.sz) (hd : l.Nodup)
    (hfit : ((v.c + (8 + (recL pg l).length) : Nat) : Int) ≤ (k.sz - 2) * 256) (ha : v.a + 1 < 1099511627776) {sF : DS} {E : Int} {aF cF : Nat}
    (hr : SyRes k.nb k.rm 0 v.a v.b v.c (encs [recL pg l]).length v.s (aw 0 v.s v.c (encs [recL pg l])) sF E aF cF) (hLF : sF.L.length ≤ 8192) (hWF : WOK sF.L) (hFF : ∀ n, (sF.f n).length = 256) :
    (E = 0 ∧ sF.L = [] ∧ aF = v.a + 1 ∧ cF = v.c + (8 + (recL pg l).length) ∧ ∀ lv' av', PL k { v with s := sF, lv := lv', a := aF, c := cF, av := av', lg := rcL v.lg (v.en + 8) l, en := v.en + 8 + 264 * l.length } (rs ++ [recL pg l]) (WN l pg W)) ∨
    (E = 42 ∧ sF.L = [] ∧ aF = v.a ∧ cF = v.c ∧ ∀ lv' av', PL k { v with s := sF, lv := lv', a := aF, c := cF, av := av' } rs W) ∨
    (E = 44 ∧ Crash k sF fun g => OKD (v.a + v.b + 1) k.nb k.sz g W ∨ OKD (v.a + v.b + 1) k.nb k.sz g (WN l pg W)) := by
  have hz4 := h.g.h4
  have hz2 := h.g.h2
  have hok := recOK_recL (N := k.nb - k.sz) hp hn (by omega)
  have hrl := recL_len pg l (fun n hn => (hp n hn).1)
  have hel : (encs [recL pg l]).length = 8 + (recL pg l).length := by rw [enc1, List.length_append, be8_len]
  have hs : v.s = ⟨v.s.fz, false, v.s.f, []⟩ := by rw [← h.dn, ← hL]
  have hg1 : Good k.nb k.rm v.s.fz v.s.f 0 k.sz v.a v.b v.c rs [recL pg l] := { h.g with fits := (by rw [hel]; exact hfit), rpe := (fun r hr => by rw [List.mem_singleton.1 hr]; exact hok.rng) }
  have hfar := sy_far (sz := k.sz) hL (by omega) (by rw [hel]; omega) (by rw [hel]; exact hfit) hr
  rw [hs] at hr
  have hgs := Good.sync hg1 (by simp) ha hr hLF hWF hFF
  have hrk2 : ∀ r ∈ rs ++ [recL pg l], RecOK (k.nb - k.sz) r := fun r hr => (List.mem_append.1 hr).elim (h.rk r) (fun h => by rw [List.mem_singleton.1 h]; exact hok)
  have hen := enF_encs rs 0 (fun r hr => (h.rk r hr).mod)
  rw [h.g.clen, Int.zero_add] at hen
  have hnum := numsOf_recL pg l (fun n hn => (hp n hn).1) (fun n hh => by have := hn n hh; omega)
  have hlg : rcL v.lg (v.en + 8) l = lgF (rs ++ [recL pg l]) [] 0 := by rw [lgF_snoc, hnum, hen, h.en, h.lg]
  have hw0 : ∀ n, 0 ≤ n → n < k.nb - k.sz → stoF k.sz v.s.f (lgF rs [] 0) n = W n := fun n h0 h1 => by rw [← h.lg]; exact h.w n h0 h1
  have hwn : ∀ g : Int → List Int, (∀ n, (g n).length = 256) → areaB g (0 + 2) (v.c + (8 + (recL pg l).length)) = encs (rs ++ [recL pg l]) → (∀ m, k.sz ≤ m → g m = v.s.f m) → ∀ n, 0 ≤ n → n < k.nb - k.sz → stoF k.sz g (lgF (rs ++ [recL pg l]) [] 0) n = WN l pg W n :=
    fun g hgl hga hgf => stoF_add (nb := k.nb) h.g.fl hgl h.rk h.g.area hga hgf (fun n hn => (hp n hn).1) (fun n hh => by have := hn n hh; omega) hd hw0
  rcases hgs with ⟨e0, e1, e2, e3, e4, e5⟩ | ⟨e0, e1, e2, e3, e4, e5⟩ | ⟨e0, e1, e2, e3⟩
  · rw [hel] at e4 e5
    refine .inl ⟨e0, e2, e3, e4, fun lv' av' => ?_⟩
    exact { dn := e1, g := (by show Good _ _ sF.fz sF.f _ _ aF _ cF _ _; rw [e3, e4]; exact e5), pe := h.pe, en := (by show v.en + 8 + 264 * (l.length : Int) = (cF : Nat); rw [e4, h.en]; push_cast; omega), lg := hlg, rk := hrk2
            w := (fun n h0 h1 => by
              show stoF k.sz sF.f (rcL v.lg (v.en + 8) l) n = _
              rw [hlg]
              exact hwn sF.f hFF e5.area (fun m hm => (hfar m hm).1) n h0 h1) }
  · refine .inr (.inl ⟨e0, e2, e4, e5, fun lv' av' => ?_⟩)
    exact { dn := e1, g := (by show Good _ _ sF.fz sF.f _ _ aF _ cF _ _; rw [e3, e4, e5]; exact h.g.other _ _), pe := h.pe, en := (by show v.en = (cF : Nat); rw [e5]; exact h.en), lg := h.lg, rk := h.rk, w := (fun n h0 h1 => by
      show stoF k.sz sF.f v.lg n = W n
      rw [e3]
      exact h.w n h0 h1) }
  · rw [hel] at e3
    refine .inr (.inr ⟨e0, e1, e2, fun ks t => ?_⟩)
    obtain ⟨u1, u2⟩ := e3 ks t
    have hul := fun n => upF_lenW hFF hWF ks t n
    rcases Good.up3 (nb := k.nb) (rm := k.rm) (fz := v.s.fz) h.g u1 u2 hul ha h.g.hb hfit (fun r hr => (hrk2 r hr).rng) 0 0 with g1 | g1
    · refine .inl ⟨_, _, _, rs, ⟨by omega, by omega⟩, g1, h.rk, fun n h0 h1 => ?_⟩
      rw [← hw0 n h0 h1]
      exact stoF_old (nb := k.nb) h.g.fl hul h.rk h.g.area g1.area (fun m hm => (hfar m hm).2 ks t) n h0
    · exact .inr ⟨_, _, _, _, ⟨by omega, by omega⟩, g1, hrk2, hwn _ hul g1.area (fun m hm => (hfar m hm).2 ks t)⟩
end
end Go.Proofs.YtdkjkibdncbibaaGreat
/- a record appended, on any disk -/
namespace Go.Proofs.YtdkjkibdncbibaaGreat
open Go.RowKit
open Go.Lib (hid)
section
variable {k : PK} {v : PV} {w : World} {rs : List (List Int)} {W : Int → List Int}
theorem PL.fits (h : PL k v rs W) : (v.c : Int) ≤ (k.sz - 2) * 256 := by
 have h2 := h.g.fits
 rw [show encs ([] : List (List Int)) = [] from rfl, List.length_nil] at h2
 omega
theorem PL.as (h : PL k v rs W) {v' : PV} (h1 : v'.s = v.s) (h2 : v'.a = v.a) (h3 : v'.b = v.b) (h4 : v'.c = v.c) (h5 : v'.pe = v.pe) (h6 : v'.en = v.en) (h7 : v'.lg = v.lg) : PL k v' rs W :=
 { dn := (by rw [h1]; exact h.dn), g := (by rw [h1, h2, h3, h4]; exact h.g), pe := (by rw [h5]; exact h.pe), en := (by rw [h6, h4]; exact h.en), lg := (by rw [h7]; exact h.lg), rk := h.rk, w := (by rw [h1, h7]; exact h.w) }
/-- the log's Append, told by the pager's state -/
theorem append_page2 (h : PgS k v w) (hj : PJ k v) (hg : PL k v rs W) (rv : Value) (m : List Int) (hbs : Bs w rv m) (hap : ∀ ad n c, rv = .slice (some ad) n c → ¬ PF k v ad.block) (hm : m.length ≤ 16777216) :
  Calls Tryz.prog 100 #[.pointer (some ⟨k.Pl, 0, none⟩), rv] w fun e w' =>
   (8 + (m.length : Int) ≤ (k.sz - 2) * 256 - v.c ∧ e = .returned (.int .i64 0) ∧ ∃ lv' av', PE k v w { v with lv := lv', av := av', pe := [m] } w') ∨
   (¬ (8 + (m.length : Int) ≤ (k.sz - 2) * 256 - v.c) ∧ e = .returned (.int .i64 42) ∧ ∃ lv' av', PE k v w { v with lv := lv', av := av' } w') := by
 have hl := h.ls
 rw [hg.pe] at hl
 have hfit := hg.fits
 have hz3 := hj.z3
 have hz2 := hj.z2
 refine (hl.append rv m hbs (fun ad n c e _ hav => hap ad n c e (.inl (.inr (.inr hav)))) hj.z1 (by omega) (by omega) (by simp [encs]) hm).mono ?_
 have hfe : fitsL k.sz v.c (encs ([] : List (List Int))).length m.length = decide (8 + (m.length : Int) ≤ (k.sz - 2) * 256 - v.c) := by
  unfold fitsL
  simp [encs]
 rw [hfe]
 by_cases hf : 8 + (m.length : Int) ≤ (k.sz - 2) * 256 - v.c
 ·rw [if_pos (decide_eq_true hf), if_pos (decide_eq_true hf)]
  rintro e w' ⟨rfl, lv', av', hls, hc, hft⟩
  exact .inl ⟨hf, rfl, lv', av', h.relog (s' := v.s) (lv' := lv') (a' := v.a) (b' := v.b) (c' := v.c) (av' := av') (pe' := [m]) hls hc hft⟩
 ·rw [if_neg (by simpa using hf), if_neg (by simpa using hf)]
  rintro e w' ⟨rfl, lv', av', hls, hc, hft⟩
  refine .inr ⟨hf, rfl, lv', av', ?_⟩
  exact h.relog (s' := v.s) (lv' := lv') (a' := v.a) (b' := v.b) (c' := v.c) (av' := av') (pe' := v.pe) (by rw [hg.pe]; exact hls) hc hft
end
theorem SameM.trans {a b c : PV} (h : SameM a b) (g : SameM b c) : SameM a c := ⟨g.h0.trans h.h0, g.h1.trans h.h1, g.ca.trans h.ca, g.od.trans h.od, g.ch.trans h.ch⟩
/-- a pager's shape, by what is held in memory and what the disk tells -/
theorem PJ.re {k : PK} {v v' : PV} (h : PJ k v) (hm : SameM v v') (hl : ∀ n x, gl v'.lg n = some x → 0 ≤ x ∧ x + 256 ≤ (k.sz - 2) * 256) (fl : ∀ n, (v'.s.f n).length = 256) (fr : ∀ n, Rng (v'.s.f n)) : PJ k v' :=
  { z1 := h.z1, z2 := h.z2, z3 := h.z3, m0 := h.m0, lgr := hl, ci := (by rw [hm.ca, hm.od]; exact h.ci), chl := (by rw [hm.ch]; exact h.chl), chn := (by rw [hm.ch]; exact h.chn), chr := (by rw [hm.ch]; exact h.chr), fl := fl, fr := fr
    b0 := (by rw [hm.h0]; exact h.b0), b1 := (by rw [hm.h1]; exact h.b1), u0 := (by rw [hm.h0]; exact h.u0), u1 := (by rw [hm.h1]; exact h.u1), l0 := (by rw [hm.h0]; exact h.l0), l1 := (by rw [hm.h1]; exact h.l1) }
def Calm2 (k : PK) (v : PV) : Prop := v.s.fz = -1 ∧ k.nb ≤ k.rm
def Ar2 (k : PK) (v : PV) (W : Int → List Int) (m : List Int) (w : World) (e : Ending) (w' : World) : Prop :=
 ∃ E v', e = .returned (.int .i64 E) ∧ PE k v w v' w' ∧ SameM v v' ∧ v'.a ≤ v.a + 1 ∧ v'.b ≤ v.b + 1 ∧
  ((E = 0 ∧ v'.pe = [m] ∧ (∃ rs2, PL k { v' with pe := [] } rs2 W) ∧ v'.s.L = [] ∧ ((v'.c + (8 + m.length) : Nat) : Int) ≤ (k.sz - 2) * 256 ∧ v'.c = (if ((v.c + (8 + m.length) : Nat) : Int) ≤ (k.sz - 2) * 256 then v.c else 0)) ∨
   (E = 42 ∧ (∃ rs2, PL k v' rs2 W) ∧ (k.nb ≤ k.rm → v'.c = 0 ∧ v'.s.L = [] ∧ ¬ (8 + (m.length : Int) ≤ (k.sz - 2) * 256))) ∨
   (E = 44 ∧ Crash k v'.s fun g => OKD (v.a + v.b + 1) k.nb k.sz g W)) ∧ (Calm2 k v → E ≠ 44 ∧ v'.s.fz = -1)
set_option maxRecDepth 100000 in
set_option maxHeartbeats 8000000 in
theorem appendRec2 (k : PK) (v : PV) (rs : List (List Int)) (W : Int → List Int) (rv : Value) (m : List Int) (w : World) (h : PgS k v w) (hj : PJ k v) (hg : PL k v rs W) (hL0 : v.s.L = []) (hW : ∀ n, (W n).length = 256 ∧ Rng (W n)) (ha : v.a + 1 < 1099511627776) (hb : v.b + 1 < 1099511627776) (hbs : Bs w rv m) (hap : ∀ ad n c, rv = .slice (some ad) n c → ¬ PF k v ad.block) (hm : m.length ≤ 16777216) (hm0 : 0 < m.length) :
  Calls Tryz.prog 84 #[.pointer (some ⟨k.P, 0, none⟩), rv] w (Ar2 k v W m w) := by
 have H := hid h
 have HJ := hid hj
 have HG := hid hg
 have HL0 := hid hL0
 have HWB := hid hW
 have HAB := hid (And.intro ha hb)
 have HBS := hid hbs
 have HAP := hid hap
 have HM := hid hm
 have p0 := (cell_of_row w k.P 0 _ _ _ h.box).trans (PC_lo 0 (by decide))
 have HA1 := hid (append_page2 h hj hg rv m hbs hap hm)
 obtain ⟨ra, rc, hrv⟩ : ∃ ra rc, rv = .slice ra m.length rc := by
  obtain ⟨a, c, e, _⟩ := hbs
  exact ⟨a, c, e⟩
 clear h hj hg ha hb hbs hap hm hL0 hW
 subst hrv
 go_enter Tryz.func84, Tryz.ntmps84
 go_wp2_with fail
 refine HA1.out.mono ?_
 rintro e w1 (⟨hf, rfl, lv1, av1, hpe⟩ | ⟨hf, rfl, lv1, av1, hpe⟩)
 ·have HPE := hid hpe
  have HF := hid hf
  clear hpe hf
  go_wp2_with fail
  go_ret
  have hfi : ((v.c + (8 + m.length) : Nat) : Int) ≤ (k.sz - 2) * 256 := by have := HF.out; omega
  refine ⟨0, _, rfl, HPE.out, ⟨rfl, rfl, rfl, rfl, rfl⟩, by show v.a ≤ v.a + 1; omega, by show v.b ≤ v.b + 1; omega, .inl ⟨rfl, rfl, ⟨rs, HG.out.as rfl rfl rfl rfl HG.out.pe.symm rfl rfl⟩, HL0.out, hfi, (if_pos hfi).symm⟩, fun hc => ⟨by decide, hc.1⟩⟩
 ·have h1 := hpe.1
  have hj1 : PJ k { v with lv := lv1, av := av1 } := HJ.out.disk (s' := v.s) HJ.out.fl HJ.out.fr lv1 av1 v.a v.b v.c v.pe
  have hg1 : PL k { v with lv := lv1, av := av1 } rs W := HG.out.as rfl rfl rfl rfl rfl rfl rfl
  have HCK := hid (checkpoint2 k _ rs W w1 h1 hj1 hg1 HL0.out HWB.out HAB.out.1 HAB.out.2)
  have HPE := hid hpe
  have HF := hid hf
  clear hpe hf h1 hj1 hg1
  go_wp2_with fail
  refine HCK.out.mono ?_
  rintro e w2 ⟨E, v2, rfl, hpe2, hsm2, hck, hcm⟩
  have hp2 := PE.trans HPE.out hpe2
  have hsm : SameM v v2 := ⟨hsm2.h0, hsm2.h1, hsm2.ca, hsm2.od, hsm2.ch⟩
  have HP2 := hid hp2
  have HSM := hid hsm
  have HCM := hid hcm
  have HNF := hid (show ¬ ((v.c + (8 + m.length) : Nat) : Int) ≤ (k.sz - 2) * 256 by have := HF.out; omega)
  rcases hck with ⟨rfl, hpl, hl2, ha2, hb2, hc2⟩ | ⟨rfl, hpl, ha2, hb2, hc2⟩ | ⟨rfl, ha2, hb2, hcr⟩
  ·have hj2 : PJ k v2 := HJ.out.re hsm hpl.lgr hpl.g.fl hpl.g.rng
   have hbs2 : Bs w2 (.slice ra m.length rc) m := HBS.out.chg hp2.2.1 (fun ad n c e _ => HAP.out ad n c e)
   have hap2 : ∀ ad n c, (Value.slice ra m.length rc) = .slice (some ad) n c → ¬ PF k v2 ad.block := by
    intro ad n c e hp
    rcases hp2.2.2 _ hp with h3 | h3
    ·exact HAP.out ad n c e h3
    ·obtain ⟨a0, c0, e0, hc0, hx0⟩ := HBS.out
     rw [e] at e0
     injection e0 with e1 e2 e3
     obtain ⟨b0, o0, e4, hlt, _⟩ := hx0 hm0
     rw [← e1] at e4
     injection e4 with e4
     rw [e4] at h3
     have h3' : w.heap.size ≤ b0 := h3
     omega
   have HG2 := hid hpl
   have HL2 := hid hl2
   have HA := hid (show v2.a = v.a + 1 ∧ v2.b = v.b + 1 ∧ v2.c = 0 from ⟨ha2, hb2, hc2⟩)
   have HA2 := hid (append_page2 hp2.1 hj2 hpl (.slice ra m.length rc) m hbs2 hap2 HM.out)
   have p0' := (cell_of_row w2 k.P 0 _ _ _ hp2.1.box).trans (PC_lo 0 (by decide))
   clear hpe2 hp2 hj2 hbs2 hap2 HCK hpl hl2 ha2 hb2 hc2 hsm hsm2 hcm
   go_wp2_with fail
   refine HA2.out.mono ?_
   rintro e w3 (⟨hf, rfl, lv3, av3, hpe⟩ | ⟨hf, rfl, lv3, av3, hpe⟩)
   ·have HP3 := hid (PE.trans HP2.out hpe)
    have HF2 := hid hf
    clear hpe hf
    go_wp2_with fail
    go_ret
    have hA := HA.out
    have hS := HSM.out
    refine ⟨0, _, rfl, HP3.out, ⟨hS.h0, hS.h1, hS.ca, hS.od, hS.ch⟩, by show v2.a ≤ _; omega, by show v2.b ≤ _; omega, .inl ⟨rfl, rfl, ⟨[], HG2.out.as rfl rfl rfl rfl HG2.out.pe.symm rfl rfl⟩, HL2.out, by show ((v2.c + (8 + m.length) : Nat) : Int) ≤ _; have := HF2.out; omega, by show v2.c = _; rw [if_neg (by have := HNF.out; omega)]; exact hA.2.2⟩, fun hc => ⟨by decide, ((HCM.out hc.2).2 hc.1).2⟩⟩
   ·have HP3 := hid (PE.trans HP2.out hpe)
    have HF2 := hid (show ¬ (8 + (m.length : Int) ≤ (k.sz - 2) * 256) by
     have hA := HA.out.2.2
     rw [hA] at hf
     intro h9
     first | exact hf (by omega) | (have h10 : (k.sz - 2) * 256 - ((0 : Nat) : Int) < 8 + (m.length : Int) := hf; omega))
    clear hpe hf
    go_wp2_with fail
    go_ret
    have hA := HA.out
    have hS := HSM.out
    exact ⟨42, _, rfl, HP3.out, ⟨hS.h0, hS.h1, hS.ca, hS.od, hS.ch⟩, by show v2.a ≤ _; omega, by show v2.b ≤ _; omega, .inr (.inl ⟨rfl, ⟨[], HG2.out.as rfl rfl rfl rfl rfl rfl rfl⟩, fun _ => ⟨hA.2.2, HL2.out, by have := HF2.out; omega⟩⟩), fun hc => ⟨by decide, ((HCM.out hc.2).2 hc.1).2⟩⟩
  ·have HG2 := hid hpl
   have HA := hid (show v2.a = v.a ∧ v2.b = v.b from ⟨ha2, hb2⟩)
   clear hpe2 hp2 HCK hpl ha2 hb2 hc2 hsm hsm2 hcm
   go_wp2_with fail
   go_ret
   have hA := HA.out
   exact ⟨42, _, rfl, HP2.out, HSM.out, by omega, by omega, .inr (.inl ⟨rfl, ⟨rs, HG2.out⟩, fun hr => absurd rfl (HCM.out hr).1⟩), fun hc => absurd ((HCM.out hc.2).2 hc.1).1 (by decide)⟩
  ·have HCR := hid hcr
   have HA := hid (show v2.a = v.a ∧ v2.b = v.b from ⟨ha2, hb2⟩)
   clear ha2 hb2
   clear hpe2 hp2 HCK hcr hsm hsm2 hcm
   go_wp2_with fail
   go_ret
   have hA := HA.out
   exact ⟨44, _, rfl, HP2.out, HSM.out, by omega, by omega, .inr (.inr ⟨rfl, HCR.out⟩), fun hc => absurd ((HCM.out hc.2).2 hc.1).1 (by decide)⟩
end Go.Proofs.YtdkjkibdncbibaaGreat
