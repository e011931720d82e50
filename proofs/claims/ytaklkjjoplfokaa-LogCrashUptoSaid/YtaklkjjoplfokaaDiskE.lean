import Derived.Test.YtaklkjjoplfokaaDiskD
import Derived.WalkKit
import Derived.ProofKit
import Derived.BigQuiet
import Derived.Deep.QuietTactic
import Derived.WalkSpells
import Derived.WalkLawsBesides
import Derived.Lib.Hide
import Derived.Deep.MidRow
import Derived.Deep.RegionLaw
import Derived.BigRegion
import Derived.Laws.AppendOwnNone
import Derived.Deep.DeepMust
import Derived.Deep.AppendLies
import Derived.RegionTactic
import Derived.Deep.WholeRow
import Derived.BigFrame
import Derived.Deep.RegionWith
import Derived.Deep.RegionHeld3
import Derived.Maps.RangeWalk
import Derived.Laws.CopyOwn
import Derived.StillTailTactics
namespace Go.Proofs.Ytaklkjjoplfokaa
open Go.RowKit
theorem DC_size (nb rm fz : Int) (dn : Bool) (m lv : Value) : (DC nb rm fz dn m lv).size = 6 := rfl
theorem DC_one (nb rm fz : Int) (dn : Bool) (m : Option Nat) (a : Option Addr) (n c : Nat) : (DC nb rm fz dn (.map m) (.slice a n c)).all (·.oneCell') = true := by simp [DC, Value.oneCell']
theorem exec_len_map {ρ : Operand → Value} {o : Oper} {w : World} (x : Operand) (ho : o.op = Op.call { callee := Callee.builtin Builtin.len, args := #[x], argTypes := #[90] }) (M : Nat) (hx : ρ x = .map (some M)) (es : Array MapEntry) (c : Nat) (h : w.heap[M]? = some (.map es c)) :
    (execOp ρ o).run Try.prog w = .ok (.value (goInt es.size)) w := by
  unfold execOp
  simp [ho, hx, resolve, invoke, builtin, Builtin.len_, run_underlying Try.underlying90, getObj, Sem.run, h, Result.andThen]
theorem exec_mkmap {ρ : Operand → Value} {o : Oper} {w : World} (x : Operand) (ho : o.op = .makeMap 90 (some x)) (n : Int) (hx : ρ x = .int .i64 n) :
    (execOp ρ o).run Try.prog w = .ok (.value (.map (some w.heap.size))) (w.alloc (.map #[] 0)) := by
  unfold execOp
  have h : (Instr.makeMap 90 (some (.int .i64 n))).run Try.prog w = .ok (.map (some w.heap.size)) (w.alloc (.map #[] 0)) := by kernel_rfl
  simp [ho, hx, h, Result.andThen]
theorem exec_range {ρ : Operand → Value} {o : Oper} {w w' : World} {v : Value} (x : Operand) (ho : o.op = .range 90 x) (M : Nat) (hx : ρ x = .map (some M)) (h : (Instr.range 90 (.map (some M))).run Try.prog w = .ok v w') :
    (execOp ρ o).run Try.prog w = .ok (.value v) w' := by
  unfold execOp
  simp [ho, hx, h, Result.andThen]
theorem exec_next {ρ : Operand → Value} {o : Oper} {w w' : World} {v : Value} (x : Operand) (ho : o.op = .next x false) (it : Value) (hx : ρ x = it) (h : (Instr.next it false o.type).run Try.prog w = .ok v w') :
    (execOp ρ o).run Try.prog w = .ok (.value v) w' := by
  unfold execOp
  simp [ho, hx, h, Result.andThen]
theorem exec_entry {ρ : Operand → Value} {o : Oper} {w w' : World} {v : Value} (x : Operand) (ho : o.op = .entry x) (it : Value) (hx : ρ x = it) (h : (Instr.entry it).run Try.prog w = .ok v w') :
    (execOp ρ o).run Try.prog w = .ok (.value v) w' := by
  unfold execOp
  simp [ho, hx, h, Result.andThen]
theorem exec_append {P : Program} {ρ : Operand → Value} {o : Oper} {w w' : World} {v : Value} (s x : Operand) (T : TypeId) (ho : o.op = Op.call { callee := Callee.builtin Builtin.append, args := #[s, x], argTypes := #[T, T] }) (v1 v2 : Value) (hs : ρ s = v1) (hx : ρ x = v2) (h : (Builtin.append_ #[T, T] o.type #[v1, v2]).run P w = .ok v w') :
    (execOp ρ o).run P w = .ok (.value v) w' := by
  unfold execOp
  simp [ho, resolve, invoke, builtin, hs, hx, h, Result.andThen]
theorem wpList_of_skip {P : Program} {ops : Array Oper} {rest : List Oper} {o : Oper} {a : Act} {w w' : World} {Q : Exit → Act → World → Prop} (hg : o.guard = none) (hr : (execOp a.eval o).run P w = .ok .skip w') (h : wpList P ops Q rest (a.put o.dst undef) w') : wpList P ops Q (o :: rest) a w :=
  wpList_plain hg fun K hK => by
    unfold Oper.wp
    simp [hr]
    exact hK _ _ h
theorem run_append_copy (u : World) (ty : TypeId) (B : Nat) (lv : Value) (L : List WR) (h : LooseIs u B lv L) (hw : WOK L) (hL : L.length ≤ 268435456) :
    ∃ v' w', (Builtin.append_ #[91, 91] ty #[.slice none 0 0, lv]).run Try.prog u = .ok v' w' ∧ LooseIs w' u.heap.size v' L ∧ u.grownBy w' none := by
  obtain ⟨i, z, hi, hz, hzs, hsz, hby⟩ := info_wr_parts
  rcases h.2 with ⟨rfl, h0⟩ | ⟨g, cap, cur, rfl, hb, hg, hrest⟩
  · obtain rfl : L = [] := List.eq_nil_of_length_eq_zero h0
    have hn : u.ownsRow u.heap.size 96 513 (.slice none 0 0) 0 [] := World.ownsRow_nil _ _ _ _
    exact ⟨_, _, run_append_owned_none (P := Try.prog) (w := u) u.heap.size 91 ty 96 i 513 Try.underlying91 hi _ 0 [] hn, hn, World.grownBy.refl _ _⟩
  · have hn : u.ownsRow u.heap.size 96 513 (.slice none 0 0) 0 [] := World.ownsRow_nil _ _ _ _
    have h1 : ∀ v ∈ flatL L, v.oneCell' = true := fun v hv => by
      obtain ⟨x, _, hx⟩ := List.mem_flatMap.1 hv
      exact wrL_one _ _ _ v hx
    obtain ⟨v', w', hr, h2, h3, _⟩ := run_append_own (P := Try.prog) u u.heap.size 91 ty 96 i z 513 520 Try.underlying91 hi hz hsz hby hzs (by decide) (.slice none 0 0) 0 [] hn ⟨g, 0, none⟩ L.length cap (flatL L) h.1 (h.cells (g := g) rfl) h1 (by unfold maxLen; omega) (by omega) (Nat.le_refl _)
    rw [Nat.zero_add, List.nil_append] at h2
    exact ⟨v', w', hr, h2, h3⟩
theorem MapIs.KN {w : World} {M : Nat} {kvs : List (Int × List Int)} (h : MapIs w M kvs) : KN kvs := by
  obtain ⟨es, c, _, hkv, hst⟩ := h
  have h1 : es.toList.map (·.key) = kvs.map (fun p => Value.int .i64 p.1) := by
    have := congrArg (List.map Prod.fst) hkv
    simpa [List.map_map, Function.comp_def] using this
  have h2 := hst.2.2
  rw [h1] at h2
  have h3 : kvs.map (fun p => Value.int .i64 p.1) = (kvs.map (·.1)).map (Value.int .i64) := by simp [List.map_map, Function.comp_def]
  rw [h3] at h2
  exact (List.pairwise_map.1 h2).imp (fun hne e => hne (by rw [e]))
def CopyEnds (nb rm fz : Int) (dn : Bool) (f : Int → List Int) (L : List WR) (w : World) (e : Ending) (w' : World) : Prop :=
  ∃ D' M' lv', e = .returned (.pointer (some ⟨D', 0, none⟩)) ∧ Dk w' w.heap.size D' M' nb rm fz dn f L lv' ∧ Below w.heap.size w w'
set_option maxRecDepth 100000 in
set_option maxHeartbeats 4000000 in
theorem copy_any (B D M : Nat) (nb rm fz : Int) (dn : Bool) (f : Int → List Int) (L : List WR) (lv : Value) (w : World) (h : Dk w B D M nb rm fz dn f L lv) (hL : L.length ≤ 268435456) :
    Calls Try.prog 14 #[.pointer (some ⟨D, 0, none⟩)] w (CopyEnds nb rm fz dn f L w) := by
  have HDK := Lib.hid h
  obtain ⟨hd, ⟨kvs, hm, hkn, hkf⟩, hlo, hBD, hBM, hfz, hfl, hLl⟩ := h
  obtain ⟨sa, sc, hlv⟩ := hlo.shape
  subst hlv
  have HD := Lib.hid hd
  have HM := Lib.hid hm
  have HLO := Lib.hid hlo
  have HKF := Lib.hid hkf
  have HFL := Lib.hid hfl
  have HLL := Lib.hid hLl
  have hDlt := hd.lt
  have hMlt := hm.lt
  have c4 : w.cell? ⟨D, 4, none⟩ = some (.map (some M)) := hd.cell 4
  obtain ⟨es, clock, hes, _⟩ := id hm
  have HES := Lib.hid hes
  clear hes
  have HI54 := Lib.hid (show (Try.prog.info? 93).map (·.size) = some 6 by kernel_rfl)
  clear hd hm hlo hkf hfl hLl
  go_enter Try.func14, Try.ntmps14
  go_wp2_with (first
    | (refine wpList_load_row rfl 93 (Operand.tmp 7) rfl D rfl 93 (DC nb rm fz dn (.map (some M)) (.slice sa L.length sc)) (0, 0) _ HD.out Try.underlying93 rfl (by rw [HI54.out]; rfl) ?_)
    | (refine wpList_store_new rfl 93 (Operand.tmp 3) (Operand.tmp 8) rfl w.heap.size (DC nb rm fz dn (.map (some M)) (.slice sa L.length sc)) rfl rfl rfl _ 93 (by rw [HI54.out]; rfl) rfl (DC_one _ _ _ _ _ _ _ _) ?_; intro w2 hd2 hb2 hs2; have HD2 := Lib.hid hd2; have HB2 := Lib.hid hb2; have HS2 := Lib.hid hs2; have c42 := (hb2.cell (p := ⟨D, 4, none⟩) hDlt).trans c4; clear hd2 hb2 hs2)
    | (refine wpList_of_run rfl (exec_len_map (Operand.tmp 12) rfl M rfl es clock ((HB2.out.block M hMlt).trans HES.out)) ?_)
    | (refine wpList_of_run rfl (exec_mkmap (Operand.tmp 13) rfl _ rfl) ?_
       have hM3 : (w2.alloc (.map #[] 0)).heap[w.heap.size + 1]? = some (.map #[] 0) := by rw [← HS2.out]; exact heap_alloc_new w2 _
       have hD3 : DiskIs (w2.alloc (.map #[] 0)) w.heap.size (DC nb rm fz dn (.map (some M)) (.slice sa L.length sc)) := (Below.heap_alloc w2 _ _ (by rw [HS2.out]; omega)).trans HD2.out
       have hs3 : (w2.alloc (.map #[] 0)).heap.size = w.heap.size + 2 := by simp [HS2.out]
       have hb3 : Below w.heap.size w (w2.alloc (.map #[] 0)) := HB2.out.alloc (by rw [HS2.out]; omega) _
       rw [HS2.out]
       clear c42
       generalize w2.alloc (.map #[] 0) = w3 at *
       have b4 : w3.cell? ⟨w.heap.size, 4, none⟩ = some (.map (some M)) := hD3.cell 4
       have fb4 := hD3.frozen 4
       have hD4 := hD3.set 4 (.map (some (w.heap.size + 1)))
       have hb4 : Below w.heap.size w (w3.setCell ⟨w.heap.size, 4, none⟩ (.map (some (w.heap.size + 1)))) := hb3.setCell (Nat.le_refl _) _
       have c44 := (hb4.cell (p := ⟨D, 4, none⟩) hDlt).trans c4
       have hM4 : (w3.setCell ⟨w.heap.size, 4, none⟩ (.map (some (w.heap.size + 1)))).heap[w.heap.size + 1]? = some (.map #[] 0) := (Below.heap_setCell _ _ _ _ (by simp)).trans hM3
       have hs4 : (w3.setCell ⟨w.heap.size, 4, none⟩ (.map (some (w.heap.size + 1)))).heap.size = w.heap.size + 2 := by simp [hs3]
       have HD4 := Lib.hid hD4
       have HB4 := Lib.hid hb4
       have HM4 := Lib.hid hM4
       have HS4 := Lib.hid hs4
       have HMM4 := Lib.hid (show MapIs (w3.setCell ⟨w.heap.size, 4, none⟩ (.map (some (w.heap.size + 1)))) M kvs from HM.out.of (hb4.block M hMlt))
       clear hM3 hD3 hs3 hb3 hD4 hb4 hM4 hs4)
    | (at_range
       obtain ⟨w5, hrun, ⟨cnt, hrg⟩, hb5⟩ := run_range_kv _ M kvs HMM4.out
       refine wpList_of_run rfl (exec_range (Operand.tmp 19) rfl M rfl hrun) ?_
       have HRG5 := Lib.hid hrg
       have HD5 := Lib.hid ((hb5.block w.heap.size (by rw [HS4.out]; omega)).trans HD4.out)
       have HM5 := Lib.hid ((hb5.block (w.heap.size + 1) (by rw [HS4.out]; omega)).trans HM4.out)
       have HB5 := Lib.hid (HB4.out.trans (hb5.mono (by rw [HS4.out]; omega)))
       have HS5 := Lib.hid hb5.size
       clear hrun hrg hb5))
  rw [HS4.out] at HRG5 HS5 ⊢
  go_frame
  clear b4 fb4 c44
  go_loopw [4] (fun _ wr => ∃ (done : Int → Bool) (cnt : Nat) (kc : List (Int × List Int)), Rng1 wr M (w.heap.size + 2) kvs done cnt ∧ MapIs wr (w.heap.size + 1) kc ∧ (∀ n, kget kc n = if done n = true then kget kvs n else zeros 256) ∧ DiskIs wr w.heap.size (DC nb rm fz dn (.map (some (w.heap.size + 1))) (.slice sa L.length sc)) ∧ Below w.heap.size w wr) (fun _ wr => wr.rangeLeft M (w.heap.size + 2))
  case atStart => exact ⟨_, _, [], HRG5.out, ⟨#[], 0, HM5.out, rfl, MapKept.stamped_empty 0⟩, fun n => by simp [kget, kidx], HD5.out, HB5.out⟩
  case round =>
    obtain ⟨done, cnt, kc, hrg, hmc, hkc, hdr, hbr⟩ := hrel
    have HRG := Lib.hid hrg
    have HMC := Lib.hid hmc
    have HKC := Lib.hid hkc
    have HDR := Lib.hid hdr
    have HBR := Lib.hid hbr
    rcases run_next_kv wr 0 M (w.heap.size + 2) kvs done cnt hrg with ⟨hall, hrun⟩ | ⟨p, hp, w6, cnt', hrun, hrg6, hlt6, hg6, hs6, hen⟩
    · have HALL := Lib.hid hall
      have HRUN := Lib.hid hrun
      have c5 : wr.cell? ⟨D, 5, none⟩ = some (.slice sa L.length sc) := (hbr.cell (p := ⟨D, 5, none⟩) hDlt).trans (HD.out.cell 5)
      have hlr : LooseIs wr B (.slice sa L.length sc) L := HLO.out.kept (fun k hk => hbr.block k (HLO.out.lt k hk).2)
      obtain ⟨v', w7, happ, hlo7, hg7⟩ := run_append_copy wr 91 B _ L hlr HLL.out hL
      obtain ⟨sa7, sc7, hv7⟩ := hlo7.shape
      generalize hLn : L.length = Ln at *
      subst hv7
      have hd7 : DiskIs w7 w.heap.size _ := (hg7.block w.heap.size hdr.lt (by simp)).trans hdr
      have c75 := hd7.cell 5
      have f75 := hd7.frozen 5
      have HAPP := Lib.hid happ
      have HLO7 := Lib.hid hlo7
      have HG7 := Lib.hid hg7
      have HD7 := Lib.hid hd7
      have HLN := Lib.hid hLn
      clear hall hrun hlr happ hlo7 hg7 hd7 hrg hmc hkc hdr hbr hLn
      go_wp2_with (first
        | (at_next; refine wpList_of_run rfl (exec_next (Operand.tmp 20) rfl _ rfl HRUN.out) ?_)
        | (at_builtin; refine wpList_of_run rfl (exec_append (Operand.const (Value.slice none 0 0)) (Operand.tmp 33) 91 rfl _ _ rfl rfl HAPP.out) ?_))
      go_ret
      have hne : w.heap.size + 1 ≠ w.heap.size := by omega
      have hb7 : Below w.heap.size w w7 := HBR.out.grown HG7.out HBR.out.size (fun k hk => by cases hk)
      refine ⟨w.heap.size, w.heap.size + 1, .slice sa7 Ln sc7, rfl, ⟨HD7.out.set 5 _, ⟨kc, ?_, HMC.out.KN, fun n => ?_⟩, ?_, Nat.le_refl _, by omega, hfz, HFL.out, HLL.out⟩, hb7.setCell (Nat.le_refl _) _⟩
      · exact HMC.out.of ((Below.heap_setCell _ _ _ _ hne).trans (HG7.out.block _ HMC.out.lt (by simp)))
      · rw [HKC.out n, ← HKF.out n]
        by_cases hn : n ∈ kvs.map (·.1)
        · obtain ⟨p, hp, rfl⟩ := List.mem_map.1 hn
          rw [if_pos (HALL.out p hp)]
        · rw [kget_not_mem hn]
          split <;> rfl
      · have hl8 : LooseIs (w7.setCell ⟨w.heap.size, 5, none⟩ (.slice sa7 Ln sc7)) wr.heap.size (.slice sa7 Ln sc7) L := HLO7.out.kept (fun k hk => Below.heap_setCell _ _ _ _ (fun e => by
          have e : k = w.heap.size := e
          have h1 := (HLO7.out.lt k hk).1
          have := HDR.out.lt
          omega))
        refine ⟨hl8.1, ?_⟩
        rcases hl8.2 with h | ⟨g, cap, cur, e1, h1, h2⟩
        · exact .inl h
        · exact .inr ⟨g, cap, cur, e1, by have := HBR.out.size; omega, h2⟩
    · have HP := Lib.hid hp
      have HRUN := Lib.hid hrun
      have HRG6 := Lib.hid hrg6
      have HLT := Lib.hid hlt6
      have HG6 := Lib.hid hg6
      have HS6 := Lib.hid hs6
      have HEN := Lib.hid hen
      have hpl : p.2.length = 256 := by
        have h1 := kget_of_mem hkn hp
        rw [← h1, HKF.out]
        exact HFL.out _
      have HPL := Lib.hid hpl
      have SP := Lib.hid (show (ArrU8 p.2).size = 256 by rw [ArrU8_size, hpl])
      have SZ := Lib.hid (show (ArrU8 (zeros 256)).size = 256 by rw [ArrU8_size, zeros, List.length_replicate])
      have HI35 := Lib.hid (show (Try.prog.info? 35).map (·.size) = some 256 by kernel_rfl)
      have hz := zero35
      clear hp hrun hrg6 hlt6 hg6 hs6 hen hpl hrg hmc hkc hdr hbr
      go_wp2_with (first
        | (at_next; refine wpList_of_run rfl (exec_next (Operand.tmp 20) rfl _ rfl HRUN.out) ?_)
        | (refine wpList_of_run rfl (exec_entry (Operand.tmp 20) rfl _ rfl HEN.out) ?_)
        | (refine wpList_store_new rfl 35 (Operand.tmp 5) (Operand.tmp 25) rfl w6.heap.size (ArrU8 p.2) rfl rfl rfl _ 35 (by rw [HI35.out, SP.out]) (by rw [SZ.out, SP.out]) (ArrU8_one _) ?_; intro w8 hd8 hb8 hs8; have HD8 := Lib.hid hd8; have HB8 := Lib.hid hb8; have HS8 := Lib.hid hs8; have hx8 : DiskIs w8 w.heap.size _ := (hb8.block w.heap.size (by rw [HS6.out]; exact HDR.out.lt)).trans ((HG6.out.block w.heap.size HDR.out.lt (by intro e; injection e with e; omega)).trans HDR.out); have HX8 := Lib.hid hx8; have c84 : w8.cell? ⟨w.heap.size, 4, none⟩ = some (.map (some (w.heap.size + 1))) := hx8.cell 4; clear hd8 hb8 hs8 hx8)
        | (refine wpList_load_row rfl 35 (Operand.tmp 5) rfl w6.heap.size rfl 35 (ArrU8 p.2) (0, 0) _ HD8.out Try.underlying35 rfl (by rw [HI35.out, SP.out]) ?_)
        | (at_mapUpdate
           obtain ⟨w9, hrun9, hm9, hg9, hs9⟩ := run_update_kv w8 (w.heap.size + 1) p.1 p.2 kc (HMC.out.of ((HB8.out.block _ (by rw [HS6.out]; exact HMC.out.lt)).trans (HG6.out.block _ HMC.out.lt (by intro e; injection e with e; omega))))
           refine wpList_of_skip rfl (exec_update (Operand.tmp 27) (Operand.tmp 28) (Operand.tmp 29) rfl _ _ _ rfl rfl rfl hrun9) ?_
           have HM9 := Lib.hid hm9
           have HG9 := Lib.hid hg9
           clear hrun9 hm9 hg9 hs9))
      go_frame
      go_roundw
      case rel =>
        have hMr := HRG.out.lt
        have hsz := HBR.out.size
        refine ⟨fun n => done n || n == p.1, cnt', kput kc p.1 p.2, HRG6.out.kept ?_ ?_, HM9.out, fun n => ?_, ?_, ?_⟩
        · exact (HG9.out.block M (by have := HB8.out.size; have := HRG6.out.lt; omega) (by intro e; injection e with e; omega)).trans (HB8.out.block M HRG6.out.lt.2.1)
        · exact (HG9.out.block _ (by have := HB8.out.size; have := HRG6.out.lt; omega) (by intro e; injection e with e; omega)).trans (HB8.out.block _ HRG6.out.lt.1)
        · rw [kget_kput, HKC.out n]
          by_cases hn : n = p.1
          · rw [if_pos hn, if_pos (by simp [hn]), hn, kget_of_mem hkn HP.out]
          · rw [if_neg hn]
            have : (n == p.1) = false := by simp [hn]
            simp [this]
        · exact (HG9.out.block _ HX8.out.lt (by intro e; injection e with e; omega)).trans HX8.out
        · exact ((HBR.out.grown HG6.out (by omega) (fun k hk => by injection hk with hk; omega)).trans (HB8.out.mono (by rw [HS6.out]; omega))).grown HG9.out (by have := HB8.out.size; rw [HS6.out] at this; omega) (fun k hk => by injection hk with hk; omega)
      case measure =>
        rw [HRG.out.left]
        refine Nat.lt_of_le_of_lt (Nat.le_of_eq ?_) HLT.out
        exact Rng1.left (kvs := kvs) (done := fun n => done n || n == p.1) (HRG6.out.kept ((HG9.out.block M (by have := HB8.out.size; have := HRG6.out.lt; omega) (by intro e; injection e with e; have := HRG.out.lt; omega)).trans (HB8.out.block M HRG6.out.lt.2.1)) ((HG9.out.block _ (by have := HB8.out.size; have := HRG6.out.lt; omega) (by intro e; injection e with e; omega)).trans (HB8.out.block _ HRG6.out.lt.1)))
end Go.Proofs.Ytaklkjjoplfokaa
