/- a page with a header's numbers at its beginning -/
import Derived.Test.YtdkjkibdncbibaaGreatCm07
import Derived.ArgAppend
namespace Go.Proofs.YtdkjkibdncbibaaGreat
open Go.RowKit
open Go.Lib (hid)
def ovL (ns : List Nat) (l : List Int) (i : Nat) : List Int := (ns.take i).flatMap be8 ++ l.drop (8 * i)
def ovB (ns : List Nat) (l : List Int) : List Int := ovL ns l 18
theorem ovL_len (ns : List Nat) (l : List Int) (i : Nat) (hn : ns.length = 18) (hl : l.length = 256) (hi : i ≤ 18) : (ovL ns l i).length = 256 := by
 have h1 : ((ns.take i).flatMap be8).length = 8 * i := by rw [flat8_len, List.length_take]; omega
 rw [ovL, List.length_append, h1, List.length_drop]; omega
theorem ovL_put (ns : List Nat) (l : List Int) (i : Nat) (hn : ns.length = 18) (hi : i < 18) : putL (ovL ns l i) (8 * i) (be8 (ns[i]'(by omega))) = ovL ns l (i + 1) := by
 have h1 : ((ns.take i).flatMap be8).length = 8 * i := by rw [flat8_len, List.length_take]; omega
 unfold putL ovL
 rw [be8_len, List.take_append_of_le_length (by omega), List.take_of_length_le (by omega), List.drop_append, h1, List.drop_eq_nil_of_le (by omega), List.nil_append, List.drop_drop]
 rw [← List.take_append_getElem (show i < ns.length by omega), List.flatMap_append]
 simp only [List.flatMap_cons, List.flatMap_nil, List.append_nil]
 congr 2
 omega
theorem ovL_rng (ns : List Nat) (l : List Int) (i : Nat) (hr : Rng l) : Rng (ovL ns l i) := by
 unfold ovL
 refine rng_append ?_ (hr.drop _)
 intro x hx
 obtain ⟨n, _, h⟩ := List.mem_flatMap.1 hx
 exact be8_rng n x h
theorem rangeHA {w : World} {b : Nat} {C : List Value} {t : TypeId} {fr : Nat × Nat} (hb : w.heap[b]? = some (.cells C.toArray t fr)) (o : Nat) (cs : List Value) (hc : (C.drop o).take cs.length = cs) : w.rangeAt b o cs := fun j v hv => by
 rw [cell_of_row _ _ _ _ _ _ hb]
 have h1 : cs[j]? = some v := hv
 rw [← hc, List.getElem?_take] at h1
 split at h1
 ·rw [List.getElem?_drop] at h1
  simpa using h1
 ·cases h1
theorem idxHA (w : World) (ns : List Nat) (i : Nat) (hn : ns.length = 16) (hi : i < 16) : (Instr.index 66 (.agg (HA ns)) (.int .i64 (i : Int))).run Tryz.prog w = .ok (.int .u64 ((ns[i]'(by omega) : Nat) : Int)) w := by
 have hu : Tryz.prog.underlying 66 = some (.array 16 60) := by kernel_rfl
 have hs : (sizeOf 60).run Tryz.prog w = .ok 1 w := by kernel_rfl
 have hp : (part 60 (HA ns) i).run Tryz.prog w = .ok (.int .u64 ((ns[i]'(by omega) : Nat) : Int)) w := by
  have ha : (isAgg 60).run Tryz.prog w = .ok false w := by kernel_rfl
  have hc := HA_at ns i (by omega)
  unfold part
  simp only [Sem.run_bind, ha, Result.andThen_ok, hc]
  rfl
 unfold Instr.index
 simp only [asIntOf, Sem.run_bind, Sem.run_pure, Result.andThen_ok, run_underlying hu]
 rw [if_pos (by omega)]
 simp only [Sem.run_bind, hs, Result.andThen_ok, Int.toNat_natCast, Nat.mul_one, hp]
set_option maxRecDepth 100000 in
set_option maxHeartbeats 2000000 in
theorem over_any (ns : List Nat) (l : List Int) (w : World) (hn : ns.length = 18) (h64 : ∀ n ∈ ns, n < 18446744073709551616) (hl : l.length = 256) :
  Calls Tryz.prog 32 #[.agg (HA ns), .agg (ArrU8 l)] w fun e w' => e = .returned (.agg (ArrU8 (ovB ns l))) ∧ Below w.heap.size w w' := by
 have hz := zero35
 have HN := hid hn
 have HL := hid hl
 have H6 := hid h64
 have HI := hid (show (Tryz.prog.info? 50).map (·.size) = some 256 by kernel_rfl)
 clear hn hl h64
 go_enter Tryz.func32, Tryz.ntmps32
 go_wp2_with fail
 have hb3 : Below w.heap.size w (((w.alloc (.cells (HA ns) 68)).alloc (.cells (ArrU8 l) 50)).alloc (.cells (ArrU8 (zeros 256)) 50)) := (((Below.refl _ _).alloc (Nat.le_refl _) _).alloc (by simp) _).alloc (by simp; omega) _
 have hx0 : (((w.alloc (.cells (HA ns) 68)).alloc (.cells (ArrU8 l) 50)).alloc (.cells (ArrU8 (zeros 256)) 50)).heap[w.heap.size]? = some (.cells (HA ns) 68 (0, 0)) := (heap_alloc_old _ _ (by simp; omega)).trans ((heap_alloc_old _ _ (by simp)).trans (heap_alloc_new _ _))
 have hx1 : (((w.alloc (.cells (HA ns) 68)).alloc (.cells (ArrU8 l) 50)).alloc (.cells (ArrU8 (zeros 256)) 50)).heap[w.heap.size + 1]? = some (.cells ((ovL ns l 0).map (Value.int .u8)).toArray 50 (0, 0)) := by
  have h := heap_alloc_new (w.alloc (.cells (HA ns) 68)) (.cells (ArrU8 l) 50)
  rw [World.size_alloc] at h
  rw [heap_alloc_old _ _ (by simp), h]
  simp [ovL, ArrU8]
 have hx2 : (((w.alloc (.cells (HA ns) 68)).alloc (.cells (ArrU8 l) 50)).alloc (.cells (ArrU8 (zeros 256)) 50)).heap[w.heap.size + 1 + 1]? = some (.cells (ArrU8 (zeros 256)) 50 (0, 0)) := by
  have h := heap_alloc_new ((w.alloc (.cells (HA ns) 68)).alloc (.cells (ArrU8 l) 50)) (.cells (ArrU8 (zeros 256)) 50)
  simpa using h
 generalize ((w.alloc (.cells (HA ns) 68)).alloc (.cells (ArrU8 l) 50)).alloc (.cells (ArrU8 (zeros 256)) 50) = w3 at *
 have HB3 := hid hb3
 have HX0 := hid hx0
 have HX1 := hid hx1
 have HX2 := hid hx2
 have HLT := hid (Array.getElem?_eq_some_iff.1 hx2).1
 clear hb3 hx0 hx1 hx2
 have SA := fun u => slice35_all u (w.heap.size + 1)
 have SB := fun u => slice35_l u (w.heap.size + 1) 8 8 rfl (by omega)
 have hC0 : (HA ns)[0]? = some (.int .u64 ((ns[0]'(by rw [HN.out]; omega) : Nat) : Int)) := HA_at ns 0 _
 have hC1 : (HA ns)[1]? = some (.int .u64 ((ns[1]'(by rw [HN.out]; omega) : Nat) : Int)) := HA_at ns 1 _
 have HC0 := hid hC0
 have HC1 := hid hC1
 clear hC0 hC1
 refine wp_region_held_drew (S := fun u => u.heap[w.heap.size]? = some (.cells (HA ns) 68 (0, 0))) (by kernel_rfl) ((show w3.drew.heap[w.heap.size]? = some (.cells (HA ns) 68 (0, 0)) from HX0.out)) (fun hHeld => ?_)
 refine tk (i := 0) (oi := ⟨some 7, .slice 50 (.tmp 3) none none none, 83, "header.go:27", #[], none⟩) (v := ?_) (Or.inl ⟨by rfl, ?_⟩) ?_
 rotate_left 1
 ·(intro u hSw; go_simp; try with_reducible rfl)
 try simp only [Act.put, sA, sB, sC]
 refine tk (i := 1) (oi := ⟨some 8, .fieldAddr 68 (.tmp 2) 0, 0, "header.go:27", #[], none⟩) (v := ?_) (Or.inl ⟨by rfl, ?_⟩) ?_
 rotate_left 1
 ·(intro u hSw; go_simp; try with_reducible rfl)
 try simp only [Act.put, sA, sB, sC]
 refine tk (i := 2) (oi := ⟨some 9, .load 60 (.tmp 8), 60, "header.go:27", #[⟨1, .data⟩], none⟩) (v := ?_) (Or.inl ⟨by rfl, ?_⟩) ?_
 rotate_left 1
 ·(intro u hSw; have p0 := (cell_of_row u (w.heap.size) 0 _ _ _ hSw).trans HC0.out; go_simp; try with_reducible rfl)
 try simp only [Act.put, sA, sB, sC]
 refine wpAnyH_ready (rs := [3]) (by kernel_rfl) (by simp) ?_
 refine AllReadyH.cons (o := ⟨some 10, .call ⟨.value (.func 63), #[.tmp 7, .tmp 9], #[83, 60]⟩, 0, "header.go:27", #[⟨0, .data⟩, ⟨2, .data⟩], none⟩) rfl (fun K hK => ?_) AllReadyH.nil
 go_simp
 go_at_call 63
 refine (putNumber_any (w.heap.size + 1) 0 256 256 _ (ovL ns l 0) 50 _ (show w3.drew.heap[w.heap.size + 1]? = _ from HX1.out) (by rw [ovL_len ns l 0 HN.out HL.out (by omega)]; omega) (by omega) (H6.out _ (List.getElem_mem _))).mono ?_
 rintro e w4 ⟨rfl, hx, hc⟩
 have hp0 : putL (ovL ns l 0) 0 (be8 (ns[0]'(by rw [HN.out]; omega))) = ovL ns l 1 := ovL_put ns l 0 HN.out (by omega)
 rw [hp0] at hx
 have HX14 := hid hx
 have HC4 := hid (show Chg (fun g => g = w.heap.size + 1) w3 w4 from ((Chg.refl _ w3).drew).trans hc (fun _ h => .inl h))
 clear hx hc
 have HX04 := hid ((HC4.out.block _ (by have := HLT.out; omega) (by omega)).trans HX0.out)
 go_wp2_with fail
 refine hK.out _ _ HX04.out (fun hHeld => ?_)
 clear hK K
 try simp only [Act.put, sA, sB, sC]
 refine wpAnyH_done (by kernel_rfl) ?_ _
 go_wp2_with fail
 refine wp_region_held_drew (S := fun u => u.heap[w.heap.size]? = some (.cells (HA ns) 68 (0, 0))) (by kernel_rfl) ((show w4.drew.heap[w.heap.size]? = some (.cells (HA ns) 68 (0, 0)) from HX04.out)) (fun hHeld => ?_)
 refine tk (i := 0) (oi := ⟨some 11, .slice 50 (.tmp 3) (some (.const (Value.int IntKind.i64 8))) none none, 83, "header.go:28", #[], none⟩) (v := ?_) (Or.inl ⟨by rfl, ?_⟩) ?_
 rotate_left 1
 ·(intro u hSw; go_simp; try with_reducible rfl)
 try simp only [Act.put, sA, sB, sC]
 refine tk (i := 1) (oi := ⟨some 12, .fieldAddr 68 (.tmp 2) 1, 0, "header.go:28", #[], none⟩) (v := ?_) (Or.inl ⟨by rfl, ?_⟩) ?_
 rotate_left 1
 ·(intro u hSw; go_simp; try with_reducible rfl)
 try simp only [Act.put, sA, sB, sC]
 refine tk (i := 2) (oi := ⟨some 13, .load 60 (.tmp 12), 60, "header.go:28", #[⟨1, .data⟩], none⟩) (v := ?_) (Or.inl ⟨by rfl, ?_⟩) ?_
 rotate_left 1
 ·(intro u hSw; have p1 := (cell_of_row u (w.heap.size) 1 _ _ _ hSw).trans HC1.out; go_simp; try with_reducible rfl)
 try simp only [Act.put, sA, sB, sC]
 refine wpAnyH_ready (rs := [3]) (by kernel_rfl) (by simp) ?_
 refine AllReadyH.cons (o := ⟨some 14, .call ⟨.value (.func 63), #[.tmp 11, .tmp 13], #[83, 60]⟩, 0, "header.go:28", #[⟨0, .data⟩, ⟨2, .data⟩], none⟩) rfl (fun K hK => ?_) AllReadyH.nil
 go_simp
 go_at_call 63
 refine (putNumber_any (w.heap.size + 1) 8 248 248 _ (ovL ns l 1) 50 _ (show w4.drew.heap[w.heap.size + 1]? = _ from HX14.out) (by rw [ovL_len ns l 1 HN.out HL.out (by omega)]; omega) (by omega) (H6.out _ (List.getElem_mem _))).mono ?_
 rintro e w5 ⟨rfl, hx, hc⟩
 have hp0 : putL (ovL ns l 1) 8 (be8 (ns[1]'(by rw [HN.out]; omega))) = ovL ns l 2 := ovL_put ns l 1 HN.out (by omega)
 rw [hp0] at hx
 have HX15 := hid hx
 have HC5 := hid (show Chg (fun g => g = w.heap.size + 1) w3 w5 from (HC4.out.drew).trans hc (fun _ h => .inl h))
 clear hx hc
 have HX05 := hid ((HC5.out.block _ (by have := HLT.out; omega) (by omega)).trans HX0.out)
 go_wp2_with fail
 refine hK.out _ _ HX05.out (fun hHeld => ?_)
 clear hK K
 try simp only [Act.put, sA, sB, sC]
 refine wpAnyH_done (by kernel_rfl) ?_ _
 clear SA SB
 have HIA := hid (show (Tryz.prog.info? 66).map (·.size) = some 16 by kernel_rfl)
 have hrg : w5.rangeAt w.heap.size 2 (HA (ns.drop 2)).toList := rangeHA (show w5.heap[w.heap.size]? = some (.cells (ns.map fun n : Nat => Value.int .u64 (n : Int)).toArray 68 (0, 0)) from HX05.out) 2 _ (by rw [HA, List.toList_toArray, ← List.map_drop]; exact List.take_of_length_le (by rw [List.length_map]; exact Nat.le_refl _))
 have HRG := hid hrg
 have HD := hid (show (ns.drop 2).length = 16 by rw [List.length_drop, HN.out])
 have HSD := hid (show (HA (ns.drop 2)).toList.length = 16 by rw [Array.length_toList, HA_size, HD.out])
 clear hrg
 go_wp2_with (first | (refine wpList_load_mid rfl 66 (Operand.tmp 15) rfl w.heap.size 2 rfl (HA (ns.drop 2)).toList _ HRG.out Tryz.underlying66 rfl (by rw [HIA.out, HSD.out]) ?_) | fail)
 go_loopw [17] (fun iv wr => ∃ i : Nat, i ≤ 16 ∧ iv = .int .i64 (i : Int) ∧ wr.heap[w.heap.size + 1]? = some (.cells ((ovL ns l (2 + i)).map (Value.int .u8)).toArray 50 (0, 0)) ∧ Chg (fun g => g = w.heap.size + 1) w3 wr) (fun iv _ => 16 - (intOf iv).toNat)
 case atStart => exact ⟨0, by omega, rfl, HX15.out, HC5.out⟩
 case round =>
  obtain ⟨i, hi, rfl, hx, hc⟩ := hrel
  have HX := hid hx
  have HC := hid hc
  by_cases hlt : i < 16
  ·have hix := fun u => idxHA u (ns.drop 2) i HD.out hlt
   have hnn : (ns.drop 2)[i]'(by rw [HD.out]; exact hlt) = ns[2 + i]'(by rw [HN.out]; omega) := List.getElem_drop
   simp only [hnn] at hix
   have hsl := fun u => slice35_l u (w.heap.size + 1) ((2 + (i : Int)) * 8) (8 * (2 + i)) (by omega) (by omega)
   have hp0 : putL (ovL ns l (2 + i)) (8 * (2 + i)) (be8 (ns[2 + i]'(by rw [HN.out]; omega))) = ovL ns l (2 + (i + 1)) := ovL_put ns l (2 + i) HN.out (by omega)
   have hlt64 := H6.out (ns[2 + i]'(by rw [HN.out]; omega)) (List.getElem_mem _)
   generalize ns[2 + i]'(by rw [HN.out]; omega) = x at *
   have HP0 := hid hp0
   have H64 := hid hlt64
   clear hp0 hx hc hnn hlt64
   go_wp2_with fail
   refine (putNumber_any (w.heap.size + 1) (8 * (2 + i)) (256 - 8 * (2 + i)) (256 - 8 * (2 + i)) x (ovL ns l (2 + i)) 50 wr HX.out (by rw [ovL_len ns l (2 + i) HN.out HL.out (by omega)]; omega) (by omega) H64.out).mono ?_
   rintro e w' ⟨rfl, hx, hc⟩
   rw [HP0.out] at hx
   have HX' := hid hx
   have HC' := hid (HC.out.trans hc (fun _ h => .inl h))
   clear hx hc
   go_wp2_with fail
   go_roundw
   case rel => exact ⟨i + 1, by omega, by go_num, HX'.out, HC'.out⟩
   case measure => simp [intOf]; omega
  ·obtain rfl : i = 16 := by omega
   have hcb := hc
   clear hx hc
   have H2W := hid ((HC.out.block (w.heap.size + 1 + 1) HLT.out (by omega)).trans HX2.out)
   have HS := hid (show (ArrU8 (ovB ns l)).size = 256 by rw [ArrU8_size, ovB, ovL_len ns l 18 HN.out HL.out (by omega)])
   have HX18 := hid (show wr.heap[w.heap.size + 1]? = some (.cells (ArrU8 (ovB ns l)) 50 (0, 0)) from HX.out)
   clear hcb
   go_wp2_with (first | (refine wpList_load_row rfl 50 (Operand.tmp 3) rfl (w.heap.size + 1) rfl 50 (ArrU8 (ovB ns l)) (0, 0) _ HX18.out Tryz.underlying50 rfl (by rw [HI.out, HS.out]) ?_) | (refine wpList_store_row rfl 50 (Operand.tmp 4) (Operand.tmp 28) rfl (w.heap.size + 1 + 1) (ArrU8 (ovB ns l)) rfl rfl 50 (ArrU8 (zeros 256)) H2W.out (by rw [HI.out, HS.out]) (by rw [HS.out, ArrU8_size, zeros_len]) (ArrU8_one _) ?_))
   refine bodyPost_ret (results_cell_row rfl _ _ (w.heap.size + 1 + 1) 50 (ArrU8 (ovB ns l)) (0, 0) _ rfl (setRow_heap _ _ _ _ _ _ H2W.out) Tryz.underlying50 rfl (by rw [HI.out, HS.out])) rfl ⟨rfl, ?_⟩
   exact below_setRow (HB3.out.trans (HC.out.below (fun k hk => by omega) HB3.out.size)) (by omega) _
end Go.Proofs.YtdkjkibdncbibaaGreat
/- the cache: a map of pages, and the order in which they came -/
namespace Go.Proofs.YtdkjkibdncbibaaGreat
open Go.RowKit
open Go.Lib (hid)
theorem infoInt : (Tryz.prog.info? 3).map (fun i => (i.zero, i.size, i.bytes)) = some (some (.int .i64 0), 1, 8) := by kernel_rfl
theorem infoInt_parts : ∃ i, Tryz.prog.info? 3 = some i ∧ i.zero = some (.int .i64 0) ∧ i.size = 1 ∧ i.bytes = 8 := by
 have h := infoInt
 cases hi : Tryz.prog.info? 3 with
 | none => rw [hi] at h; cases h
 | some i => rw [hi] at h; simp at h; exact ⟨i, rfl, h.1, h.2.1, h.2.2⟩
def IntsV (l : List Int) : List Value := l.map (Value.int .i64)
/-- a row of numbers of one's own, from block B on: wherever in its block it begins -/
def OrdIs (w : World) (B : Nat) (v : Value) (l : List Int) : Prop :=
 (v = .slice none 0 0 ∧ l = []) ∨ ∃ g off cap C, v = .slice (some ⟨g, off, none⟩) l.length cap ∧ B ≤ g ∧ w.heap[g]? = some (.cells C 3 (0, 0)) ∧ off + cap ≤ C.size ∧ l.length ≤ cap ∧ ∀ i x, l[i]? = some x → C[off + i]? = some (.int .i64 x)
theorem OrdIs.nil (w : World) (B : Nat) : OrdIs w B (.slice none 0 0) [] := .inl ⟨rfl, rfl⟩
theorem OrdIs.lt {w : World} {B : Nat} {v : Value} {l : List Int} (h : OrdIs w B v l) : ∀ g, v.ownBlock = some g → B ≤ g ∧ g < w.heap.size := by
 intro k hk
 rcases h with ⟨rfl, _⟩ | ⟨g, off, cap, C, rfl, hB, hg, _⟩
 ·cases hk
 ·simp only [Value.ownBlock, Option.some.injEq] at hk
  subst hk
  exact ⟨hB, (Array.getElem?_eq_some_iff.1 hg).1⟩
theorem OrdIs.of {w w' : World} {B : Nat} {v : Value} {l : List Int} (h : OrdIs w B v l) (he : ∀ g, v.ownBlock = some g → w'.heap[g]? = w.heap[g]?) : OrdIs w' B v l := by
 rcases h with ⟨rfl, hl⟩ | ⟨g, off, cap, C, rfl, hB, hg, hr⟩
 ·exact .inl ⟨rfl, hl⟩
 ·exact .inr ⟨g, off, cap, C, rfl, hB, (he g rfl).trans hg, hr⟩
theorem OrdIs.chg {w w' : World} {B : Nat} {v : Value} {l : List Int} {F : Nat → Prop} (h : OrdIs w B v l) (hc : Chg F w w') (hF : ∀ g, v.ownBlock = some g → ¬ F g) : OrdIs w' B v l :=
 h.of fun g hg => hc.block g (h.lt g hg).2 (hF g hg)
theorem OrdIs.shape {w : World} {B : Nat} {v : Value} {l : List Int} (h : OrdIs w B v l) : ∃ a c, v = .slice a l.length c ∧ (a = none → l = []) := by
 rcases h with ⟨rfl, rfl⟩ | ⟨g, off, cap, C, rfl, _⟩
 ·exact ⟨none, 0, rfl, fun _ => rfl⟩
 ·exact ⟨_, cap, rfl, fun e => by cases e⟩
set_option maxRecDepth 100000 in
theorem ord_append {w : World} {B : Nat} {v : Value} {l : List Int} (h : OrdIs w B v l) (hB : B ≤ w.heap.size) (hl : l.length ≤ 1048576) (a : Addr) (c : Nat) (x : Int) (ha : w.cell? a = some (.int .i64 x)) (ty : TypeId) :
    ∃ v' w', (Builtin.append_ #[77, 77] ty #[v, .slice (some a) 1 c]).run Tryz.prog w = .ok v' w' ∧ OrdIs w' B v' (l ++ [x]) ∧ Chg (fun g => v.ownBlock = some g) w w' ∧ OwnTo w v v' := by
  obtain ⟨i, hi, hz, hs, hb⟩ := infoInt_parts
  have hnews : ∀ j u, [Value.int .i64 x][j]? = some u → w.cell? (a.add j) = some u := by
    intro j u hj
    match j, hj with
    | 0, hj => simp only [List.getElem?_cons_zero, Option.some.injEq] at hj; subst hj; rw [Addr.add_zero']; exact ha
  have h1 : ∀ u ∈ [Value.int .i64 x], u.oneCell' = true := by intro u hu; rw [List.mem_singleton.1 hu]; rfl
  have mk : ∀ (w' : World) (v' : Value), w'.ownsRow w.heap.size 3 1 v' (l.length + 1) (IntsV l ++ [.int .i64 x]) → OrdIs w' B v' (l ++ [x]) ∧ (∀ g, v'.ownBlock = some g → w.heap.size ≤ g) := by
    rintro w' v' ⟨hlen, ⟨rfl, h0⟩ | ⟨g, cap, cur, rfl, hg, hgr, hn, _, hcs, htk⟩⟩
    · omega
    · refine ⟨.inr ⟨g, 0, cap, cur, by simp, by omega, hgr, by omega, by simpa using hn, ?_⟩, fun k hk => ?_⟩
      · intro j y hj
        have hjl : j < l.length + 1 := by
          have := (List.getElem?_eq_some_iff.1 hj).1
          simpa using this
        have h2 : (cur.toList.take ((l.length + 1) * 1))[j]? = (IntsV l ++ [Value.int .i64 x])[j]? := by rw [htk]
        rw [List.getElem?_take, if_pos (by omega)] at h2
        have h3 : IntsV l ++ [Value.int .i64 x] = (l ++ [x]).map (Value.int .i64) := by simp [IntsV]
        rw [h3, List.getElem?_map, hj] at h2
        simpa using h2
      · simp only [Value.ownBlock, Option.some.injEq] at hk
        omega
  rcases h with ⟨rfl, rfl⟩ | ⟨g, off, cap, C, rfl, hBg, hg, hoc, hlc, hcs⟩
  · obtain ⟨v', w', hr, ho, hgr, _⟩ := run_append_own (P := Tryz.prog) w w.heap.size 77 ty 3 i (.int .i64 0) 1 8 Tryz.underlying77 hi hz hs hb rfl (by decide) (.slice none 0 0) 0 [] (World.ownsRow_nil _ _ _ _) a 1 c [.int .i64 x] rfl hnews h1 (by decide) (by decide) (Nat.le_refl _)
    obtain ⟨h2, h3⟩ := mk w' v' (by simpa [IntsV] using ho)
    exact ⟨v', w', hr, h2, Chg.grown hgr (fun k hk => by cases hk), fun k hk => .inr (h3 k hk)⟩
  · by_cases hroom : l.length + 1 ≤ cap
    · have hr := run_append_room_cells (P := Tryz.prog) w 77 ty 3 i Tryz.underlying77 hi g off l.length cap a 1 c [.int .i64 x] (by rw [hs]; rfl) hnews h1 hroom (by
        intro j hj
        simp only [List.length_cons, List.length_nil] at hj
        rw [cell_of_row _ _ _ _ _ _ hg, hs]
        have : off + l.length + j < C.size := by omega
        simp [this]) (by intro j hj; exact frozen_of_row _ _ _ _ _ hg)
      rw [hs, Nat.mul_one] at hr
      refine ⟨_, _, hr, .inr ⟨g, off, cap, C.setIfInBounds (off + l.length) (.int .i64 x), by simp, hBg, ?_, by simpa using hoc, by simpa using hroom, ?_⟩, ?_, fun k hk => .inl hk⟩
      · simp only [World.setCells]
        exact heap_setCell_same w g (off + l.length) C 3 _ hg
      · intro j y hj
        by_cases hjl : j < l.length
        · rw [List.getElem?_append_left hjl] at hj
          rw [Array.getElem?_setIfInBounds_ne (by omega)]
          exact hcs j y hj
        · have hj2 : j = l.length := by
            have := (List.getElem?_eq_some_iff.1 hj).1
            simp at this; omega
          subst hj2
          rw [List.getElem?_append_right (Nat.le_refl _), Nat.sub_self] at hj
          simp only [List.getElem?_cons_zero, Option.some.injEq] at hj
          subst hj
          have : off + l.length < C.size := by omega
          simp [this]
      · simp only [World.setCells]
        exact (Chg.refl _ w).setCell _ _ (.inl rfl)
    · have hlen : l.length = cap := by omega
      obtain ⟨v', w', hr, ho, hgr⟩ := run_append_arg_grows (P := Tryz.prog) w 77 ty 3 i (.int .i64 0) 1 8 Tryz.underlying77 hi hz hs hb rfl (by decide) ⟨g, off, none⟩ l.length cap (IntsV l) (by simp [IntsV]) (by
        intro j u hj
        rw [Addr.add_mid, cell_of_row _ _ _ _ _ _ hg]
        simp only [IntsV, List.getElem?_map, Option.map_eq_some_iff] at hj
        obtain ⟨y, hy, rfl⟩ := hj
        exact hcs j y hy) a 1 c [.int .i64 x] rfl hnews (by omega) (by simp only [maxLen]; omega) (by omega)
      obtain ⟨h2, h3⟩ := mk w' v' ho
      exact ⟨v', w', hr, h2, Chg.grown hgr (fun k hk => by cases hk), fun k hk => .inr (h3 k hk)⟩
theorem ord_cut {w : World} {B : Nat} {v : Value} {x : Int} {l : List Int} (h : OrdIs w B v (x :: l)) :
  ∃ v', (∀ u, (Instr.slice 77 v (some (.int .i64 1)) none none).run Tryz.prog u = .ok v' u) ∧ OrdIs w B v' l ∧ v'.ownBlock = v.ownBlock ∧ ∃ a c, v' = .slice a l.length c := by
 rcases h with ⟨_, h0⟩ | ⟨g, off, cap, C, rfl, hB, hg, hoc, hlc, hcs⟩
 ·cases h0
 ·simp only [List.length_cons] at hlc hoc ⊢
  have hsz : ∀ u, (sizeOf (Tryz.prog.elem 77)).run Tryz.prog u = .ok 1 u := fun u => by kernel_rfl
  refine ⟨.slice (some ⟨g, if cap = 1 then off else off + 1, none⟩) l.length (cap - 1), fun u => ?_, .inr ⟨g, if cap = 1 then off else off + 1, cap - 1, C, rfl, hB, hg, ?_, by omega, ?_⟩, rfl, _, _, rfl⟩
  ·rw [run_slice_l u 77 _ _ _ (by kernel_rfl) .i64 1 (by omega) (by omega), hsz]
   simp only [Result.andThen, sliced]
   by_cases hc : cap = 1
   ·simp [hc]
   ·simp [hc, Addr.add_mid]
  ·split <;> omega
  ·intro i y hy
   have h2 := hcs (i + 1) y (by simpa using hy)
   have hil := (List.getElem?_eq_some_iff.1 hy).1
   rw [if_neg (by omega)]
   rw [← h2]
   congr 1
   omega
end Go.Proofs.YtdkjkibdncbibaaGreat
/- the cache: room made, a page kept -/
namespace Go.Proofs.YtdkjkibdncbibaaGreat
open Go.RowKit
open Go.Lib (hid)
theorem step_of_val {P : Program} {ops : Array Oper} {o : Oper} {a : Act} {w w' : World} {v : Value} {K : Act → World → Prop} {Q : Exit → Act → World → Prop} {E : Prop} (hg : o.guard = none) (hr : (execOp a.eval o).run P w = .ok (.value v) w') (hK : K (a.put o.dst v) w') :
  if Region.wanted o (yielded ops a.tmps) = true then Oper.wp P o a w K Q else E := by
 have hw : Region.wanted o (yielded ops a.tmps) = true := by simp [Region.wanted, hg]
 rw [if_pos hw]
 unfold Oper.wp
 rw [hr]
 exact hK
theorem exec_delete {ρ : Operand → Value} {o : Oper} {w w' : World} {v : Value} (x y : Operand) (S T : TypeId) (ho : o.op = Op.call { callee := Callee.builtin Builtin.delete, args := #[x, y], argTypes := #[S, T] }) (m k : Value) (hx : ρ x = m) (hy : ρ y = k) (h : (Builtin.delete_ #[S, T] o.type #[m, k]).run Tryz.prog w = .ok v w') :
  (execOp ρ o).run Tryz.prog w = .ok (.value v) w' := by
 unfold execOp
 simp [ho, resolve, invoke, builtin, hx, hy, h, Result.andThen]
abbrev blkV (l : List Int) : Value := .agg (ArrU8 l)
/-- a cache in a block: its three cells stand at places 5, 6, 7 -/
structure CaIs (w : World) (B P : Nat) (cs : Array Value) (T : TypeId) (C : Nat) (ov : Value) (most : Int) (ca : List (Int × List Int)) (od : List Int) : Prop where
 box : w.heap[P]? = some (.cells cs T (0, 0))
 c0 : cs[5]? = some (.int .i64 most)
 c1 : cs[6]? = some (.map (some C))
 c2 : cs[7]? = some ov
 mp : MapG blkV w C ca
 ord : OrdIs w B ov od
 bm : B ≤ C
 pc : P ≠ C
 op : ov.ownBlock ≠ some P
 oc : ov.ownBlock ≠ some C
def roomP (most : Int) (ca : List (Int × List Int)) (od : List Int) : List (Int × List Int) × List Int :=
 if (od.length : Int) < most then (ca, od) else match od with
  | [] => (ca, od)
  | x :: r => (gd ca x, r)
def keepP (most : Int) (ca : List (Int × List Int)) (od : List Int) (n : Int) (b : List Int) : List (Int × List Int) × List Int :=
 if most = 0 then (ca, od) else if (gl ca n).isSome then (gp ca n b, od) else (gp (roomP most ca od).1 n b, (roomP most ca od).2 ++ [n])
theorem ord_head {w : World} {B : Nat} {v : Value} {x : Int} {l : List Int} (h : OrdIs w B v (x :: l)) : ∃ g off cap, v = .slice (some ⟨g, off, none⟩) (l.length + 1) cap ∧ ∀ u : World, u.heap[g]? = w.heap[g]? → u.cell? ⟨g, off, none⟩ = some (.int .i64 x) := by
 rcases h with ⟨_, h0⟩ | ⟨g, off, cap, C, rfl, hB, hg, hoc, hlc, hcs⟩
 ·cases h0
 ·refine ⟨g, off, cap, rfl, fun u hu => ?_⟩
  rw [cell_of_row _ _ _ _ _ _ (hu.trans hg)]
  exact hcs 0 x rfl
theorem set_same {cs : Array Value} {i : Nat} {v : Value} (h : cs[i]? = some v) : cs.setIfInBounds i v = cs := by
 apply Array.ext_getElem?
 intro j
 rw [Array.getElem?_setIfInBounds]
 split
 ·rename_i e
  subst e
  rw [h]
  split
  ·rfl
  ·rename_i hh; exact absurd (Array.getElem?_eq_some_iff.1 h).1 hh
 ·rfl
def RoEnds (B P : Nat) (cs : Array Value) (T : TypeId) (C : Nat) (ov : Value) (most : Int) (ca : List (Int × List Int)) (od : List Int) (w : World) (e : Ending) (w' : World) : Prop :=
 e = .returned (.tuple #[]) ∧ ∃ ov', CaIs w' B P (cs.setIfInBounds 7 ov') T C ov' most (roomP most ca od).1 (roomP most ca od).2 ∧ Chg (fun k => k = P ∨ k = C) w w' ∧ ov'.ownBlock = ov.ownBlock
set_option maxRecDepth 100000 in
set_option maxHeartbeats 1000000 in
theorem makeRoom_any (B P : Nat) (cs : Array Value) (T : TypeId) (C : Nat) (ov : Value) (most : Int) (ca : List (Int × List Int)) (od : List Int) (w : World) (h : CaIs w B P cs T C ov most ca od) (h1 : 1 ≤ most) :
    Calls Tryz.prog 103 #[.pointer (some ⟨P, 5, none⟩)] w (RoEnds B P cs T C ov most ca od w) := by
  have H := hid h
  obtain ⟨sa, sc, hov, hnil⟩ := h.ord.shape
  have HOV := hid hov
  clear h hov
  by_cases hlt : (od.length : Int) < most
  · have HP := hid (show roomP most ca od = (ca, od) by unfold roomP; rw [if_pos hlt])
    clear hnil
    generalize hn : od.length = n at *
    have HN := hid hn
    clear hn
    go_enter Tryz.func103, Tryz.ntmps103
    go_wp2_with fail
    refine wp_region_held_drew (S := fun u => u.heap[P]? = some (.cells cs T (0, 0))) (by kernel_rfl) ((show w.drew.heap[P]? = some (.cells cs T (0, 0)) from H.out.box)) (fun hHeld => ?_)
    refine tk (i := 0) (oi := ⟨some 2, .move (.tmp 0), 138, "cache.go:30", #[], none⟩) (v := ?_) (Or.inl ⟨by rfl, ?_⟩) ?_
    rotate_left 1
    · (intro u hSw; go_simp; try with_reducible rfl)
    try simp only [Act.put, sA, sB, sC]
    refine tk (i := 1) (oi := ⟨some 3, .nilCheck (.tmp 2), 0, "cache.go:30", #[⟨0, .data⟩], none⟩) (v := ?_) (Or.inl ⟨by rfl, ?_⟩) ?_
    rotate_left 1
    · (intro u hSw; go_simp; try with_reducible rfl)
    try simp only [Act.put, sA, sB, sC]
    refine tk (i := 2) (oi := ⟨some 4, .fieldAddr 79 (.tmp 3) 2, 0, "cache.go:30", #[⟨1, .data⟩], none⟩) (v := ?_) (Or.inl ⟨by rfl, ?_⟩) ?_
    rotate_left 1
    · (intro u hSw; go_simp; try with_reducible rfl)
    try simp only [Act.put, sA, sB, sC]
    refine tk (i := 3) (oi := ⟨some 5, .load 77 (.tmp 4), 77, "cache.go:30", #[⟨2, .data⟩], none⟩) (v := ?_) (Or.inl ⟨by rfl, ?_⟩) ?_
    rotate_left 1
    · (intro u hSw; have p5 := (cell_of_row u P 5 _ _ _ hSw).trans H.out.c0; have p7 := (cell_of_row u P 7 _ _ _ hSw).trans (H.out.c2.trans (by rw [HOV.out])); go_simp; try with_reducible rfl)
    try simp only [Act.put, sA, sB, sC]
    refine tk (i := 4) (oi := ⟨some 6, .call ⟨.builtin .len, #[.tmp 5], #[77]⟩, 3, "cache.go:30", #[⟨3, .data⟩], none⟩) (v := ?_) (Or.inl ⟨by rfl, ?_⟩) ?_
    rotate_left 1
    · (intro u hSw; go_simp; try with_reducible rfl)
    try simp only [Act.put, sA, sB, sC]
    refine tk (i := 5) (oi := ⟨some 7, .move (.tmp 0), 138, "cache.go:30", #[], none⟩) (v := ?_) (Or.inl ⟨by rfl, ?_⟩) ?_
    rotate_left 1
    · (intro u hSw; go_simp; try with_reducible rfl)
    try simp only [Act.put, sA, sB, sC]
    refine tk (i := 6) (oi := ⟨some 8, .nilCheck (.tmp 7), 0, "cache.go:30", #[⟨5, .data⟩], none⟩) (v := ?_) (Or.inl ⟨by rfl, ?_⟩) ?_
    rotate_left 1
    · (intro u hSw; go_simp; try with_reducible rfl)
    try simp only [Act.put, sA, sB, sC]
    refine tk (i := 7) (oi := ⟨some 9, .fieldAddr 79 (.tmp 8) 0, 0, "cache.go:30", #[⟨6, .data⟩], none⟩) (v := ?_) (Or.inl ⟨by rfl, ?_⟩) ?_
    rotate_left 1
    · (intro u hSw; go_simp; try with_reducible rfl)
    try simp only [Act.put, sA, sB, sC]
    refine tk (i := 8) (oi := ⟨some 10, .load 3 (.tmp 9), 3, "cache.go:30", #[⟨7, .data⟩], none⟩) (v := ?_) (Or.inl ⟨by rfl, ?_⟩) ?_
    rotate_left 1
    · (intro u hSw; have p5 := (cell_of_row u P 5 _ _ _ hSw).trans H.out.c0; have p7 := (cell_of_row u P 7 _ _ _ hSw).trans (H.out.c2.trans (by rw [HOV.out])); go_simp; try with_reducible rfl)
    try simp only [Act.put, sA, sB, sC]
    refine tk (i := 9) (oi := ⟨some 11, .binOp BinOp.lss 3 (.tmp 6) (.tmp 10) 3, 4, "cache.go:30", #[⟨4, .data⟩, ⟨8, .data⟩], none⟩) (v := ?_) (Or.inl ⟨by rfl, ?_⟩) ?_
    rotate_left 1
    · (intro u hSw; go_simp; try with_reducible rfl)
    try simp only [Act.put, sA, sB, sC]
    refine wpAnyH_done (by kernel_rfl) ?_ _
    go_wp2_with fail
    go_end0
    refine ⟨rfl, ov, ?_, (Chg.refl _ w).drew, rfl⟩
    rw [HP.out, set_same H.out.c2]
    exact { H.out with box := H.out.box, mp := H.out.mp.of rfl, ord := H.out.ord.of (fun _ _ => rfl) }
  · cases od with
    | nil => simp at hlt; omega
    | cons x r =>
      have HP := hid (show roomP most ca (x :: r) = (gd ca x, r) by unfold roomP; rw [if_neg hlt])
      obtain ⟨g, off, cap, hsh, hcell⟩ := ord_head H.out.ord
      obtain ⟨v', hsl, hord, hob, a', c', hv'⟩ := ord_cut H.out.ord
      rw [hsh] at hsl
      obtain ⟨w2, hdel, hm2, hg2, hs2⟩ := run_delete_g (P := Tryz.prog) (mT := 76) (kT := 3) (eT := 50) (ty := 0) Tryz.underlying76 Tryz.underlying3 x ((H.out.mp).of (w' := w.drew.drew) rfl)
      have HSH := hid hsh
      have HCELL := hid hcell
      have HGL := hid (H.out.ord.lt g (by rw [hsh]; rfl)).2
      have HORD := hid hord
      have HOB := hid hob
      have HDEL := hid hdel
      have HM2 := hid hm2
      have HG2 := hid hg2
      have HS2 := hid hs2
      have HV' := hid hv'
      have hlen : ¬ ((r.length : Int) + 1 < most) := by simpa using hlt
      clear hsh hcell hord hob hdel hm2 hg2 hs2 hlt hnil HOV hv'
      go_enter Tryz.func103, Tryz.ntmps103
      go_wp2_with fail
      refine wp_region_held_drew (S := fun u => u.heap[P]? = some (.cells cs T (0, 0))) (by kernel_rfl) ((show w.drew.heap[P]? = some (.cells cs T (0, 0)) from H.out.box)) (fun hHeld => ?_)
      refine tk (i := 0) (oi := ⟨some 2, .move (.tmp 0), 138, "cache.go:30", #[], none⟩) (v := ?_) (Or.inl ⟨by rfl, ?_⟩) ?_
      rotate_left 1
      · (intro u hSw; go_simp; try with_reducible rfl)
      try simp only [Act.put, sA, sB, sC]
      refine tk (i := 1) (oi := ⟨some 3, .nilCheck (.tmp 2), 0, "cache.go:30", #[⟨0, .data⟩], none⟩) (v := ?_) (Or.inl ⟨by rfl, ?_⟩) ?_
      rotate_left 1
      · (intro u hSw; go_simp; try with_reducible rfl)
      try simp only [Act.put, sA, sB, sC]
      refine tk (i := 2) (oi := ⟨some 4, .fieldAddr 79 (.tmp 3) 2, 0, "cache.go:30", #[⟨1, .data⟩], none⟩) (v := ?_) (Or.inl ⟨by rfl, ?_⟩) ?_
      rotate_left 1
      · (intro u hSw; go_simp; try with_reducible rfl)
      try simp only [Act.put, sA, sB, sC]
      refine tk (i := 3) (oi := ⟨some 5, .load 77 (.tmp 4), 77, "cache.go:30", #[⟨2, .data⟩], none⟩) (v := ?_) (Or.inl ⟨by rfl, ?_⟩) ?_
      rotate_left 1
      · (intro u hSw; have p5 := (cell_of_row u P 5 _ _ _ hSw).trans H.out.c0; have p7 := (cell_of_row u P 7 _ _ _ hSw).trans (H.out.c2.trans (by rw [HSH.out])); go_simp; try with_reducible rfl)
      try simp only [Act.put, sA, sB, sC]
      refine tk (i := 4) (oi := ⟨some 6, .call ⟨.builtin .len, #[.tmp 5], #[77]⟩, 3, "cache.go:30", #[⟨3, .data⟩], none⟩) (v := ?_) (Or.inl ⟨by rfl, ?_⟩) ?_
      rotate_left 1
      · (intro u hSw; go_simp; try with_reducible rfl)
      try simp only [Act.put, sA, sB, sC]
      refine tk (i := 5) (oi := ⟨some 7, .move (.tmp 0), 138, "cache.go:30", #[], none⟩) (v := ?_) (Or.inl ⟨by rfl, ?_⟩) ?_
      rotate_left 1
      · (intro u hSw; go_simp; try with_reducible rfl)
      try simp only [Act.put, sA, sB, sC]
      refine tk (i := 6) (oi := ⟨some 8, .nilCheck (.tmp 7), 0, "cache.go:30", #[⟨5, .data⟩], none⟩) (v := ?_) (Or.inl ⟨by rfl, ?_⟩) ?_
      rotate_left 1
      · (intro u hSw; go_simp; try with_reducible rfl)
      try simp only [Act.put, sA, sB, sC]
      refine tk (i := 7) (oi := ⟨some 9, .fieldAddr 79 (.tmp 8) 0, 0, "cache.go:30", #[⟨6, .data⟩], none⟩) (v := ?_) (Or.inl ⟨by rfl, ?_⟩) ?_
      rotate_left 1
      · (intro u hSw; go_simp; try with_reducible rfl)
      try simp only [Act.put, sA, sB, sC]
      refine tk (i := 8) (oi := ⟨some 10, .load 3 (.tmp 9), 3, "cache.go:30", #[⟨7, .data⟩], none⟩) (v := ?_) (Or.inl ⟨by rfl, ?_⟩) ?_
      rotate_left 1
      · (intro u hSw; have p5 := (cell_of_row u P 5 _ _ _ hSw).trans H.out.c0; have p7 := (cell_of_row u P 7 _ _ _ hSw).trans (H.out.c2.trans (by rw [HSH.out])); go_simp; try with_reducible rfl)
      try simp only [Act.put, sA, sB, sC]
      refine tk (i := 9) (oi := ⟨some 11, .binOp BinOp.lss 3 (.tmp 6) (.tmp 10) 3, 4, "cache.go:30", #[⟨4, .data⟩, ⟨8, .data⟩], none⟩) (v := ?_) (Or.inl ⟨by rfl, ?_⟩) ?_
      rotate_left 1
      · (intro u hSw; go_simp; try with_reducible rfl)
      try simp only [Act.put, sA, sB, sC]
      refine wpAnyH_done (by kernel_rfl) ?_ _
      go_wp2_with fail
      refine wp_region_held_drew (S := fun u => u.heap[P]? = some (.cells cs T (0, 0)) ∧ u.heap[g]? = w.heap[g]?) (by kernel_rfl) (⟨(show w.drew.drew.heap[P]? = some (.cells cs T (0, 0)) from H.out.box), rfl⟩) (fun hHeld => ?_)
      refine tk (i := 0) (oi := ⟨some 12, .move (.tmp 0), 138, "cache.go:33", #[], none⟩) (v := ?_) (Or.inl ⟨by rfl, ?_⟩) ?_
      rotate_left 1
      · (intro u hSw; go_simp; try with_reducible rfl)
      try simp only [Act.put, sA, sB, sC]
      refine tk (i := 1) (oi := ⟨some 13, .nilCheck (.tmp 12), 0, "cache.go:33", #[⟨0, .data⟩], none⟩) (v := ?_) (Or.inl ⟨by rfl, ?_⟩) ?_
      rotate_left 1
      · (intro u hSw; go_simp; try with_reducible rfl)
      try simp only [Act.put, sA, sB, sC]
      refine tk (i := 2) (oi := ⟨some 14, .fieldAddr 79 (.tmp 13) 1, 0, "cache.go:33", #[⟨1, .data⟩], none⟩) (v := ?_) (Or.inl ⟨by rfl, ?_⟩) ?_
      rotate_left 1
      · (intro u hSw; go_simp; try with_reducible rfl)
      try simp only [Act.put, sA, sB, sC]
      refine tk (i := 3) (oi := ⟨some 15, .load 76 (.tmp 14), 76, "cache.go:33", #[⟨2, .data⟩], none⟩) (v := ?_) (Or.inl ⟨by rfl, ?_⟩) ?_
      rotate_left 1
      · (intro u hSw; have p6 := (cell_of_row u P 6 _ _ _ hSw.1).trans H.out.c1; have p7 := (cell_of_row u P 7 _ _ _ hSw.1).trans (H.out.c2.trans (by rw [HSH.out])); have pg := HCELL.out u hSw.2; go_simp; try with_reducible rfl)
      try simp only [Act.put, sA, sB, sC]
      refine tk (i := 4) (oi := ⟨some 16, .move (.tmp 0), 138, "cache.go:33", #[], none⟩) (v := ?_) (Or.inl ⟨by rfl, ?_⟩) ?_
      rotate_left 1
      · (intro u hSw; go_simp; try with_reducible rfl)
      try simp only [Act.put, sA, sB, sC]
      refine tk (i := 5) (oi := ⟨some 17, .nilCheck (.tmp 16), 0, "cache.go:33", #[⟨4, .data⟩], none⟩) (v := ?_) (Or.inl ⟨by rfl, ?_⟩) ?_
      rotate_left 1
      · (intro u hSw; go_simp; try with_reducible rfl)
      try simp only [Act.put, sA, sB, sC]
      refine tk (i := 6) (oi := ⟨some 18, .fieldAddr 79 (.tmp 17) 2, 0, "cache.go:33", #[⟨5, .data⟩], none⟩) (v := ?_) (Or.inl ⟨by rfl, ?_⟩) ?_
      rotate_left 1
      · (intro u hSw; go_simp; try with_reducible rfl)
      try simp only [Act.put, sA, sB, sC]
      refine tk (i := 7) (oi := ⟨some 19, .load 77 (.tmp 18), 77, "cache.go:33", #[⟨6, .data⟩], none⟩) (v := ?_) (Or.inl ⟨by rfl, ?_⟩) ?_
      rotate_left 1
      · (intro u hSw; have p6 := (cell_of_row u P 6 _ _ _ hSw.1).trans H.out.c1; have p7 := (cell_of_row u P 7 _ _ _ hSw.1).trans (H.out.c2.trans (by rw [HSH.out])); have pg := HCELL.out u hSw.2; go_simp; try with_reducible rfl)
      try simp only [Act.put, sA, sB, sC]
      refine tk (i := 8) (oi := ⟨some 20, .indexAddr 77 (.tmp 19) (.const (Value.int IntKind.i64 0)), 0, "cache.go:33", #[⟨7, .data⟩], none⟩) (v := ?_) (Or.inl ⟨by rfl, ?_⟩) ?_
      rotate_left 1
      · (intro u hSw; go_simp; try with_reducible rfl)
      try simp only [Act.put, sA, sB, sC]
      refine tk (i := 9) (oi := ⟨some 21, .load 3 (.tmp 20), 3, "cache.go:33", #[⟨8, .data⟩], none⟩) (v := ?_) (Or.inl ⟨by rfl, ?_⟩) ?_
      rotate_left 1
      · (intro u hSw; have p6 := (cell_of_row u P 6 _ _ _ hSw.1).trans H.out.c1; have p7 := (cell_of_row u P 7 _ _ _ hSw.1).trans (H.out.c2.trans (by rw [HSH.out])); have pg := HCELL.out u hSw.2; go_simp; try with_reducible rfl)
      try simp only [Act.put, sA, sB, sC]
      refine wpAnyH_ready (rs := [10]) (by kernel_rfl) (by simp) ?_
      refine AllReadyH.cons (o := ⟨none, .call ⟨.builtin .delete, #[.tmp 15, .tmp 21], #[76, 3]⟩, 0, "cache.go:33", #[⟨3, .data⟩, ⟨9, .data⟩], none⟩) rfl (fun K hK => ?_) AllReadyH.nil
      refine step_of_val ?_ (exec_delete (Operand.tmp 15) (Operand.tmp 21) 76 3 ?_ _ _ ?_ ?_ HDEL.out) ?_
      rfl
      rfl
      rfl
      rfl
      refine hK.out _ _ ⟨(HG2.out.block P (Array.getElem?_eq_some_iff.1 H.out.box).1 (fun e => H.out.pc (Option.some.inj e))).trans H.out.box, HG2.out.block g HGL.out (fun e => H.out.oc (by rw [HSH.out, Option.some.inj e]; rfl))⟩ (fun hHeld => ?_)
      clear hK K
      try simp only [Act.put]
      refine wpAnyH_done (by kernel_rfl) ?_ _
      have hb2 := hHeld.1
      have p7 := (cell_of_row w2 P 7 _ _ _ hb2).trans (H.out.c2.trans (by rw [HSH.out]))
      have f7 := frozen_of_row w2 P 7 _ _ hb2
      have HB2 := hid hb2
      have hvv := HV'.out
      subst hvv
      clear hHeld hb2
      go_wp2_with fail
      go_end0
      have hCn : C ≠ P := fun e => H.out.pc e.symm
      have hgP : ∀ k, ov.ownBlock = some k → k ≠ P ∧ k ≠ C := fun k hk => ⟨fun e => H.out.op (by rw [← e]; exact hk), fun e => H.out.oc (by rw [← e]; exact hk)⟩
      have hcc : Chg (fun k => k = P ∨ k = C) w (w2.setCell ⟨P, 7, none⟩ (.slice a' r.length c')) :=
        (((Chg.refl _ w).drew.drew).trans (Chg.grown (F := fun k => k = C) HG2.out (fun k hk => (Option.some.inj hk).symm)) (fun k hk => .inl (.inr hk))).setCell _ _ (.inl (.inl rfl))
      refine ⟨rfl, .slice a' r.length c', ?_, hcc, HOB.out⟩
      rw [HP.out]
      exact { box := heap_setCell_same w2 P 7 cs T _ HB2.out
              c0 := by rw [Array.getElem?_setIfInBounds_ne (by decide)]; exact H.out.c0
              c1 := by rw [Array.getElem?_setIfInBounds_ne (by decide)]; exact H.out.c1
              c2 := by
                have h7 := (Array.getElem?_eq_some_iff.1 H.out.c2).1
                simp [h7]
              mp := HM2.out.of (heap_setCell_other _ _ _ _ (by simpa using hCn))
              ord := HORD.out.of (fun k hk => by
                have hk2 := hgP k (HOB.out.symm.trans hk)
                exact (heap_setCell_other _ _ _ _ (by simpa using hk2.1)).trans (HG2.out.block k (H.out.ord.lt k (HOB.out.symm.trans hk)).2 (fun e => hk2.2 (Option.some.inj e))))
              bm := H.out.bm
              pc := H.out.pc
              op := by rw [HOB.out]; exact H.out.op
              oc := by rw [HOB.out]; exact H.out.oc }
end Go.Proofs.YtdkjkibdncbibaaGreat
