/- print.Statement at a commit -/
import Derived.Test.YtegkbagnbnoopaaGreatDoorPs01
import Derived.Test.YtegkbagnbnoopaaGreatDoorPs27
namespace Go.Proofs.YtegkbagnbnoopaaGreatDoor
open Go.ChangeShapes Go.WideShapes Go.ChangeAt Go.RowKit Go.Deep Go.Shelf
open Go.Lib (hid)
/-- the table of statements, as it was laid, at a commit -/
def Tab7 (w : World) : Prop := ∀ j, j < 6 → w.cell? ⟨0, 42 + j, none⟩ = some (.bool false)
theorem Tab7.keep {w u : World} (h : Tab7 w) (hb : Below w.heap.size w u) : Tab7 u := fun j hj => cell_keep hb (h j hj)
theorem dnil (w : World) : DIs w (.slice none 0 0) (.sl []) := .sl none 0 0 0 [] (fun _ _ => undef) rfl (Nat.le_refl 0) (fun r hr => by cases hr) (fun h0 => absurd h0 (Nat.lt_irrefl 0)) (fun i j r x hi => by simp at hi) (fun i j r x hi => by simp at hi)
def zQ : Qu := .mk 0 [] zS [] false 0
theorem zQ_OK : zQ.OK := ⟨⟨by decide, by decide⟩, trivial, zS_OK, trivial, ⟨by decide, by decide⟩⟩
theorem zQ_v (w : World) : QuV w (.agg #[.int .i64 0, .slice none 0 0, .bool false, .slice none 0 0, .slice none 0 0, .slice none 0 0, .slice none 0 0, .slice none 0 0, .slice none 0 0, .bool false, .int .i64 0]) zQ := ⟨_, _, _, _, _, _, _, rfl, dnil w, dnil w, dnil w, dnil w, dnil w, dnil w, dnil w⟩
theorem eachR_nil (w : World) (c : Value) : Calls Tryz.prog 53 #[.slice none 0 0, c] w fun e w' => e = .returned (.tuple #[]) ∧ w' = w := by
 go_enter Tryz.func53, Tryz.ntmps53
 go_wp2_with fail
 go_loopw [8] (fun i wr => i = .int .i64 0 ∧ wr = w) (fun _ _ => 0)
 case atStart => exact ⟨rfl, rfl⟩
 case round =>
  obtain ⟨rfl, rfl⟩ := hrel
  go_wp2_with fail
  go_end0
  exact ⟨rfl, rfl⟩
theorem eachS_nil (w : World) (c : Value) : Calls Tryz.prog 55 #[.slice none 0 0, c] w fun e w' => e = .returned (.tuple #[]) ∧ w' = w := by
 go_enter Tryz.func55, Tryz.ntmps55
 go_wp2_with fail
 go_loopw [8] (fun i wr => i = .int .i64 0 ∧ wr = w) (fun _ _ => 0)
 case atStart => exact ⟨rfl, rfl⟩
 case round =>
  obtain ⟨rfl, rfl⟩ := hrel
  go_wp2_with fail
  go_end0
  exact ⟨rfl, rfl⟩
set_option maxRecDepth 100000 in
set_option maxHeartbeats 6400000 in
theorem cstm_commit (w : World) (H : Nat) (hc : CkC w H ck0) (h7 : Tab7 w) : Calls Tryz.prog 25 #[.pointer (some ⟨H, 0, none⟩), .agg #[.int .i64 7, .string ⟨#[]⟩, .string ⟨#[]⟩, .slice none 0 0, .int .i64 0, .int .i64 0, .slice none 0 0, .bool false, .slice none 0 0, .slice none 0 0, .slice none 0 0, .slice none 0 0, .slice none 0 0, .slice none 0 0, .bool false, .int .i64 0, .slice none 0 0, .slice none 0 0, .slice none 0 0]] w (CkE w H ck0) := by
 have HR := hid (fun (u : World) (h : CkC u H ck0) => (req_any H ck0 true u h : Calls Tryz.prog 40 #[.pointer (some ⟨H, 0, none⟩), .bool true] u (CkE u H ck0)))
 have HQ := hid (fun (u : World) => same_any zQ zQ u _ _ (by decide) (by decide) zQ_OK zQ_OK (zQ_v u) (zQ_v u))
 have HL := hid (fun (u : World) (h : CkC u H ck0) => (clause_step (w0 := { u with heap := #[] }) (w := u) (H := H) (s := ck0) (l := []) (v := .slice none 0 0) ⟨rfl, rfl, rfl, Nat.zero_le _, fun i hi => absurd hi (Nat.not_lt_zero _)⟩ (Nat.zero_le _) h (dnil _) (by decide) (fun x hx => by cases hx) ⟨by decide, by decide, by decide, by decide⟩ : Calls Tryz.prog 57 #[.pointer (some ⟨H, 0, none⟩), .slice none 0 0] u (CkE u H ck0)))
 have s0 := h7 0 (by decide)
 have s1 := h7 1 (by decide)
 have s2 := h7 2 (by decide)
 have s3 := h7 3 (by decide)
 have s4 := h7 4 (by decide)
 have s5 := h7 5 (by decide)
 have hg := World.block_lt_of_cell? w _ s0
 have HS0 := hid (hp_al (hp_al hc (.cells #[.int .i64 7, .string ⟨#[]⟩, .string ⟨#[]⟩, .slice none 0 0, .int .i64 0, .int .i64 0, .slice none 0 0, .bool false, .slice none 0 0, .slice none 0 0, .slice none 0 0, .slice none 0 0, .slice none 0 0, .slice none 0 0, .bool false, .int .i64 0, .slice none 0 0, .slice none 0 0, .slice none 0 0] 52)) (.cells #[.bool false, .bool false, .bool false, .bool false, .bool false, .bool false] 102))
 have HX0 := hid (hp_al (heap_alloc_new w (.cells #[.int .i64 7, .string ⟨#[]⟩, .string ⟨#[]⟩, .slice none 0 0, .int .i64 0, .int .i64 0, .slice none 0 0, .bool false, .slice none 0 0, .slice none 0 0, .slice none 0 0, .slice none 0 0, .slice none 0 0, .slice none 0 0, .bool false, .int .i64 0, .slice none 0 0, .slice none 0 0, .slice none 0 0] 52)) (.cells #[.bool false, .bool false, .bool false, .bool false, .bool false, .bool false] 102))
 have HF0 := hid (heap_alloc_new (w.alloc (.cells #[.int .i64 7, .string ⟨#[]⟩, .string ⟨#[]⟩, .slice none 0 0, .int .i64 0, .int .i64 0, .slice none 0 0, .bool false, .slice none 0 0, .slice none 0 0, .slice none 0 0, .slice none 0 0, .slice none 0 0, .slice none 0 0, .bool false, .int .i64 0, .slice none 0 0, .slice none 0 0, .slice none 0 0] 52)) (.cells #[.bool false, .bool false, .bool false, .bool false, .bool false, .bool false] 102))
 rw [show (w.alloc (.cells #[.int .i64 7, .string ⟨#[]⟩, .string ⟨#[]⟩, .slice none 0 0, .int .i64 0, .int .i64 0, .slice none 0 0, .bool false, .slice none 0 0, .slice none 0 0, .slice none 0 0, .slice none 0 0, .slice none 0 0, .slice none 0 0, .bool false, .int .i64 0, .slice none 0 0, .slice none 0 0, .slice none 0 0] 52)).heap.size = w.heap.size + 1 from by simp] at HF0
 have HNE := hid (show w.heap.size ≠ H by have := hc.lt; omega)
 have HNF := hid (show w.heap.size + 1 ≠ H by have := hc.lt; omega)
 have HB0 := hid (((Chg.refl (fun k => k = H) w).alloc (.cells #[.int .i64 7, .string ⟨#[]⟩, .string ⟨#[]⟩, .slice none 0 0, .int .i64 0, .int .i64 0, .slice none 0 0, .bool false, .slice none 0 0, .slice none 0 0, .slice none 0 0, .slice none 0 0, .slice none 0 0, .slice none 0 0, .bool false, .int .i64 0, .slice none 0 0, .slice none 0 0, .slice none 0 0] 52)).alloc (.cells #[.bool false, .bool false, .bool false, .bool false, .bool false, .bool false] 102))
 clear hc h7
 go_enter Tryz.func25, Tryz.ntmps25
 go_wp2_with (first
  | (
    go_at_call 40; first
    | (refine (HR.out _ HS0.out).mono ?_; rintro e w1 ⟨rfl, hc, hb⟩; have hx := chg1_blk hb HX0.out HNE.out; have hf := chg1_blk hb HF0.out HNF.out; have hcg := chg1 HB0.out hb; have HS := hid hc; have HX := hid hx; have HF := hid hf; have HB := hid hcg; have c0 := cell_at hx 0 rfl; have c1 := cell_at hx 1 rfl; have c2 := cell_at hx 2 rfl; have c3 := cell_at hx 3 rfl; have c4 := cell_at hx 4 rfl; have c5 := cell_at hx 5 rfl; have c6 := cell_at hx 6 rfl; have c7 := cell_at hx 7 rfl; have c8 := cell_at hx 8 rfl; have c9 := cell_at hx 9 rfl; have c10 := cell_at hx 10 rfl; have c11 := cell_at hx 11 rfl; have c12 := cell_at hx 12 rfl; have c13 := cell_at hx 13 rfl; have c14 := cell_at hx 14 rfl; have c15 := cell_at hx 15 rfl; have c16 := cell_at hx 16 rfl; have c17 := cell_at hx 17 rfl; have c18 := cell_at hx 18 rfl; have f0 := cell_at hf 0 rfl; have f1 := cell_at hf 1 rfl; have f2 := cell_at hf 2 rfl; have f3 := cell_at hf 3 rfl; have f4 := cell_at hf 4 rfl; have f5 := cell_at hf 5 rfl; clear hx hf hcg hc hb HS0 HX0 HF0 HB0)
    | (refine (HR.out _ HS.out).mono ?_; rintro e w1 ⟨rfl, hc, hb⟩; have hx := chg1_blk hb HX.out HNE.out; have hf := chg1_blk hb HF.out HNF.out; have hcg := chg1 HB.out hb; clear HS HX HF HB c0 c1 c2 c3 c4 c5 c6 c7 c8 c9 c10 c11 c12 c13 c14 c15 c16 c17 c18 f0 f1 f2 f3 f4 f5; have HS := hid hc; have HX := hid hx; have HF := hid hf; have HB := hid hcg; have c0 := cell_at hx 0 rfl; have c1 := cell_at hx 1 rfl; have c2 := cell_at hx 2 rfl; have c3 := cell_at hx 3 rfl; have c4 := cell_at hx 4 rfl; have c5 := cell_at hx 5 rfl; have c6 := cell_at hx 6 rfl; have c7 := cell_at hx 7 rfl; have c8 := cell_at hx 8 rfl; have c9 := cell_at hx 9 rfl; have c10 := cell_at hx 10 rfl; have c11 := cell_at hx 11 rfl; have c12 := cell_at hx 12 rfl; have c13 := cell_at hx 13 rfl; have c14 := cell_at hx 14 rfl; have c15 := cell_at hx 15 rfl; have c16 := cell_at hx 16 rfl; have c17 := cell_at hx 17 rfl; have c18 := cell_at hx 18 rfl; have f0 := cell_at hf 0 rfl; have f1 := cell_at hf 1 rfl; have f2 := cell_at hf 2 rfl; have f3 := cell_at hf 3 rfl; have f4 := cell_at hf 4 rfl; have f5 := cell_at hf 5 rfl; clear hx hf hcg hc hb))
  | (go_at_call 6; refine (HQ.out _).mono ?_; rintro e w1 ⟨cb, rfl, hcb, hbb⟩; have hcc : cb = true := hcb.2 (by trivial); subst hcc; have hc := (hbb.block H (bx_lt HS.out)).trans HS.out; have hb := Chg.fresh (F := fun k => k = H) hbb; clear hcb hbb; have hx := chg1_blk hb HX.out HNE.out; have hf := chg1_blk hb HF.out HNF.out; have hcg := chg1 HB.out hb; clear HS HX HF HB c0 c1 c2 c3 c4 c5 c6 c7 c8 c9 c10 c11 c12 c13 c14 c15 c16 c17 c18 f0 f1 f2 f3 f4 f5; have HS := hid hc; have HX := hid hx; have HF := hid hf; have HB := hid hcg; have c0 := cell_at hx 0 rfl; have c1 := cell_at hx 1 rfl; have c2 := cell_at hx 2 rfl; have c3 := cell_at hx 3 rfl; have c4 := cell_at hx 4 rfl; have c5 := cell_at hx 5 rfl; have c6 := cell_at hx 6 rfl; have c7 := cell_at hx 7 rfl; have c8 := cell_at hx 8 rfl; have c9 := cell_at hx 9 rfl; have c10 := cell_at hx 10 rfl; have c11 := cell_at hx 11 rfl; have c12 := cell_at hx 12 rfl; have c13 := cell_at hx 13 rfl; have c14 := cell_at hx 14 rfl; have c15 := cell_at hx 15 rfl; have c16 := cell_at hx 16 rfl; have c17 := cell_at hx 17 rfl; have c18 := cell_at hx 18 rfl; have f0 := cell_at hf 0 rfl; have f1 := cell_at hf 1 rfl; have f2 := cell_at hf 2 rfl; have f3 := cell_at hf 3 rfl; have f4 := cell_at hf 4 rfl; have f5 := cell_at hf 5 rfl; clear hx hf hcg hc hb)
  | (go_at_call 53; refine (eachR_nil _ _).mono ?_; rintro e w1 ⟨rfl, rfl⟩)
  | (go_at_call 55; refine (eachS_nil _ _).mono ?_; rintro e w1 ⟨rfl, rfl⟩)
  | (go_at_call 57; refine (HL.out _ HS.out).mono ?_; rintro e w1 ⟨rfl, hc, hb⟩; have hx := chg1_blk hb HX.out HNE.out; have hf := chg1_blk hb HF.out HNF.out; have hcg := chg1 HB.out hb; clear HS HX HF HB c0 c1 c2 c3 c4 c5 c6 c7 c8 c9 c10 c11 c12 c13 c14 c15 c16 c17 c18 f0 f1 f2 f3 f4 f5; have HS := hid hc; have HX := hid hx; have HF := hid hf; have HB := hid hcg; have c0 := cell_at hx 0 rfl; have c1 := cell_at hx 1 rfl; have c2 := cell_at hx 2 rfl; have c3 := cell_at hx 3 rfl; have c4 := cell_at hx 4 rfl; have c5 := cell_at hx 5 rfl; have c6 := cell_at hx 6 rfl; have c7 := cell_at hx 7 rfl; have c8 := cell_at hx 8 rfl; have c9 := cell_at hx 9 rfl; have c10 := cell_at hx 10 rfl; have c11 := cell_at hx 11 rfl; have c12 := cell_at hx 12 rfl; have c13 := cell_at hx 13 rfl; have c14 := cell_at hx 14 rfl; have c15 := cell_at hx 15 rfl; have c16 := cell_at hx 16 rfl; have c17 := cell_at hx 17 rfl; have c18 := cell_at hx 18 rfl; have f0 := cell_at hf 0 rfl; have f1 := cell_at hf 1 rfl; have f2 := cell_at hf 2 rfl; have f3 := cell_at hf 3 rfl; have f4 := cell_at hf 4 rfl; have f5 := cell_at hf 5 rfl; clear hx hf hcg hc hb))
 go_end0
 exact ⟨rfl, HS.out, HB.out⟩
theorem stm_rng {u : World} {b : Nat} (h : u.heap[b]? = some (.cells #[.int .i64 7, .string ⟨#[]⟩, .string ⟨#[]⟩, .slice none 0 0, .int .i64 0, .int .i64 0, .slice none 0 0, .bool false, .slice none 0 0, .slice none 0 0, .slice none 0 0, .slice none 0 0, .slice none 0 0, .slice none 0 0, .bool false, .int .i64 0, .slice none 0 0, .slice none 0 0, .slice none 0 0] 52 (0, 0))) : u.rangeAt b 0 [.int .i64 7, .string ⟨#[]⟩, .string ⟨#[]⟩, .slice none 0 0, .int .i64 0, .int .i64 0, .slice none 0 0, .bool false, .slice none 0 0, .slice none 0 0, .slice none 0 0, .slice none 0 0, .slice none 0 0, .slice none 0 0, .bool false, .int .i64 0, .slice none 0 0, .slice none 0 0, .slice none 0 0] := fun j x hj => by
 rw [cell_of_row _ b _ _ _ _ h, Nat.zero_add]
 simpa using hj
theorem stm_info : (Tryz.prog.info? 52).map (·.size) = some 19 := by kernel_rfl
set_option maxRecDepth 100000 in
set_option maxHeartbeats 6400000 in
theorem wstm_commit (w : World) (A H B : Nat) (hc : WrC w A H B none wr0) : Calls Tryz.prog 26 #[.pointer (some ⟨H, 0, none⟩), .agg #[.int .i64 7, .string ⟨#[]⟩, .string ⟨#[]⟩, .slice none 0 0, .int .i64 0, .int .i64 0, .slice none 0 0, .bool false, .slice none 0 0, .slice none 0 0, .slice none 0 0, .slice none 0 0, .slice none 0 0, .slice none 0 0, .bool false, .int .i64 0, .slice none 0 0, .slice none 0 0, .slice none 0 0]] w (WrE w A H B none (wr0.put [[99, 111, 109, 109, 105, 116]])) := by
 have HP := hid (fun (o : Obj) => put_oneB (w := w.alloc o) (w.heap.size + 1) (by simp) [99, 111, 109, 109, 105, 116] ⟨#[99, 111, 109, 109, 105, 116]⟩ rfl (hc.alloc o) (rngB rfl) (by decide))
 have HK := hid (fun (o : Obj) => (WK.refl H B w none).alloc o)
 clear hc
 go_enter Tryz.func26, Tryz.ntmps26
 go_wp2_with (go_at_call 47; refine (HP.out _).mono ?_; clear HP; rintro e w1 ⟨rfl, g1, hc1, hk1⟩; have HS1 := hid hc1; have HK1 := hid ((HK.out _).trans hk1); clear hc1 hk1)
 go_end0
 exact ⟨rfl, g1, HS1.out, HK1.out⟩
set_option maxRecDepth 100000 in
set_option maxHeartbeats 6400000 in
theorem wholeS_commit (tx : List Int) (htx : tx = [99, 111, 109, 109, 105, 116]) (w : World) (h7 : Tab7 w) :
  Calls Tryz.prog 24 #[.agg #[.int .i64 7, .string ⟨#[]⟩, .string ⟨#[]⟩, .slice none 0 0, .int .i64 0, .int .i64 0, .slice none 0 0, .bool false, .slice none 0 0, .slice none 0 0, .slice none 0 0, .slice none 0 0, .slice none 0 0, .slice none 0 0, .bool false, .int .i64 0, .slice none 0 0, .slice none 0 0, .slice none 0 0], .func (.func 25) #[] #[], .func (.func 26) #[] #[]] w (fun e w' => e = .returned (.tuple #[.string (str tx), .int .i64 0]) ∧ Below w.heap.size w w') := by
 obtain ⟨sw, hsw⟩ : ∃ s, s = wr0.put [[99, 111, 109, 109, 105, 116]] := ⟨_, rfl⟩
 have hst : sw.tx = tx := by rw [hsw, htx]; decide
 have hsl : sw.tx.length = 6 := by rw [hst, htx]; rfl
 clear htx
 have HC1 := hid (fun (u : World) (h : CkC u (w.heap.size + 1) ck0 ∧ Tab7 u) => cstm_commit u _ h.1 h.2)
 have HC2 := hid (fun (u : World) (h : CkC u (w.heap.size + 1) ck0) => (first_any _ _ u h : Calls Tryz.prog 34 #[.pointer (some ⟨w.heap.size + 1, 0, none⟩)] u fun e w' => e = .returned (.int .i64 0) ∧ Below u.heap.size u w'))
 have HS0 := hid (show CkC ((w.alloc (.cells #[.int .i64 7, .string ⟨#[]⟩, .string ⟨#[]⟩, .slice none 0 0, .int .i64 0, .int .i64 0, .slice none 0 0, .bool false, .slice none 0 0, .slice none 0 0, .slice none 0 0, .slice none 0 0, .slice none 0 0, .slice none 0 0, .bool false, .int .i64 0, .slice none 0 0, .slice none 0 0, .slice none 0 0] 52)).alloc (.cells #[.int .i64 0, .int .i64 0, .bool false, .bool false, .bool false, .bool false] 81)) (w.heap.size + 1) ck0 ∧ Tab7 ((w.alloc (.cells #[.int .i64 7, .string ⟨#[]⟩, .string ⟨#[]⟩, .slice none 0 0, .int .i64 0, .int .i64 0, .slice none 0 0, .bool false, .slice none 0 0, .slice none 0 0, .slice none 0 0, .slice none 0 0, .slice none 0 0, .slice none 0 0, .bool false, .int .i64 0, .slice none 0 0, .slice none 0 0, .slice none 0 0] 52)).alloc (.cells #[.int .i64 0, .int .i64 0, .bool false, .bool false, .bool false, .bool false] 81)) from ⟨by
  have h := heap_alloc_new (w.alloc (.cells #[.int .i64 7, .string ⟨#[]⟩, .string ⟨#[]⟩, .slice none 0 0, .int .i64 0, .int .i64 0, .slice none 0 0, .bool false, .slice none 0 0, .slice none 0 0, .slice none 0 0, .slice none 0 0, .slice none 0 0, .slice none 0 0, .bool false, .int .i64 0, .slice none 0 0, .slice none 0 0, .slice none 0 0] 52)) (.cells #[.int .i64 0, .int .i64 0, .bool false, .bool false, .bool false, .bool false] 81)
  rwa [show (w.alloc (.cells #[.int .i64 7, .string ⟨#[]⟩, .string ⟨#[]⟩, .slice none 0 0, .int .i64 0, .int .i64 0, .slice none 0 0, .bool false, .slice none 0 0, .slice none 0 0, .slice none 0 0, .slice none 0 0, .slice none 0 0, .slice none 0 0, .bool false, .int .i64 0, .slice none 0 0, .slice none 0 0, .slice none 0 0] 52)).heap.size = w.heap.size + 1 from by simp] at h, h7.keep (((Below.refl w.heap.size w).alloc (Nat.le_refl _) _).alloc (by simp) _)⟩)
 have HX0 := hid (hp_al (heap_alloc_new w (.cells #[.int .i64 7, .string ⟨#[]⟩, .string ⟨#[]⟩, .slice none 0 0, .int .i64 0, .int .i64 0, .slice none 0 0, .bool false, .slice none 0 0, .slice none 0 0, .slice none 0 0, .slice none 0 0, .slice none 0 0, .slice none 0 0, .bool false, .int .i64 0, .slice none 0 0, .slice none 0 0, .slice none 0 0] 52)) (.cells #[.int .i64 0, .int .i64 0, .bool false, .bool false, .bool false, .bool false] 81))
 have HNE := hid (show w.heap.size ≠ w.heap.size + 1 by omega)
 have HRG1 := hid (stm_rng HX0.out)
 have HI := hid stm_info
 have HBK := hid (fun (u : World) (h : Chg (fun k => k = w.heap.size + 1) ((w.alloc (.cells #[.int .i64 7, .string ⟨#[]⟩, .string ⟨#[]⟩, .slice none 0 0, .int .i64 0, .int .i64 0, .slice none 0 0, .bool false, .slice none 0 0, .slice none 0 0, .slice none 0 0, .slice none 0 0, .slice none 0 0, .slice none 0 0, .bool false, .int .i64 0, .slice none 0 0, .slice none 0 0, .slice none 0 0] 52)).alloc (.cells #[.int .i64 0, .int .i64 0, .bool false, .bool false, .bool false, .bool false] 81)) u) => (((Below.refl w.heap.size w).alloc (Nat.le_refl _) (.cells #[.int .i64 7, .string ⟨#[]⟩, .string ⟨#[]⟩, .slice none 0 0, .int .i64 0, .int .i64 0, .slice none 0 0, .bool false, .slice none 0 0, .slice none 0 0, .slice none 0 0, .slice none 0 0, .slice none 0 0, .slice none 0 0, .bool false, .int .i64 0, .slice none 0 0, .slice none 0 0, .slice none 0 0] 52)).alloc (by simp) (.cells #[.int .i64 0, .int .i64 0, .bool false, .bool false, .bool false, .bool false] 81)).trans (h.below (B := w.heap.size) (fun i hi => by omega) (by simp; omega)))
 have HWQ := hid (fun (u : World) (A : Nat) (h : WrC u A (A + 1) A none wr0) => (by rw [hsw]; exact wstm_commit u A (A + 1) A h : Calls Tryz.prog 26 #[.pointer (some ⟨A + 1, 0, none⟩), .agg #[.int .i64 7, .string ⟨#[]⟩, .string ⟨#[]⟩, .slice none 0 0, .int .i64 0, .int .i64 0, .slice none 0 0, .bool false, .slice none 0 0, .slice none 0 0, .slice none 0 0, .slice none 0 0, .slice none 0 0, .slice none 0 0, .bool false, .int .i64 0, .slice none 0 0, .slice none 0 0, .slice none 0 0]] u (WrE u A (A + 1) A none sw)))
 have HL := hid (fun (u : World) (A : Nat) (g : Option Nat) (h : WrC u A (A + 1) A g sw) => (by have k := Tryz.Builder_Len A A (cellsB sw.tx) u h.bld.is; rwa [show (cellsB sw.tx).length = 6 from by simp [cellsB, hsl]] at k : Calls Tryz.prog 36 #[.pointer (some ⟨A, 0, none⟩)] u fun e w' => e = .returned (.int .i64 6) ∧ w' = u))
 have HST := hid (fun (u : World) (A : Nat) (g : Option Nat) (h : WrC u A (A + 1) A g sw) => (by
  have k := h.bld.is
  rw [cellsB_bytes h.rt] at k
  rw [← hst]
  exact Tryz.Builder_String_any A A _ u k (by obtain ⟨-, p, v, -, hb, -⟩ := h.bld; have := bx_lt hb; omega) : Calls Tryz.prog 37 #[.pointer (some ⟨A, 0, none⟩)] u fun e w' => e = .returned (.string (str tx)) ∧ Below A u w'))
 clear h7 hst hsl hsw
 go_enter Tryz.func24, Tryz.ntmps24
 go_wp2_with (first
  | (refine wpList_load_mid rfl 52 (Operand.tmp 3) rfl w.heap.size 0 rfl [.int .i64 7, .string ⟨#[]⟩, .string ⟨#[]⟩, .slice none 0 0, .int .i64 0, .int .i64 0, .slice none 0 0, .bool false, .slice none 0 0, .slice none 0 0, .slice none 0 0, .slice none 0 0, .slice none 0 0, .slice none 0 0, .bool false, .int .i64 0, .slice none 0 0, .slice none 0 0, .slice none 0 0] _ HRG1.out Tryz.underlying52 rfl HI.out ?_)
  | (refine wpList_load_mid rfl 52 (Operand.tmp 3) rfl w.heap.size 0 rfl [.int .i64 7, .string ⟨#[]⟩, .string ⟨#[]⟩, .slice none 0 0, .int .i64 0, .int .i64 0, .slice none 0 0, .bool false, .slice none 0 0, .slice none 0 0, .slice none 0 0, .slice none 0 0, .slice none 0 0, .slice none 0 0, .bool false, .int .i64 0, .slice none 0 0, .slice none 0 0, .slice none 0 0] _ (HRG2.out _ _) Tryz.underlying52 rfl HI.out ?_)
  | (go_at_call 25; refine (HC1.out _ HS0.out).mono ?_; clear HC1; rintro e w1 ⟨rfl, hc, hb⟩; have HS1 := hid hc; have HB1 := hid (HBK.out w1 hb); have HX1 := hid (chg1_blk hb HX0.out HNE.out); clear hb hc)
  | (go_at_call 34; refine (HC2.out _ HS1.out).mono ?_; clear HC2; rintro e w2 ⟨rfl, hb⟩; have HB2 := hid (HB1.out.trans (hb.mono HB1.out.size)); have HRG2 := hid (fun (o1 o2 : Obj) => stm_rng (hp_al (hp_al ((hb.block w.heap.size (bx_lt HX1.out)).trans HX1.out) o1) o2)); clear hb)
  | (go_at_call 26; refine (HWQ.out _ _ (fresh_wr _ rfl _ rfl)).mono ?_; clear HWQ; rintro e w3 ⟨rfl, g, hc, hk⟩; have HS3 := hid hc; have HB3 := hid (((HB2.out.alloc HB2.out.size _).alloc (by have := HB2.out.size; simp; omega) _).trans (hk.chg.below (B := w.heap.size) (fun i hi => by have := HB2.out.size; rcases hi with rfl | rfl | hi <;> first | omega | cases hi) (by have := HB2.out.size; simp; omega))); clear hc hk)
  | (go_at_call 36; refine (HL.out _ _ _ HS3.out).mono ?_; clear HL; rintro e w4 ⟨rfl, rfl⟩)
  | (go_at_call 37; refine (HST.out _ _ _ HS3.out).mono ?_; clear HST; rintro e w5 ⟨rfl, hb⟩; have HB5 := hid (HB3.out.trans (hb.mono HB2.out.size)); clear hb))
 go_ret2
 exact ⟨rfl, HB5.out⟩
set_option maxRecDepth 100000 in
set_option maxHeartbeats 3200000 in
theorem statement_commit (tx : List Int) (htx : tx = [99, 111, 109, 109, 105, 116]) (w : World) (h7 : Tab7 w) :
  Calls Tryz.prog 10 #[.agg #[.int .i64 7, .string ⟨#[]⟩, .string ⟨#[]⟩, .slice none 0 0, .int .i64 0, .int .i64 0, .slice none 0 0, .bool false, .slice none 0 0, .slice none 0 0, .slice none 0 0, .slice none 0 0, .slice none 0 0, .slice none 0 0, .bool false, .int .i64 0, .slice none 0 0, .slice none 0 0, .slice none 0 0]] w (fun e w' => e = .returned (.tuple #[.string (str tx), .int .i64 0]) ∧ Below w.heap.size w w') := by
 have HC := hid (fun (o : Obj) => wholeS_commit tx htx (w.alloc o) (h7.keep ((Below.refl w.heap.size w).alloc (Nat.le_refl _) o)))
 have HB := hid (fun (o : Obj) => (Below.refl w.heap.size w).alloc (Nat.le_refl _) o)
 have HZ := hid (fun (o : Obj) => (show w.heap.size ≤ (w.alloc o).heap.size by simp))
 clear h7 htx
 have HRG := hid (stm_rng (heap_alloc_new w (.cells #[.int .i64 7, .string ⟨#[]⟩, .string ⟨#[]⟩, .slice none 0 0, .int .i64 0, .int .i64 0, .slice none 0 0, .bool false, .slice none 0 0, .slice none 0 0, .slice none 0 0, .slice none 0 0, .slice none 0 0, .slice none 0 0, .bool false, .int .i64 0, .slice none 0 0, .slice none 0 0, .slice none 0 0] 52)))
 have HI := hid stm_info
 go_enter Tryz.func10, Tryz.ntmps10
 go_wp2_with (first | (refine wpList_load_mid rfl 52 (Operand.tmp 1) rfl w.heap.size 0 rfl [.int .i64 7, .string ⟨#[]⟩, .string ⟨#[]⟩, .slice none 0 0, .int .i64 0, .int .i64 0, .slice none 0 0, .bool false, .slice none 0 0, .slice none 0 0, .slice none 0 0, .slice none 0 0, .slice none 0 0, .slice none 0 0, .bool false, .int .i64 0, .slice none 0 0, .slice none 0 0, .slice none 0 0] _ HRG.out Tryz.underlying52 rfl HI.out ?_) | (go_at_call 24; refine (HC.out _).mono ?_; clear HC; rintro e w1 ⟨rfl, hb⟩; have HB1 := hid ((HB.out _).trans (hb.mono (HZ.out _))); clear hb))
 go_ret2
 exact ⟨rfl, HB1.out⟩
end Go.Proofs.YtegkbagnbnoopaaGreatDoor
/- a slice just laid reads as data -/
namespace Go.Proofs.YtegkbagnbnoopaaGreatDoor
open Go.ChangeShapes Go.WideShapes Go.ChangeAt Go.RowKit Go.Deep
open Go.Lib (hid)
def AllD (u : World) : List Value → List Da → Prop
 | [], [] => True
 | v :: l, x :: m => DIs u v x ∧ AllD u l m
 | _, _ => False
theorem AllD.get {u : World} : ∀ {l : List Value} {m : List Da}, AllD u l m → ∀ {k : Nat} {x : Da}, m[k]? = some x → ∃ v, l[k]? = some v ∧ DIs u v x
 | [], [], _, k, x, h => by simp at h
 | v :: l, y :: m, h, 0, x, hx => by
  injection hx with hx
  subst hx
  exact ⟨v, rfl, h.1⟩
 | v :: l, y :: m, h, k + 1, x, hx => AllD.get h.2 (k := k) (by simpa using hx)
 | [], _ :: _, h, _, _, _ => h.elim
 | _ :: _, [], h, _, _, _ => h.elim
theorem flat_any {α : Type} {s : Nat} : ∀ (xs : List (List α)), (∀ r ∈ xs, r.length = s) → ∀ (i j : Nat) (r : List α), xs[i]? = some r → j < s → xs.flatten[i * s + j]? = r[j]?
  | [], _, i, j, r, h, _ => by simp at h
  | y :: xs, hl, 0, j, r, h, hj => by
    injection h with h
    subst h
    have := hl y List.mem_cons_self
    rw [List.flatten_cons, Nat.zero_mul, Nat.zero_add, List.getElem?_append_left (by omega)]
  | y :: xs, hl, i + 1, j, r, h, hj => by
    have h0 := hl y List.mem_cons_self
    have h1 := flat_any xs (fun r hr => hl r (List.mem_cons_of_mem _ hr)) i j r (by simpa using h) hj
    rw [List.flatten_cons, Nat.succ_mul, List.getElem?_append_right (by omega), ← h1]
    congr 1
    omega
theorem dis_lit {u : World} {T : TypeId} {b n s : Nat} {cs : List Value} {kids : List (List Da)} (h : u.heap[b]? = some (.cells cs.toArray T (0, 0))) (hn : kids.length = n) (hs : ∀ r ∈ kids, r.length = s) (hd : AllD u cs kids.flatten) : DIs u (.slice (some ⟨b, 0, none⟩) n n) (.sl kids) := by
 have hl := bx_lt h
 have hf : ∀ i j r x, kids[i]? = some r → r[j]? = some x → ∃ v, cs[i * s + j]? = some v ∧ DIs u v x := fun i j r x hi hj => hd.get (by rw [flat_any kids hs i j r hi (by have := (List.getElem?_eq_some_iff.1 hj).1; have := hs r (List.mem_of_getElem? hi); omega)]; exact hj)
 refine .sl _ n n s kids (fun i j => cs[i * s + j]?.getD undef) hn (Nat.le_refl n) hs (fun _ => ⟨b, 0, rfl, hl⟩) (fun i j r x hi hj g o he => ?_) (fun i j r x hi hj => ?_)
 ·injection he with he
  injection he with h1 h2
  subst h1 h2
  obtain ⟨v, hv, -⟩ := hf i j r x hi hj
  show u.cell? ⟨b, 0 + (i * s + j), none⟩ = some (cs[i * s + j]?.getD undef)
  rw [cell_of_row _ b _ _ _ _ h, Nat.zero_add, hv]
  simpa using hv
 ·obtain ⟨v, hv, hx⟩ := hf i j r x hi hj
  rw [hv]
  exact hx
end Go.Proofs.YtegkbagnbnoopaaGreatDoor
