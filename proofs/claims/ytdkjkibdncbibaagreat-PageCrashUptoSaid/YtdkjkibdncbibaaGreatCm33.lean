/-
 PageCrash, second form: for any hold, junk, script and fuse, whichever writes survive and wherever the last one is torn, where the arguments are of bulk at most 1048576, the law returns true and its arguments read as before. Conditions: those of the given statement alone.
-/
import Derived.Test.YtdkjkibdncbibaaGreatCm03
import Derived.Test.YtdkjkibdncbibaaGreatCm30
import Derived.Test.YtdkjkibdncbibaaGreatCm32
namespace Go.Proofs.YtdkjkibdncbibaaGreat
open Go.ChangeShapes Go.WideShapes Go.ChangeAt Go.RowKit Go.Deep
open Go.Lib (hid)
namespace plainPageCrash
set_option maxRecDepth 100000 in
theorem bools_of_arg {H : Type} {enc : TypeId × Value → H} {W : World} {v : Value} {d : DataW H} {p : List MemPlace} {b : Nat}
  (hok : Value.okWide Tryz.prog W .any b 40 v) (h : DataW.Trod enc Tryz.prog W 0 (fun _ => true) true 40 v d p) (hB : Rows.uptoBulk d ≤ 1048576) :
  ∃ ks : List Bool, Bools W v ks ∧ ks.length ≤ 1048576 := by
 obtain ⟨a0, len, cap, rfl⟩ := okWide_slice Tryz.underlying40 hok
 obtain ⟨fuel, hf⟩ := h
 have hf' : DataW.trod enc Tryz.prog W 0 (fun _ => true) true fuel 40 [.slice a0 len cap] = some (d, p) := by simpa [Value.cells] using hf
 obtain ⟨ks, h1, h2⟩ := bools_of_trod hf'
 exact ⟨ks, h1, Nat.le_trans h2 hB⟩
set_option maxRecDepth 100000 in
theorem contract (H : Type) (enc : TypeId × Value → H) (W : World) (base : Nat) (args : Array Value) (ds gs : List (DataW H)) (before : List MemPlace)
  (hval : ∀ (j : Nat) t v, Tryz.f4.params[j]? = some t → args[j]? = some v → Value.okWide Tryz.prog W .any base t v)
  (hW : DataW.Whole enc Tryz.prog Tryz.f4.params.toList Rows.pageCrashSpec.vars false W args.toList ds gs before) (hk : Rows.uptoSmall H (ds ++ gs) = true) :
  Calls Tryz.prog 4 args W fun e W' => ∃ v, e = .returned v ∧ Rows.pageCrashSpec.post enc Tryz.prog Tryz.f4 false true false false W args v W' := by
 have hW' := hW
 obtain ⟨p, q, hA0, hV, rfl, hfz, hnd⟩ := hW
 have hA : DataW.TrodAll enc Tryz.prog W 0 (fun _ => true) true Tryz.f4.params.toList args.toList ds p := hA0
 rw [Tryz.params4] at hA hval
 obtain ⟨v0, vs0, d0, ds0, p0, q0, hargs, rfl, rfl, h0, r0⟩ := trodAll_cons hA
 obtain ⟨v1, vs1, d1, ds1, p1, q1, rfl, rfl, rfl, h1, r1⟩ := trodAll_cons r0
 obtain ⟨v2, vs2, d2, ds2, p2, q2, rfl, rfl, rfl, h2, r2⟩ := trodAll_cons r1
 obtain ⟨v3, vs3, d3, ds3, p3, q3, rfl, rfl, rfl, h3, r3⟩ := trodAll_cons r2
 obtain ⟨v4, vs4, d4, ds4, p4, q4, rfl, rfl, rfl, h4, r4⟩ := trodAll_cons r3
 obtain ⟨v5, vs5, d5, ds5, p5, q5, rfl, rfl, rfl, h5, r5⟩ := trodAll_cons r4
 obtain ⟨rfl, rfl, rfl⟩ := trodAll_nil r5
 obtain rfl : args = #[v0, v1, v2, v3, v4, v5] := by cases args; simp_all
 obtain ⟨rfl, rfl⟩ := trodVars_none hV
 have hbulk : Rows.uptoBulkAll ([d0, d1, d2, d3, d4, d5] ++ []) ≤ 1048576 := of_decide_eq_true hk
 simp only [List.append_nil, Rows.uptoBulkAll] at hbulk
 obtain ⟨a0, rfl, rfl, rfl, g0⟩ := open_int Tryz.underlying3 (hval 0 3 v0 rfl rfl) h0
 replace g0 := i64_of_wf g0
 obtain ⟨a2, b2, g2⟩ := steps5_of_trod (hval 2 22 v2 rfl rfl) h2 (by omega)
 obtain ⟨a3, rfl, rfl, rfl, g3⟩ := open_int Tryz.underlying3 (hval 3 3 v3 rfl rfl) h3
 replace g3 := i64_of_wf g3
 obtain ⟨a4, b4, g4⟩ := bools_of_arg (hval 4 40 v4 rfl rfl) h4 (by omega)
 obtain ⟨a5, rfl, rfl, rfl, g5⟩ := open_int Tryz.underlying3 (hval 5 3 v5 rfl rfl) h5
 replace g5 := i64_of_wf g5
 obtain ⟨a1, rfl, rfl, rfl, g1⟩ := open_int Tryz.underlying5 (hval 1 5 v1 rfl rfl) h1
 replace g1 := u8_of_wf g1
 refine (crash_walk5 a0 a1 a3 a5 v2 v4 a2 a4 W b2 b4 g2 (by omega) g3.2).mono fun e W' ⟨he, hb⟩ => ⟨_, he, ?_⟩
 exact law_post (T := 4) laidOut (by rw [Tryz.params4]; decide +kernel) rfl rfl Tryz.underlying4 (fun gs h => by subst h; rfl) hW' hb
set_option maxRecDepth 100000 in
theorem lifted (os : Os) (started : os.Started) (H : Type) (enc : TypeId × Value → H) (F : Stop.Interp) :
  ReturnsInHanded {} Tryz.checked os 4 .any ((Rows.OpenSpec.upto Rows.pageCrashSpec).pre6 enc Tryz.prog Tryz.f4 Rows.pageCrashUptoRow.domain false) (((Rows.OpenSpec.upto Rows.pageCrashSpec).at F).post enc Tryz.prog Tryz.f4 false true false false) := by
 refine returnsInHanded_of_cond (C := Tryz.checked) (s := Rows.OpenSpec.upto Rows.pageCrashSpec) (k := Rows.uptoSmall) rfl own started (by kernel_rfl) Tryz.func4
  (OpenSpec.witness (enc := enc) (C := Tryz.checked) (s := Rows.OpenSpec.upto Rows.pageCrashSpec) (k := Rows.uptoSmall) rfl false ⟨#[], #[.int .i64 0, .int .u8 0, .slice none 0 0, .int .i64 0, .slice none 0 0, .int .i64 0], []⟩ 8 (by kernel_rfl) (by kernel_rfl) (by kernel_rfl)
   (x := ([.lit (.int .i64 0), .lit (.int .u8 0), .nil, .lit (.int .i64 0), .nil, .lit (.int .i64 0)], [], [])) (by kernel_rfl) rfl (by kernel_rfl)) ?_
 intro W base args ds gs before hval hW _ hk _
 exact contract H enc W base args ds gs before hval hW hk
theorem over : Rows.pageCrashUptoRow.holds Tryz.pinned (Rows.OpenSpec.upto Rows.pageCrashSpec) :=
 OpenClaim.holds_of_cond 4 Tryz.f4 rfl rfl rfl rfl rfl rfl rfl ⟨rfl, rfl, rfl, rfl, rfl⟩ rfl rfl rfl rfl rfl (by kernel_rfl) Tryz.func4 (by kernel_rfl)
  (of_decide_eq_true (by kernel_rfl)) (by unfold Func.isWrapper; first | (rw [if_pos (by decide +kernel)]; kernel_rfl) | (rw [if_neg (by decide +kernel)]; exact ⟨rfl, rfl⟩))
  (fun os started H enc _ F => lifted os started H enc F)
/-- the statement, its second form -/
theorem proved : Rows.PageCrashUptoSaid := over
end plainPageCrash
theorem pageCrashUpto : Rows.PageCrashUptoSaid := plainPageCrash.proved
end Go.Proofs.YtdkjkibdncbibaaGreat
