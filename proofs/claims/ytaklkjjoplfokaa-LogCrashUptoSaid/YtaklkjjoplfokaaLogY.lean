/-
  LogCrash, second form: for all groups of records, every fuse, every restart, whichever writes survive and wherever the last one is torn, where the arguments are of bulk at most 1048576, the law returns true and its arguments read as before. Conditions: those of the given statement alone.
-/
import Derived.Test.YtaklkjjoplfokaaLogK
import Derived.Test.YtaklkjjoplfokaaDiskS
import Derived.Test.YtaklkjjoplfokaaLogX
import Derived.WalkKit
import Derived.ProofKit
import Derived.OpenShut
namespace Go.Proofs.Ytaklkjjoplfokaa
open Go.ChangeShapes Go.WideShapes Go.ChangeAt Go.RowKit Go.Deep
namespace plainLogCrash
/-- a slice of slices of bytes that was read -/
theorem pss_of_trod1 {H : Type} {enc : TypeId × Value → H} {P : Program} {W : World} {t e q : TypeId} (ht : P.underlying t = some (.slice e)) (he : P.underlying e = some (.slice q)) (hq : P.underlying q = some (.int .u8)) (ce : P.cellsOf e = 1) (cq : P.cellsOf q = 1) {fuel : Nat} {v : Value} {d : DataW H} {p : List MemPlace}
    (h : DataW.trod enc P W 0 (fun _ => true) true fuel t [v] = some (d, p)) : ∃ ps : List (List Int), Pss0 W v ps ∧ (∀ p ∈ ps, Rng p) ∧ jlen ps ≤ 8 * Rows.uptoBulk d := by
  rcases open_int_rows ht he hq ce cq h with ⟨hcs, hx⟩ | ⟨a, len, cap, A, L, C, Z, hcs, _, hl, _, hx, hrow⟩
  · have hv : v = .slice none 0 0 := by simpa using hcs
    subst hv
    exact ⟨[], ⟨none, 0, rfl, fun h => by simp at h⟩, fun p hp => by simp at hp, Nat.zero_le _⟩
  · have hv : v = .slice (some a) len cap := by simpa using hcs
    subst hv
    simp only [Prod.mk.injEq] at hx
    obtain ⟨rfl, _⟩ := hx
    have hget : ∀ i, i < len → ((List.range len).map fun r => (Z r).take (L r))[i]?.getD [] = (Z i).take (L i) := fun i hi => by simp [hi]
    refine ⟨(List.range len).map fun r => (Z r).take (L r), ⟨some a, cap, by simp, fun hl0 => ?_⟩, ?_, ?_⟩
    · simp only [List.length_map, List.length_range] at hl0
      have h0 := (hrow 0 (by omega)).1
      have hsp := World.cell?_spot h0
      have hlt := World.block_lt_of_cell? _ _ h0
      obtain ⟨ab, ao, asp⟩ := a
      have hsp' : asp = none := by simpa [Addr.add] using hsp
      subst hsp'
      refine ⟨ab, ao, rfl, by simpa [Addr.add] using hlt, fun i hi => ?_⟩
      simp only [List.length_map, List.length_range] at hi
      obtain ⟨h1, h2, _, h3, h4, h5, h6⟩ := hrow i (by omega)
      rw [add_plain] at h1
      rw [hget i hi]
      have hlen : ((Z i).take (L i)).length = L i := by rw [List.length_take]; omega
      refine ⟨_, h1, A i, C i, by rw [hlen], ⟨by omega, h5⟩, fun hl1 => ?_⟩
      rw [hlen] at hl1
      cases hA : A i with
      | none => have := h5 hA; omega
      | some a' =>
        obtain ⟨_, h7⟩ := h6 a' hA
        have g0 := h7 0 (by omega)
        have gsp := World.cell?_spot g0
        have glt := World.block_lt_of_cell? _ _ g0
        obtain ⟨bb, bo, bsp⟩ := a'
        have gsp' : bsp = none := by simpa [Addr.add] using gsp
        subst gsp'
        refine ⟨bb, bo, rfl, by simpa [Addr.add] using glt, fun j hj => ?_⟩
        rw [hlen] at hj
        have h8 := h7 j (by omega)
        rw [add_plain] at h8
        rw [h8, List.getElem?_take_of_lt hj]
        simp [List.getD]
    · intro p hp
      obtain ⟨r, hr, rfl⟩ := List.mem_map.1 hp
      obtain ⟨_, _, _, _, h4, _⟩ := hrow r (by have := List.mem_range.1 hr; omega)
      exact rng_of_wf fun n hn => h4 n (List.mem_of_mem_take hn)
    · have := jlen_bulk (H := H) (fun r => (Z r).take (L r)) (fun r => intRow .u8 (A r) (L r) (Z r)) (List.range len) (fun r hr => by
        obtain ⟨_, h2, _, h3, _, h5, _⟩ := hrow r (by have := List.mem_range.1 hr; omega)
        have := bulk_row (H := H) (A := A r) (L := L r) (zs := Z r) (by omega) (fun e => by have := h5 e; omega)
        rw [List.length_take]
        omega)
      simp only [Rows.uptoBulk]
      omega
theorem bulk_pos {H : Type} (d : DataW H) : 1 ≤ Rows.uptoBulk d := by
  unfold Rows.uptoBulk
  split <;> omega
theorem bulk_mem {H : Type} : ∀ (l : List (DataW H)), l.length ≤ Rows.uptoBulkAll l ∧ ∀ d ∈ l, Rows.uptoBulk d ≤ Rows.uptoBulkAll l
  | [] => ⟨Nat.zero_le _, fun d h => by cases h⟩
  | x :: l => by
    obtain ⟨h1, h2⟩ := bulk_mem l
    have e : Rows.uptoBulkAll (x :: l) = Rows.uptoBulk x + Rows.uptoBulkAll l := by simp [Rows.uptoBulkAll]
    have hp := bulk_pos x
    refine ⟨by rw [e, List.length_cons]; omega, fun d hd => ?_⟩
    rw [e]
    rcases List.mem_cons.1 hd with h | h
    · subst h; omega
    · have := h2 d h; omega
theorem cells67 : Try.prog.cellsOf 67 = 1 := by kernel_rfl
set_option maxRecDepth 100000 in
theorem gss_of_arg {H : Type} {enc : TypeId × Value → H} {W : World} {v : Value} {d : DataW H} {p : List MemPlace} {b : Nat}
    (hok : Value.okWide Try.prog W .any b 66 v) (h : DataW.Trod enc Try.prog W 0 (fun _ => true) true 66 v d p) (hB : Rows.uptoBulk d ≤ 1048576) :
    ∃ gs : List (List (List Int)), Gss W W.heap.size v gs ∧ (∀ g ∈ gs, g.length ≤ 1048576 ∧ ∀ r ∈ g, Rng r ∧ r.length ≤ 16777216) ∧ gs.length ≤ 1048576 := by
  obtain ⟨a0, len, cap, rfl⟩ := okWide_slice Try.underlying66 hok
  obtain ⟨fuel, hf⟩ := h
  have hf' : DataW.trod enc Try.prog W 0 (fun _ => true) true fuel 66 [.slice a0 len cap] = some (d, p) := by simpa [Value.cells] using hf
  rcases open_slice1 Try.underlying66 cells67 hf' with ⟨hcs, hx⟩ | ⟨a, len', cap', m, n, V, D, Pl, hcs, _, hl, _, hm, hx, hrow⟩
  · simp at hcs
    obtain ⟨rfl, rfl, rfl⟩ := hcs
    exact ⟨[], ⟨none, 0, rfl, fun h => by simp at h⟩, fun g hg => by simp at hg, Nat.zero_le _⟩
  · simp at hcs
    obtain ⟨rfl, rfl, rfl⟩ := hcs
    simp only [if_true] at hm
    simp only [Prod.mk.injEq] at hx
    obtain ⟨rfl, _⟩ := hx
    obtain ⟨F, hF⟩ := choose_lt (p := fun i ps => Pss0 W (V i) ps ∧ (∀ p ∈ ps, Rng p) ∧ jlen ps ≤ 8 * Rows.uptoBulk (D i)) (n := len) (fun i hi => pss_of_trod1 Try.underlying67 Try.underlying62 Try.underlying5 cells62 cells5 (hrow i (by omega)).2)
    simp only [Rows.uptoBulk] at hB
    obtain ⟨q1, q2⟩ := bulk_mem ((List.range len).map D)
    rw [List.length_map, List.length_range] at q1
    have hD : ∀ i, i < len → Rows.uptoBulk (D i) ≤ 1048576 := fun i hi => by
      have := q2 (D i) (List.mem_map.2 ⟨i, List.mem_range.2 hi, rfl⟩)
      omega
    refine ⟨(List.range len).map F, ⟨some a, cap, by simp, fun hl0 => ?_⟩, fun g hg => ?_, by simp; omega⟩
    · simp only [List.length_map, List.length_range] at hl0
      have h0 := (hrow 0 (by omega)).1
      have hsp := World.cell?_spot h0
      have hlt := World.block_lt_of_cell? _ _ h0
      obtain ⟨ab, ao, asp⟩ := a
      have hsp' : asp = none := by simpa [Addr.add] using hsp
      subst hsp'
      refine ⟨ab, ao, rfl, by simpa [Addr.add] using hlt, fun i hi => ?_⟩
      simp only [List.length_map, List.length_range] at hi
      have h1 := (hrow i (by omega)).1
      rw [add_plain] at h1
      rw [show ((List.range len).map F)[i]?.getD [] = F i by simp [hi]]
      exact ⟨_, h1, recs_of_pss (hF i hi).1⟩
    · obtain ⟨r, hr, rfl⟩ := List.mem_map.1 hg
      have hr' := List.mem_range.1 hr
      obtain ⟨_, h2, h3⟩ := hF r hr'
      obtain ⟨h4, h5⟩ := jlen_mem (F r)
      have h6 := hD r hr'
      exact ⟨by omega, fun y hy => ⟨h2 y hy, by have := h5 y hy; omega⟩⟩
set_option maxRecDepth 100000 in
theorem bools_of_arg {H : Type} {enc : TypeId × Value → H} {W : World} {v : Value} {d : DataW H} {p : List MemPlace} {b : Nat}
    (hok : Value.okWide Try.prog W .any b 28 v) (h : DataW.Trod enc Try.prog W 0 (fun _ => true) true 28 v d p) (hB : Rows.uptoBulk d ≤ 1048576) :
    ∃ ks : List Bool, Bools W v ks ∧ ks.length ≤ 1048576 := by
  obtain ⟨a0, len, cap, rfl⟩ := okWide_slice Try.underlying28 hok
  obtain ⟨fuel, hf⟩ := h
  have hf' : DataW.trod enc Try.prog W 0 (fun _ => true) true fuel 28 [.slice a0 len cap] = some (d, p) := by simpa [Value.cells] using hf
  obtain ⟨ks, h1, h2⟩ := bools_of_trod hf'
  exact ⟨ks, h1, Nat.le_trans h2 hB⟩
set_option maxRecDepth 100000 in
theorem contract (H : Type) (enc : TypeId × Value → H) (W : World) (base : Nat) (args : Array Value) (ds gs : List (DataW H)) (before : List MemPlace)
    (hval : ∀ (j : Nat) t v, Try.f7.params[j]? = some t → args[j]? = some v → Value.okWide Try.prog W .any base t v)
    (hW : DataW.Whole enc Try.prog Try.f7.params.toList Rows.logCrashSpec.vars false W args.toList ds gs before) (hk : Rows.uptoSmall H (ds ++ gs) = true) :
    Calls Try.prog 7 args W fun e W' => ∃ v, e = .returned v ∧ Rows.logCrashSpec.post enc Try.prog Try.f7 false true false false W args v W' := by
  have hW' := hW
  obtain ⟨p, q, hA0, hV, rfl, hfz, hnd⟩ := hW
  have hA : DataW.TrodAll enc Try.prog W 0 (fun _ => true) true Try.f7.params.toList args.toList ds p := hA0
  rw [Try.params7] at hA hval
  obtain ⟨v0, vs0, d0, ds0, p0, q0, hargs, rfl, rfl, h0, r0⟩ := trodAll_cons hA
  obtain ⟨v1, vs1, d1, ds1, p1, q1, rfl, rfl, rfl, h1, r1⟩ := trodAll_cons r0
  obtain ⟨v2, vs2, d2, ds2, p2, q2, rfl, rfl, rfl, h2, r2⟩ := trodAll_cons r1
  obtain ⟨v3, vs3, d3, ds3, p3, q3, rfl, rfl, rfl, h3, r3⟩ := trodAll_cons r2
  obtain ⟨v4, vs4, d4, ds4, p4, q4, rfl, rfl, rfl, h4, r4⟩ := trodAll_cons r3
  obtain ⟨rfl, rfl, rfl⟩ := trodAll_nil r4
  obtain rfl : args = #[v0, v1, v2, v3, v4] := by cases args; simp_all
  obtain ⟨rfl, rfl⟩ := trodVars_none hV
  have hbulk : Rows.uptoBulkAll ([d0, d1, d2, d3, d4] ++ []) ≤ 1048576 := of_decide_eq_true hk
  simp only [List.append_nil, Rows.uptoBulkAll] at hbulk
  obtain ⟨a0, b0, c0, g0⟩ := gss_of_arg (hval 0 66 v0 rfl rfl) h0 (by omega)
  obtain ⟨a1, rfl, rfl, rfl, g1⟩ := open_int Try.underlying3 (hval 1 3 v1 rfl rfl) h1
  replace g1 := i64_of_wf g1
  obtain ⟨a2, rfl, rfl, rfl, g2⟩ := open_int Try.underlying3 (hval 2 3 v2 rfl rfl) h2
  replace g2 := i64_of_wf g2
  obtain ⟨a3, b3, g3⟩ := bools_of_arg (hval 3 28 v3 rfl rfl) h3 (by omega)
  obtain ⟨a4, rfl, rfl, rfl, g4⟩ := open_int Try.underlying3 (hval 4 3 v4 rfl rfl) h4
  replace g4 := i64_of_wf g4
  refine (crash_walk v0 v3 a0 a1 a2 a4 a3 W b0 c0 g0 g1.2 b3 g3).mono fun e W' ⟨he, hb⟩ => ⟨_, he, ?_⟩
  exact law_post (T := 4) laidOut (by rw [Try.params7]; decide +kernel) rfl rfl Try.underlying4 (fun gs h => by subst h; rfl) hW' hb
set_option maxRecDepth 100000 in
theorem lifted (os : Os) (started : os.Started) (H : Type) (enc : TypeId × Value → H) (F : Stop.Interp) :
    ReturnsInHanded {} Try.checked os 7 .any ((Rows.OpenSpec.upto Rows.logCrashSpec).pre6 enc Try.prog Try.f7 Rows.logCrashUptoRow.domain false) (((Rows.OpenSpec.upto Rows.logCrashSpec).at F).post enc Try.prog Try.f7 false true false false) := by
  refine returnsInHanded_of_cond (C := Try.checked) (s := Rows.OpenSpec.upto Rows.logCrashSpec) (k := Rows.uptoSmall) rfl own started (by kernel_rfl) Try.func7
    (OpenSpec.witness (enc := enc) (C := Try.checked) (s := Rows.OpenSpec.upto Rows.logCrashSpec) (k := Rows.uptoSmall) rfl false ⟨#[], #[.slice none 0 0, .int .i64 0, .int .i64 0, .slice none 0 0, .int .i64 0], []⟩ 8 (by kernel_rfl) (by kernel_rfl) (by kernel_rfl)
      (x := ([.nil, .lit (.int .i64 0), .lit (.int .i64 0), .nil, .lit (.int .i64 0)], [], [])) (by kernel_rfl) rfl (by kernel_rfl)) ?_
  intro W base args ds gs before hval hW _ hk _
  exact contract H enc W base args ds gs before hval hW hk
theorem over : Rows.logCrashUptoRow.holds Try.pinned (Rows.OpenSpec.upto Rows.logCrashSpec) :=
  OpenClaim.holds_of_cond 7 Try.f7 rfl rfl rfl rfl rfl rfl rfl ⟨rfl, rfl, rfl, rfl, rfl⟩ rfl rfl rfl rfl rfl (by kernel_rfl) Try.func7 (by kernel_rfl)
    (of_decide_eq_true (by kernel_rfl)) (by unfold Func.isWrapper; first | (rw [if_pos (by decide +kernel)]; kernel_rfl) | (rw [if_neg (by decide +kernel)]; exact ⟨rfl, rfl⟩))
    (fun os started H enc _ F => lifted os started H enc F)
/-- the statement, its second form -/
theorem proved : Rows.LogCrashUptoSaid := over
end plainLogCrash
theorem logCrashUpto : Rows.LogCrashUptoSaid := plainLogCrash.proved
end Go.Proofs.Ytaklkjjoplfokaa
