/-
  LogDoes, second form: for every number of blocks, every first and size and every script of steps, where the arguments are of bulk at most 1048576, the law returns true and its arguments read as before. Conditions: those of the given statement alone.
-/
import Derived.Test.YtaibminomehppaaLogK
import Derived.Test.YtaibminomehppaaDiskSa
import Derived.Test.YtaibminomehppaaLdoC
import Derived.WalkKit
import Derived.ProofKit
import Derived.OpenShut
namespace Go.Proofs.Ytaibminomehppaa
open Go.ChangeShapes Go.WideShapes Go.ChangeAt Go.RowKit Go.Deep
namespace plainLogDoes
theorem bsI_of {w : World} {v : Value} {l : List Int} (h : Bs w v l) : BsI w 0 w.heap.size v l := ⟨h, fun ad n c e h0 => by
  obtain ⟨a, cap, hv, _, h3⟩ := h
  obtain ⟨b, o, ha, hb, _⟩ := h3 h0
  rw [hv] at e
  injection e with e1 e2 e3
  rw [ha] at e1
  injection e1 with e1
  rw [← e1]
  exact ⟨Nat.zero_le _, hb⟩⟩
theorem blI_of {w : World} {v : Value} {ks : List Bool} (h : Bools w v ks) : BlI w w.heap.size v ks := ⟨h, fun b o n c e h0 => by
  obtain ⟨a, cap, hv, h3⟩ := h
  obtain ⟨b', o', ha, hb, _⟩ := h3 h0
  rw [hv] at e
  injection e with e1 e2 e3
  rw [ha] at e1
  injection e1 with e1
  injection e1 with e1
  rw [← e1]
  exact hb⟩
section
variable {H : Type} {enc : TypeId × Value → H} {W : World}
set_option maxRecDepth 100000 in
theorem bytes_of_trod {fuel : Nat} {v : Value} {y : DataW H × List MemPlace} (h : DataW.trod enc Try.prog W 0 (fun _ => true) true fuel 39 [v] = some y) : ∃ l : List Int, Bs W v l ∧ Rng l ∧ l.length ≤ Rows.uptoBulk y.1 := by
  rcases open_ints Try.underlying39 Try.underlying5 cells5 h with ⟨hcs, hx⟩ | ⟨a, len, cap, zs, hcs, _, hl, _, hz, hx, hcell, hw⟩
  · simp only [List.cons.injEq, and_true] at hcs
    subst hcs
    exact ⟨[], Bs.nil W, fun x hx => by simp at hx, Nat.zero_le _⟩
  · simp only [List.cons.injEq, and_true] at hcs
    subst hcs
    simp only [if_true] at hz
    subst hx
    have hlen : (zs.take len).length = len := by rw [List.length_take]; omega
    refine ⟨zs.take len, ⟨some a, cap, by rw [hlen], ⟨by omega, fun e => by cases e⟩, fun hl0 => ?_⟩, rng_of_wf fun n hn => hw n (List.mem_of_mem_take hn), ?_⟩
    · rw [hlen] at hl0
      have h0 := hcell 0 (by omega)
      have hsp := World.cell?_spot h0
      have hlt := World.block_lt_of_cell? _ _ h0
      obtain ⟨ab, ao, asp⟩ := a
      have hsp' : asp = none := by simpa [Addr.add] using hsp
      subst hsp'
      refine ⟨ab, ao, rfl, by simpa [Addr.add] using hlt, fun i hi => ?_⟩
      rw [hlen] at hi
      have h1 := hcell i (by omega)
      rw [add_plain] at h1
      rw [h1, List.getElem?_take_of_lt hi]
      simp [List.getD]
    · rw [hlen]
      simp only [Rows.uptoBulk, bulk_lits, List.length_take]
      omega
set_option maxRecDepth 100000 in
theorem lsteps_of_trod {v : Value} {d : DataW H} {p : List MemPlace} {b : Nat}
    (hok : Value.okWide Try.prog W .any b 22 v) (h : DataW.Trod enc Try.prog W 0 (fun _ => true) true 22 v d p) (hB : Rows.uptoBulk d ≤ 1048576) :
    ∃ r : List SX, StpIs W v r ∧ r.length ≤ 1048576 := by
  obtain ⟨a0, len, cap, rfl⟩ := okWide_slice Try.underlying22 hok
  obtain ⟨fuel, hf⟩ := h
  rcases open_slice_fields Try.underlying22 Try.underlying42 (by kernel_rfl) (by kernel_rfl) hf with ⟨hcs, hx⟩ | ⟨a, len', cap', m, D, Pl, hcs, _, hl, _, hm, hx, hi⟩
  · simp [Value.cells] at hcs
    obtain ⟨rfl, rfl, rfl⟩ := hcs
    exact ⟨[], ⟨none, 0, rfl, fun h => by simp at h⟩, Nat.zero_le _⟩
  · simp [Value.cells] at hcs
    obtain ⟨rfl, rfl, rfl⟩ := hcs
    simp only [if_true] at hm
    simp only [Prod.mk.injEq] at hx
    obtain ⟨rfl, _⟩ := hx
    have hlen : len ≤ 1048576 := by
      have := bulk_len (H := H) ((List.range len).map D)
      simp only [Rows.uptoBulk, List.length_map, List.length_range] at this hB
      omega
    have hx : ∀ i, i < len → ∃ x : SX, W.cell? (a.add (i * 4 + 0)) = some (.int .i64 x.xk) ∧ W.cell? (a.add (i * 4 + 1)) = some (.int .i64 x.xn) ∧ W.cell? (a.add (i * 4 + 2)) = some x.bv ∧ W.cell? (a.add (i * 4 + 3)) = some x.kv ∧ BsI W 0 W.heap.size x.bv x.m ∧ Rng x.m ∧ x.m.length ≤ 16777216 ∧ BlI W W.heap.size x.kv x.ks ∧ x.ks.length ≤ 1048576 ∧ x.xn ≤ 9223372036854775807 := by
      intro i him
      obtain ⟨ys, n, hD, _, hlen, hfd⟩ := hi i (by omega)
      obtain ⟨v0, y0, c0, e0, t0⟩ := hfd 0 _ rfl
      obtain ⟨v1, y1, c1, e1, t1⟩ := hfd 1 _ rfl
      obtain ⟨v2, y2, c2, e2, t2⟩ := hfd 2 _ rfl
      obtain ⟨v3, y3, c3, e3, t3⟩ := hfd 3 _ rfl
      obtain ⟨n0, g0, rfl, w0⟩ := DataW.trod_int Try.underlying3 t0
      obtain ⟨n1, g1, rfl, w1⟩ := DataW.trod_int Try.underlying3 t1
      obtain ⟨m, hm1, hm2, hm3⟩ := bytes_of_trod t2
      obtain ⟨ks, hks, hkl⟩ := bools_of_trod t3
      simp only [List.cons.injEq, and_true] at g0 g1
      subst g0 g1
      have hb1 : y3.1 ∈ ys.map (·.1) := List.mem_map.2 ⟨_, List.mem_of_getElem? e3, rfl⟩
      have hb2 := bulk_mem hb1
      have hb4 : y2.1 ∈ ys.map (·.1) := List.mem_map.2 ⟨_, List.mem_of_getElem? e2, rfl⟩
      have hb5 := bulk_mem hb4
      have hb3 := bulk_mem (H := H) (d := D i) (l := (List.range len).map D) (List.mem_map.2 ⟨i, List.mem_range.2 him, rfl⟩)
      rw [hD] at hb3
      simp only [Rows.uptoBulk] at hb3 hB
      exact ⟨⟨n0, n1, v2, v3, m, ks⟩, c0, c1, c2, c3, bsI_of hm1, hm2, by show m.length ≤ _; omega, blI_of hks, by show ks.length ≤ 1048576; omega, (i64_of_wf w1).2⟩
    obtain ⟨f, hf⟩ : ∃ f : Nat → SX, ∀ i, i < len → W.cell? (a.add (i * 4 + 0)) = some (.int .i64 (f i).xk) ∧ W.cell? (a.add (i * 4 + 1)) = some (.int .i64 (f i).xn) ∧ W.cell? (a.add (i * 4 + 2)) = some (f i).bv ∧ W.cell? (a.add (i * 4 + 3)) = some (f i).kv ∧ BsI W 0 W.heap.size (f i).bv (f i).m ∧ Rng (f i).m ∧ (f i).m.length ≤ 16777216 ∧ BlI W W.heap.size (f i).kv (f i).ks ∧ (f i).ks.length ≤ 1048576 ∧ (f i).xn ≤ 9223372036854775807 :=
      ⟨fun i => if h : i < len then Classical.choose (hx i h) else ⟨0, 0, undef, undef, [], []⟩, fun i h => by simp only [dif_pos h]; exact Classical.choose_spec (hx i h)⟩
    refine ⟨(List.range len).map f, ⟨some a, cap, by simp, fun hl0 => ?_⟩, by simpa using hlen⟩
    simp only [List.length_map, List.length_range] at hl0
    have h0 := (hf 0 (by omega)).1
    have hsp := World.cell?_spot h0
    have hlt := World.block_lt_of_cell? _ _ h0
    obtain ⟨ab, ao, asp⟩ := a
    have hsp' : asp = none := by simpa [Addr.add] using hsp
    subst hsp'
    refine ⟨ab, ao, rfl, by simpa [Addr.add] using hlt, fun i x hx => ?_⟩
    have hil : i < len := by have := (List.getElem?_eq_some_iff.1 hx).1; simpa using this
    rw [List.getElem?_map, List.getElem?_range hil] at hx
    simp only [Option.map_some, Option.some.injEq] at hx
    subst hx
    obtain ⟨h1, h2, h3, h4, h5⟩ := hf i hil
    rw [add_none] at h1 h2 h3 h4
    exact ⟨h1, h2, h3, h4, h5⟩
end
set_option maxRecDepth 100000 in
theorem contract (H : Type) (enc : TypeId × Value → H) (W : World) (base : Nat) (args : Array Value) (ds gs : List (DataW H)) (before : List MemPlace)
    (hval : ∀ (j : Nat) t v, Try.f3.params[j]? = some t → args[j]? = some v → Value.okWide Try.prog W .any base t v)
    (hW : DataW.Whole enc Try.prog Try.f3.params.toList Rows.logDoesSpec.vars false W args.toList ds gs before) (hk : Rows.uptoSmall H (ds ++ gs) = true) :
    Calls Try.prog 3 args W fun e W' => ∃ v, e = .returned v ∧ Rows.logDoesSpec.post enc Try.prog Try.f3 false true false false W args v W' := by
  have hW' := hW
  obtain ⟨p, q, hA0, hV, rfl, hfz, hnd⟩ := hW
  have hA : DataW.TrodAll enc Try.prog W 0 (fun _ => true) true Try.f3.params.toList args.toList ds p := hA0
  rw [Try.params3] at hA hval
  obtain ⟨v0, vs0, d0, ds0, p0, q0, hargs, rfl, rfl, h0, r0⟩ := trodAll_cons hA
  obtain ⟨v1, vs1, d1, ds1, p1, q1, rfl, rfl, rfl, h1, r1⟩ := trodAll_cons r0
  obtain ⟨v2, vs2, d2, ds2, p2, q2, rfl, rfl, rfl, h2, r2⟩ := trodAll_cons r1
  obtain ⟨v3, vs3, d3, ds3, p3, q3, rfl, rfl, rfl, h3, r3⟩ := trodAll_cons r2
  obtain ⟨rfl, rfl, rfl⟩ := trodAll_nil r3
  obtain rfl : args = #[v0, v1, v2, v3] := by cases args; simp_all
  obtain ⟨rfl, rfl⟩ := trodVars_none hV
  have hbulk : Rows.uptoBulkAll ([d0, d1, d2, d3] ++ []) ≤ 1048576 := of_decide_eq_true hk
  simp only [List.append_nil, Rows.uptoBulkAll] at hbulk
  obtain ⟨a0, rfl, rfl, rfl, g0⟩ := open_int Try.underlying3 (hval 0 3 v0 rfl rfl) h0
  obtain ⟨a1, rfl, rfl, rfl, g1⟩ := open_int Try.underlying3 (hval 1 3 v1 rfl rfl) h1
  replace g1 := i64_of_wf g1
  obtain ⟨a2, rfl, rfl, rfl, g2⟩ := open_int Try.underlying3 (hval 2 3 v2 rfl rfl) h2
  replace g2 := i64_of_wf g2
  obtain ⟨a3, b3, g3⟩ := lsteps_of_trod (hval 3 22 v3 rfl rfl) h3 (by omega)
  refine (ldoes_walk a0 a1 a2 v3 a3 W b3 g3 g1 g2).mono fun e W' ⟨he, hb⟩ => ⟨_, he, ?_⟩
  exact law_post (T := 4) laidOut (by rw [Try.params3]; decide +kernel) rfl rfl Try.underlying4 (fun gs h => by subst h; rfl) hW' hb
set_option maxRecDepth 100000 in
theorem lifted (os : Os) (started : os.Started) (H : Type) (enc : TypeId × Value → H) (F : Stop.Interp) :
    ReturnsInHanded {} Try.checked os 3 .any ((Rows.OpenSpec.upto Rows.logDoesSpec).pre6 enc Try.prog Try.f3 Rows.logDoesUptoRow.domain false) (((Rows.OpenSpec.upto Rows.logDoesSpec).at F).post enc Try.prog Try.f3 false true false false) := by
  refine returnsInHanded_of_cond (C := Try.checked) (s := Rows.OpenSpec.upto Rows.logDoesSpec) (k := Rows.uptoSmall) rfl own started (by kernel_rfl) Try.func3
    (OpenSpec.witness (enc := enc) (C := Try.checked) (s := Rows.OpenSpec.upto Rows.logDoesSpec) (k := Rows.uptoSmall) rfl false ⟨#[], #[.int .i64 0, .int .i64 0, .int .i64 0, .slice none 0 0], []⟩ 8 (by kernel_rfl) (by kernel_rfl) (by kernel_rfl)
      (x := ([.lit (.int .i64 0), .lit (.int .i64 0), .lit (.int .i64 0), .nil], [], [])) (by kernel_rfl) rfl (by kernel_rfl)) ?_
  intro W base args ds gs before hval hW _ hk _
  exact contract H enc W base args ds gs before hval hW hk
theorem over : Rows.logDoesUptoRow.holds Try.pinned (Rows.OpenSpec.upto Rows.logDoesSpec) :=
  OpenClaim.holds_of_cond 3 Try.f3 rfl rfl rfl rfl rfl rfl rfl ⟨rfl, rfl, rfl, rfl, rfl⟩ rfl rfl rfl rfl rfl (by kernel_rfl) Try.func3 (by kernel_rfl)
    (of_decide_eq_true (by kernel_rfl)) (by unfold Func.isWrapper; first | (rw [if_pos (by decide +kernel)]; kernel_rfl) | (rw [if_neg (by decide +kernel)]; exact ⟨rfl, rfl⟩))
    (fun os started H enc _ F => lifted os started H enc F)
/-- the statement, its second form -/
theorem proved : Rows.LogDoesUptoSaid := over
end plainLogDoes
theorem logDoesUpto : Rows.LogDoesUptoSaid := plainLogDoes.proved
end Go.Proofs.Ytaibminomehppaa
