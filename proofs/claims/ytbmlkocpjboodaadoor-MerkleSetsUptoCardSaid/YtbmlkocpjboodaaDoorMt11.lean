/- stage 7: the reader of a proof: node, tree -/
import Derived.Test.YtbmlkocpjboodaaDoorMt10
namespace Go.Proofs.YtbmlkocpjboodaaDoor
open Go.RowKit
open Go.Lib (hid)
theorem KC.chg {w w' : World} {X : Nat} (h : KC w) (hc : Chg (fun q => q = X) w w') (hX : 1 ≠ X) : KC w' :=
 ⟨Nat.lt_of_lt_of_le h.1 hc.size, fun t ht => (World.cell?_of_block (a := ⟨1, t, none⟩) (hc.block _ h.1 hX)).trans (h.2 t ht)⟩
theorem MIs.cgX {w w' : World} {X : Nat} {S : Nat → Prop} {p : Value} {t : MT} (h : MIs w S p t) (hc : Chg (fun q => q = X) w w') (hX : ¬ S X) : MIs w' S p t := h.chg hc.size (fun b hb hs => hc.block b hb (fun e => hX (e ▸ hs)))
theorem KIs.cgX {w w' : World} {X : Nat} {S : Nat → Prop} {v : Value} {l : List Int} (h : KIs w S v l) (hc : Chg (fun q => q = X) w w') (hX : ¬ S X) : KIs w' S v l := h.cg hc (fun _ _ hs e => hX (e ▸ hs))
set_option maxRecDepth 100000 in
theorem run_build_rk0 (u : World) (kv : Value) (n : Int) : (Instr.build 66 #[(0, .agg #[kv, .int .i64 n])]).run Tryd.prog u = .ok (.agg (([kv, Value.int .i64 n] ++ (zeros 32).map (Value.int .u8)).toArray)) u := by kernel_rfl
theorem exec_build_rk0 {ρ : Operand → Value} {o : Oper} {w : World} (x : Operand) (ho : o.op = .build 66 #[(0, x)]) (kv : Value) (n : Nat) (h0 : ρ x = .agg #[kv, .int .i64 (n : Int)]) :
  (execOp ρ o).run Tryd.prog w = .ok (.value (.agg (rkC kv n (zeros 32)))) w := by
 have hb := run_build_rk0 w kv n
 unfold execOp
 simp only [ho, List.map_toArray, List.map_cons, List.map_nil, h0, Sem.run_bind, hb, Result.andThen_ok, Sem.run_pure]
 rfl
/-- what a reader of trees, called with m, does -/
def TDo (S : Nat → Prop) (X : Nat) (m : Int) (T : List Int → Int ⊕ (MT × List Int)) : Prop :=
 ∀ l u, RIs u X S l → Rng l → KC u → (∀ b, u.heap.size ≤ b → S b) → Calls Tryd.prog 74 #[.pointer (some ⟨X, 0, none⟩), .int .i64 m] u fun e w' => TEnd S X u e w' (T l)
set_option maxRecDepth 100000 in
set_option maxHeartbeats 4000000 in
theorem node_any {S : Nat → Prop} (X : Nat) (m : Int) (T : List Int → Int ⊕ (MT × List Int)) (hT : TOk T) (hD : TDo S X (m + 1) T) (h0 : 0 ≤ m) (hm : m ≤ 4096) (hX : ¬ S X) (hg : 1 ≠ X) (l : List Int) (w : World) (h : RIs w X S l) (hr : Rng l) (hK : KC w) (hS : ∀ b, w.heap.size ≤ b → S b) :
  Calls Tryd.prog 97 #[.pointer (some ⟨X, 0, none⟩), .int .i64 m] w fun e w' => TEnd S X w e w' (rdNd T l) := by
 have HK := hid hK
 have HSS := hid hS
 have HX := hid hX
 have HG := hid hg
 have H1 := hid (hD l w h hr hK hS)
 have HTO := hid hT
 have HD := hid hD
 have HRN := hid (show rdNd T l = match T l with
  | .inl c => .inl c
  | .inr (tl, r1) => match rdEnt r1 with
   | .inl c => .inl c
   | .inr ((k, n), r2) => match T r2 with
    | .inl c => .inl c
    | .inr (tr, r3) => .inr (mkN k n (zeros 32) tl tr, r3) from rfl)
 have HOK := hid (fun t r e => hT l hr t r e)
 clear hK hS hX hg hT hD h hr
 generalize rdNd T l = R at *
 generalize T l = T1 at *
 go_enter Tryd.func97, Tryd.ntmps97
 go_wp2_with fail
 refine H1.out.mono ?_
 rintro e w1 he
 rcases T1 with c | ⟨tl, r1⟩
 ·obtain ⟨hc0, rfl, hc⟩ := he
  have hne : (c != 0) = true := bne_iff_ne.2 hc0
  have HC := hid (And.intro hc0 hc)
  clear hc0 hc
  go_wp2_with fail
  go_ret2
  rw [HRN.out]
  exact ⟨HC.out.1, rfl, HC.out.2⟩
 ·obtain ⟨p1, rfl, hp1, hr1, hc1⟩ := he
  obtain ⟨a1, rfl⟩ := hp1.form
  obtain ⟨g1, q1⟩ := HOK.out tl r1 rfl
  have HEN := hid (entry_any X r1 w1 hr1 HX.out q1)
  have HP1 := hid (And.intro hp1 (And.intro hc1 (And.intro g1 q1)))
  have HEO := hid (rdEnt_ok q1)
  replace HRN := hid (HRN.out.trans (show _ = match rdEnt r1 with
   | .inl c => .inl c
   | .inr ((k, n), r2) => match T r2 with
    | .inl c => .inl c
    | .inr (tr, r3) => .inr (mkN k n (zeros 32) tl tr, r3) from rfl))
  clear hp1 hr1 hc1 g1 q1 H1 HOK
  generalize rdEnt r1 = T2 at *
  go_wp2_with fail
  refine HEN.out.mono ?_
  rintro e w2 he
  rcases T2 with c | ⟨⟨k, n⟩, r2⟩
  ·obtain ⟨rfl, hc⟩ := he
   have hc0 := HEO.out.1 c rfl
   have hne : (c != 0) = true := bne_iff_ne.2 hc0
   have HC := hid (And.intro hc0 hc)
   clear hc0 hc
   go_wp2_with fail
   go_ret2
   rw [HRN.out]
   exact ⟨HC.out.1, rfl, (HP1.out.2.1.trans HC.out.2 (fun i hi => .inl hi)).alloc _⟩
  ·obtain ⟨ak, ck, rfl, hk2, hr2, hc2⟩ := he
   obtain ⟨b1, b2, b3, b4, b5⟩ := HEO.out.2 k n r2 rfl
   have hbb : Below w2.heap.size w2 (w2.alloc (.cells #[.slice ak k.length ck, .int .i64 (n : Int)] 33)) := (Below.refl _ _).alloc (Nat.le_refl _) _
   have hx2 : (w2.alloc (.cells #[.slice ak k.length ck, .int .i64 (n : Int)] 33)).heap[w2.heap.size]? = some (.cells #[.slice ak k.length ck, .int .i64 (n : Int)] 33 (0, 0)) := heap_alloc_new _ _
   have hc02 : Chg (fun q => q = X) w w2 := HP1.out.2.1.trans hc2 (fun i hi => .inl hi)
   have hc03 : Chg (fun q => q = X) w (w2.alloc (.cells #[.slice ak k.length ck, .int .i64 (n : Int)] 33)) := hc02.alloc _
   have HD2 := hid (HD.out r2 (w2.alloc (.cells #[.slice ak k.length ck, .int .i64 (n : Int)] 33)) (hr2.below hbb) b5 (HK.out.chg hc03 HG.out) (fun b hb => HSS.out b (Nat.le_trans hc03.size hb)))
   have HX2 := hid hx2
   have HNE := hid (show w2.heap.size ≠ X by have := hr2.lt; omega)
   have HC3 := hid hc03
   have HP2 := hid ((HP1.out.1.cgX hc2 HX.out).below hbb)
   have HK2 := hid (hk2.below hbb)
   have HB := hid (And.intro b1 (And.intro b2 (And.intro b4 b5)))
   have HOK2 := hid (fun t r e => HTO.out r2 b5 t r e)
   replace HRN := hid (HRN.out.trans (show _ = match T r2 with
    | .inl c => .inl c
    | .inr (tr, r3) => .inr (mkN k n (zeros 32) tl tr, r3) from rfl))
   clear hk2 hr2 hc2 b1 b2 b3 b4 b5 hbb hx2 hc02 hc03 HD HTO HEN HEO
   generalize T r2 = T3 at *
   go_wp2_with fail
   generalize w2.alloc (.cells #[.slice ak k.length ck, .int .i64 (n : Int)] 33) = w3 at *
   refine HD2.out.mono ?_
   rintro e w4 he
   rcases T3 with c | ⟨tr, r3⟩
   ·obtain ⟨hc0, rfl, hc⟩ := he
    have hne : (c != 0) = true := bne_iff_ne.2 hc0
    have HC := hid (And.intro hc0 hc)
    clear hc0 hc
    go_wp2_with fail
    go_ret2
    rw [HRN.out]
    exact ⟨HC.out.1, rfl, HC3.out.trans HC.out.2 (fun i hi => .inl hi)⟩
   ·obtain ⟨p3, rfl, hp3, hr3, hc3⟩ := he
    obtain ⟨a3, rfl⟩ := hp3.form
    have hc4 : Chg (fun q => q = X) w w4 := HC3.out.trans hc3 (fun i hi => .inl hi)
    have HX4 := hid (hc3.blk HX2.out HNE.out)
    obtain ⟨g3, q3⟩ := HOK2.out tr r3 rfl
    have HN := hid (newNode_any (S := S) w4 (.slice ak k.length ck) (.pointer a1) (.pointer a3) k n (zeros 32) tl tr (fun b hb => HSS.out b (Nat.le_trans hc4.size hb)) (zeros_len 32) (HK2.out.cgX hc3 HX.out) (HP2.out.cgX hc3 HX.out) hp3 HP1.out.2.2.1 g3 (HK.out.chg hc4 HG.out) HB.out.1 HB.out.2.2.1)
    have HC4 := hid hc4
    have HR3 := hid hr3
    clear hp3 hr3 hc3 hc4 g3 q3
    go_wp2_with (first
     | (refine wpList_load_row rfl 33 (Operand.tmp 8) rfl w2.heap.size rfl 33 _ (0, 0) _ HX4.out Tryd.underlying33 rfl (by kernel_rfl) ?_)
     | (refine wpList_of_run (o := ⟨some 39, _, _, _, _, _⟩) rfl (exec_build_rk0 (Operand.tmp 38) rfl _ n rfl) ?_))
    refine HN.out.mono ?_
    rintro e w5 ⟨p5, rfl, hp5, hb5⟩
    obtain ⟨a5, rfl⟩ := hp5.form
    have HP5 := hid (And.intro hp5 hb5)
    clear hp5 hb5
    go_wp2_with fail
    go_ret2
    rw [HRN.out]
    exact ⟨_, rfl, HP5.out.1, HR3.out.below HP5.out.2, HC4.out.trans (Chg.fresh HP5.out.2) (fun i hi => .inl hi)⟩
end Go.Proofs.YtbmlkocpjboodaaDoor
/- stage 7: the reader of a proof: tree, read -/
namespace Go.Proofs.YtbmlkocpjboodaaDoor
open Go.RowKit
open Go.Lib (hid)
set_option maxRecDepth 100000 in
set_option maxHeartbeats 4000000 in
theorem tree_any {S : Nat → Prop} (X : Nat) (hX : ¬ S X) (hg : 1 ≠ X) : ∀ d : Nat, d ≤ 4097 → TDo S X (4097 - (d : Int)) (rdT d) := by
 intro d
 induction d with
 | zero =>
  intro _ l w _ _ _ _
  obtain ⟨m, hm⟩ : ∃ m : Int, m = 4097 := ⟨_, rfl⟩
  rw [show (4097 - ((0 : Nat) : Int)) = m by omega]
  have hm2 : m > 4096 := by omega
  clear hm
  rw [show rdT 0 l = .inl 13 from rfl]
  go_enter Tryd.func74, Tryd.ntmps74
  go_wp2_with fail
  go_ret2
  exact ⟨by decide, rfl, Chg.refl _ _⟩
 | succ d ih =>
  intro hd l w h hr hK hS
  obtain ⟨m, hm⟩ : ∃ m : Int, m = 4096 - (d : Int) := ⟨_, rfl⟩
  have ihm := ih (by omega)
  rw [show (4097 - (d : Int)) = m + 1 by omega] at ihm
  rw [show (4097 - ((d + 1 : Nat) : Int)) = m by omega]
  have hm0 : 0 ≤ m := by omega
  have hm1 : m ≤ 4096 := by omega
  have HD := hid ihm
  clear ih ihm hm hd
  have HH := hid (And.intro hr (And.intro hK (And.intro hS hX)))
  have HG := hid hg
  have HTA := hid (take_any X l 1 w h hX)
  have HOK := hid (rdT_ok d)
  clear h hr hK hS hX hg
  cases l with
  | nil =>
   rw [show rdT (d + 1) [] = .inl 6 from rfl]
   go_enter Tryd.func74, Tryd.ntmps74
   go_wp2_with fail
   refine HTA.out.mono ?_
   rintro e w1 (⟨h2, -⟩ | ⟨h2, rfl, rfl⟩)
   ·exact absurd h2 (by decide)
   ·go_wp2_with fail
    go_ret2
    exact ⟨by decide, rfl, Chg.refl _ _⟩
  | cons x r =>
   have HRT := hid (show rdT (d + 1) (x :: r) = if x = 0 then .inr (.nil, r) else if x = 1 then rdP r else if x = 2 then rdNd (rdT d) r else .inl 5 from rfl)
   have hx := HH.out.1 x (List.mem_cons_self ..)
   have hx0 : 0 ≤ x := hx.1
   have hx1 : x ≤ 255 := by have := hx.2; omega
   clear hx
   generalize rdT (d + 1) (x :: r) = R at *
   go_enter Tryd.func74, Tryd.ntmps74
   go_wp2_with fail
   refine HTA.out.mono ?_
   rintro e w1 (⟨h2, a, c, rfl, hk, hri, hc⟩ | ⟨h2, -, -⟩)
   ·obtain ⟨b, o, rfl, hrg⟩ := kis_rng hk (by simp)
    have c0 : w1.cell? ⟨b, o, none⟩ = some (.int .u8 x) := hrg 0 (.int .u8 x) rfl
    replace hri : RIs w1 X S r := hri
    have HC := hid hc
    have HR := hid hri
    have HHP := hid (pruned_any X r w1 hri HH.out.2.2.2 (fun b hb => HH.out.2.2.1 b (Nat.le_trans hc.size hb)))
    have HHN := hid (node_any X m (rdT d) HOK.out HD.out hm0 hm1 HH.out.2.2.2 HG.out r w1 hri (fun y hy => HH.out.1 y (List.mem_cons_of_mem _ hy)) (HH.out.2.1.chg hc HG.out) (fun b hb => HH.out.2.2.1 b (Nat.le_trans hc.size hb)))
    clear hk hri hc h2 hrg HTA HD HOK
    by_cases e0 : x = 0
    ·subst e0
     rw [if_pos rfl] at HRT
     go_wp2_with fail
     go_ret2
     rw [HRT.out]
     exact ⟨_, rfl, rfl, HR.out, HC.out⟩
    ·rw [if_neg e0] at HRT
     have n0 : (x == 0) = false := beq_false_of_ne e0
     by_cases e1 : x = 1
     ·subst e1
      rw [if_pos rfl] at HRT
      go_wp2_with fail
      refine HHP.out.mono ?_
      rintro e w2 he
      rw [← HRT.out] at he
      rcases R with c' | ⟨t, r'⟩
      ·obtain ⟨hc0, rfl, hc2⟩ := he
       have H2 := hid (And.intro hc0 hc2)
       clear hc0 hc2
       go_wp2_with fail
       go_ret2
       exact ⟨H2.out.1, rfl, HC.out.trans H2.out.2 (fun i hi => .inl hi)⟩
      ·obtain ⟨p, rfl, hp, hr2, hc2⟩ := he
       obtain ⟨ap, rfl⟩ := hp.form
       have H2 := hid (And.intro hp (And.intro hr2 hc2))
       clear hp hr2 hc2
       go_wp2_with fail
       go_ret2
       exact ⟨_, rfl, H2.out.1, H2.out.2.1, HC.out.trans H2.out.2.2 (fun i hi => .inl hi)⟩
     ·rw [if_neg e1] at HRT
      have n1 : (x == 1) = false := beq_false_of_ne e1
      by_cases e2 : x = 2
      ·subst e2
       rw [if_pos rfl] at HRT
       go_wp2_with fail
       refine HHN.out.mono ?_
       rintro e w2 he
       rw [← HRT.out] at he
       rcases R with c' | ⟨t, r'⟩
       ·obtain ⟨hc0, rfl, hc2⟩ := he
        have H2 := hid (And.intro hc0 hc2)
        clear hc0 hc2
        go_wp2_with fail
        go_ret2
        exact ⟨H2.out.1, rfl, HC.out.trans H2.out.2 (fun i hi => .inl hi)⟩
       ·obtain ⟨p, rfl, hp, hr2, hc2⟩ := he
        obtain ⟨ap, rfl⟩ := hp.form
        have H2 := hid (And.intro hp (And.intro hr2 hc2))
        clear hp hr2 hc2
        go_wp2_with fail
        go_ret2
        exact ⟨_, rfl, H2.out.1, H2.out.2.1, HC.out.trans H2.out.2.2 (fun i hi => .inl hi)⟩
      ·rw [if_neg e2] at HRT
       have n2 : (x == 2) = false := beq_false_of_ne e2
       go_wp2_with fail
       go_ret2
       rw [HRT.out]
       exact ⟨by decide, rfl, HC.out⟩
   ·exact absurd h2 (by simp)
/-- what read makes of a proof: an error's number, or a tree -/
def rdAll (l : List Int) : Int ⊕ MT :=
 match rdT 4097 l with
 | .inl c => .inl c
 | .inr (t, r) => if r = [] then .inr t else .inl 7
theorem rdAll_ok {l : List Int} (h : Rng l) {t : MT} (e : rdAll l = .inr t) : t.Good := by
 have h0 := rdT_ok 4097 l h
 unfold rdAll at e
 generalize rdT 4097 l = T at *
 cases T with
 | inl c => cases e
 | inr x =>
  obtain ⟨t', r⟩ := x
  have h1 := h0 t' r rfl
  dsimp only at e
  split at e
  ·injection e with e
   subst e
   exact h1.1
  ·cases e
theorem Bs.kis {w : World} {v : Value} {l : List Int} (h : Bs w v l) : KIs w (fun b => b < w.heap.size) v l := by
 refine ⟨h, fun b o n c e h0 => ?_⟩
 obtain ⟨a, cap, hv, h1, h2⟩ := h
 obtain ⟨b', o', ha, hb, -⟩ := h2 h0
 subst ha
 rw [hv] at e
 injection e with e
 injection e with e
 injection e with e
 omega
/-- how read ends -/
def REnd (w : World) (e : Ending) (w' : World) : Int ⊕ MT → Prop
 | .inl c => c ≠ 0 ∧ e = .returned (.tuple #[.pointer none, .int .i64 c]) ∧ Below w.heap.size w w'
 | .inr t => ∃ p, e = .returned (.tuple #[p, .int .i64 0]) ∧ MIs w' (fun _ => True) p t ∧ Below w.heap.size w w'
theorem Chg.new {w w1 w' : World} {X : Nat} (h : Chg (fun q => q = X) w1 w') (hb : Below w.heap.size w w1) (hX : w.heap.size ≤ X) : Below w.heap.size w w' := hb.trans (h.below (fun k e => by omega) hb.size)
set_option maxRecDepth 100000 in
set_option maxHeartbeats 4000000 in
theorem read_any (l : List Int) (w : World) (v : Value) (hv : Bs w v l) (hr : Rng l) (hK : KC w) :
  Calls Tryd.prog 46 #[v] w fun e w' => REnd w e w' (rdAll l) := by
 have hk := hv.kis
 obtain ⟨a, c, rfl, -, -⟩ := hv
 have hbb : Below w.heap.size w (w.alloc (.cells #[.slice a l.length c] 130)) := (Below.refl _ _).alloc (Nat.le_refl _) _
 have hx : (w.alloc (.cells #[.slice a l.length c] 130)).heap[w.heap.size]? = some (.cells #[.slice a l.length c] 130 (0, 0)) := heap_alloc_new _ _
 have hri : RIs (w.alloc (.cells #[.slice a l.length c] 130)) w.heap.size (fun b => b ≠ w.heap.size) l := ⟨a, c, hx, (hk.below hbb).mono (fun b hb e => by omega)⟩
 have HT := hid (tree_any (S := fun b => b ≠ w.heap.size) w.heap.size (fun h => h rfl) (by have := hK.1; omega) 4097 (Nat.le_refl _) l _ hri hr (hK.below hbb hK.1) (fun b hb e => by rw [World.size_alloc] at hb; omega))
 have HA := hid (show rdAll l = match rdT 4097 l with | .inl c => .inl c | .inr (t, r) => if r = [] then .inr t else .inl 7 from rfl)
 have HBB := hid hbb
 generalize rdAll l = R at *
 generalize rdT 4097 l = T at *
 clear hk hbb hx hri hr hK
 go_enter Tryd.func46, Tryd.ntmps46
 go_wp2_with fail
 generalize w.alloc (.cells #[.slice a l.length c] 130) = w1 at *
 refine HT.out.mono ?_
 rintro e w2 he
 rcases T with c | ⟨t, r⟩
 ·obtain ⟨hc0, rfl, hc⟩ := he
  have hne : (c != 0) = true := bne_iff_ne.2 hc0
  have hne2 : (c == 0) = false := beq_false_of_ne hc0
  have HC := hid (And.intro hc0 hc)
  clear hc0 hc
  go_wp2_with fail
  go_ret2
  rw [HA.out]
  exact ⟨HC.out.1, rfl, HC.out.2.new HBB.out (Nat.le_refl _)⟩
 ·obtain ⟨p, rfl, hp, ⟨a2, c2, hx2, hk2⟩, hc⟩ := he
  obtain ⟨ap, rfl⟩ := hp.form
  have c0 := cell_of_row _ w.heap.size 0 _ _ _ hx2
  have HC := hid (And.intro hp hc)
  clear hp hc hk2 hx2
  cases r with
  | nil =>
   go_wp2_with fail
   go_ret2
   rw [HA.out]
   exact ⟨_, rfl, HC.out.1.mono (fun _ _ => trivial), HC.out.2.new HBB.out (Nat.le_refl _)⟩
  | cons x r =>
   have hg : (((x :: r).length : Nat) : Int) > 0 := by simp
   go_wp2_with fail
   go_ret2
   rw [HA.out]
   exact ⟨by decide, rfl, HC.out.2.new HBB.out (Nat.le_refl _)⟩
end Go.Proofs.YtbmlkocpjboodaaDoor
/- stage 7: clash -/
namespace Go.Proofs.YtbmlkocpjboodaaDoor
open Go.RowKit
open Go.Lib (hid)
theorem run_neq_bytes {P : Program} (w : World) (t e n : Nat) (i : TypeInfo) (ht : P.underlying t = some (.array n e)) (hi : P.info? e = some i) (he : P.underlying e = some (.int .u8)) (hk : P.plainKey e = true) (hc : P.cellsOf e = 1)
  (xs ys : List Int) (hx : xs.length = n) (hy : ys.length = n) : (binOp .neq t (.agg (ArrU8 xs)) (.agg (ArrU8 ys))).run P w = .ok (.bool (!decide (xs = ys))) w := by
 have h := run_eql_bytes w t e n i ht hi he hk hc xs ys hx hy
 have h1 : (do pure (Value.bool (← Op.equal t (.agg (ArrU8 xs)) (.agg (ArrU8 ys)))) : Sem Value).run P w = .ok (.bool (decide (xs = ys))) w := h
 show (do pure (Value.bool (!(← Op.equal t (.agg (ArrU8 xs)) (.agg (ArrU8 ys))))) : Sem Value).run P w = _
 simp only [Sem.run_bind, Sem.run_pure] at h1 ⊢
 cases hr : (Op.equal t (.agg (ArrU8 xs)) (.agg (ArrU8 ys))).run P w with
 | ok b w' => rw [hr] at h1; simp only [Result.andThen_ok] at h1 ⊢; injection h1 with h2 h3; injection h2 with h2; rw [h2, h3]
 | halt x w' => rw [hr] at h1; cases h1
theorem info_u8 : ∃ i, Tryd.prog.info? 5 = some i := by
 have h : (Tryd.prog.info? 5).isSome = true := by kernel_rfl
 exact Option.isSome_iff_exists.1 h
set_option maxRecDepth 100000 in
theorem run_eql_dg (w : World) (xs ys : List Int) (hx : xs.length = 32) (hy : ys.length = 32) : (binOp .eql 36 (.agg (ArrU8 xs)) (.agg (ArrU8 ys))).run Tryd.prog w = .ok (.bool (decide (xs = ys))) w := by
 obtain ⟨i, hi⟩ := info_u8
 exact run_eql_bytes w 36 5 32 i Tryd.underlying36 hi Tryd.underlying5 (by kernel_rfl) (by kernel_rfl) xs ys hx hy
set_option maxRecDepth 100000 in
theorem run_neq_dg (w : World) (xs ys : List Int) (hx : xs.length = 32) (hy : ys.length = 32) : (binOp .neq 36 (.agg (ArrU8 xs)) (.agg (ArrU8 ys))).run Tryd.prog w = .ok (.bool (!decide (xs = ys))) w := by
 obtain ⟨i, hi⟩ := info_u8
 exact run_neq_bytes w 36 5 32 i Tryd.underlying36 hi Tryd.underlying5 (by kernel_rfl) (by kernel_rfl) xs ys hx hy
set_option maxRecDepth 100000 in
theorem exec_eql_dg {ρ : Operand → Value} {o : Oper} {w : World} (x y : Operand) (U : TypeId) (ho : o.op = .binOp .eql 36 x y U) (xs ys : List Int) (hx : ρ x = .agg (ArrU8 xs)) (hy : ρ y = .agg (ArrU8 ys)) (lx : xs.length = 32) (ly : ys.length = 32) (b : Bool) (hb : decide (xs = ys) = b) :
  (execOp ρ o).run Tryd.prog w = .ok (.value (.bool b)) w := by
 unfold execOp
 rw [ho]
 simp only [hx, hy]
 show ((binOp .eql 36 (.agg (ArrU8 xs)) (.agg (ArrU8 ys))) >>= fun v => pure (Next.value v) : Sem Next).run Tryd.prog w = _
 simp only [Sem.run_bind, run_eql_dg w xs ys lx ly, Result.andThen_ok, hb, Sem.run_pure]
set_option maxRecDepth 100000 in
theorem exec_neq_dg {ρ : Operand → Value} {o : Oper} {w : World} (x y : Operand) (U : TypeId) (ho : o.op = .binOp .neq 36 x y U) (xs ys : List Int) (hx : ρ x = .agg (ArrU8 xs)) (hy : ρ y = .agg (ArrU8 ys)) (lx : xs.length = 32) (ly : ys.length = 32) (b : Bool) (hb : (!decide (xs = ys)) = b) :
  (execOp ρ o).run Tryd.prog w = .ok (.value (.bool b)) w := by
 unfold execOp
 rw [ho]
 simp only [hx, hy]
 show ((binOp .neq 36 (.agg (ArrU8 xs)) (.agg (ArrU8 ys))) >>= fun v => pure (Next.value v) : Sem Next).run Tryd.prog w = _
 simp only [Sem.run_bind, run_neq_dg w xs ys lx ly, Result.andThen_ok, hb, Sem.run_pure]
/-! ### the calls, by the state of a disk -/
/-- is a tree pruned? -/
def MT.cutQ : MT → Bool
 | .cut _ => true
 | _ => false
theorem isPruned_any {S : Nat → Prop} (w : World) (p : Value) (t : MT) (hp : MIs w S p t) :
  Calls Tryd.prog 75 #[p] w fun e w' => e = .returned (.bool t.cutQ) ∧ w' = w := by
 cases t with
 | nil =>
  obtain rfl : p = .pointer none := hp
  go_enter Tryd.func75, Tryd.ntmps75
  go_wp2_with fail
  go_ret
  exact ⟨rfl, rfl⟩
 | cut d =>
  obtain ⟨b, rfl, -, hd, hx⟩ := hp
  have c68 := (cell_of_row w b 68 _ _ _ hx).trans (ndC_pr (zeros_len 32) hd)
  clear hx
  go_enter Tryd.func75, Tryd.ntmps75
  go_wp2_with fail
  go_ret
  exact ⟨rfl, rfl⟩
 | nd k n rk d l r =>
  obtain ⟨b, kv, lp, rp, rfl, -, h1, h2, hx, -, -, -⟩ := hp
  have c68 := (cell_of_row w b 68 _ _ _ hx).trans (ndC_pr h1 h2)
  clear hx
  go_enter Tryd.func75, Tryd.ntmps75
  go_wp2_with fail
  go_ret
  exact ⟨rfl, rfl⟩
theorem text_any {S : Nat → Prop} (w : World) (p : Value) (t : MT) (hp : MIs w S p t) (hg : t.Good) (hK : KC w) (hc : t.cutQ = false) :
  Calls Tryd.prog 65 #[p] w fun e w' => ∃ v', e = .returned v' ∧ KIs w' (fun b => w.heap.size ≤ b) v' t.txt ∧ Below w.heap.size w w' := by
 cases t with
 | nil =>
  obtain rfl : p = .pointer none := hp
  exact ntext_nil w
 | cut d => cases hc
 | nd k n rk d l r =>
  obtain ⟨b, kv, lp, rp, rfl, -, h1, h2, hx, hk, hl, hr⟩ := hp
  obtain ⟨-, gl, gr, hkl, -, hn, -, -⟩ := hg
  exact ntext_blk w b kv lp rp k n rk d l r false hx h1 hk hl hr gl gr hK hkl hn
theorem MT.Good.drng : ∀ {t : MT}, t.Good → t.dg.length = 32 ∧ Rng t.dg
 | .nil, _ => ⟨sha_len _, sha_rng _⟩
 | .cut _, h => h
 | .nd .., h => by
  obtain ⟨e, -⟩ := h
  subst e
  exact ⟨sha_len _, sha_rng _⟩
/-- the first two texts that are different but have the same digest -/
def clashM : MT → MT → Option (List Int × List Int)
 | .cut _, _ => none
 | _, .cut _ => none
 | .nil, .nil => none
 | .nil, .nd k n rk d l r => if sha txt0 = d then some (txt0, (MT.nd k n rk d l r).txt) else none
 | .nd k n rk d l r, .nil => if d = sha txt0 then some ((MT.nd k n rk d l r).txt, txt0) else none
 | .nd k n rk d l r, .nd k' n' rk' d' l' r' => if (MT.nd k n rk d l r).txt = (MT.nd k' n' rk' d' l' r').txt then (match clashM l l' with | some p => some p | none => clashM r r') else if d = d' then some ((MT.nd k n rk d l r).txt, (MT.nd k' n' rk' d' l' r').txt) else none
/-- how clash ends -/
def CEnd (w : World) (e : Ending) (w' : World) : Option (List Int × List Int) → Prop
 | none => e = .returned (.tuple #[.slice none 0 0, .slice none 0 0, .bool false]) ∧ Below w.heap.size w w'
 | some (a, b) => ∃ va vb, e = .returned (.tuple #[va, vb, .bool true]) ∧ KIs w' (fun q => w.heap.size ≤ q) va a ∧ KIs w' (fun q => w.heap.size ≤ q) vb b ∧ Below w.heap.size w w'
end Go.Proofs.YtbmlkocpjboodaaDoor
/- stage 7: clash, its contract -/
namespace Go.Proofs.YtbmlkocpjboodaaDoor
open Go.RowKit
open Go.Lib (hid)
/-- what clash makes of two trees that are not pruned and have the same text -/
theorem clash_cut {S S' : Nat → Prop} (x y : MT) (w : World) (p q : Value) (hp : MIs w S p x) (hq : MIs w S' q y) (h : x.cutQ = true ∨ y.cutQ = true) :
  Calls Tryd.prog 47 #[p, q] w fun e w' => CEnd w e w' none := by
 have HP1 := hid (isPruned_any w p x hp)
 have HP2 := hid (isPruned_any w q y hq)
 obtain ⟨ap, rfl⟩ := hp.form
 obtain ⟨aq, rfl⟩ := hq.form
 have HH := hid h
 clear hp hq h
 generalize x.cutQ = bx at *
 generalize y.cutQ = by' at *
 cases bx with
 | true =>
  go_enter Tryd.func47, Tryd.ntmps47
  go_wp2_with fail
  refine HP1.out.mono ?_
  rintro e w1 ⟨rfl, rfl⟩
  go_wp2_with fail
  go_ret3
  exact ⟨rfl, Below.refl _ _⟩
 | false =>
  obtain rfl : by' = true := by simpa using HH.out
  go_enter Tryd.func47, Tryd.ntmps47
  go_wp2_with fail
  refine HP1.out.mono ?_
  rintro e w1 ⟨rfl, rfl⟩
  go_wp2_with fail
  refine HP2.out.mono ?_
  rintro e w1 ⟨rfl, rfl⟩
  go_wp2_with fail
  go_ret3
  exact ⟨rfl, Below.refl _ _⟩
set_option maxRecDepth 100000 in
set_option maxHeartbeats 8000000 in
/-- texts that differ -/
theorem clash_ne {S S' : Nat → Prop} (x y : MT) (w : World) (p q : Value) (hp : MIs w S p x) (hq : MIs w S' q y) (gx : x.Good) (gy : y.Good) (hK : KC w) (hx : x.cutQ = false) (hy : y.cutQ = false) (hne : x.txt ≠ y.txt) (rx : Rng x.txt) (ry : Rng y.txt) :
  Calls Tryd.prog 47 #[p, q] w fun e w' => CEnd w e w' (if x.dg = y.dg then some (x.txt, y.txt) else none) := by
 have HP1 := hid (isPruned_any w p x hp)
 have HP2 := hid (isPruned_any w q y hq)
 rw [hx] at HP1
 rw [hy] at HP2
 have HT1 := hid (text_any w p x hp gx hK hx)
 have HT2 := hid (fun u (hu : Below w.heap.size w u) => text_any u q y (hq.below hu) gy (hK.below hu hK.1) hy)
 have HS1 := hid (fun u (hu : Below w.heap.size w u) => nsum_any u (hp.below hu) (hK.below hu hK.1))
 have HS2 := hid (fun u (hu : Below w.heap.size w u) => nsum_any u (hq.below hu) (hK.below hu hK.1))
 have HD := hid (And.intro gx.drng gy.drng)
 have HE := hid (And.intro rx ry)
 have HNE := hid (show decide (x.txt = y.txt) = false from decide_eq_false hne)
 obtain ⟨ap, rfl⟩ := hp.form
 obtain ⟨aq, rfl⟩ := hq.form
 clear hp hq gx gy hK hx hy hne rx ry
 obtain ⟨R, hR⟩ : ∃ R, R = if x.dg = y.dg then some (x.txt, y.txt) else none := ⟨_, rfl⟩
 rw [← hR]
 have HR := hid hR
 clear hR
 generalize x.txt = a at *
 generalize y.txt = b at *
 generalize x.dg = da at *
 generalize y.dg = db at *
 go_enter Tryd.func47, Tryd.ntmps47
 go_wp2_with fail
 refine HP1.out.mono ?_
 rintro e w1 ⟨rfl, rfl⟩
 go_wp2_with fail
 refine HP2.out.mono ?_
 rintro e w1 ⟨rfl, rfl⟩
 go_wp2_with fail
 refine HT1.out.mono ?_
 rintro e w2 ⟨va, rfl, hka, hb2⟩
 obtain ⟨aa, ca, rfl⟩ := hka.form
 have HT2' := hid (HT2.out w2 hb2)
 have HA := hid (And.intro hka hb2)
 clear hka hb2 HT2
 go_wp2_with fail
 refine HT2'.out.mono ?_
 rintro e w3 ⟨vb, rfl, hkb, hb3⟩
 obtain ⟨ab, cb, rfl⟩ := hkb.form
 have hka3 := HA.out.1.below hb3
 have hb03 := HA.out.2.trans (hb3.mono HA.out.2.size)
 have HQ := hid (equal_any _ _ a b w3 hka3.1 hkb.1 HE.out.1 HE.out.2)
 rw [HNE.out] at HQ
 have HB := hid (And.intro hka3 (And.intro (hkb.mono (fun q hq => Nat.le_trans HA.out.2.size hq)) hb03))
 clear hkb hb3 hka3 hb03
 go_wp2_with fail
 refine HQ.out.mono ?_
 rintro e w4 ⟨rfl, rfl⟩
 go_wp2_with fail
 refine (HS1.out w4 HB.out.2.2).mono ?_
 rintro e w5 ⟨rfl, hb5⟩
 have hb05 := HB.out.2.2.trans (hb5.mono HB.out.2.2.size)
 have HS2' := hid (HS2.out w5 hb05)
 have HB5 := hid (And.intro hb5 hb05)
 clear hb5 hb05 HS2
 go_wp2_with fail
 refine HS2'.out.mono ?_
 rintro e w6 ⟨rfl, hb6⟩
 have hb46 := HB5.out.1.trans (hb6.mono HB5.out.1.size)
 have HB6 := hid (And.intro (HB.out.1.below hb46) (And.intro (HB.out.2.1.below hb46) (HB5.out.2.trans (hb6.mono HB5.out.2.size))))
 clear hb6 hb46
 have hq6 := fun u => run_eql_dg u da db HD.out.1.1 HD.out.2.1
 by_cases hd : da = db
 ·subst hd
  replace HR : Hid (R = some (a, b)) := hid (HR.out.trans (if_pos rfl))
  have hq7 : decide (da = da) = true := decide_eq_true rfl
  rw [hq7] at hq6
  have HQ6 := hid hq6
  clear hq6 hq7
  go_wp2_with (refine wpList_of_run (o := ⟨some 30, _, _, _, _, _⟩) rfl (exec_eql_dg (Operand.tmp 27) (Operand.tmp 29) _ rfl da da rfl rfl HD.out.1.1 HD.out.1.1 true (decide_eq_true rfl)) ?_)
  go_ret3
  rw [HR.out]
  exact ⟨_, _, rfl, HB6.out.1, HB6.out.2.1, HB6.out.2.2⟩
 ·replace HR : Hid (R = none) := hid (HR.out.trans (if_neg hd))
  clear hq6
  go_wp2_with (refine wpList_of_run (o := ⟨some 30, _, _, _, _, _⟩) rfl (exec_eql_dg (Operand.tmp 27) (Operand.tmp 29) _ rfl da db rfl rfl HD.out.1.1 HD.out.2.1 false (decide_eq_false hd)) ?_)
  go_ret3
  rw [HR.out]
  exact ⟨rfl, HB6.out.2.2⟩
end Go.Proofs.YtbmlkocpjboodaaDoor
