import Derived.Test.YtbhilmgpmebaiaaSh01
import Derived.Test.YtbhilmgpmebaiaaSh02
import Derived.Test.YtbhilmgpmebaiaaSh04
namespace Go.Proofs.Ytbhilmgpmebaiaa
open Go.RowKit
def extL (c : Int) : Val → List Val → Val × Int
  | b, [] => (b, 0)
  | b, v :: r => if v.k ≠ b.k then (nulV, 22) else extL c (if ordV v b = c then v else b) r
def extR (c : Int) : List Val → Val × Int
  | [] => (nulV, 0)
  | x :: r => extL c x (x :: r)
theorem extL_at (c : Int) {s : List Val} {k : Nat} {x b : Val} (h : s[k]? = some x) : extL c b (s.drop k) = if x.k ≠ b.k then (nulV, 22) else extL c (if ordV x b = c then x else b) (s.drop (k + 1)) := by
  obtain ⟨h1, h2⟩ := List.getElem?_eq_some_iff.1 h
  rw [List.drop_eq_getElem_cons h1, h2]
  rfl
def ES (w u : World) (H : Nat) (x b : Val) (g : Nat) (c : Int) : Prop := u.heap[H]? = some (BX x.k x.n (str x.s)) ∧ u.heap[w.heap.size]? = some (BX b.k b.n (str b.s)) ∧ u.heap[g]? = some (.cells #[.int .i64 c] 3 (0, 0)) ∧ Below w.heap.size w u
theorem ES.drew {w u : World} {H g : Nat} {x b : Val} {c : Int} (h : ES w u H x b g c) : ES w u.drew H x b g c := ⟨h.1, h.2.1, h.2.2.1, h.2.2.2.drew⟩
theorem ES.below {w u v : World} {H g : Nat} {x b : Val} {c : Int} (h : ES w u H x b g c) (hb : Below u.heap.size u v) : ES w v H x b g c :=
  ⟨(hb.block _ (bx_lt h.1)).trans h.1, (hb.block _ (bx_lt h.2.1)).trans h.2.1, (hb.block _ (bx_lt h.2.2.1)).trans h.2.2.1, bl_tr h.2.2.2 hb⟩
set_option maxRecDepth 100000 in
set_option maxHeartbeats 6400000 in
theorem ext_any (c : Int) (g : Nat) (v : Value) (l : List Val) (w : World) (hg : w.heap[g]? = some (.cells #[.int .i64 c] 3 (0, 0))) (hv : Rw w v l) (ho : ∀ x ∈ l, x.OK) (hl : l.length ≤ 1073741824) (hsl : ∀ x ∈ l, x.s.length ≤ 1099511627776) :
    Calls Try.prog 89 #[v, .pointer (some ⟨g, 0, none⟩)] w fun e w' => e = .returned (.tuple #[.agg #[.int .i64 ((extR c (someV l)).1).k, .int .i64 ((extR c (someV l)).1).n, .string (str ((extR c (someV l)).1).s)], .int .i64 (extR c (someV l)).2]) ∧ Below w.heap.size w w' := by
  have hok := someV_ok ho
  have hssl : ∀ x ∈ someV l, x.s.length ≤ 1099511627776 := fun x hx => by
    simp only [someV, List.mem_filter, List.mem_map] at hx
    obtain ⟨⟨y, hy, rfl⟩, _⟩ := hx
    exact Nat.le_trans (norm_len y) (hsl y hy)
  have hln := Nat.le_trans (someV_len l) hl
  have hlg := bx_lt hg
  have HG := Lib.hid hg
  have HNN := Lib.hid (notNull_any v l (w.alloc (BX 0 0 ⟨#[]⟩)) (hv.below (bl_al (Below.refl _ _) _)) ho hl)
  generalize someV l = s at *
  have HOK := Lib.hid hok
  have HSL := Lib.hid hssl
  have HZ0 := heap_alloc_new w (BX 0 0 ⟨#[]⟩)
  have HZ0 := Lib.hid HZ0
  clear hv ho hl hok hg hsl hssl
  by_cases hs : s = []
  · subst hs
    rw [show extR c [] = (nulV, 0) from rfl]
    go_enter Try.func89, Try.ntmps89
    go_wp2_with (go_at_call 78; refine HNN.out.mono ?_; rintro e w1 ⟨v1, rfl, hown, hb1⟩; have hz := (hb1.block w.heap.size (by simp)).trans HZ0.out; obtain ⟨z0, z1, z2⟩ := bx_cells hz; obtain ⟨f0, f1, f2⟩ := bx_free hz; have hlz := bx_lt hz; have hg1 := (hb1.block g (by have := hlg; simp; omega)).trans (hp_al HG.out (BX 0 0 ⟨#[]⟩)); have HG1 := Lib.hid hg1; have HB1 := Lib.hid (bl_tr (bl_al (Below.refl w.heap.size w) (BX 0 0 ⟨#[]⟩)) hb1); obtain ⟨a1, c1, rfl, hc1, hcell1⟩ := hown.rw; have HCE := Lib.hid hcell1; have HZ1 := Lib.hid hz; clear hown hb1 hcell1 hz hg1; try simp only [List.length_nil] at *)
    refine bodyPost_ret (v := .tuple #[.agg #[.int .i64 0, .int .i64 0, .string ⟨#[]⟩], .int .i64 0]) (by simp [results, Try.results89, go_sem, z0, z1, z2]) rfl ⟨rfl, set3_below nulV HB1.out (Nat.le_refl _)⟩
  · have hs0 : 0 < s.length := List.length_pos_iff.2 hs
    have hs1 : ¬ ((s.length : Int) = 0) := by omega
    have g1 : ((s.length : Int) == 0) = false := beq_false_of_ne hs1
    have g2 : (0 : Int) < (s.length : Int) := by omega
    obtain ⟨y, hy⟩ : ∃ y, s[0]? = some y := ⟨_, List.getElem?_eq_getElem hs0⟩
    have hst : extL c y (s.drop 0) = extR c s := by
      cases s with
      | nil => simp at hs
      | cons a r => simp at hy; subst hy; rfl
    have HST := Lib.hid hst
    have HYN := Lib.hid (HOK.out y (List.mem_of_getElem? hy))
    have HY := Lib.hid hy
    clear hst hs
    go_enter Try.func89, Try.ntmps89
    go_wp2_with (go_at_call 78; refine HNN.out.mono ?_; rintro e w1 ⟨v1, rfl, hown, hb1⟩; have hz := (hb1.block w.heap.size (by simp)).trans HZ0.out; obtain ⟨z0, z1, z2⟩ := bx_cells hz; obtain ⟨f0, f1, f2⟩ := bx_free hz; have hlz := bx_lt hz; have hg1 := (hb1.block g (by have := hlg; simp; omega)).trans (hp_al HG.out (BX 0 0 ⟨#[]⟩)); have HG1 := Lib.hid hg1; have HB1 := Lib.hid (bl_tr (bl_al (Below.refl w.heap.size w) (BX 0 0 ⟨#[]⟩)) hb1); obtain ⟨a1, c1, rfl, hc1, hcell1⟩ := hown.rw; obtain ⟨bb, off, rfl, hbb, hce⟩ := hcell1 hs0; have HCE2 := Lib.hid hce; obtain ⟨p0, p1, p2⟩ := hce 0 y HY.out; rw [Nat.zero_mul, Nat.add_zero] at p0 p1 p2; have hcn0 : (s.length : Int) ≤ (c1 : Int) := (by omega); have HZ1 := Lib.hid hz; clear hown hb1 hcell1 hz hg1 hce)
    go_loopw [20] (fun i wr => ∃ (k : Nat) (b : Val), k ≤ s.length ∧ i = .int .i64 (k : Int) ∧ Below w1.heap.size w1 wr ∧ wr.heap[w1.heap.size]? = some (BX b.k b.n (str b.s)) ∧ Hid (Nrm b) ∧ Hid (b.s.length ≤ 1099511627776) ∧ Hid (extL c b (s.drop k) = extR c s)) (fun i _ => s.length - (intOf i).toNat)
    case atStart => exact ⟨0, y, Nat.zero_le _, rfl, bl_al (Below.refl _ _) _, heap_alloc_new _ _, HYN, Lib.hid (HSL.out y (List.mem_of_getElem? HY.out)), HST⟩
    case round =>
      obtain ⟨k, b, hk, rfl, hbw, htb, hbn, hbs, hex⟩ := hrel
      have hsz := hbw.size
      have hzr := (hbw.block w.heap.size hlz).trans HZ1.out
      have hgr := (hbw.block g (by omega)).trans HG1.out
      clear z0 z1 z2 f0 f1 f2 p0 p1 p2
      obtain ⟨z0, z1, z2⟩ := bx_cells hzr
      obtain ⟨f0, f1, f2⟩ := bx_free hzr
      obtain ⟨b0, b1, b2⟩ := bx_cells htb
      obtain ⟨bf0, bf1, bf2⟩ := bx_free htb
      have hlr : w.heap.size < wr.heap.size := by omega
      have hlt1 := bx_lt htb
      have HBW := Lib.hid hbw
      have HBW2 := Lib.hid (HB1.out.trans (hbw.mono (by omega)))
      have HTB := Lib.hid htb
      have HZR := Lib.hid hzr
      have HGR := Lib.hid hgr
      clear hbw htb hzr hgr
      by_cases hlt : k < s.length
      · obtain ⟨x, hx⟩ : ∃ x, s[k]? = some x := ⟨_, List.getElem?_eq_getElem hlt⟩
        obtain ⟨p0, p1, p2⟩ := HCE2.out k x hx
        replace p0 := (HBW.out.cell (p := ⟨bb, off + k * 3, none⟩) hbb).trans p0
        replace p1 := (HBW.out.cell (p := ⟨bb, off + k * 3 + 1, none⟩) hbb).trans p1
        replace p2 := (HBW.out.cell (p := ⟨bb, off + k * 3 + 2, none⟩) hbb).trans p2
        have hbr : bb < wr.heap.size := by omega
        have hk2 : (k : Int) < (s.length : Int) := by omega
        have hcn : (s.length : Int) ≤ (c1 : Int) := by omega
        have HXN := Lib.hid (HOK.out x (List.mem_of_getElem? hx))
        have HXS := Lib.hid (HSL.out x (List.mem_of_getElem? hx))
        have HAT := Lib.hid (hex.out.symm.trans (extL_at c hx))
        clear hx hex
        by_cases hkk : x.k = b.k
        · have g3 : (x.k != b.k) = false := by simp [hkk]
          rw [if_neg (by simp [hkk])] at HAT
          have HOR := Lib.hid (fun u => order_any x b u HXN.out.1.1 hbn.out.1.1)
          generalize ordV x b = o at *
          clear hkk
          have hS10 : ES w1 (wr.alloc (BX x.k x.n (str x.s))) wr.heap.size x b g c := ⟨heap_alloc_new _ _, hp_al HTB.out _, hp_al HGR.out _, HBW.out.alloc hsz _⟩
          go_wp2_with fail
          refine wp_region_held_drew (S := fun u => ES w1 u wr.heap.size x b g c) (by kernel_rfl) (hS10.drew) (fun hHeld => ?_)
          refine wpAnyH_take (i := 0) (oi := ({ dst := some 30, op := Op.load 23 (Operand.tmp 8), type := 23, pos := "fold.go:72", after := #[], guard := none } : Oper)) (v := ?_) rfl (by kernel_rfl) (by kernel_rfl) (by kernel_rfl) (fun _ _ _ h => h) (Or.inl ⟨by rfl, ?_⟩) (by assumption) ?_
          rotate_left 1
          · (intro u hSw; obtain ⟨t0, t1, t2⟩ := bx_cells hSw.1; obtain ⟨d0, d1, d2⟩ := bx_cells hSw.2.1; have e0 := (cell_of_row _ g 0 _ _ _ hSw.2.2.1).trans (show (#[Value.int .i64 c] : Array Value)[0]? = some (.int .i64 c) from rfl); go_simp; try with_reducible rfl)
          try simp only [Act.put, List.setIfInBounds_toArray, List.set_cons_zero, List.set_cons_succ]
          refine wpAnyH_take (i := 1) (oi := ({ dst := some 31, op := Op.load 23 (Operand.tmp 6), type := 23, pos := "fold.go:72", after := #[], guard := none } : Oper)) (v := ?_) rfl (by kernel_rfl) (by kernel_rfl) (by kernel_rfl) (fun _ _ _ h => h) (Or.inl ⟨by rfl, ?_⟩) (by assumption) ?_
          rotate_left 1
          · (intro u hSw; obtain ⟨t0, t1, t2⟩ := bx_cells hSw.1; obtain ⟨d0, d1, d2⟩ := bx_cells hSw.2.1; have e0 := (cell_of_row _ g 0 _ _ _ hSw.2.2.1).trans (show (#[Value.int .i64 c] : Array Value)[0]? = some (.int .i64 c) from rfl); go_simp; try with_reducible rfl)
          try simp only [Act.put, List.setIfInBounds_toArray, List.set_cons_zero, List.set_cons_succ]
          refine wpAnyH_take (i := 3) (oi := ({ dst := some 33, op := Op.load 3 (Operand.tmp 1), type := 3, pos := "fold.go:72", after := #[], guard := none } : Oper)) (v := ?_) rfl (by kernel_rfl) (by kernel_rfl) (by kernel_rfl) (fun _ _ _ h => h) (Or.inl ⟨by rfl, ?_⟩) (by assumption) ?_
          rotate_left 1
          · (intro u hSw; obtain ⟨t0, t1, t2⟩ := bx_cells hSw.1; obtain ⟨d0, d1, d2⟩ := bx_cells hSw.2.1; have e0 := (cell_of_row _ g 0 _ _ _ hSw.2.2.1).trans (show (#[Value.int .i64 c] : Array Value)[0]? = some (.int .i64 c) from rfl); go_simp; try with_reducible rfl)
          try simp only [Act.put, List.setIfInBounds_toArray, List.set_cons_zero, List.set_cons_succ]
          refine wpAnyH_ready (rs := [2]) (by kernel_rfl) (by simp) ?_
          refine AllReadyH.cons (o := ({ dst := some 32, op := Op.call { callee := Callee.value (Operand.func 50), args := #[Operand.tmp 30, Operand.tmp 31], argTypes := #[23, 23] }, type := 3, pos := "fold.go:72", after := #[{ on := 0, ground := Ground.data }, { on := 1, ground := Ground.data }], guard := none } : Oper)) rfl (fun K hK => ?_) AllReadyH.nil
          go_simp
          go_at_call 50
          refine (HOR.out _).mono ?_
          rintro e w2 ⟨rfl, hb2⟩
          go_wp2_with fail
          refine hK.out _ _ (hHeld.below hb2) (fun hHeld => ?_)
          clear hK K
          try simp only [Act.put, List.setIfInBounds_toArray, List.set_cons_zero, List.set_cons_succ]
          refine wpAnyH_take (i := 4) (oi := ({ dst := some 34, op := Op.binOp BinOp.eql 3 (Operand.tmp 32) (Operand.tmp 33) 3, type := 4, pos := "fold.go:72", after := #[{ on := 2, ground := Ground.data }, { on := 3, ground := Ground.data }], guard := none } : Oper)) (v := ?_) rfl (by kernel_rfl) (by kernel_rfl) (by kernel_rfl) (fun _ _ _ h => h) (Or.inl ⟨by rfl, ?_⟩) (by assumption) ?_
          rotate_left 1
          · (intro u hSw; go_simp; try with_reducible rfl)
          try simp only [Act.put, List.setIfInBounds_toArray, List.set_cons_zero, List.set_cons_succ]
          refine wpAnyH_done (by kernel_rfl) ?_ _
          by_cases ho : o = c
          · have g4 : (o == c) = true := beq_iff_eq.2 ho
            rw [if_pos ho] at HAT
            obtain ⟨t0, t1, t2⟩ := bx_cells hHeld.1
            obtain ⟨df0, df1, df2⟩ := bx_free hHeld.2.1
            obtain ⟨d0, d1, d2⟩ := bx_cells hHeld.2.1
            have HH := Lib.hid hHeld
            clear hHeld ho
            go_wp2_with fail
            go_roundw
            case rel => exact ⟨k + 1, x, by omega, by go_num, set3_below x HH.out.2.2.2 (Nat.le_refl _), set3 HH.out.2.1 x, HXN, HXS, Lib.hid HAT.out.symm⟩
            case measure => simp [intOf]; omega
          · have g4 : (o == c) = false := beq_false_of_ne ho
            rw [if_neg ho] at HAT
            have HH := Lib.hid hHeld
            clear hHeld ho
            go_wp2_with fail
            go_roundw
            case rel => exact ⟨k + 1, b, by omega, by go_num, HH.out.2.2.2, HH.out.2.1, hbn, hbs, Lib.hid HAT.out.symm⟩
            case measure => simp [intOf]; omega
        · have g3 : (x.k != b.k) = true := bne_iff_ne.2 hkk
          rw [if_pos hkk] at HAT
          clear hkk
          go_wp2_with fail
          refine bodyPost_ret (v := .tuple #[.agg #[.int .i64 0, .int .i64 0, .string ⟨#[]⟩], .int .i64 22]) (by simp [results, Try.results89, go_sem, z0, z1, z2, hlr]) rfl ⟨by rw [HAT.out]; rfl, ?_⟩
          (repeat (first | with_reducible exact HBW2.out | with_reducible refine Below.setCell ?_ (by first | omega | (simp; done) | (simp; omega)) _ | with_reducible refine Below.alloc ?_ (by first | omega | (simp; done) | (simp; omega)) _ | with_reducible refine Below.drew ?_))
      · have hkn : k = s.length := by omega
        subst hkn
        have HAT := Lib.hid (hex.out.symm.trans (by rw [List.drop_length]; rfl : extL c b (s.drop s.length) = (b, 0)))
        clear hex hlt
        have HCL := Lib.hid (fun u => clone_any (str b.s) u (by rw [str_len]; have := hbs.out; omega))
        have hne : w.heap.size ≠ w1.heap.size := by omega
        go_wp2_with (go_at_call 90; refine (HCL.out _).mono ?_; rintro e w2 ⟨rfl, hb2⟩; have hz2 := (hb2.block w.heap.size hlr).trans HZR.out; have ht2 := (hb2.block w1.heap.size hlt1).trans HTB.out; obtain ⟨y0, y1, y2⟩ := bx_cells hz2; obtain ⟨x0, x1, x2⟩ := bx_free hz2; obtain ⟨d0, d1, d2⟩ := bx_cells ht2; obtain ⟨df0, df1, df2⟩ := bx_free ht2; have hl2 := bx_lt hz2; have hl3 := bx_lt ht2; have HB2 := Lib.hid (HBW2.out.trans (hb2.mono (by omega))); clear hz2 ht2 hb2)
        refine bodyPost_ret (v := .tuple #[.agg #[.int .i64 b.k, .int .i64 b.n, .string (str b.s)], .int .i64 0]) (by simp [results, Try.results89, go_sem, y0, y1, y2]) rfl ⟨by rw [HAT.out], ?_⟩
        (repeat (first | with_reducible exact HB2.out | with_reducible refine Below.setCell ?_ (by first | omega | (simp; done) | (simp; omega)) _ | with_reducible refine Below.alloc ?_ (by first | omega | (simp; done) | (simp; omega)) _ | with_reducible refine Below.drew ?_))
end Go.Proofs.Ytbhilmgpmebaiaa
namespace Go.Proofs.Ytbhilmgpmebaiaa
open Go.RowKit
def cntL (n : Nat) : Val × Int := (numV (n : Int), 0)
theorem agg1_any (v : Value) (l : List Val) (w : World) (hv : Rw w v l) :
    Calls Try.prog 76 #[v] w fun e w' => e = .returned (.tuple #[.agg #[.int .i64 ((cntL l.length).1).k, .int .i64 ((cntL l.length).1).n, .string (str ((cntL l.length).1).s)], .int .i64 (cntL l.length).2]) ∧ Below w.heap.size w w' := by
  obtain ⟨a1, c1, rfl, hc1, hcell1⟩ := hv
  clear hcell1 hc1
  go_enter Try.func76, Try.ntmps76
  go_wp2_with (go_at_call 57; refine (integer_any _ _).mono ?_; rintro e w' ⟨rfl, rfl⟩)
  refine bodyPost_ret (v := .tuple #[.agg #[.int .i64 1, .int .i64 (l.length : Int), .string ⟨#[]⟩], .int .i64 0]) (by simp [results, Try.results76, go_sem]) rfl ⟨rfl, bl_al (bl_al (Below.refl _ _) _) _⟩
theorem agg2_any (v : Value) (l : List Val) (w : World) (hv : Rw w v l) (ho : ∀ x ∈ l, x.OK) (hl : l.length ≤ 1073741824) :
    Calls Try.prog 77 #[v] w fun e w' => e = .returned (.tuple #[.agg #[.int .i64 ((cntL (someV l).length).1).k, .int .i64 ((cntL (someV l).length).1).n, .string (str ((cntL (someV l).length).1).s)], .int .i64 (cntL (someV l).length).2]) ∧ Below w.heap.size w w' := by
  have HNN := Lib.hid (notNull_any v l (w.alloc (BX 0 0 ⟨#[]⟩)) (hv.below (bl_al (Below.refl _ _) _)) ho hl)
  generalize someV l = s at *
  have HZ0 := heap_alloc_new w (BX 0 0 ⟨#[]⟩)
  have HZ0 := Lib.hid HZ0
  clear hv ho hl
  go_enter Try.func77, Try.ntmps77
  go_wp2_with (first
    | (go_at_call 78; refine HNN.out.mono ?_; rintro e w1 ⟨v1, rfl, hown, hb1⟩; have hz := (hb1.block w.heap.size (by simp)).trans HZ0.out; have HZ1 := Lib.hid hz; have HB1 := Lib.hid (bl_tr (bl_al (Below.refl w.heap.size w) (BX 0 0 ⟨#[]⟩)) hb1); obtain ⟨a1, c1, rfl, hc1, hcell1⟩ := hown.rw; clear hown hb1 hcell1 hz hc1)
    | (go_at_call 57; refine (integer_any _ _).mono ?_; rintro e w2 ⟨rfl, hw⟩; have hz2 : w2.heap[w.heap.size]? = some (BX 0 0 ⟨#[]⟩) := hw ▸ hp_al HZ1.out _; have hb2 : Below w.heap.size w w2 := hw ▸ bl_al HB1.out _; have HB2 := Lib.hid hb2; clear hw hb2; obtain ⟨z0, z1, z2⟩ := bx_cells hz2; obtain ⟨f0, f1, f2⟩ := bx_free hz2; have hlz := bx_lt hz2; clear hz2))
  refine bodyPost_ret (v := .tuple #[.agg #[.int .i64 1, .int .i64 (s.length : Int), .string ⟨#[]⟩], .int .i64 0]) (by simp [results, Try.results77, go_sem, z0, z1, z2]) rfl ⟨rfl, set3_below (numV (s.length : Int)) HB2.out (Nat.le_refl _)⟩
set_option maxRecDepth 100000 in
set_option maxHeartbeats 3200000 in
theorem fold_21 (v : Value) (l : List Val) (w : World) (hv : Rw w v l) (ho : ∀ x ∈ l, x.OK) (hl : l.length ≤ 1073741824) :
    Calls Try.prog 15 #[.int .i64 21, v] w fun e w' => e = .returned (.tuple #[.agg #[.int .i64 ((cntL l.length).1).k, .int .i64 ((cntL l.length).1).n, .string (str ((cntL l.length).1).s)], .int .i64 (cntL l.length).2]) ∧ Below w.heap.size w w' := by
  have HV := Lib.hid (fun u (hu : Below w.heap.size w u) => hv.below hu)
  generalize hR : cntL l.length = R at *
  have HR := Lib.hid hR
  clear hR hv
  have HL := Lib.hid hl
  clear hl
  go_enter Try.func15, Try.ntmps15
  go_wp2_with (first
    | (go_at_call 46; refine (aggregates_any _).mono ?_; rintro e w1 ⟨M, c1, c2, rfl, hD⟩; have hl := run_lookF Try.underlying68 w1 M 21 _ hD.1 (0, FF 76) rfl true; have hz := (hD.2.1.block w.heap.size (by simp)).trans (heap_alloc_new _ _); obtain ⟨z0, z1, z2⟩ := bx_cells hz; obtain ⟨f0, f1, f2⟩ := bx_free hz; have hlz := bx_lt hz; have HZ1 := Lib.hid hz; have HB1 := Lib.hid (bl_tr (bl_al (Below.refl w.heap.size w) (BX 0 0 ⟨#[]⟩)) hD.2.1); have HDD := Lib.hid hD; clear hz hD)
    | (go_at_call 76; refine (HR.out ▸ agg1_any v l _ (HV.out _ HB1.out)).mono ?_; rintro e w2 ⟨rfl, hb2⟩; have hz2 := (hb2.block w.heap.size hlz).trans HZ1.out; obtain ⟨y0, y1, y2⟩ := bx_cells hz2; obtain ⟨x0, x1, x2⟩ := bx_free hz2; have hl2 := bx_lt hz2; have HB2 := Lib.hid (HB1.out.trans (hb2.mono (by omega))); clear hz2 hb2))
  refine bodyPost_ret (v := .tuple #[.agg #[.int .i64 R.1.k, .int .i64 R.1.n, .string (str R.1.s)], .int .i64 R.2]) (by simp [results, Try.results15, go_sem, y0, y1, y2]) rfl ⟨rfl, set3_below R.1 HB2.out (Nat.le_refl _)⟩
set_option maxRecDepth 100000 in
set_option maxHeartbeats 3200000 in
theorem fold_22 (v : Value) (l : List Val) (w : World) (hv : Rw w v l) (ho : ∀ x ∈ l, x.OK) (hl : l.length ≤ 1073741824) :
    Calls Try.prog 15 #[.int .i64 22, v] w fun e w' => e = .returned (.tuple #[.agg #[.int .i64 ((cntL (someV l).length).1).k, .int .i64 ((cntL (someV l).length).1).n, .string (str ((cntL (someV l).length).1).s)], .int .i64 (cntL (someV l).length).2]) ∧ Below w.heap.size w w' := by
  have HV := Lib.hid (fun u (hu : Below w.heap.size w u) => hv.below hu)
  generalize hR : cntL (someV l).length = R at *
  have HR := Lib.hid hR
  clear hR hv
  have HL := Lib.hid hl
  clear hl
  go_enter Try.func15, Try.ntmps15
  go_wp2_with (first
    | (go_at_call 46; refine (aggregates_any _).mono ?_; rintro e w1 ⟨M, c1, c2, rfl, hD⟩; have hl := run_lookF Try.underlying68 w1 M 22 _ hD.1 (1, FF 77) rfl true; have hz := (hD.2.1.block w.heap.size (by simp)).trans (heap_alloc_new _ _); obtain ⟨z0, z1, z2⟩ := bx_cells hz; obtain ⟨f0, f1, f2⟩ := bx_free hz; have hlz := bx_lt hz; have HZ1 := Lib.hid hz; have HB1 := Lib.hid (bl_tr (bl_al (Below.refl w.heap.size w) (BX 0 0 ⟨#[]⟩)) hD.2.1); have HDD := Lib.hid hD; clear hz hD)
    | (go_at_call 77; refine (HR.out ▸ agg2_any v l _ (HV.out _ HB1.out) ho HL.out).mono ?_; rintro e w2 ⟨rfl, hb2⟩; have hz2 := (hb2.block w.heap.size hlz).trans HZ1.out; obtain ⟨y0, y1, y2⟩ := bx_cells hz2; obtain ⟨x0, x1, x2⟩ := bx_free hz2; have hl2 := bx_lt hz2; have HB2 := Lib.hid (HB1.out.trans (hb2.mono (by omega))); clear hz2 hb2))
  refine bodyPost_ret (v := .tuple #[.agg #[.int .i64 R.1.k, .int .i64 R.1.n, .string (str R.1.s)], .int .i64 R.2]) (by simp [results, Try.results15, go_sem, y0, y1, y2]) rfl ⟨rfl, set3_below R.1 HB2.out (Nat.le_refl _)⟩
set_option maxRecDepth 100000 in
set_option maxHeartbeats 3200000 in
theorem fold_24 (v : Value) (l : List Val) (w : World) (hv : Rw w v l) (ho : ∀ x ∈ l, x.OK) (hl : l.length ≤ 1073741824) (hsl : ∀ x ∈ l, x.s.length ≤ 1099511627776) :
    Calls Try.prog 15 #[.int .i64 24, v] w fun e w' => e = .returned (.tuple #[.agg #[.int .i64 ((extR (-1) (someV l)).1).k, .int .i64 ((extR (-1) (someV l)).1).n, .string (str ((extR (-1) (someV l)).1).s)], .int .i64 (extR (-1) (someV l)).2]) ∧ Below w.heap.size w w' := by
  have HSL := Lib.hid hsl
  clear hsl
  have HV := Lib.hid (fun u (hu : Below w.heap.size w u) => hv.below hu)
  generalize hR : extR (-1) (someV l) = R at *
  have HR := Lib.hid hR
  clear hR hv
  have HL := Lib.hid hl
  clear hl
  go_enter Try.func15, Try.ntmps15
  go_wp2_with (first
    | (go_at_call 46; refine (aggregates_any _).mono ?_; rintro e w1 ⟨M, c1, c2, rfl, hD⟩; have hl := run_lookF Try.underlying68 w1 M 24 _ hD.1 (3, CF 89 c1) rfl true; have hz := (hD.2.1.block w.heap.size (by simp)).trans (heap_alloc_new _ _); obtain ⟨z0, z1, z2⟩ := bx_cells hz; obtain ⟨f0, f1, f2⟩ := bx_free hz; have hlz := bx_lt hz; have HZ1 := Lib.hid hz; have HB1 := Lib.hid (bl_tr (bl_al (Below.refl w.heap.size w) (BX 0 0 ⟨#[]⟩)) hD.2.1); have HDD := Lib.hid hD; clear hz hD)
    | (go_at_call 89; refine (HR.out ▸ ext_any (-1) c1 v l _ (HDD.out.2.2.2 (c1, .cells #[.int .i64 (-1)] 3) (by simp)).2 (HV.out _ HB1.out) ho HL.out HSL.out).mono ?_; rintro e w2 ⟨rfl, hb2⟩; have hz2 := (hb2.block w.heap.size hlz).trans HZ1.out; obtain ⟨y0, y1, y2⟩ := bx_cells hz2; obtain ⟨x0, x1, x2⟩ := bx_free hz2; have hl2 := bx_lt hz2; have HB2 := Lib.hid (HB1.out.trans (hb2.mono (by omega))); clear hz2 hb2))
  refine bodyPost_ret (v := .tuple #[.agg #[.int .i64 R.1.k, .int .i64 R.1.n, .string (str R.1.s)], .int .i64 R.2]) (by simp [results, Try.results15, go_sem, y0, y1, y2]) rfl ⟨rfl, set3_below R.1 HB2.out (Nat.le_refl _)⟩
set_option maxRecDepth 100000 in
set_option maxHeartbeats 3200000 in
theorem fold_25 (v : Value) (l : List Val) (w : World) (hv : Rw w v l) (ho : ∀ x ∈ l, x.OK) (hl : l.length ≤ 1073741824) (hsl : ∀ x ∈ l, x.s.length ≤ 1099511627776) :
    Calls Try.prog 15 #[.int .i64 25, v] w fun e w' => e = .returned (.tuple #[.agg #[.int .i64 ((extR 1 (someV l)).1).k, .int .i64 ((extR 1 (someV l)).1).n, .string (str ((extR 1 (someV l)).1).s)], .int .i64 (extR 1 (someV l)).2]) ∧ Below w.heap.size w w' := by
  have HSL := Lib.hid hsl
  clear hsl
  have HV := Lib.hid (fun u (hu : Below w.heap.size w u) => hv.below hu)
  generalize hR : extR 1 (someV l) = R at *
  have HR := Lib.hid hR
  clear hR hv
  have HL := Lib.hid hl
  clear hl
  go_enter Try.func15, Try.ntmps15
  go_wp2_with (first
    | (go_at_call 46; refine (aggregates_any _).mono ?_; rintro e w1 ⟨M, c1, c2, rfl, hD⟩; have hl := run_lookF Try.underlying68 w1 M 25 _ hD.1 (4, CF 89 c2) rfl true; have hz := (hD.2.1.block w.heap.size (by simp)).trans (heap_alloc_new _ _); obtain ⟨z0, z1, z2⟩ := bx_cells hz; obtain ⟨f0, f1, f2⟩ := bx_free hz; have hlz := bx_lt hz; have HZ1 := Lib.hid hz; have HB1 := Lib.hid (bl_tr (bl_al (Below.refl w.heap.size w) (BX 0 0 ⟨#[]⟩)) hD.2.1); have HDD := Lib.hid hD; clear hz hD)
    | (go_at_call 89; refine (HR.out ▸ ext_any 1 c2 v l _ (HDD.out.2.2.2 (c2, .cells #[.int .i64 1] 3) (by simp)).2 (HV.out _ HB1.out) ho HL.out HSL.out).mono ?_; rintro e w2 ⟨rfl, hb2⟩; have hz2 := (hb2.block w.heap.size hlz).trans HZ1.out; obtain ⟨y0, y1, y2⟩ := bx_cells hz2; obtain ⟨x0, x1, x2⟩ := bx_free hz2; have hl2 := bx_lt hz2; have HB2 := Lib.hid (HB1.out.trans (hb2.mono (by omega))); clear hz2 hb2))
  refine bodyPost_ret (v := .tuple #[.agg #[.int .i64 R.1.k, .int .i64 R.1.n, .string (str R.1.s)], .int .i64 R.2]) (by simp [results, Try.results15, go_sem, y0, y1, y2]) rfl ⟨rfl, set3_below R.1 HB2.out (Nat.le_refl _)⟩
theorem agg_miss {op : Int} (h : ¬ (21 ≤ op ∧ op ≤ 25)) (a b c d e : Value) : fidx [(21, a), (22, b), (23, c), (24, d), (25, e)] op = none := by
  simp only [fidx]
  repeat' split
  all_goals (first | rfl | omega | (simp at *; omega))
set_option maxRecDepth 100000 in
set_option maxHeartbeats 3200000 in
theorem fold_else (op : Int) (v : Value) (w : World) (ho : ¬ (21 ≤ op ∧ op ≤ 25)) :
    Calls Try.prog 15 #[.int .i64 op, v] w fun e w' => e = .returned (.tuple #[.agg #[.int .i64 nulV.k, .int .i64 nulV.n, .string (str nulV.s)], .int .i64 1]) ∧ Below w.heap.size w w' := by
  have HM := Lib.hid (fun a b c d e => agg_miss ho a b c d e)
  clear ho
  go_enter Try.func15, Try.ntmps15
  go_wp2_with (go_at_call 46; refine (aggregates_any _).mono ?_; rintro e w1 ⟨M, c1, c2, rfl, hD⟩; have hl := run_missF Try.underlying68 .nilFunc (fun w => by kernel_rfl) w1 M op _ hD.1 (HM.out _ _ _ _ _); have hz := (hD.2.1.block w.heap.size (by simp)).trans (heap_alloc_new _ _); obtain ⟨z0, z1, z2⟩ := bx_cells hz; obtain ⟨f0, f1, f2⟩ := bx_free hz; have hlz := bx_lt hz; have HZ1 := Lib.hid hz; have HB1 := Lib.hid (bl_tr (bl_al (Below.refl w.heap.size w) (BX 0 0 ⟨#[]⟩)) hD.2.1); have HDD := Lib.hid hD; clear hz hD)
  refine bodyPost_ret (v := .tuple #[.agg #[.int .i64 0, .int .i64 0, .string ⟨#[]⟩], .int .i64 1]) (by simp [results, Try.results15, go_sem, z0, z1, z2]) rfl ⟨rfl, set3_below nulV HB1.out (Nat.le_refl _)⟩
def foldR (op : Int) (l : List Val) : Val × Int := if op = 21 then cntL l.length else if op = 22 then cntL (someV l).length else if op = 23 then sumR (someV l) else if op = 24 then extR (-1) (someV l) else if op = 25 then extR 1 (someV l) else (nulV, 1)
theorem fold_any (op : Int) (v : Value) (l : List Val) (w : World) (hv : Rw w v l) (ho : ∀ x ∈ l, x.OK) (hl : l.length ≤ 1073741824) (hsl : ∀ x ∈ l, x.s.length ≤ 1099511627776) :
    Calls Try.prog 15 #[.int .i64 op, v] w fun e w' => e = .returned (.tuple #[.agg #[.int .i64 ((foldR op l).1).k, .int .i64 ((foldR op l).1).n, .string (str ((foldR op l).1).s)], .int .i64 (foldR op l).2]) ∧ Below w.heap.size w w' := by
  by_cases h : 21 ≤ op ∧ op ≤ 25
  · have h5 : op = 21 ∨ op = 22 ∨ op = 23 ∨ op = 24 ∨ op = 25 := by omega
    rcases h5 with rfl | rfl | rfl | rfl | rfl
    · exact fold_21 v l w hv ho hl
    · exact fold_22 v l w hv ho hl
    · exact fold_23 v l w hv ho hl
    · exact fold_24 v l w hv ho hl hsl
    · exact fold_25 v l w hv ho hl hsl
  · rw [show foldR op l = (nulV, 1) by rw [foldR, if_neg (by omega), if_neg (by omega), if_neg (by omega), if_neg (by omega), if_neg (by omega)]]
    exact fold_else op v w h
end Go.Proofs.Ytbhilmgpmebaiaa
namespace Go.Proofs.Ytbhilmgpmebaiaa
open Go.RowKit
end Go.Proofs.Ytbhilmgpmebaiaa
namespace Go.Proofs.Ytbhilmgpmebaiaa
open Go.RowKit
end Go.Proofs.Ytbhilmgpmebaiaa
namespace Go.Proofs.Ytbhilmgpmebaiaa
open Go.RowKit
attribute [local go_sem ↓] eql32_eq neq32_eq
end Go.Proofs.Ytbhilmgpmebaiaa
namespace Go.Proofs.Ytbhilmgpmebaiaa
open Go.RowKit
theorem wpList_build_empty {P : Program} {w : World} {ops : Array Oper} {rest : List Oper} {o : Oper} {a : Act} {Q : Exit → Act → World → Prop} (hgd : o.guard = none) (t e : TypeId) (size : Nat)
    (ho : o.op = .buildSlice t 0 #[]) (hrun : ∀ w : World, (Instr.buildSlice t 0 #[]).run P w = .ok (.slice (some ⟨w.heap.size, 0, none⟩) 0 0) (w.alloc (.cells #[] e)))
    (h : ∀ v w', w'.ownsRow w.heap.size e size v 0 [] → Below w.heap.size w w' → v.ownBlock = some w.heap.size → w'.heap.size = w.heap.size + 1 → wpList P ops Q rest (a.put o.dst v) w') : wpList P ops Q (o :: rest) a w := by
  refine wpList_plain hgd fun K hK => ?_
  unfold Oper.wp
  simp [execOp, ho, hrun, Result.andThen, Oper.upon]
  refine hK _ _ (h _ _ (World.ownsRow_lit w #[] 0 (Nat.le_refl _) (Nat.zero_le _) (by simp)) ((Below.refl _ _).alloc (Nat.le_refl _) _) rfl (by simp))
theorem buildV (w : World) : (Instr.buildSlice 29 0 #[]).run Try.prog w = .ok (.slice (some ⟨w.heap.size, 0, none⟩) 0 0) (w.alloc (.cells #[] 23)) := by kernel_rfl
end Go.Proofs.Ytbhilmgpmebaiaa
namespace Go.Proofs.Ytbhilmgpmebaiaa
open Go.RowKit
def isK (k : Int) : Bool := decide (0 ≤ k ∧ k ≤ 3)
def ok2 (k a b : Int) : Bool := okK k a && okK k b
def resR (op a b : Int) : Int × Int :=
  if op = 21 then (1, 0) else if (isK a && isK b) = false then (0, 1)
  else if 4 ≤ op ∧ op ≤ 9 ∨ op = 23 then (if ok2 1 a b = true then (1, 0) else (0, 22))
  else if 10 ≤ op ∧ op ≤ 15 then (if smK a b = true then (3, 0) else (0, 22))
  else if op = 16 ∨ op = 17 ∨ op = 18 then (if ok2 3 a b = true then (3, 0) else (0, 22))
  else if op = 19 ∨ op = 20 then (3, 0) else if op = 22 then (1, 0) else if op = 24 ∨ op = 25 then (a, 0) else (0, 1)
set_option maxHeartbeats 3200000 in
theorem res_comp (op : Int) (hop : 10 ≤ op ∧ op ≤ 15) (a b : Int) (w : World) : Calls Try.prog 24 #[.int .i64 op, .int .i64 a, .int .i64 b] w fun e w' => e = .returned (.tuple #[.int .i64 (resR op a b).1, .int .i64 (resR op a b).2]) ∧ Below w.heap.size w w' := by
  have ht1 := fun w => takesOne_any op w
  have ht2 := fun w => calculates_any op w
  have ht3 := fun w => compares_any op w
  have hka := fun w => isKind_any a w
  have hkb := fun w => isKind_any b w
  have hf1 : oneOf op = false := decide_eq_false (by omega)
  have hf2 : decide (4 ≤ op ∧ op ≤ 9) = false := decide_eq_false (by omega)
  have hf3 : decide (10 ≤ op ∧ op ≤ 15) = true := decide_eq_true (by omega)
  have e21 : (op == 21) = false := beq_false_of_ne (by omega)
  have e23 : (op == 23) = false := beq_false_of_ne (by omega)
  have n21 : ¬ op = 21 := by omega
  have nA : (4 ≤ op ∧ op ≤ 9 ∨ op = 23) = False := by simp; omega
  have nB : (10 ≤ op ∧ op ≤ 15) = True := by simp; omega
  simp only [hf1, hf2, hf3] at ht1 ht2 ht3
  have HT1 := Lib.hid ht1
  have HT2 := Lib.hid ht2
  have HT3 := Lib.hid ht3
  clear ht1 ht2 ht3 hf1 hf2 hf3
  cases h1 : isK a with
  | false =>
    simp only [show decide (0 ≤ a ∧ a ≤ 3) = false from h1] at hka
    have HKA := Lib.hid hka
    rw [show resR op a b = (0, 1) by simp [resR, h1, n21, nA, nB]]
    clear hka hkb h1
    go_enter Try.func24, Try.ntmps24
    go_wp2_with (first
      | (go_at_call 31; refine (HT1.out _).mono ?_; rintro e w' ⟨rfl, rfl⟩)
      | (go_at_call 53; refine (HKA.out _).mono ?_; rintro e w' ⟨rfl, rfl⟩))
    refine bodyPost_ret (v := .tuple #[.int .i64 0, .int .i64 1]) (by simp [results, Try.results24, go_sem]) rfl ⟨?_, ?_⟩
    · rfl
    · (repeat (first | exact Below.refl _ _ | exact HBW.out | refine bl_al ?_ _ | refine Below.setCell ?_ (by first | omega | (simp; done) | (simp; omega)) _ | refine Below.drew ?_))
  | true =>
    simp only [show decide (0 ≤ a ∧ a ≤ 3) = true from h1] at hka
    have HKA := Lib.hid hka
    cases h2 : isK b with
    | false =>
      simp only [show decide (0 ≤ b ∧ b ≤ 3) = false from h2] at hkb
      have HKB := Lib.hid hkb
      rw [show resR op a b = (0, 1) by simp [resR, h1, h2, n21, nA, nB]]
      clear hka hkb h1 h2
      go_enter Try.func24, Try.ntmps24
      go_wp2_with (first
        | (go_at_call 31; refine (HT1.out _).mono ?_; rintro e w' ⟨rfl, rfl⟩)
        | (go_at_call 53; refine (HKA.out _).mono ?_; rintro e w' ⟨rfl, rfl⟩; clear HKA)
        | (go_at_call 53; refine (HKB.out _).mono ?_; rintro e w' ⟨rfl, rfl⟩))
      refine bodyPost_ret (v := .tuple #[.int .i64 0, .int .i64 1]) (by simp [results, Try.results24, go_sem]) rfl ⟨?_, ?_⟩
      · rfl
      · (repeat (first | exact Below.refl _ _ | exact HBW.out | refine bl_al ?_ _ | refine Below.setCell ?_ (by first | omega | (simp; done) | (simp; omega)) _ | refine Below.drew ?_))
    | true =>
      simp only [show decide (0 ≤ b ∧ b ≤ 3) = true from h2] at hkb
      have HKB := Lib.hid hkb
      clear hka hkb
      have hsk := fun w => sameKind_any a b w
      cases h3 : smK a b with
      | false =>
        simp only [h3] at hsk
        have HSK := Lib.hid hsk
        rw [show resR op a b = (0, 22) by simp [resR, h1, h2, h3, n21, nA, nB]]
        clear hsk h3 h1 h2
        go_enter Try.func24, Try.ntmps24
        go_wp2_with (first
          | (go_at_call 31; refine (HT1.out _).mono ?_; rintro e w' ⟨rfl, rfl⟩)
          | (go_at_call 53; refine (HKA.out _).mono ?_; rintro e w' ⟨rfl, rfl⟩; clear HKA)
          | (go_at_call 53; refine (HKB.out _).mono ?_; rintro e w' ⟨rfl, rfl⟩)
          | (go_at_call 32; refine (HT2.out _).mono ?_; rintro e w' ⟨rfl, rfl⟩)
          | (go_at_call 35; refine (HT3.out _).mono ?_; rintro e w' ⟨rfl, rfl⟩)
          | (go_at_call 56; refine (HSK.out _).mono ?_; rintro e w' ⟨rfl, rfl⟩)
          | (go_at_call 54; refine (kindIf_any _ _ _).mono ?_; rintro e w' ⟨rfl, rfl⟩))
        refine bodyPost_ret (v := .tuple #[.int .i64 0, .int .i64 22]) (by simp [results, Try.results24, go_sem]) rfl ⟨?_, ?_⟩
        · rfl
        · (repeat (first | exact Below.refl _ _ | exact HBW.out | refine bl_al ?_ _ | refine Below.setCell ?_ (by first | omega | (simp; done) | (simp; omega)) _ | refine Below.drew ?_))
      | true =>
        simp only [h3] at hsk
        have HSK := Lib.hid hsk
        rw [show resR op a b = (3, 0) by simp [resR, h1, h2, h3, n21, nA, nB]]
        clear hsk h3 h1 h2
        go_enter Try.func24, Try.ntmps24
        go_wp2_with (first
          | (go_at_call 31; refine (HT1.out _).mono ?_; rintro e w' ⟨rfl, rfl⟩)
          | (go_at_call 53; refine (HKA.out _).mono ?_; rintro e w' ⟨rfl, rfl⟩; clear HKA)
          | (go_at_call 53; refine (HKB.out _).mono ?_; rintro e w' ⟨rfl, rfl⟩)
          | (go_at_call 32; refine (HT2.out _).mono ?_; rintro e w' ⟨rfl, rfl⟩)
          | (go_at_call 35; refine (HT3.out _).mono ?_; rintro e w' ⟨rfl, rfl⟩)
          | (go_at_call 56; refine (HSK.out _).mono ?_; rintro e w' ⟨rfl, rfl⟩)
          | (go_at_call 54; refine (kindIf_any _ _ _).mono ?_; rintro e w' ⟨rfl, rfl⟩))
        refine bodyPost_ret (v := .tuple #[.int .i64 3, .int .i64 0]) (by simp [results, Try.results24, go_sem]) rfl ⟨?_, ?_⟩
        · rfl
        · (repeat (first | exact Below.refl _ _ | exact HBW.out | refine bl_al ?_ _ | refine Below.setCell ?_ (by first | omega | (simp; done) | (simp; omega)) _ | refine Below.drew ?_))
end Go.Proofs.Ytbhilmgpmebaiaa
namespace Go.Proofs.Ytbhilmgpmebaiaa
open Go.RowKit
end Go.Proofs.Ytbhilmgpmebaiaa
