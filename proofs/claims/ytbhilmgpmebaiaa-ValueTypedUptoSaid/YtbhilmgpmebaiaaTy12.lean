import Derived.Test.YtbhilmgpmebaiaaTy11
import Derived.Laws.Externs
namespace Go.Proofs.Ytbhilmgpmebaiaa
open Go.RowKit
theorem wrapU (n : Int) : IntKind.u64.wrap n = n % 18446744073709551616 := by simp [IntKind.wrap, IntKind.signed, IntKind.bits]
def hiW (T : Int) : Int := T / 18446744073709551616
def loW (T : Int) : Int := T % 18446744073709551616
def Wd (T : Int) : Prop := -1099511627776 ≤ hiW T ∧ hiW T ≤ 1099511627776
theorem plus_any (T n : Int) (w : World) (hT : Wd T) (hn : I64 n) : Calls Try.prog 87 #[.agg #[.int .i64 (hiW T), .int .u64 (loW T)], .int .i64 n] w fun e w' => e = .returned (.agg #[.int .i64 (hiW (T + n)), .int .u64 (loW (T + n))]) ∧ Below w.heap.size w w' := by
  have hadd : ∀ (x y : Int) (u : World), 0 ≤ x → 0 ≤ y → (callFunc 94 #[.int .u64 x, .int .u64 y, .int .u64 0]).run Try.prog u = .ok (.value (.tuple #[.int .u64 ((x + y + 0) % 18446744073709551616), .int .u64 ((x + y + 0) / 18446744073709551616)])) u := by
    intro x y u hx hy
    rw [run_callFunc_extern Try.func94 (by kernel_rfl) (by kernel_rfl) (by kernel_rfl) (e := add64Entry) (by kernel_rfl), run_add64 x y 0 hx hy (by decide) (by decide)]
    rfl
  obtain ⟨h, hh⟩ : ∃ h, hiW T = h := ⟨_, rfl⟩
  obtain ⟨l, hl⟩ : ∃ l, loW T = l := ⟨_, rfl⟩
  have hlr : 0 ≤ l ∧ l < 18446744073709551616 := by rw [← hl]; unfold loW; omega
  have e1 : wrap64 (wrap64 (h + n / 9223372036854775808) + wrap64 ((l + IntKind.u64.wrap n) / 18446744073709551616)) = hiW (T + n) := by
    unfold Wd at hT; rw [hh] at hT
    unfold I64 at hn; rw [wrapU]
    rw [w64_in (n := h + n / 9223372036854775808) (by unfold I64; omega), w64_in (n := (l + n % 18446744073709551616) / 18446744073709551616) (by unfold I64; omega), w64_in (by unfold I64; omega)]
    unfold hiW loW at *
    omega
  have e2 : (l + IntKind.u64.wrap n) % 18446744073709551616 = loW (T + n) := by
    rw [wrapU]; unfold hiW loW at *; omega
  rw [← e1, ← e2, hh, hl]
  clear e1 e2 hh hl hT hn
  go_enter Try.func87, Try.ntmps87
  go_wp2_with fail
  refine bodyPost_ret (v := .agg #[.int .i64 (wrap64 (wrap64 (h + n / 9223372036854775808) + wrap64 ((l + IntKind.u64.wrap n) / 18446744073709551616))), .int .u64 ((l + IntKind.u64.wrap n) % 18446744073709551616)]) (by simp [results, Try.results87, go_sem]) rfl ⟨rfl, bl_al (bl_al (Below.refl _ _) _) _⟩
theorem narrow_any (T : Int) (w : World) (hT : Wd T) : Calls Try.prog 88 #[.agg #[.int .i64 (hiW T), .int .u64 (loW T)]] w fun e w' => e = .returned (.tuple #[.int .i64 (fit T).1, .int .i64 (fit T).2]) ∧ Below w.heap.size w w' := by
  obtain ⟨h, hh⟩ : ∃ h, hiW T = h := ⟨_, rfl⟩
  obtain ⟨l, hl⟩ : ∃ l, loW T = l := ⟨_, rfl⟩
  obtain ⟨m, hm⟩ : ∃ m, wrap64 l = m := ⟨_, rfl⟩
  have hlr : 0 ≤ l ∧ l < 18446744073709551616 := by rw [← hl]; unfold loW; omega
  rw [hh, hl]
  by_cases hf : I64 T
  · have e1 : h = m / 9223372036854775808 := by unfold I64 at hf; unfold hiW loW at *; unfold wrap64 at hm; omega
    have e2 : m = T := by unfold I64 at hf; unfold hiW loW at *; unfold wrap64 at hm; omega
    rw [fit_in hf]
    have g : (h != m / 9223372036854775808) = false := by simp [e1]
    rw [← e2]
    clear e1 e2 hh hl hT hf hlr
    go_enter Try.func88, Try.ntmps88
    go_wp2_with fail
    refine bodyPost_ret (v := .tuple #[.int .i64 m, .int .i64 0]) (by simp [results, Try.results88, go_sem, hm]) rfl ⟨rfl, bl_al (Below.refl _ _) _⟩
  · have e1 : h ≠ m / 9223372036854775808 := by unfold I64 at hf; unfold hiW loW at *; unfold wrap64 at hm; omega
    rw [fit_out hf]
    have g : (h != m / 9223372036854775808) = true := bne_iff_ne.2 e1
    clear e1 hh hl hT hf hlr
    go_enter Try.func88, Try.ntmps88
    go_wp2_with fail
    refine bodyPost_ret (v := .tuple #[.int .i64 0, .int .i64 30]) (by simp [results, Try.results88, go_sem]) rfl ⟨rfl, bl_al (Below.refl _ _) _⟩
def cnS (q : Int × Int) : Val × Int := if q.2 ≠ 0 then (nulV, q.2) else (numV q.1, 0)
def sumN (s : List Val) : Int := (s.map (·.n)).sum
def sumR (s : List Val) : Val × Int := if s = [] then (nulV, 0) else if s.all (fun v => decide (v.k = 1)) = true then cnS (fit (sumN s)) else (nulV, 22)
theorem sumN_take {s : List Val} {k : Nat} {x : Val} (h : s[k]? = some x) : sumN (s.take (k + 1)) = sumN (s.take k) + x.n := by
  rw [take_succ_vs s k x h]; simp [sumN]
theorem all_take {s : List Val} {k : Nat} {x : Val} (h : s[k]? = some x) (hx : x.k = 1) (ha : (s.take k).all (fun v => decide (v.k = 1)) = true) : (s.take (k + 1)).all (fun v => decide (v.k = 1)) = true := by
  rw [take_succ_vs s k x h, List.all_append, ha]; simp [hx]
theorem all_not {s : List Val} {k : Nat} {x : Val} (h : s[k]? = some x) (hx : x.k ≠ 1) : s.all (fun v => decide (v.k = 1)) = false := by
  apply List.all_eq_false.2
  exact ⟨x, List.mem_of_getElem? h, by simp [hx]⟩
theorem sumN_bound : ∀ (s : List Val), (∀ x ∈ s, x.OK) → -(9223372036854775808 * (s.length : Int)) ≤ sumN s ∧ sumN s ≤ 9223372036854775808 * (s.length : Int)
  | [], _ => by simp [sumN]
  | x :: s, h => by
    have h1 := sumN_bound s (fun y hy => h y (by simp [hy]))
    have h2 := (h x (by simp)).2.2.2
    simp only [sumN, List.map_cons, List.sum_cons, List.length_cons] at h1 ⊢
    omega

theorem set2w {u : World} {H : Nat} {h l h' l' : Int} {T : TypeId} (hc : u.heap[H]? = some (.cells #[.int .i64 h, .int .u64 l] T (0, 0))) :
    ((u.setCell ⟨H, 0, none⟩ (.int .i64 h')).setCell ⟨H, 1, none⟩ (.int .u64 l')).heap[H]? = some (.cells #[.int .i64 h', .int .u64 l'] T (0, 0)) := by
  have h1 := heap_setCell_same u H 0 _ _ (.int .i64 h') hc
  have h2 := heap_setCell_same _ H 1 _ _ (.int .u64 l') h1
  exact h2
theorem w_cells {u : World} {H : Nat} {h l : Int} {T : TypeId} (hc : u.heap[H]? = some (.cells #[.int .i64 h, .int .u64 l] T (0, 0))) :
    u.cell? ⟨H, 0, none⟩ = some (.int .i64 h) ∧ u.cell? ⟨H, 1, none⟩ = some (.int .u64 l) ∧ u.frozen? ⟨H, 0, none⟩ = false ∧ u.frozen? ⟨H, 1, none⟩ = false :=
  ⟨cell_of_row _ _ 0 _ _ _ hc, cell_of_row _ _ 1 _ _ _ hc, frozen_of_row _ _ 0 _ _ hc, frozen_of_row _ _ 1 _ _ hc⟩
set_option maxRecDepth 100000 in
set_option maxHeartbeats 6400000 in
theorem sum_any (v : Value) (l : List Val) (w : World) (hv : Rw w v l) (ho : ∀ x ∈ l, x.OK) (hl : l.length ≤ 1073741824) :
    Calls Try.prog 79 #[v] w fun e w' => e = .returned (.tuple #[.agg #[.int .i64 ((sumR (someV l)).1).k, .int .i64 ((sumR (someV l)).1).n, .string (str ((sumR (someV l)).1).s)], .int .i64 (sumR (someV l)).2]) ∧ Below w.heap.size w w' := by
  have hok := someV_ok ho
  have hsl := Nat.le_trans (someV_len l) hl
  have HNN := Lib.hid (notNull_any v l (w.alloc (BX 0 0 ⟨#[]⟩)) (hv.below (bl_al (Below.refl _ _) _)) ho hl)
  generalize someV l = s at *
  have HOK := Lib.hid hok
  have HZ0 := heap_alloc_new w (BX 0 0 ⟨#[]⟩)
  have HZ0 := Lib.hid HZ0
  clear hv ho hl hok
  by_cases hs : s = []
  · subst hs
    rw [show sumR [] = (nulV, 0) from rfl]
    go_enter Try.func79, Try.ntmps79
    go_wp2_with (go_at_call 78; refine HNN.out.mono ?_; rintro e w1 ⟨v1, rfl, hown, hb1⟩; have hz := (hb1.block w.heap.size (by simp)).trans HZ0.out; obtain ⟨z0, z1, z2⟩ := bx_cells hz; obtain ⟨f0, f1, f2⟩ := bx_free hz; have hlz := bx_lt hz; have HB1 := Lib.hid (bl_tr (bl_al (Below.refl w.heap.size w) (BX 0 0 ⟨#[]⟩)) hb1); obtain ⟨a1, c1, rfl, hc1, hcell1⟩ := hown.rw; have HCE := Lib.hid hcell1; have HZ1 := Lib.hid hz; clear hown hb1 hcell1 hz; try simp only [List.length_nil] at *)
    refine bodyPost_ret (v := .tuple #[.agg #[.int .i64 0, .int .i64 0, .string ⟨#[]⟩], .int .i64 0]) (by simp [results, Try.results79, go_sem, z0, z1, z2]) rfl ⟨rfl, set3_below nulV HB1.out (Nat.le_refl _)⟩
  · have hs0 : 0 < s.length := List.length_pos_iff.2 hs
    have hs1 : ¬ ((s.length : Int) = 0) := by omega
    have g1 : ((s.length : Int) == 0) = false := beq_false_of_ne hs1
    have HRS := Lib.hid (show sumR s = if s.all (fun v => decide (v.k = 1)) = true then cnS (fit (sumN s)) else (nulV, 22) by rw [sumR, if_neg hs])
    go_enter Try.func79, Try.ntmps79
    go_wp2_with (go_at_call 78; refine HNN.out.mono ?_; rintro e w1 ⟨v1, rfl, hown, hb1⟩; have hz := (hb1.block w.heap.size (by simp)).trans HZ0.out; obtain ⟨z0, z1, z2⟩ := bx_cells hz; obtain ⟨f0, f1, f2⟩ := bx_free hz; have hlz := bx_lt hz; have HB1 := Lib.hid (bl_tr (bl_al (Below.refl w.heap.size w) (BX 0 0 ⟨#[]⟩)) hb1); obtain ⟨a1, c1, rfl, hc1, hcell1⟩ := hown.rw; have HCE := Lib.hid hcell1; have HZ1 := Lib.hid hz; clear hown hb1 hcell1 hz; try simp only [List.length_nil] at *)
    go_loopw [18] (fun i wr => ∃ k : Nat, k ≤ s.length ∧ i = .int .i64 (k : Int) ∧ Below w1.heap.size w1 wr ∧ wr.heap[w1.heap.size]? = some (.cells #[.int .i64 (hiW (sumN (s.take k))), .int .u64 (loW (sumN (s.take k)))] 86 (0, 0)) ∧ Hid ((s.take k).all (fun v => decide (v.k = 1)) = true)) (fun i _ => s.length - (intOf i).toNat)
    case atStart => exact ⟨0, Nat.zero_le _, rfl, bl_al (Below.refl _ _) _, heap_alloc_new _ _, Lib.hid rfl⟩
    case round =>
      obtain ⟨k, hk, rfl, hbw, htb, hal⟩ := hrel
      have hsz := hbw.size
      have hzr := (hbw.block w.heap.size hlz).trans HZ1.out
      clear z0 z1 z2 f0 f1 f2
      obtain ⟨z0, z1, z2⟩ := bx_cells hzr
      obtain ⟨f0, f1, f2⟩ := bx_free hzr
      have hlr : w.heap.size < wr.heap.size := by omega
      have hlt1 := bx_lt htb
      have HBW := Lib.hid hbw
      have HBW2 := Lib.hid (HB1.out.trans (hbw.mono (by omega)))
      have HTB := Lib.hid htb
      have HZR := Lib.hid hzr
      clear hbw htb hzr
      by_cases hlt : k < s.length
      · obtain ⟨b, off, rfl, hb, hce⟩ := HCE.out hs0
        obtain ⟨x, hx⟩ : ∃ x, s[k]? = some x := ⟨_, List.getElem?_eq_getElem hlt⟩
        have HX := Lib.hid hx
        obtain ⟨p0, p1, p2⟩ := hce k x hx
        replace p0 := (HBW.out.cell (p := ⟨b, off + k * 3, none⟩) hb).trans p0
        replace p1 := (HBW.out.cell (p := ⟨b, off + k * 3 + 1, none⟩) hb).trans p1
        replace p2 := (HBW.out.cell (p := ⟨b, off + k * 3 + 2, none⟩) hb).trans p2
        have hbr : b < wr.heap.size := by omega
        have hk2 : (k : Int) < (s.length : Int) := by omega
        have hcn : (s.length : Int) ≤ (c1 : Int) := by omega
        clear hce hx
        by_cases hx1 : x.k = 1
        · have g2 : (x.k != 1) = false := by simp [hx1]
          have HN := Lib.hid (sumN_take HX.out)
          have HAL := Lib.hid (all_take HX.out hx1 hal.out)
          have hWd : Wd (sumN (s.take k)) := by
            have h1 := sumN_bound (s.take k) (fun y hy => (HOK.out y (List.mem_of_mem_take hy)).1)
            have h2 : (s.take k).length ≤ 1073741824 := by rw [List.length_take]; omega
            unfold Wd hiW; omega
          have HPL := Lib.hid (fun u => plus_any (sumN (s.take k)) x.n u hWd (HOK.out x (List.mem_of_getElem? HX.out)).1.2.2.2)
          obtain ⟨t0, t1, t2, t3⟩ := w_cells HTB.out
          generalize sumN (s.take k) = T at *
          clear hx1 hWd
          go_wp2_with (go_at_call 87; refine (HPL.out _).mono ?_; rintro e w2 ⟨rfl, hb2⟩; have ht2 := (hb2.block w1.heap.size (by simp <;> omega)).trans (hp_al HTB.out _); obtain ⟨y0, y1, y2, y3⟩ := w_cells ht2; have HT2 := Lib.hid ht2; have HB2 := Lib.hid (HBW.out.trans ((bl_tr (bl_al (Below.refl wr.heap.size wr) (BX x.k x.n (str x.s))) hb2).mono hsz)); clear ht2 hb2)
          go_roundw
          case rel =>
            refine ⟨k + 1, by omega, by go_num, ?_, ?_, HAL⟩
            · exact (HB2.out.setCell (Nat.le_refl _) _).setCell (Nat.le_refl _) _
            · rw [HN.out]; exact set2w HT2.out
          case measure => simp [intOf]; omega
        · have g2 : (x.k != 1) = true := bne_iff_ne.2 hx1
          have HE := Lib.hid (show sumR s = (nulV, 22) by rw [HRS.out, all_not HX.out hx1, if_neg (by decide)])
          clear hx1
          go_wp2_with fail
          refine bodyPost_ret (v := .tuple #[.agg #[.int .i64 0, .int .i64 0, .string ⟨#[]⟩], .int .i64 22]) (by simp [results, Try.results79, go_sem, z0, z1, z2, hlr]) rfl ⟨by rw [HE.out]; rfl, ?_⟩
          (repeat (first | with_reducible exact HBW2.out | with_reducible refine Below.setCell ?_ (by first | omega | (simp; done) | (simp; omega)) _ | with_reducible refine Below.alloc ?_ (by first | omega | (simp; done) | (simp; omega)) _))
      · have hkn : k = s.length := by omega
        subst hkn
        have hall := hal.out
        rw [List.take_length] at hall
        have HTB2 := HTB.out
        rw [List.take_length] at HTB2
        have HE := Lib.hid (show sumR s = cnS (fit (sumN s)) by rw [HRS.out, hall, if_pos rfl])
        obtain ⟨t0, t1, t2, t3⟩ := w_cells HTB2
        have hWd : Wd (sumN s) := by
          have h1 := sumN_bound s (fun y hy => (HOK.out y hy).1)
          unfold Wd hiW; omega
        have HNA := Lib.hid (fun u => narrow_any (sumN s) u hWd)
        generalize fit (sumN s) = q at *
        obtain ⟨q1, q2⟩ := q
        generalize sumN s = T at *
        clear hall hal hWd HTB2 hlt
        by_cases h2 : q2 = 0
        · subst h2
          have HE2 := Lib.hid (HE.out.trans (show cnS (q1, 0) = (numV q1, 0) by simp [cnS]))
          go_wp2_with (first
            | (go_at_call 88; refine (HNA.out _).mono ?_; rintro e w3 ⟨rfl, hb3⟩; have hz3 := (hb3.block w.heap.size hlr).trans HZR.out; obtain ⟨y0, y1, y2⟩ := bx_cells hz3; obtain ⟨x0, x1, x2⟩ := bx_free hz3; have hl3 := bx_lt hz3; have HB3 := Lib.hid (HBW2.out.trans (hb3.mono (by omega))); clear hz3 hb3)
            | (go_at_call 57; refine (integer_any _ _).mono ?_; rintro e w' ⟨rfl, rfl⟩))
          refine bodyPost_ret (v := .tuple #[.agg #[.int .i64 1, .int .i64 q1, .string ⟨#[]⟩], .int .i64 0]) (by simp [results, Try.results79, go_sem, y0, y1, y2, hl3]) rfl ⟨by rw [HE2.out]; rfl, ?_⟩
          (repeat (first | with_reducible exact HB3.out | with_reducible refine Below.setCell ?_ (by first | omega | (simp; done) | (simp; omega)) _ | with_reducible refine Below.alloc ?_ (by first | omega | (simp; done) | (simp; omega)) _))
        · have HE2 := Lib.hid (HE.out.trans (show cnS (q1, q2) = (nulV, q2) by simp [cnS, h2]))
          have g3 : (q2 != 0) = true := bne_iff_ne.2 h2
          clear h2
          go_wp2_with (go_at_call 88; refine (HNA.out _).mono ?_; rintro e w3 ⟨rfl, hb3⟩; have hz3 := (hb3.block w.heap.size hlr).trans HZR.out; obtain ⟨y0, y1, y2⟩ := bx_cells hz3; obtain ⟨x0, x1, x2⟩ := bx_free hz3; have hl3 := bx_lt hz3; have HB3 := Lib.hid (HBW2.out.trans (hb3.mono (by omega))); clear hz3 hb3)
          refine bodyPost_ret (v := .tuple #[.agg #[.int .i64 0, .int .i64 0, .string ⟨#[]⟩], .int .i64 q2]) (by simp [results, Try.results79, go_sem, y0, y1, y2, hl3]) rfl ⟨by rw [HE2.out]; rfl, ?_⟩
          (repeat (first | with_reducible exact HB3.out | with_reducible refine Below.setCell ?_ (by first | omega | (simp; done) | (simp; omega)) _ | with_reducible refine Below.alloc ?_ (by first | omega | (simp; done) | (simp; omega)) _))
end Go.Proofs.Ytbhilmgpmebaiaa
namespace Go.Proofs.Ytbhilmgpmebaiaa
open Go.RowKit
set_option maxRecDepth 100000 in
set_option maxHeartbeats 3200000 in
theorem fold_23 (v : Value) (l : List Val) (w : World) (hv : Rw w v l) (ho : ∀ x ∈ l, x.OK) (hl : l.length ≤ 1073741824) :
    Calls Try.prog 15 #[.int .i64 23, v] w fun e w' => e = .returned (.tuple #[.agg #[.int .i64 ((sumR (someV l)).1).k, .int .i64 ((sumR (someV l)).1).n, .string (str ((sumR (someV l)).1).s)], .int .i64 (sumR (someV l)).2]) ∧ Below w.heap.size w w' := by
  have HV := Lib.hid (fun u (hu : Below w.heap.size w u) => hv.below hu)
  generalize hR : sumR (someV l) = R at *
  have HR := Lib.hid hR
  clear hR hv
  have HL := Lib.hid hl
  clear hl
  go_enter Try.func15, Try.ntmps15
  go_wp2_with (first
    | (go_at_call 46; refine (aggregates_any _).mono ?_; rintro e w1 ⟨M, c1, c2, rfl, hD⟩; have hl := run_lookF Try.underlying68 w1 M 23 _ hD.1 (2, FF 79) rfl true; have hz := (hD.2.1.block w.heap.size (by simp)).trans (heap_alloc_new _ _); obtain ⟨z0, z1, z2⟩ := bx_cells hz; obtain ⟨f0, f1, f2⟩ := bx_free hz; have hlz := bx_lt hz; have HZ1 := Lib.hid hz; have HB1 := Lib.hid (bl_tr (bl_al (Below.refl w.heap.size w) (BX 0 0 ⟨#[]⟩)) hD.2.1); have HDD := Lib.hid hD; clear hz hD)
    | (go_at_call 79; refine (HR.out ▸ sum_any v l _ (HV.out _ HB1.out) ho HL.out).mono ?_; rintro e w2 ⟨rfl, hb2⟩; have hz2 := (hb2.block w.heap.size hlz).trans HZ1.out; obtain ⟨y0, y1, y2⟩ := bx_cells hz2; obtain ⟨x0, x1, x2⟩ := bx_free hz2; have hl2 := bx_lt hz2; have HB2 := Lib.hid (HB1.out.trans (hb2.mono (by omega))); clear hz2 hb2))
  refine bodyPost_ret (v := .tuple #[.agg #[.int .i64 R.1.k, .int .i64 R.1.n, .string (str R.1.s)], .int .i64 R.2]) (by simp [results, Try.results15, go_sem, y0, y1, y2]) rfl ⟨rfl, set3_below R.1 HB2.out (Nat.le_refl _)⟩
end Go.Proofs.Ytbhilmgpmebaiaa
