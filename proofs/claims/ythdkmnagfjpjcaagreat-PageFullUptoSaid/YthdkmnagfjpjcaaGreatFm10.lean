import Derived.Test.YthdkmnagfjpjcaaGreatFm09
namespace Go.Proofs.YthdkmnagfjpjcaaGreat
open Go.RowKit
theorem wrap_u64 (n : Int) (h1 : 0 ≤ n) (h2 : n ≤ 4611686018427387904) : IntKind.u64.wrap n = n := by
 rw [IntKind.wrap_u64]; omega
/-- the writes of the records of a Sync -/
def aw (fi : Int) (s : DS) (c : Nat) (al : List Int) : List (Int × List Int) := wl (fi + (2 + (c / 256 : Nat))) ((s.f (fi + (2 + (c / 256 : Nat)))).take (c % 256) ++ al) ((c % 256 + al.length - 1) / 256 + 1)
/-- the write of a mark -/
def mw (fi : Int) (a b c : Nat) : List (Int × List Int) := [(fi + (a % 2 : Nat), mb a b c)]
def SyEnds (B D M : Nat) (nb rm : Int) (P : Nat) (fi sz : Int) (a b c : Nat) (al : List Int) (s : DS) (lv : Value) (w : World) (e : Ending) (w' : World) : Prop :=
 ∃ (sF : DS) (E : Int) (aF bF cF : Nat) (lv' : Value), e = .returned (.int .i64 E) ∧ DkS w' B D M nb rm sF lv' ∧ LgIs w' P D fi sz aF bF cF (.slice none 0 0) ∧ Chg (fun k => Foot D M lv k ∨ k = P) w w' ∧ (∀ k, Foot D M lv' k → Foot D M lv k ∨ w.heap.size ≤ k) ∧
  (((s.wsy nb rm (aw fi s c al)).2 ≠ 0 ∧ sF = (s.wsy nb rm (aw fi s c al)).1 ∧ E = (s.wsy nb rm (aw fi s c al)).2 ∧ aF = a ∧ bF = b ∧ cF = c) ∨
   ((s.wsy nb rm (aw fi s c al)).2 = 0 ∧ sF = ((s.wsy nb rm (aw fi s c al)).1.wsy nb rm (mw fi (a + 1) b (c + al.length))).1 ∧ E = ((s.wsy nb rm (aw fi s c al)).1.wsy nb rm (mw fi (a + 1) b (c + al.length))).2 ∧ aF = (if E = 0 then a + 1 else a) ∧ bF = b ∧ cF = (if E = 0 then c + al.length else c)))
theorem sync_nil (P D : Nat) (fi sz : Int) (a b c : Nat) (sa : Option Addr) (sc : Nat) (w : World) (h : LgIs w P D fi sz a b c (.slice sa 0 sc)) :
  Calls Tryz.prog 86 #[.pointer (some ⟨P, 0, none⟩)] w fun e w' => w = w' ∧ e = .returned (.int .i64 0) := by
 have h0 := (cell_of_row _ (P) 0 _ _ _ h).trans (show (#[Value.pointer (some ⟨D, 0, none⟩), .int .i64 fi, .int .i64 sz, .int .u64 (a : Int), .int .u64 (b : Int), .int .u64 (c : Int), (.slice sa 0 sc)] : Array Value)[0]? = some (.pointer (some ⟨D, 0, none⟩)) from rfl)
 have h1 := (cell_of_row _ (P) 1 _ _ _ h).trans (show (#[Value.pointer (some ⟨D, 0, none⟩), .int .i64 fi, .int .i64 sz, .int .u64 (a : Int), .int .u64 (b : Int), .int .u64 (c : Int), (.slice sa 0 sc)] : Array Value)[1]? = some (.int .i64 fi) from rfl)
 have h2 := (cell_of_row _ (P) 2 _ _ _ h).trans (show (#[Value.pointer (some ⟨D, 0, none⟩), .int .i64 fi, .int .i64 sz, .int .u64 (a : Int), .int .u64 (b : Int), .int .u64 (c : Int), (.slice sa 0 sc)] : Array Value)[2]? = some (.int .i64 sz) from rfl)
 have h3 := (cell_of_row _ (P) 3 _ _ _ h).trans (show (#[Value.pointer (some ⟨D, 0, none⟩), .int .i64 fi, .int .i64 sz, .int .u64 (a : Int), .int .u64 (b : Int), .int .u64 (c : Int), (.slice sa 0 sc)] : Array Value)[3]? = some (.int .u64 (a : Int)) from rfl)
 have h4 := (cell_of_row _ (P) 4 _ _ _ h).trans (show (#[Value.pointer (some ⟨D, 0, none⟩), .int .i64 fi, .int .i64 sz, .int .u64 (a : Int), .int .u64 (b : Int), .int .u64 (c : Int), (.slice sa 0 sc)] : Array Value)[4]? = some (.int .u64 (b : Int)) from rfl)
 have h5 := (cell_of_row _ (P) 5 _ _ _ h).trans (show (#[Value.pointer (some ⟨D, 0, none⟩), .int .i64 fi, .int .i64 sz, .int .u64 (a : Int), .int .u64 (b : Int), .int .u64 (c : Int), (.slice sa 0 sc)] : Array Value)[5]? = some (.int .u64 (c : Int)) from rfl)
 have h6 := (cell_of_row _ (P) 6 _ _ _ h).trans (show (#[Value.pointer (some ⟨D, 0, none⟩), .int .i64 fi, .int .i64 sz, .int .u64 (a : Int), .int .u64 (b : Int), .int .u64 (c : Int), (.slice sa 0 sc)] : Array Value)[6]? = some (.slice sa 0 sc) from rfl)
 go_enter Tryz.func86, Tryz.ntmps86
 go_wp2_with fail
 go_ret
 exact ⟨rfl, rfl⟩
theorem ws_L (nb rm : Int) : ∀ (l : List (Int × List Int)) (s : DS), (s.ws nb rm l).1.L.length ≤ s.L.length + l.length
 | [], s => by simp [DS.ws]
 | x :: r, s => by
  unfold DS.ws
  have h := wr_L nb rm s x.1 x.2
  split
  ·have := ws_L nb rm r (s.wr nb rm x.1 x.2); simp only [List.length_cons]; omega
  ·simp only [List.length_cons]; omega
theorem wsy_L (nb rm : Int) (l : List (Int × List Int)) (s : DS) : (s.wsy nb rm l).1.L.length ≤ s.L.length + l.length := by
 have h := ws_L nb rm l s
 unfold DS.wsy
 split
 ·unfold DS.sy; simp only; split
  ·simp
  ·exact h
 ·exact h
theorem wl_length (n : Int) (all : List Int) : ∀ k, (wl n all k).length = k
 | 0 => rfl
 | k + 1 => by rw [wl, List.length_cons, wl_length n all k]
set_option maxRecDepth 100000 in
set_option maxHeartbeats 4000000 in
theorem sync_some (B D M : Nat) (nb rm : Int) (P : Nat) (fi sz : Int) (a b c : Nat) (av : Value) (al : List Int) (s : DS) (lv : Value) (w : World) (hd : DkS w B D M nb rm s lv) (h : LgIs w P D fi sz a b c av) (ho : Own w B av al) (hP : ¬ Foot D M lv P) (hne : av.ownBlock ≠ some P) (hdn : s.dn = false)
  (h1 : 0 ≤ fi) (h2 : fi + sz ≤ nb) (h3 : 3 ≤ sz) (hnb : nb ≤ 4096) (h0 : 0 < al.length) (hen : ((c + al.length : Nat) : Int) ≤ (sz - 2) * 256) (ha : a < 1099511627776) (hb : b < 1099511627776) (hL : s.L.length ≤ 268421000) :
  Calls Tryz.prog 86 #[.pointer (some ⟨P, 0, none⟩)] w (SyEnds B D M nb rm P fi sz a b c al s lv w) := by
 obtain ⟨sa, sc, hav⟩ := own_form ho
 subst hav
 have hwa := fun u lv (h : DkS u B D M nb rm s lv) va vc (hv : BsB u u.heap.size (.slice va al.length vc) al) => writeArea_any B D M nb rm fi sz s lv (.slice va al.length vc) c al u h hdn h1 h2 h3 hnb hv h0 hen (by omega)
 have hl1 := wsy_L nb rm (aw fi s c al) s
 have hl2 : (aw fi s c al).length ≤ 4100 := by rw [aw, wl_length]; omega
 change ∀ u lv, _ → ∀ va vc, _ → Calls _ _ _ u (LEnds B D M nb rm (s.wsy nb rm (aw fi s c al)).1 (s.wsy nb rm (aw fi s c al)).2 lv u) at hwa
 unfold SyEnds
 obtain ⟨r1, hr1⟩ : ∃ r, s.wsy nb rm (aw fi s c al) = r := ⟨_, rfl⟩
 rw [hr1] at hwa hl1
 obtain ⟨s1, E1⟩ := r1
 have htt := fun u lv (h : DkS u B D M nb rm s1 lv) (hp : LgIs u P D fi sz a b c (.slice none 0 0)) (hP : ¬ Foot D M lv P) => turnTo_any B D M nb rm P fi sz a b c b (c + al.length) (.slice none 0 0) s1 lv u h hp hP ⟨h1, by omega⟩ (by omega) (by omega) (by omega) (by dsimp only at hl1; omega)
 change ∀ u lv, _ → _ → _ → Calls _ _ _ u (TEnds B D M nb rm P fi sz a b c _ (s1.wsy nb rm (mw fi (a + 1) b (c + al.length))).1 (s1.wsy nb rm (mw fi (a + 1) b (c + al.length))).2 _ _ _ lv u) at htt
 obtain ⟨r2, hr2⟩ : ∃ r, s1.wsy nb rm (mw fi (a + 1) b (c + al.length)) = r := ⟨_, rfl⟩
 rw [hr2] at htt
 obtain ⟨s2, E2⟩ := r2
 dsimp only at hwa htt
 have HWA := Lib.hid hwa
 have HR1 := Lib.hid hr1
 have HR2 := Lib.hid hr2
 have hcc : (c : Int) ≤ 1048576 := by omega
 have hall : (al.length : Int) ≤ 1048576 := by omega
 have hce : ((c + al.length : Nat) : Int) = (c : Int) + (al.length : Int) := by omega
 rw [hce] at htt
 have HTT := Lib.hid htt
 have HD := Lib.hid hd
 have HP := Lib.hid h
 have HO := Lib.hid ho
 have HNF := Lib.hid hP
 have HNE := Lib.hid hne
 have HLT := Lib.hid h.lt
 have h0i : ¬ ((al.length : Int) = 0) := by omega
 have k0 := (cell_of_row _ (P) 0 _ _ _ h).trans (show (#[Value.pointer (some ⟨D, 0, none⟩), .int .i64 fi, .int .i64 sz, .int .u64 (a : Int), .int .u64 (b : Int), .int .u64 (c : Int), (.slice sa al.length sc)] : Array Value)[0]? = some (.pointer (some ⟨D, 0, none⟩)) from rfl)
 have k1 := (cell_of_row _ (P) 1 _ _ _ h).trans (show (#[Value.pointer (some ⟨D, 0, none⟩), .int .i64 fi, .int .i64 sz, .int .u64 (a : Int), .int .u64 (b : Int), .int .u64 (c : Int), (.slice sa al.length sc)] : Array Value)[1]? = some (.int .i64 fi) from rfl)
 have k2 := (cell_of_row _ (P) 2 _ _ _ h).trans (show (#[Value.pointer (some ⟨D, 0, none⟩), .int .i64 fi, .int .i64 sz, .int .u64 (a : Int), .int .u64 (b : Int), .int .u64 (c : Int), (.slice sa al.length sc)] : Array Value)[2]? = some (.int .i64 sz) from rfl)
 have k3 := (cell_of_row _ (P) 3 _ _ _ h).trans (show (#[Value.pointer (some ⟨D, 0, none⟩), .int .i64 fi, .int .i64 sz, .int .u64 (a : Int), .int .u64 (b : Int), .int .u64 (c : Int), (.slice sa al.length sc)] : Array Value)[3]? = some (.int .u64 (a : Int)) from rfl)
 have k4 := (cell_of_row _ (P) 4 _ _ _ h).trans (show (#[Value.pointer (some ⟨D, 0, none⟩), .int .i64 fi, .int .i64 sz, .int .u64 (a : Int), .int .u64 (b : Int), .int .u64 (c : Int), (.slice sa al.length sc)] : Array Value)[4]? = some (.int .u64 (b : Int)) from rfl)
 have k5 := (cell_of_row _ (P) 5 _ _ _ h).trans (show (#[Value.pointer (some ⟨D, 0, none⟩), .int .i64 fi, .int .i64 sz, .int .u64 (a : Int), .int .u64 (b : Int), .int .u64 (c : Int), (.slice sa al.length sc)] : Array Value)[5]? = some (.int .u64 (c : Int)) from rfl)
 have k6 := (cell_of_row _ (P) 6 _ _ _ h).trans (show (#[Value.pointer (some ⟨D, 0, none⟩), .int .i64 fi, .int .i64 sz, .int .u64 (a : Int), .int .u64 (b : Int), .int .u64 (c : Int), (.slice sa al.length sc)] : Array Value)[6]? = some (.slice sa al.length sc) from rfl)
 clear hd h ho hP hne hwa htt hr1 hr2 hl1 hl2 ha hb hL hen hce h0 hdn
 go_enter Tryz.func86, Tryz.ntmps86
 go_wp2_with fail
 refine (drop_any P D fi sz a b c (.slice sa al.length sc) w HP.out).mono ?_
 rintro e w1 ⟨rfl, hp1, hc1, hs1⟩
 have HP1 := Lib.hid hp1
 have HC1 := Lib.hid hc1
 have HD1 := Lib.hid (HD.out.chg hc1 (fun k hk e => HNF.out (by rw [← e]; exact hk)))
 have HO1 := Lib.hid (HO.out.chg hc1 (fun g hg e => HNE.out (by rw [hg, e])))
 have HBS1 := Lib.hid (show BsB w1 w1.heap.size (.slice sa al.length sc) al from ⟨HO1.out.bs, fun ad n c e h0 => (HO1.out.lt ad.block (by rw [e]; rfl)).2⟩)
 have HS1 := Lib.hid (show w1.drew.heap[P]? = some (.cells #[Value.pointer (some ⟨D, 0, none⟩), .int .i64 fi, .int .i64 sz, .int .u64 (a : Int), .int .u64 (b : Int), .int .u64 (c : Int), .slice none 0 0] 116 (0, 0)) from hp1)
 clear hp1 hc1 hs1 k0 k1 k2 k3 k4 k5 k6
 go_wp2_with fail
 have hw1 : IntKind.i64.wrap (c : Int) = (c : Int) := wrap_i64 _ (by omega) (by omega)
 refine wp_region_held_drew (S := fun u => u.heap[P]? = some (.cells #[Value.pointer (some ⟨D, 0, none⟩), .int .i64 fi, .int .i64 sz, .int .u64 (a : Int), .int .u64 (b : Int), .int .u64 (c : Int), .slice none 0 0] 116 (0, 0))) (by kernel_rfl) (HS1.out) (fun hHeld => ?_)
 refine wpAnyH_take (i := 0) (oi := ({ dst := some 17, op := .move (.tmp 0), type := 71, pos := "log.go:73", after := #[], guard := none } : Oper)) (v := ?_) rfl (by kernel_rfl) (by kernel_rfl) (by kernel_rfl) (fun _ _ _ h => h) (Or.inl ⟨by rfl, ?_⟩) (by assumption) ?_
 rotate_left 1
 ·(intro u hSw; go_simp; try with_reducible rfl)
 try simp only [Act.put, List.setIfInBounds_toArray, List.set_cons_zero, List.set_cons_succ]
 refine wpAnyH_take (i := 1) (oi := ({ dst := some 18, op := .nilCheck (.tmp 17), type := 0, pos := "log.go:73", after := #[{ on := 0, ground := .data }], guard := none } : Oper)) (v := ?_) rfl (by kernel_rfl) (by kernel_rfl) (by kernel_rfl) (fun _ _ _ h => h) (Or.inl ⟨by rfl, ?_⟩) (by assumption) ?_
 rotate_left 1
 ·(intro u hSw; go_simp; try with_reducible rfl)
 try simp only [Act.put, List.setIfInBounds_toArray, List.set_cons_zero, List.set_cons_succ]
 refine wpAnyH_take (i := 2) (oi := ({ dst := some 19, op := .fieldAddr 116 (.tmp 18) 0, type := 0, pos := "log.go:73", after := #[{ on := 1, ground := .data }], guard := none } : Oper)) (v := ?_) rfl (by kernel_rfl) (by kernel_rfl) (by kernel_rfl) (fun _ _ _ h => h) (Or.inl ⟨by rfl, ?_⟩) (by assumption) ?_
 rotate_left 1
 ·(intro u hSw; go_simp; try with_reducible rfl)
 try simp only [Act.put, List.setIfInBounds_toArray, List.set_cons_zero, List.set_cons_succ]
 refine wpAnyH_take (i := 3) (oi := ({ dst := some 20, op := .load 103 (.tmp 19), type := 103, pos := "log.go:73", after := #[{ on := 2, ground := .data }], guard := none } : Oper)) (v := ?_) rfl (by kernel_rfl) (by kernel_rfl) (by kernel_rfl) (fun _ _ _ h => h) (Or.inl ⟨by rfl, ?_⟩) (by assumption) ?_
 rotate_left 1
 ·intro u hSw
  have p0 := (cell_of_row u (P) 0 _ _ _ hSw).trans (show (#[Value.pointer (some ⟨D, 0, none⟩), .int .i64 fi, .int .i64 sz, .int .u64 (a : Int), .int .u64 (b : Int), .int .u64 (c : Int), .slice none 0 0] : Array Value)[0]? = some (.pointer (some ⟨D, 0, none⟩)) from rfl); have p1 := (cell_of_row u (P) 1 _ _ _ hSw).trans (show (#[Value.pointer (some ⟨D, 0, none⟩), .int .i64 fi, .int .i64 sz, .int .u64 (a : Int), .int .u64 (b : Int), .int .u64 (c : Int), .slice none 0 0] : Array Value)[1]? = some (.int .i64 fi) from rfl); have p2 := (cell_of_row u (P) 2 _ _ _ hSw).trans (show (#[Value.pointer (some ⟨D, 0, none⟩), .int .i64 fi, .int .i64 sz, .int .u64 (a : Int), .int .u64 (b : Int), .int .u64 (c : Int), .slice none 0 0] : Array Value)[2]? = some (.int .i64 sz) from rfl); have p3 := (cell_of_row u (P) 3 _ _ _ hSw).trans (show (#[Value.pointer (some ⟨D, 0, none⟩), .int .i64 fi, .int .i64 sz, .int .u64 (a : Int), .int .u64 (b : Int), .int .u64 (c : Int), .slice none 0 0] : Array Value)[3]? = some (.int .u64 (a : Int)) from rfl); have p4 := (cell_of_row u (P) 4 _ _ _ hSw).trans (show (#[Value.pointer (some ⟨D, 0, none⟩), .int .i64 fi, .int .i64 sz, .int .u64 (a : Int), .int .u64 (b : Int), .int .u64 (c : Int), .slice none 0 0] : Array Value)[4]? = some (.int .u64 (b : Int)) from rfl); have p5 := (cell_of_row u (P) 5 _ _ _ hSw).trans (show (#[Value.pointer (some ⟨D, 0, none⟩), .int .i64 fi, .int .i64 sz, .int .u64 (a : Int), .int .u64 (b : Int), .int .u64 (c : Int), .slice none 0 0] : Array Value)[5]? = some (.int .u64 (c : Int)) from rfl); have p6 := (cell_of_row u (P) 6 _ _ _ hSw).trans (show (#[Value.pointer (some ⟨D, 0, none⟩), .int .i64 fi, .int .i64 sz, .int .u64 (a : Int), .int .u64 (b : Int), .int .u64 (c : Int), .slice none 0 0] : Array Value)[6]? = some (.slice none 0 0) from rfl)
  go_simp
  try with_reducible rfl
 try simp only [Act.put, List.setIfInBounds_toArray, List.set_cons_zero, List.set_cons_succ]
 refine wpAnyH_take (i := 4) (oi := ({ dst := some 21, op := .move (.tmp 0), type := 71, pos := "log.go:73", after := #[], guard := none } : Oper)) (v := ?_) rfl (by kernel_rfl) (by kernel_rfl) (by kernel_rfl) (fun _ _ _ h => h) (Or.inl ⟨by rfl, ?_⟩) (by assumption) ?_
 rotate_left 1
 ·(intro u hSw; go_simp; try with_reducible rfl)
 try simp only [Act.put, List.setIfInBounds_toArray, List.set_cons_zero, List.set_cons_succ]
 refine wpAnyH_take (i := 5) (oi := ({ dst := some 22, op := .nilCheck (.tmp 21), type := 0, pos := "log.go:73", after := #[{ on := 4, ground := .data }], guard := none } : Oper)) (v := ?_) rfl (by kernel_rfl) (by kernel_rfl) (by kernel_rfl) (fun _ _ _ h => h) (Or.inl ⟨by rfl, ?_⟩) (by assumption) ?_
 rotate_left 1
 ·(intro u hSw; go_simp; try with_reducible rfl)
 try simp only [Act.put, List.setIfInBounds_toArray, List.set_cons_zero, List.set_cons_succ]
 refine wpAnyH_take (i := 6) (oi := ({ dst := some 23, op := .fieldAddr 116 (.tmp 22) 1, type := 0, pos := "log.go:73", after := #[{ on := 5, ground := .data }], guard := none } : Oper)) (v := ?_) rfl (by kernel_rfl) (by kernel_rfl) (by kernel_rfl) (fun _ _ _ h => h) (Or.inl ⟨by rfl, ?_⟩) (by assumption) ?_
 rotate_left 1
 ·(intro u hSw; go_simp; try with_reducible rfl)
 try simp only [Act.put, List.setIfInBounds_toArray, List.set_cons_zero, List.set_cons_succ]
 refine wpAnyH_take (i := 7) (oi := ({ dst := some 24, op := .fieldAddr 107 (.tmp 23) 2, type := 0, pos := "log.go:73", after := #[{ on := 6, ground := .data }], guard := none } : Oper)) (v := ?_) rfl (by kernel_rfl) (by kernel_rfl) (by kernel_rfl) (fun _ _ _ h => h) (Or.inl ⟨by rfl, ?_⟩) (by assumption) ?_
 rotate_left 1
 ·(intro u hSw; go_simp; try with_reducible rfl)
 try simp only [Act.put, List.setIfInBounds_toArray, List.set_cons_zero, List.set_cons_succ]
 refine wpAnyH_take (i := 8) (oi := ({ dst := some 25, op := .load 60 (.tmp 24), type := 60, pos := "log.go:73", after := #[{ on := 7, ground := .data }], guard := none } : Oper)) (v := ?_) rfl (by kernel_rfl) (by kernel_rfl) (by kernel_rfl) (fun _ _ _ h => h) (Or.inl ⟨by rfl, ?_⟩) (by assumption) ?_
 rotate_left 1
 ·intro u hSw
  have p0 := (cell_of_row u (P) 0 _ _ _ hSw).trans (show (#[Value.pointer (some ⟨D, 0, none⟩), .int .i64 fi, .int .i64 sz, .int .u64 (a : Int), .int .u64 (b : Int), .int .u64 (c : Int), .slice none 0 0] : Array Value)[0]? = some (.pointer (some ⟨D, 0, none⟩)) from rfl); have p1 := (cell_of_row u (P) 1 _ _ _ hSw).trans (show (#[Value.pointer (some ⟨D, 0, none⟩), .int .i64 fi, .int .i64 sz, .int .u64 (a : Int), .int .u64 (b : Int), .int .u64 (c : Int), .slice none 0 0] : Array Value)[1]? = some (.int .i64 fi) from rfl); have p2 := (cell_of_row u (P) 2 _ _ _ hSw).trans (show (#[Value.pointer (some ⟨D, 0, none⟩), .int .i64 fi, .int .i64 sz, .int .u64 (a : Int), .int .u64 (b : Int), .int .u64 (c : Int), .slice none 0 0] : Array Value)[2]? = some (.int .i64 sz) from rfl); have p3 := (cell_of_row u (P) 3 _ _ _ hSw).trans (show (#[Value.pointer (some ⟨D, 0, none⟩), .int .i64 fi, .int .i64 sz, .int .u64 (a : Int), .int .u64 (b : Int), .int .u64 (c : Int), .slice none 0 0] : Array Value)[3]? = some (.int .u64 (a : Int)) from rfl); have p4 := (cell_of_row u (P) 4 _ _ _ hSw).trans (show (#[Value.pointer (some ⟨D, 0, none⟩), .int .i64 fi, .int .i64 sz, .int .u64 (a : Int), .int .u64 (b : Int), .int .u64 (c : Int), .slice none 0 0] : Array Value)[4]? = some (.int .u64 (b : Int)) from rfl); have p5 := (cell_of_row u (P) 5 _ _ _ hSw).trans (show (#[Value.pointer (some ⟨D, 0, none⟩), .int .i64 fi, .int .i64 sz, .int .u64 (a : Int), .int .u64 (b : Int), .int .u64 (c : Int), .slice none 0 0] : Array Value)[5]? = some (.int .u64 (c : Int)) from rfl); have p6 := (cell_of_row u (P) 6 _ _ _ hSw).trans (show (#[Value.pointer (some ⟨D, 0, none⟩), .int .i64 fi, .int .i64 sz, .int .u64 (a : Int), .int .u64 (b : Int), .int .u64 (c : Int), .slice none 0 0] : Array Value)[6]? = some (.slice none 0 0) from rfl)
  go_simp
  try with_reducible rfl
 try simp only [Act.put, List.setIfInBounds_toArray, List.set_cons_zero, List.set_cons_succ]
 refine wpAnyH_take (i := 9) (oi := ({ dst := some 26, op := .convert 60 3 (.tmp 25), type := 3, pos := "log.go:73", after := #[{ on := 8, ground := .data }], guard := none } : Oper)) (v := ?_) rfl (by kernel_rfl) (by kernel_rfl) (by kernel_rfl) (fun _ _ _ h => h) (Or.inl ⟨by rfl, ?_⟩) (by assumption) ?_
 rotate_left 1
 ·(intro u hSw; go_simp; try with_reducible rfl)
 try simp only [Act.put, List.setIfInBounds_toArray, List.set_cons_zero, List.set_cons_succ]
 refine wpAnyH_take (i := 10) (oi := ({ dst := some 27, op := .move (.tmp 3), type := 83, pos := "log.go:73", after := #[], guard := none } : Oper)) (v := ?_) rfl (by kernel_rfl) (by kernel_rfl) (by kernel_rfl) (fun _ _ _ h => h) (Or.inl ⟨by rfl, ?_⟩) (by assumption) ?_
 rotate_left 1
 ·(intro u hSw; go_simp; try with_reducible rfl)
 try simp only [Act.put, List.setIfInBounds_toArray, List.set_cons_zero, List.set_cons_succ]
 refine wpAnyH_ready (rs := [11]) (by kernel_rfl) (by simp) ?_
 refine AllReadyH.cons (o := ({ dst := some 28, op := .call { callee := Callee.value (Operand.func 102), args := #[.tmp 20, .tmp 26, .tmp 27], argTypes := #[103, 3, 83] }, type := 28, pos := "log.go:73", after := #[{ on := 3, ground := .data }, { on := 9, ground := .data }, { on := 10, ground := .data }], guard := none } : Oper)) rfl (fun K hK => ?_) AllReadyH.nil
 go_simp
 go_at_call 102
 refine (HWA.out w1.drew lv (HD1.out.kept (fun _ _ => rfl)) sa sc HBS1.out).mono ?_
 rintro e w2 ⟨rfl, lv2, hdk, hch, hft⟩
 have HD2 := Lib.hid hdk
 have HC2 := Lib.hid (show Chg (Foot D M lv) w1 w2 from ((Chg.refl (Foot D M lv) w1).drew).trans hch (fun _ h => .inl h))
 have HF2 := Lib.hid (show ∀ k, Foot D M lv2 k → Foot D M lv k ∨ w1.heap.size ≤ k from hft)
 have HP2 := Lib.hid ((HC2.out.block P HP1.out.lt HNF.out).trans HP1.out)
 clear hdk hch hft
 go_wp2_with fail
 refine hK.out _ _ HP2.out (fun hHeld => ?_)
 clear hK K
 try simp only [Act.put, List.setIfInBounds_toArray, List.set_cons_zero, List.set_cons_succ]
 refine wpAnyH_take (i := 12) (oi := ({ dst := some 4, op := .assign (.tmp 28), type := 28, pos := "log.go:73", after := #[{ on := 11, ground := .data }, { on := 11, ground := .chain }, { on := 0, ground := .phase }, { on := 1, ground := .phase }, { on := 2, ground := .phase }, { on := 3, ground := .phase }, { on := 4, ground := .phase }, { on := 5, ground := .phase }, { on := 6, ground := .phase }, { on := 7, ground := .phase }, { on := 8, ground := .phase }, { on := 9, ground := .phase }, { on := 10, ground := .phase }, { on := 11, ground := .phase }], guard := none } : Oper)) (v := ?_) rfl (by kernel_rfl) (by kernel_rfl) (by kernel_rfl) (fun _ _ _ h => h) (Or.inl ⟨by rfl, ?_⟩) (by assumption) ?_
 rotate_left 1
 ·(intro u hSw; go_simp; try with_reducible rfl)
 try simp only [Act.put, List.setIfInBounds_toArray, List.set_cons_zero, List.set_cons_succ]
 refine wpAnyH_done (by kernel_rfl) ?_ _
 have HCW := Lib.hid (show Chg (fun k => Foot D M lv k ∨ k = P) w w2 from (HC1.out.mono (fun k hk => .inr hk)).trans HC2.out (fun _ h => .inl (.inl h)))
 have HFW := Lib.hid (show ∀ k, Foot D M lv2 k → Foot D M lv k ∨ w.heap.size ≤ k from fun k hk => (HF2.out k hk).elim .inl (fun h => .inr (by have := HC1.out.size; omega)))
 have HPF := Lib.hid (show ¬ Foot D M lv2 P from fun e => (HF2.out P e).elim HNF.out (fun h => by have := HP1.out.lt; omega))
 by_cases hE : E1 = 0
 ·have hw2 : IntKind.u64.wrap (al.length : Int) = (al.length : Int) := wrap_u64 _ (by omega) (by omega)
  have hw3 : IntKind.u64.wrap ((c : Int) + (al.length : Int)) = (c : Int) + (al.length : Int) := wrap_u64 _ (by omega) (by omega)
  have HS2 := Lib.hid (show w2.drew.heap[P]? = some (.cells #[Value.pointer (some ⟨D, 0, none⟩), .int .i64 fi, .int .i64 sz, .int .u64 (a : Int), .int .u64 (b : Int), .int .u64 (c : Int), .slice none 0 0] 116 (0, 0)) from HP2.out)
  go_wp2_with fail
  have z0 := (cell_of_row _ (P) 0 _ _ _ HP2.out).trans (show (#[Value.pointer (some ⟨D, 0, none⟩), .int .i64 fi, .int .i64 sz, .int .u64 (a : Int), .int .u64 (b : Int), .int .u64 (c : Int), .slice none 0 0] : Array Value)[0]? = some (.pointer (some ⟨D, 0, none⟩)) from rfl)
  have z1 := (cell_of_row _ (P) 1 _ _ _ HP2.out).trans (show (#[Value.pointer (some ⟨D, 0, none⟩), .int .i64 fi, .int .i64 sz, .int .u64 (a : Int), .int .u64 (b : Int), .int .u64 (c : Int), .slice none 0 0] : Array Value)[1]? = some (.int .i64 fi) from rfl)
  have z2 := (cell_of_row _ (P) 2 _ _ _ HP2.out).trans (show (#[Value.pointer (some ⟨D, 0, none⟩), .int .i64 fi, .int .i64 sz, .int .u64 (a : Int), .int .u64 (b : Int), .int .u64 (c : Int), .slice none 0 0] : Array Value)[2]? = some (.int .i64 sz) from rfl)
  have z3 := (cell_of_row _ (P) 3 _ _ _ HP2.out).trans (show (#[Value.pointer (some ⟨D, 0, none⟩), .int .i64 fi, .int .i64 sz, .int .u64 (a : Int), .int .u64 (b : Int), .int .u64 (c : Int), .slice none 0 0] : Array Value)[3]? = some (.int .u64 (a : Int)) from rfl)
  have z4 := (cell_of_row _ (P) 4 _ _ _ HP2.out).trans (show (#[Value.pointer (some ⟨D, 0, none⟩), .int .i64 fi, .int .i64 sz, .int .u64 (a : Int), .int .u64 (b : Int), .int .u64 (c : Int), .slice none 0 0] : Array Value)[4]? = some (.int .u64 (b : Int)) from rfl)
  have z5 := (cell_of_row _ (P) 5 _ _ _ HP2.out).trans (show (#[Value.pointer (some ⟨D, 0, none⟩), .int .i64 fi, .int .i64 sz, .int .u64 (a : Int), .int .u64 (b : Int), .int .u64 (c : Int), .slice none 0 0] : Array Value)[5]? = some (.int .u64 (c : Int)) from rfl)
  have z6 := (cell_of_row _ (P) 6 _ _ _ HP2.out).trans (show (#[Value.pointer (some ⟨D, 0, none⟩), .int .i64 fi, .int .i64 sz, .int .u64 (a : Int), .int .u64 (b : Int), .int .u64 (c : Int), .slice none 0 0] : Array Value)[6]? = some (.slice none 0 0) from rfl)
  clear hw1
  refine wp_region_held_drew (S := fun _ => True) (by kernel_rfl) (trivial) (fun hHeld => ?_)
  refine wpAnyH_take (i := 0) (oi := ({ dst := some 32, op := .move (.tmp 0), type := 71, pos := "log.go:76", after := #[], guard := none } : Oper)) (v := ?_) rfl (by kernel_rfl) (by kernel_rfl) (by kernel_rfl) (fun _ _ _ h => h) (Or.inl ⟨by rfl, ?_⟩) (by assumption) ?_
  rotate_left 1
  ·(intro u hSw; go_simp; try with_reducible rfl)
  try simp only [Act.put, List.setIfInBounds_toArray, List.set_cons_zero, List.set_cons_succ]
  refine wpAnyH_take (i := 1) (oi := ({ dst := some 33, op := .move (.tmp 0), type := 71, pos := "log.go:76", after := #[], guard := none } : Oper)) (v := ?_) rfl (by kernel_rfl) (by kernel_rfl) (by kernel_rfl) (fun _ _ _ h => h) (Or.inl ⟨by rfl, ?_⟩) (by assumption) ?_
  rotate_left 1
  ·(intro u hSw; go_simp; try with_reducible rfl)
  try simp only [Act.put, List.setIfInBounds_toArray, List.set_cons_zero, List.set_cons_succ]
  refine wpAnyH_take (i := 2) (oi := ({ dst := some 34, op := .nilCheck (.tmp 33), type := 0, pos := "log.go:76", after := #[{ on := 1, ground := .data }], guard := none } : Oper)) (v := ?_) rfl (by kernel_rfl) (by kernel_rfl) (by kernel_rfl) (fun _ _ _ h => h) (Or.inl ⟨by rfl, ?_⟩) (by assumption) ?_
  rotate_left 1
  ·(intro u hSw; go_simp; try with_reducible rfl)
  try simp only [Act.put, List.setIfInBounds_toArray, List.set_cons_zero, List.set_cons_succ]
  refine wpAnyH_take (i := 3) (oi := ({ dst := some 35, op := .fieldAddr 116 (.tmp 34) 1, type := 0, pos := "log.go:76", after := #[{ on := 2, ground := .data }], guard := none } : Oper)) (v := ?_) rfl (by kernel_rfl) (by kernel_rfl) (by kernel_rfl) (fun _ _ _ h => h) (Or.inl ⟨by rfl, ?_⟩) (by assumption) ?_
  rotate_left 1
  ·(intro u hSw; go_simp; try with_reducible rfl)
  try simp only [Act.put, List.setIfInBounds_toArray, List.set_cons_zero, List.set_cons_succ]
  refine wpAnyH_take (i := 4) (oi := ({ dst := some 36, op := .fieldAddr 107 (.tmp 35) 1, type := 0, pos := "log.go:76", after := #[{ on := 3, ground := .data }], guard := none } : Oper)) (v := ?_) rfl (by kernel_rfl) (by kernel_rfl) (by kernel_rfl) (fun _ _ _ h => h) (Or.inl ⟨by rfl, ?_⟩) (by assumption) ?_
  rotate_left 1
  ·(intro u hSw; go_simp; try with_reducible rfl)
  try simp only [Act.put, List.setIfInBounds_toArray, List.set_cons_zero, List.set_cons_succ]
  refine wpAnyH_take (i := 6) (oi := ({ dst := some 38, op := .move (.tmp 0), type := 71, pos := "log.go:76", after := #[], guard := none } : Oper)) (v := ?_) rfl (by kernel_rfl) (by kernel_rfl) (by kernel_rfl) (fun _ _ _ h => h) (Or.inl ⟨by rfl, ?_⟩) (by assumption) ?_
  rotate_left 1
  ·(intro u hSw; go_simp; try with_reducible rfl)
  try simp only [Act.put, List.setIfInBounds_toArray, List.set_cons_zero, List.set_cons_succ]
  refine wpAnyH_take (i := 7) (oi := ({ dst := some 39, op := .nilCheck (.tmp 38), type := 0, pos := "log.go:76", after := #[{ on := 6, ground := .data }], guard := none } : Oper)) (v := ?_) rfl (by kernel_rfl) (by kernel_rfl) (by kernel_rfl) (fun _ _ _ h => h) (Or.inl ⟨by rfl, ?_⟩) (by assumption) ?_
  rotate_left 1
  ·(intro u hSw; go_simp; try with_reducible rfl)
  try simp only [Act.put, List.setIfInBounds_toArray, List.set_cons_zero, List.set_cons_succ]
  refine wpAnyH_take (i := 8) (oi := ({ dst := some 40, op := .fieldAddr 116 (.tmp 39) 1, type := 0, pos := "log.go:76", after := #[{ on := 7, ground := .data }], guard := none } : Oper)) (v := ?_) rfl (by kernel_rfl) (by kernel_rfl) (by kernel_rfl) (fun _ _ _ h => h) (Or.inl ⟨by rfl, ?_⟩) (by assumption) ?_
  rotate_left 1
  ·(intro u hSw; go_simp; try with_reducible rfl)
  try simp only [Act.put, List.setIfInBounds_toArray, List.set_cons_zero, List.set_cons_succ]
  refine wpAnyH_take (i := 9) (oi := ({ dst := some 41, op := .fieldAddr 107 (.tmp 40) 2, type := 0, pos := "log.go:76", after := #[{ on := 8, ground := .data }], guard := none } : Oper)) (v := ?_) rfl (by kernel_rfl) (by kernel_rfl) (by kernel_rfl) (fun _ _ _ h => h) (Or.inl ⟨by rfl, ?_⟩) (by assumption) ?_
  rotate_left 1
  ·(intro u hSw; go_simp; try with_reducible rfl)
  try simp only [Act.put, List.setIfInBounds_toArray, List.set_cons_zero, List.set_cons_succ]
  refine wpAnyH_take (i := 11) (oi := ({ dst := some 43, op := .move (.tmp 3), type := 83, pos := "log.go:76", after := #[], guard := none } : Oper)) (v := ?_) rfl (by kernel_rfl) (by kernel_rfl) (by kernel_rfl) (fun _ _ _ h => h) (Or.inl ⟨by rfl, ?_⟩) (by assumption) ?_
  rotate_left 1
  ·(intro u hSw; go_simp; try with_reducible rfl)
  try simp only [Act.put, List.setIfInBounds_toArray, List.set_cons_zero, List.set_cons_succ]
  refine wpAnyH_take (i := 12) (oi := ({ dst := some 44, op := .call { callee := Callee.builtin Builtin.len, args := #[.tmp 43], argTypes := #[83] }, type := 3, pos := "log.go:76", after := #[{ on := 11, ground := .data }], guard := none } : Oper)) (v := ?_) rfl (by kernel_rfl) (by kernel_rfl) (by kernel_rfl) (fun _ _ _ h => h) (Or.inl ⟨by rfl, ?_⟩) (by assumption) ?_
  rotate_left 1
  ·(intro u hSw; go_simp; try with_reducible rfl)
  try simp only [Act.put, List.setIfInBounds_toArray, List.set_cons_zero, List.set_cons_succ]
  refine wpAnyH_take (i := 13) (oi := ({ dst := some 45, op := .convert 3 60 (.tmp 44), type := 60, pos := "log.go:76", after := #[{ on := 12, ground := .data }], guard := none } : Oper)) (v := ?_) rfl (by kernel_rfl) (by kernel_rfl) (by kernel_rfl) (fun _ _ _ h => h) (Or.inl ⟨by rfl, ?_⟩) (by assumption) ?_
  rotate_left 1
  ·(intro u hSw; go_simp; try with_reducible rfl)
  try simp only [Act.put, List.setIfInBounds_toArray, List.set_cons_zero, List.set_cons_succ]
  refine wpAnyH_ready (rs := [5, 10]) (by kernel_rfl) (by simp) ?_
  refine (AllReadyH.cons (o := ({ dst := some 37, op := .load 60 (.tmp 36), type := 60, pos := "log.go:76", after := #[{ on := 4, ground := .data }], guard := none } : Oper)) rfl (fun K hK => ?_) (AllReadyH.cons (o := ({ dst := some 42, op := .load 60 (.tmp 41), type := 60, pos := "log.go:76", after := #[{ on := 9, ground := .data }], guard := none } : Oper)) rfl (fun K hK => ?_) AllReadyH.nil))
  ·go_simp
   refine hK.out _ _ trivial (fun hHeld => ?_)
   clear hK K
   try simp only [Act.put, List.setIfInBounds_toArray, List.set_cons_zero, List.set_cons_succ]
   refine wpAnyH_ready (rs := [10]) (by kernel_rfl) (by simp) ?_
   refine (AllReadyH.cons (o := ({ dst := some 42, op := .load 60 (.tmp 41), type := 60, pos := "log.go:76", after := #[{ on := 9, ground := .data }], guard := none } : Oper)) rfl (fun K hK => ?_) AllReadyH.nil)
   go_simp
   refine hK.out _ _ trivial (fun hHeld => ?_)
   clear hK K
   try simp only [Act.put, List.setIfInBounds_toArray, List.set_cons_zero, List.set_cons_succ]
   refine wpAnyH_take (i := 14) (oi := ({ dst := some 46, op := .binOp BinOp.add 60 (.tmp 42) (.tmp 45) 60, type := 60, pos := "log.go:76", after := #[{ on := 10, ground := .data }, { on := 13, ground := .data }], guard := none } : Oper)) (v := ?_) rfl (by kernel_rfl) (by kernel_rfl) (by kernel_rfl) (fun _ _ _ h => h) (Or.inl ⟨by rfl, ?_⟩) (by assumption) ?_
   rotate_left 1
   ·(intro u hSw; go_simp; try with_reducible rfl)
   try simp only [Act.put, List.setIfInBounds_toArray, List.set_cons_zero, List.set_cons_succ]
   refine wpAnyH_ready (rs := [15]) (by kernel_rfl) (by simp) ?_
   refine (AllReadyH.cons (o := ({ dst := some 47, op := .call { callee := Callee.value (Operand.func 97), args := #[.tmp 32, .tmp 37, .tmp 46], argTypes := #[71, 60, 60] }, type := 28, pos := "log.go:76", after := #[{ on := 0, ground := .data }, { on := 5, ground := .data }, { on := 14, ground := .data }], guard := none } : Oper)) rfl (fun K hK => ?_) AllReadyH.nil)
   go_simp
   go_at_call 97
   refine (HTT.out w2.drew lv2 (HD2.out.kept (fun _ _ => rfl)) HP2.out HPF.out).mono ?_
   rintro e w3 ⟨rfl, lv3, hdk, hp3, hch, hft⟩
   have HD3 := Lib.hid hdk
   have HP3 := Lib.hid hp3
   have HC3 := Lib.hid (show Chg (fun k => Foot D M lv2 k ∨ k = P) w2 w3 from ((Chg.refl _ w2).drew).trans hch (fun _ h => .inl h))
   have HF3 := Lib.hid (show ∀ k, Foot D M lv3 k → Foot D M lv2 k ∨ w2.heap.size ≤ k from hft)
   clear hdk hch hft hp3
   go_wp2_with fail
   refine hK.out _ _ trivial (fun hHeld => ?_)
   clear hK K
   try simp only [Act.put, List.setIfInBounds_toArray, List.set_cons_zero, List.set_cons_succ]
   refine wpAnyH_take (i := 16) (oi := ({ dst := some 2, op := .assign (.tmp 47), type := 28, pos := "log.go:76", after := #[{ on := 15, ground := .data }, { on := 15, ground := .chain }, { on := 0, ground := .phase }, { on := 1, ground := .phase }, { on := 2, ground := .phase }, { on := 3, ground := .phase }, { on := 4, ground := .phase }, { on := 5, ground := .phase }, { on := 6, ground := .phase }, { on := 7, ground := .phase }, { on := 8, ground := .phase }, { on := 9, ground := .phase }, { on := 10, ground := .phase }, { on := 11, ground := .phase }, { on := 12, ground := .phase }, { on := 13, ground := .phase }, { on := 14, ground := .phase }, { on := 15, ground := .phase }], guard := none } : Oper)) (v := ?_) rfl (by kernel_rfl) (by kernel_rfl) (by kernel_rfl) (fun _ _ _ h => h) (Or.inl ⟨by rfl, ?_⟩) (by assumption) ?_
   rotate_left 1
   ·(intro u hSw; go_simp; try with_reducible rfl)
   try simp only [Act.put, List.setIfInBounds_toArray, List.set_cons_zero, List.set_cons_succ]
   refine wpAnyH_done (by kernel_rfl) ?_ _
   go_wp2_with fail
   go_ret
   refine ⟨s2, E2, _, _, _, lv3, rfl, HD3.out, HP3.out, HCW.out.trans HC3.out (fun k hk => hk.elim (fun h => (HFW.out k h).elim (fun h => .inl (.inl h)) .inr) (fun h => .inl (.inr h))), fun k hk => ?_, .inr ⟨by rw [HR1.out]; exact hE, by rw [HR1.out]; dsimp only; rw [HR2.out], by rw [HR1.out]; dsimp only; rw [HR2.out], rfl, by split <;> rfl, rfl⟩⟩
   exact (HF3.out k hk).elim (fun h => HFW.out k h) (fun h => .inr (by have := HCW.out.size; omega))
  ·go_simp
   refine hK.out _ _ trivial (fun hHeld => ?_)
   clear hK K
   try simp only [Act.put, List.setIfInBounds_toArray, List.set_cons_zero, List.set_cons_succ]
   refine wpAnyH_take (i := 14) (oi := ({ dst := some 46, op := .binOp BinOp.add 60 (.tmp 42) (.tmp 45) 60, type := 60, pos := "log.go:76", after := #[{ on := 10, ground := .data }, { on := 13, ground := .data }], guard := none } : Oper)) (v := ?_) rfl (by kernel_rfl) (by kernel_rfl) (by kernel_rfl) (fun _ _ _ h => h) (Or.inl ⟨by rfl, ?_⟩) (by assumption) ?_
   rotate_left 1
   ·(intro u hSw; go_simp; try with_reducible rfl)
   try simp only [Act.put, List.setIfInBounds_toArray, List.set_cons_zero, List.set_cons_succ]
   refine wpAnyH_ready (rs := [5]) (by kernel_rfl) (by simp) ?_
   refine (AllReadyH.cons (o := ({ dst := some 37, op := .load 60 (.tmp 36), type := 60, pos := "log.go:76", after := #[{ on := 4, ground := .data }], guard := none } : Oper)) rfl (fun K hK => ?_) AllReadyH.nil)
   go_simp
   refine hK.out _ _ trivial (fun hHeld => ?_)
   clear hK K
   try simp only [Act.put, List.setIfInBounds_toArray, List.set_cons_zero, List.set_cons_succ]
   refine wpAnyH_ready (rs := [15]) (by kernel_rfl) (by simp) ?_
   refine (AllReadyH.cons (o := ({ dst := some 47, op := .call { callee := Callee.value (Operand.func 97), args := #[.tmp 32, .tmp 37, .tmp 46], argTypes := #[71, 60, 60] }, type := 28, pos := "log.go:76", after := #[{ on := 0, ground := .data }, { on := 5, ground := .data }, { on := 14, ground := .data }], guard := none } : Oper)) rfl (fun K hK => ?_) AllReadyH.nil)
   go_simp
   go_at_call 97
   refine (HTT.out w2.drew lv2 (HD2.out.kept (fun _ _ => rfl)) HP2.out HPF.out).mono ?_
   rintro e w3 ⟨rfl, lv3, hdk, hp3, hch, hft⟩
   have HD3 := Lib.hid hdk
   have HP3 := Lib.hid hp3
   have HC3 := Lib.hid (show Chg (fun k => Foot D M lv2 k ∨ k = P) w2 w3 from ((Chg.refl _ w2).drew).trans hch (fun _ h => .inl h))
   have HF3 := Lib.hid (show ∀ k, Foot D M lv3 k → Foot D M lv2 k ∨ w2.heap.size ≤ k from hft)
   clear hdk hch hft hp3
   go_wp2_with fail
   refine hK.out _ _ trivial (fun hHeld => ?_)
   clear hK K
   try simp only [Act.put, List.setIfInBounds_toArray, List.set_cons_zero, List.set_cons_succ]
   refine wpAnyH_take (i := 16) (oi := ({ dst := some 2, op := .assign (.tmp 47), type := 28, pos := "log.go:76", after := #[{ on := 15, ground := .data }, { on := 15, ground := .chain }, { on := 0, ground := .phase }, { on := 1, ground := .phase }, { on := 2, ground := .phase }, { on := 3, ground := .phase }, { on := 4, ground := .phase }, { on := 5, ground := .phase }, { on := 6, ground := .phase }, { on := 7, ground := .phase }, { on := 8, ground := .phase }, { on := 9, ground := .phase }, { on := 10, ground := .phase }, { on := 11, ground := .phase }, { on := 12, ground := .phase }, { on := 13, ground := .phase }, { on := 14, ground := .phase }, { on := 15, ground := .phase }], guard := none } : Oper)) (v := ?_) rfl (by kernel_rfl) (by kernel_rfl) (by kernel_rfl) (fun _ _ _ h => h) (Or.inl ⟨by rfl, ?_⟩) (by assumption) ?_
   rotate_left 1
   ·(intro u hSw; go_simp; try with_reducible rfl)
   try simp only [Act.put, List.setIfInBounds_toArray, List.set_cons_zero, List.set_cons_succ]
   refine wpAnyH_done (by kernel_rfl) ?_ _
   go_wp2_with fail
   go_ret
   refine ⟨s2, E2, _, _, _, lv3, rfl, HD3.out, HP3.out, HCW.out.trans HC3.out (fun k hk => hk.elim (fun h => (HFW.out k h).elim (fun h => .inl (.inl h)) .inr) (fun h => .inl (.inr h))), fun k hk => ?_, .inr ⟨by rw [HR1.out]; exact hE, by rw [HR1.out]; dsimp only; rw [HR2.out], by rw [HR1.out]; dsimp only; rw [HR2.out], rfl, by split <;> rfl, rfl⟩⟩
   exact (HF3.out k hk).elim (fun h => HFW.out k h) (fun h => .inr (by have := HCW.out.size; omega))
 ·go_wp2_with fail
  go_ret
  exact ⟨s1, E1, a, b, c, lv2, rfl, HD2.out, HP2.out, HCW.out, HFW.out, .inl ⟨by rw [HR1.out]; exact hE, by rw [HR1.out], by rw [HR1.out], rfl, rfl, rfl⟩⟩
end Go.Proofs.YthdkmnagfjpjcaaGreat
namespace Go.Proofs.YthdkmnagfjpjcaaGreat
open Go.RowKit
set_option maxRecDepth 100000 in
theorem restart_nil (B D M : Nat) (nb rm : Int) (P : Nat) (fi sz : Int) (a b c : Nat) (sa : Option Addr) (sc : Nat) (s : DS) (lv : Value) (w : World) (hd : DkS w B D M nb rm s lv) (h : LgIs w P D fi sz a b c (.slice sa 0 sc)) (hP : ¬ Foot D M lv P) (hfi : 0 ≤ fi ∧ fi ≤ 4096)
  (ha : a < 1099511627776) (hb : b < 1099511627776) (hL : s.L.length ≤ 268435456) :
  Calls Tryz.prog 80 #[.pointer (some ⟨P, 0, none⟩)] w
   (TEnds B D M nb rm P fi sz a b c (.slice sa 0 sc) (s.wsy nb rm (mw fi (a + 1) (b + 1) 0)).1 (s.wsy nb rm (mw fi (a + 1) (b + 1) 0)).2 (a + 1) (b + 1) 0 lv w) := by
 have htt := turnTo_any B D M nb rm P fi sz a b c (b + 1) 0 (.slice sa 0 sc) s lv w hd h hP hfi (by omega) (by omega) (by omega) hL
 change Calls _ _ _ w (TEnds B D M nb rm P fi sz a b c _ (s.wsy nb rm (mw fi (a + 1) (b + 1) 0)).1 (s.wsy nb rm (mw fi (a + 1) (b + 1) 0)).2 _ _ _ lv w) at htt
 obtain ⟨r, hr⟩ : ∃ r, s.wsy nb rm (mw fi (a + 1) (b + 1) 0) = r := ⟨_, rfl⟩
 rw [hr] at htt ⊢
 obtain ⟨s2, E2⟩ := r
 dsimp only at htt ⊢
 rw [show ((b + 1 : Nat) : Int) = (b : Int) + 1 by omega, show ((0 : Nat) : Int) = 0 from rfl] at htt
 have HTT := Lib.hid htt
 have hbb : (b : Int) + 1 ≤ 1099511627777 := by omega
 have k0 := (cell_of_row _ (P) 0 _ _ _ h).trans (show (#[Value.pointer (some ⟨D, 0, none⟩), .int .i64 fi, .int .i64 sz, .int .u64 (a : Int), .int .u64 (b : Int), .int .u64 (c : Int), .slice sa 0 sc] : Array Value)[0]? = some (.pointer (some ⟨D, 0, none⟩)) from rfl)
 have k1 := (cell_of_row _ (P) 1 _ _ _ h).trans (show (#[Value.pointer (some ⟨D, 0, none⟩), .int .i64 fi, .int .i64 sz, .int .u64 (a : Int), .int .u64 (b : Int), .int .u64 (c : Int), .slice sa 0 sc] : Array Value)[1]? = some (.int .i64 fi) from rfl)
 have k2 := (cell_of_row _ (P) 2 _ _ _ h).trans (show (#[Value.pointer (some ⟨D, 0, none⟩), .int .i64 fi, .int .i64 sz, .int .u64 (a : Int), .int .u64 (b : Int), .int .u64 (c : Int), .slice sa 0 sc] : Array Value)[2]? = some (.int .i64 sz) from rfl)
 have k3 := (cell_of_row _ (P) 3 _ _ _ h).trans (show (#[Value.pointer (some ⟨D, 0, none⟩), .int .i64 fi, .int .i64 sz, .int .u64 (a : Int), .int .u64 (b : Int), .int .u64 (c : Int), .slice sa 0 sc] : Array Value)[3]? = some (.int .u64 (a : Int)) from rfl)
 have k4 := (cell_of_row _ (P) 4 _ _ _ h).trans (show (#[Value.pointer (some ⟨D, 0, none⟩), .int .i64 fi, .int .i64 sz, .int .u64 (a : Int), .int .u64 (b : Int), .int .u64 (c : Int), .slice sa 0 sc] : Array Value)[4]? = some (.int .u64 (b : Int)) from rfl)
 have k5 := (cell_of_row _ (P) 5 _ _ _ h).trans (show (#[Value.pointer (some ⟨D, 0, none⟩), .int .i64 fi, .int .i64 sz, .int .u64 (a : Int), .int .u64 (b : Int), .int .u64 (c : Int), .slice sa 0 sc] : Array Value)[5]? = some (.int .u64 (c : Int)) from rfl)
 have k6 := (cell_of_row _ (P) 6 _ _ _ h).trans (show (#[Value.pointer (some ⟨D, 0, none⟩), .int .i64 fi, .int .i64 sz, .int .u64 (a : Int), .int .u64 (b : Int), .int .u64 (c : Int), .slice sa 0 sc] : Array Value)[6]? = some (.slice sa 0 sc) from rfl)
 clear htt hd h hP hr ha hb hL
 go_enter Tryz.func80, Tryz.ntmps80
 go_wp2_with fail
 refine HTT.out.mono ?_
 intro e w2 ht
 have HT := Lib.hid ht
 have ht' := ht
 obtain ⟨rfl, _⟩ := ht'
 clear ht
 go_wp2_with fail
 go_ret
 exact HT.out
/-- what Format writes -/
def fw (fi : Int) : List (Int × List Int) := [(fi + 1, mb 1 1 0), (fi, zeros 256)]
set_option maxRecDepth 100000 in
set_option maxHeartbeats 4000000 in
theorem format_yes (B D M : Nat) (nb rm fi sz : Int) (s : DS) (lv : Value) (w : World) (hd : DkS w B D M nb rm s lv) (h1 : 0 ≤ fi) (h2 : 3 ≤ sz) (h3 : fi ≤ nb - sz) (hnb : nb ≤ 4096) (hL : s.L.length ≤ 268435400) :
  Calls Tryz.prog 33 #[.pointer (some ⟨D, 0, none⟩), .int .i64 fi, .int .i64 sz] w (LEnds B D M nb rm (s.wsy nb rm (fw fi)).1 (s.wsy nb rm (fw fi)).2 lv w) := by
 have hz := zero102
 have hW : s.wsy nb rm (fw fi) = if s.we nb rm (fi + 1) = 0 then (if (s.wr nb rm (fi + 1) (mb 1 1 0)).we nb rm fi = 0 then (((s.wr nb rm (fi + 1) (mb 1 1 0)).wr nb rm fi (zeros 256)).sy, ((s.wr nb rm (fi + 1) (mb 1 1 0)).wr nb rm fi (zeros 256)).se) else ((s.wr nb rm (fi + 1) (mb 1 1 0)).wr nb rm fi (zeros 256), (s.wr nb rm (fi + 1) (mb 1 1 0)).we nb rm fi)) else (s.wr nb rm (fi + 1) (mb 1 1 0), s.we nb rm (fi + 1)) := by
  rw [fw, wsy_cons]
  by_cases h : s.we nb rm (fi + 1) = 0
  ·rw [if_pos h, if_pos h, wsy_cons]
   by_cases h' : (s.wr nb rm (fi + 1) (mb 1 1 0)).we nb rm fi = 0
   ·rw [if_pos h', if_pos h', wsy_nil]
   ·rw [if_neg h', if_neg h']
  ·rw [if_neg h, if_neg h]
 have hd1 := fun u lv (h : DkS u B D M nb rm s lv) => dwrite_any B D M nb rm (fi + 1) s lv (mb 1 1 0) u h (mb_len 1 1 0) (by omega) fi sz 1 rfl ⟨h1, by omega⟩ (by omega)
 have hL1 := wr_L nb rm s (fi + 1) (mb 1 1 0)
 generalize s.wr nb rm (fi + 1) (mb 1 1 0) = s1 at *
 generalize s.we nb rm (fi + 1) = E1 at *
 have hd2 := fun u lv (h : DkS u B D M nb rm s1 lv) => dwrite_any B D M nb rm fi s1 lv (zeros 256) u h (zeros_len 256) (by omega) fi sz 0 (by omega) ⟨h1, by omega⟩ (by omega)
 generalize s1.wr nb rm fi (zeros 256) = s2 at *
 generalize s1.we nb rm fi = E2 at *
 have hd3 := fun u lv (h : DkS u B D M nb rm s2 lv) => dsync_any B D M nb rm s2 lv u h
 generalize s2.sy = s3 at *
 generalize s2.se = E3 at *
 generalize s.wsy nb rm (fw fi) = r at *
 have HD1 := Lib.hid hd1
 have HD2 := Lib.hid hd2
 have HD3 := Lib.hid hd3
 have HW := Lib.hid hW
 have HD := Lib.hid hd
 have HBO := Lib.hid (blocksOf_yes B D M nb rm s.fz fi sz s.dn s.f s.L lv w hd h1 h2 h3 hnb)
 have hbl : ∀ u : World, (Instr.build 107 #[(0, Value.int .u64 1), (1, Value.int .u64 1)]).run Tryz.prog u = .ok (.agg #[.int .u64 1, .int .u64 1, .int .u64 0]) u := fun u => by kernel_rfl
 have hbz : ∀ u : World, (Instr.build 50 #[]).run Tryz.prog u = .ok (.agg (ArrU8 (zeros 256))) u := fun u => by kernel_rfl
 clear hd1 hd2 hd3 hW hd hL1 hL
 go_enter Tryz.func33, Tryz.ntmps33
 go_wp2_with fail
 refine HBO.out.mono ?_
 rintro e wa ⟨rfl, hb⟩
 have XA := Lib.hid hb
 have HXA := Lib.hid (heap_alloc_new wa (.cells #[Value.pointer (some ⟨D, 0, none⟩), .int .i64 fi, .int .i64 sz] 103))
 have XB := Lib.hid (show Below w.heap.size w (wa.alloc (.cells #[Value.pointer (some ⟨D, 0, none⟩), .int .i64 fi, .int .i64 sz] 103)) from hb.alloc hb.size _)
 have HDB := Lib.hid (HD.out.chg (Chg.fresh (F := fun _ => False) XB.out) (fun _ _ h => h))
 have HFT := Lib.hid (show ∀ k, Foot D M lv k → k < w.heap.size from fun k hk => (HD.out.foot k hk).2)
 clear hb
 go_wp2_with fail
 generalize hwb : wa.alloc (.cells #[Value.pointer (some ⟨D, 0, none⟩), .int .i64 fi, .int .i64 sz] 103) = wb at *
 have HWB := Lib.hid hwb
 clear hwb
 have HSB := Lib.hid (show wb.drew.heap[wa.heap.size]? = some (.cells #[Value.pointer (some ⟨D, 0, none⟩), .int .i64 fi, .int .i64 sz] 103 (0, 0)) from HXA.out)
 have HLA := Lib.hid (show w.heap.size ≤ wa.heap.size ∧ wa.heap.size < wb.heap.size from ⟨XA.out.size, (Array.getElem?_eq_some_iff.1 HXA.out).1⟩)
 refine wp_region_held_drew (S := fun u => u.heap[wa.heap.size]? = some (.cells #[Value.pointer (some ⟨D, 0, none⟩), .int .i64 fi, .int .i64 sz] 103 (0, 0))) (by kernel_rfl) (HSB.out) (fun hHeld => ?_)
 refine wpAnyH_take (i := 0) (oi := ({ dst := some 21, op := .load 103 (.tmp 7), type := 103, pos := "log.go:23", after := #[], guard := none } : Oper)) (v := ?_) rfl (by kernel_rfl) (by kernel_rfl) (by kernel_rfl) (fun _ _ _ h => h) (Or.inl ⟨by rfl, ?_⟩) (by assumption) ?_
 rotate_left 1
 ·intro u hSw
  have p0 := (cell_of_row u (wa.heap.size) 0 _ _ _ hSw).trans (show (#[Value.pointer (some ⟨D, 0, none⟩), .int .i64 fi, .int .i64 sz] : Array Value)[0]? = some (.pointer (some ⟨D, 0, none⟩)) from rfl); have p1 := (cell_of_row u (wa.heap.size) 1 _ _ _ hSw).trans (show (#[Value.pointer (some ⟨D, 0, none⟩), .int .i64 fi, .int .i64 sz] : Array Value)[1]? = some (.int .i64 fi) from rfl); have p2 := (cell_of_row u (wa.heap.size) 2 _ _ _ hSw).trans (show (#[Value.pointer (some ⟨D, 0, none⟩), .int .i64 fi, .int .i64 sz] : Array Value)[2]? = some (.int .i64 sz) from rfl)
  go_simp
  try with_reducible rfl
 try simp only [Act.put, List.setIfInBounds_toArray, List.set_cons_zero, List.set_cons_succ]
 refine wpAnyH_take (i := 1) (oi := ({ dst := some 22, op := .build 107 #[(0, .const (Value.int IntKind.u64 1)), (1, .const (Value.int IntKind.u64 1))], type := 107, pos := "log.go:23", after := #[], guard := none } : Oper)) (v := ?_) rfl (by kernel_rfl) (by kernel_rfl) (by kernel_rfl) (fun _ _ _ h => h) (Or.inl ⟨by rfl, ?_⟩) (by assumption) ?_
 rotate_left 1
 ·(intro u hSw; go_simp; try with_reducible rfl)
 try simp only [Act.put, List.setIfInBounds_toArray, List.set_cons_zero, List.set_cons_succ]
 refine wpAnyH_ready (rs := [2]) (by kernel_rfl) (by simp) ?_
 refine AllReadyH.cons (o := ({ dst := some 23, op := .call { callee := Callee.value (Operand.func 68), args := #[.tmp 22], argTypes := #[107] }, type := 50, pos := "log.go:23", after := #[{ on := 1, ground := .data }], guard := none } : Oper)) rfl (fun K hK => ?_) AllReadyH.nil
 go_simp
 go_at_call 68
 refine (mblock_any 1 1 0 _ (by decide) (by decide) (by decide)).mono ?_
 rintro e wc ⟨rfl, hb⟩
 have XC := Lib.hid (show Below wb.heap.size wb wc from ((Below.refl _ _).drew).trans hb)
 have HSC := Lib.hid ((XC.out.block _ HLA.out.2).trans HXA.out)
 clear hb
 go_wp2_with fail
 refine hK.out _ _ HSC.out (fun hHeld => ?_)
 clear hK K
 try simp only [Act.put, List.setIfInBounds_toArray, List.set_cons_zero, List.set_cons_succ]
 refine wpAnyH_ready (rs := [3]) (by kernel_rfl) (by simp) ?_
 refine AllReadyH.cons (o := ({ dst := some 24, op := .call { callee := Callee.value (Operand.func 67), args := #[.tmp 21, .const (Value.int IntKind.i64 1), .tmp 23], argTypes := #[103, 3, 50] }, type := 28, pos := "log.go:23", after := #[{ on := 0, ground := .data }, { on := 2, ground := .data }, { on := 2, ground := .chain }], guard := none } : Oper)) rfl (fun K hK => ?_) AllReadyH.nil
 go_simp
 go_at_call 67
 refine (HD1.out wc lv (HDB.out.chg (Chg.fresh (F := fun _ => False) XC.out) (fun _ _ h => h))).mono ?_
 rintro e wd ⟨rfl, lvd, hdk, hch, hft⟩
 have HDD := Lib.hid hdk
 have HCD := Lib.hid hch
 have HFD := Lib.hid hft
 have HSD := Lib.hid ((hch.block _ (by have := HLA.out; have := XC.out.size; omega) (fun e => by have := HFT.out _ e; have := HLA.out; omega)).trans HSC.out)
 clear hdk hch hft
 go_wp2_with fail
 refine hK.out _ _ HSD.out (fun hHeld => ?_)
 clear hK K
 try simp only [Act.put, List.setIfInBounds_toArray, List.set_cons_zero, List.set_cons_succ]
 refine wpAnyH_take (i := 4) (oi := ({ dst := some 9, op := .assign (.tmp 24), type := 28, pos := "log.go:23", after := #[{ on := 3, ground := .data }, { on := 3, ground := .chain }, { on := 0, ground := .phase }, { on := 1, ground := .phase }, { on := 2, ground := .phase }, { on := 3, ground := .phase }], guard := none } : Oper)) (v := ?_) rfl (by kernel_rfl) (by kernel_rfl) (by kernel_rfl) (fun _ _ _ h => h) (Or.inl ⟨by rfl, ?_⟩) (by assumption) ?_
 rotate_left 1
 ·(intro u hSw; go_simp; try with_reducible rfl)
 try simp only [Act.put, List.setIfInBounds_toArray, List.set_cons_zero, List.set_cons_succ]
 refine wpAnyH_done (by kernel_rfl) ?_ _
 have XWC := Lib.hid (XB.out.trans (XC.out.mono XB.out.size))
 by_cases hE1 : E1 = 0
 ·have HW1 := Lib.hid (HW.out.trans (if_pos hE1))
  have z0 := (cell_of_row _ (wa.heap.size) 0 _ _ _ HSD.out).trans (show (#[Value.pointer (some ⟨D, 0, none⟩), .int .i64 fi, .int .i64 sz] : Array Value)[0]? = some (.pointer (some ⟨D, 0, none⟩)) from rfl)
  have z1 := (cell_of_row _ (wa.heap.size) 1 _ _ _ HSD.out).trans (show (#[Value.pointer (some ⟨D, 0, none⟩), .int .i64 fi, .int .i64 sz] : Array Value)[1]? = some (.int .i64 fi) from rfl)
  have z2 := (cell_of_row _ (wa.heap.size) 2 _ _ _ HSD.out).trans (show (#[Value.pointer (some ⟨D, 0, none⟩), .int .i64 fi, .int .i64 sz] : Array Value)[2]? = some (.int .i64 sz) from rfl)
  go_wp2_with fail
  refine (HD2.out wd lvd HDD.out).mono ?_
  rintro e we ⟨rfl, lve, hdk, hch, hft⟩
  have HDE := Lib.hid hdk
  have HCE := Lib.hid (show Chg (Foot D M lv) wc we from HCD.out.trans hch (fun k hk => (HFD.out k hk)))
  have HFE := Lib.hid (show ∀ k, Foot D M lve k → Foot D M lv k ∨ wc.heap.size ≤ k from fun k hk => (hft k hk).elim (fun h => HFD.out k h) (fun h => .inr (by have := HCD.out.size; omega)))
  clear hdk hch hft
  by_cases hE2 : E2 = 0
  ·have HW2 := Lib.hid (HW1.out.trans (if_pos hE2))
   go_wp2_with fail
   refine (HD3.out we lve HDE.out).mono ?_
   intro e wf hl
   have HL := Lib.hid (LEnds.seq2 XWC.out HCE.out HFE.out (Below.refl _ _) hl)
   have hl' := hl
   obtain ⟨rfl, _⟩ := hl'
   clear hl
   go_wp2_with fail
   go_ret
   rw [HW2.out]
   exact HL.out
  ·have HW2 := Lib.hid (HW1.out.trans (if_neg hE2))
   go_wp2_with fail
   go_ret
   rw [HW2.out]
   exact LEnds.pre XWC.out ⟨rfl, lve, HDE.out, HCE.out, HFE.out⟩
 ·have HW1 := Lib.hid (HW.out.trans (if_neg hE1))
  go_wp2_with fail
  go_ret
  rw [HW1.out]
  exact LEnds.pre XWC.out ⟨rfl, lvd, HDD.out, HCD.out, HFD.out⟩
end Go.Proofs.YthdkmnagfjpjcaaGreat
