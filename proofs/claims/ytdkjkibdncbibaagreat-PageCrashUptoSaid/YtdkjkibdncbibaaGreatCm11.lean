import Derived.Test.YtdkjkibdncbibaaGreatCm10
namespace Go.Proofs.YtdkjkibdncbibaaGreat
open Go.RowKit
open Go.Lib (hid)
theorem wrap_u64 (n : Int) (h1 : 0 ≤ n) (h2 : n ≤ 4611686018427387904) : IntKind.u64.wrap n = n := by
 rw [IntKind.wrap_u64]; omega
/-- the writes of the records of a Sync -/
def aw (fi : Int) (s : DS) (c : Nat) (al : List Int) : List (Int × List Int) := wl (fi + (2 + (c / 256 : Nat))) ((s.f (fi + (2 + (c / 256 : Nat)))).take (c % 256) ++ al) ((c % 256 + al.length - 1) / 256 + 1)
/-- the write of a mark -/
def mw (fi : Int) (a b c : Nat) : List (Int × List Int) := [(fi + (a % 2 : Nat), mb a b c)]
def SyEnds (B D M : Nat) (nb rm : Int) (P : Nat) (fi sz : Int) (a b c : Nat) (al : List Int) (s : DS) (lv : Value) (w : World) (e : Ending) (w' : World) : Prop :=
 ∃ (sF : DS) (E : Int) (aF bF cF : Nat) (lv' : Value), e = .returned (.int .i64 E) ∧ DkS w' B D M nb rm sF lv' ∧ LgIs w' P D fi sz aF bF cF (.slice none 0 0) ∧ Chg (fun k => Foot D M lv k ∨ k = P) w w' ∧ (∀ k, Foot D M lv' k → Foot D M lv k ∨ w.heap.size ≤ k) ∧
  (((s.wsy nb rm (aw fi s c al)).2 ≠ 0 ∧ sF = (s.wsy nb rm (aw fi s c al)).1 ∧ E = (s.wsy nb rm (aw fi s c al)).2 ∧ aF = a ∧ bF = b ∧ cF = c) ∨
   ((s.wsy nb rm (aw fi s c al)).2 = 0 ∧ sF = ((s.wsy nb rm (aw fi s c al)).1.wsy nb rm (mw fi (a + 1) b (c + al.length))).1 ∧ E = ((s.wsy nb rm (aw fi s c al)).1.wsy nb rm (mw fi (a + 1) b (c + al.length))).2 ∧ aF = (if E = 0 then a + 1 else a) ∧ bF = b ∧ cF = (if E = 0 then c + al.length else c)))
theorem sync_nil (P D : Nat) (fi sz : Int) (a b c : Nat) (sa : Option Addr) (sc : Nat) (w : World) (h : LgIs w P D fi sz a b c (.slice sa 0 sc)) :
  Calls Tryz.prog 86 #[.pointer (some ⟨P, 0, none⟩)] w fun e w' => w = w' ∧ e = .returned (.int .i64 0) := by
 have h0 := (cell_of_row _ (P) 0 _ _ _ h).trans (show (#[Value.pointer (some ⟨D, 0, none⟩), .int .i64 fi, .int .i64 sz, .int .u64 (a : Int), .int .u64 (b : Int), .int .u64 (c : Int), (.slice sa 0 sc)] : Array Value)[0]? = some (.pointer (some ⟨D, 0, none⟩)) from rfl)
 have h1 := (cell_of_row _ (P) 1 _ _ _ h).trans (show (#[Value.pointer (some ⟨D, 0, none⟩), .int .i64 fi, .int .i64 sz, .int .u64 (a : Int), .int .u64 (b : Int), .int .u64 (c : Int), (.slice sa 0 sc)] : Array Value)[1]? = some (.int .i64 fi) from rfl)
 have h2 := (cell_of_row _ (P) 2 _ _ _ h).trans (show (#[Value.pointer (some ⟨D, 0, none⟩), .int .i64 fi, .int .i64 sz, .int .u64 (a : Int), .int .u64 (b : Int), .int .u64 (c : Int), (.slice sa 0 sc)] : Array Value)[2]? = some (.int .i64 sz) from rfl)
 have h3 := (cell_of_row _ (P) 3 _ _ _ h).trans (show (#[Value.pointer (some ⟨D, 0, none⟩), .int .i64 fi, .int .i64 sz, .int .u64 (a : Int), .int .u64 (b : Int), .int .u64 (c : Int), (.slice sa 0 sc)] : Array Value)[3]? = some (.int .u64 (a : Int)) from rfl)
 have h4 := (cell_of_row _ (P) 4 _ _ _ h).trans (show (#[Value.pointer (some ⟨D, 0, none⟩), .int .i64 fi, .int .i64 sz, .int .u64 (a : Int), .int .u64 (b : Int), .int .u64 (c : Int), (.slice sa 0 sc)] : Array Value)[4]? = some (.int .u64 (b : Int)) from rfl)
 have h5 := (cell_of_row _ (P) 5 _ _ _ h).trans (show (#[Value.pointer (some ⟨D, 0, none⟩), .int .i64 fi, .int .i64 sz, .int .u64 (a : Int), .int .u64 (b : Int), .int .u64 (c : Int), (.slice sa 0 sc)] : Array Value)[5]? = some (.int .u64 (c : Int)) from rfl)
 have h6 := (cell_of_row _ (P) 6 _ _ _ h).trans (show (#[Value.pointer (some ⟨D, 0, none⟩), .int .i64 fi, .int .i64 sz, .int .u64 (a : Int), .int .u64 (b : Int), .int .u64 (c : Int), (.slice sa 0 sc)] : Array Value)[6]? = some (.slice sa 0 sc) from rfl)
 go_enter Tryz.func86, Tryz.ntmps86
 go_wp2_with fail
 go_ret
 exact ⟨rfl, rfl⟩
theorem ws_L (nb rm : Int) : ∀ (l : List (Int × List Int)) (s : DS), (s.ws nb rm l).1.L.length ≤ s.L.length + l.length
 | [], s => by simp [DS.ws]
 | x :: r, s => by
  unfold DS.ws
  have h := wr_L nb rm s x.1 x.2
  split
  ·have := ws_L nb rm r (s.wr nb rm x.1 x.2); simp only [List.length_cons]; omega
  ·simp only [List.length_cons]; omega
theorem wsy_L (nb rm : Int) (l : List (Int × List Int)) (s : DS) : (s.wsy nb rm l).1.L.length ≤ s.L.length + l.length := by
 have h := ws_L nb rm l s
 unfold DS.wsy
 split
 ·unfold DS.sy; simp only; split
  ·simp
  ·exact h
 ·exact h
theorem wl_length (n : Int) (all : List Int) : ∀ k, (wl n all k).length = k
 | 0 => rfl
 | k + 1 => by rw [wl, List.length_cons, wl_length n all k]
set_option maxRecDepth 100000 in
set_option maxHeartbeats 4000000 in
theorem sync_some (B D M : Nat) (nb rm : Int) (P : Nat) (fi sz : Int) (a b c : Nat) (av : Value) (al : List Int) (s : DS) (lv : Value) (w : World) (hd : DkS w B D M nb rm s lv) (h : LgIs w P D fi sz a b c av) (ho : Own w B av al) (hP : ¬ Foot D M lv P) (hne : av.ownBlock ≠ some P) (hdn : s.dn = false)
  (h1 : 0 ≤ fi) (h2 : fi + sz ≤ nb) (h3 : 3 ≤ sz) (hnb : nb ≤ 4096) (h0 : 0 < al.length) (hen : ((c + al.length : Nat) : Int) ≤ (sz - 2) * 256) (ha : a < 1099511627776) (hb : b < 1099511627776) (hL : s.L.length ≤ 268421000) :
  Calls Tryz.prog 86 #[.pointer (some ⟨P, 0, none⟩)] w (SyEnds B D M nb rm P fi sz a b c al s lv w) := by
 obtain ⟨sa, sc, hav⟩ := own_form ho
 subst hav
 have hwa := fun u lv (h : DkS u B D M nb rm s lv) va vc (hv : BsB u u.heap.size (.slice va al.length vc) al) => writeArea_any B D M nb rm fi sz s lv (.slice va al.length vc) c al u h hdn h1 h2 h3 hnb hv h0 hen (by omega)
 have hl1 := wsy_L nb rm (aw fi s c al) s
 have hl2 : (aw fi s c al).length ≤ 4100 := by rw [aw, wl_length]; omega
 change ∀ u lv, _ → ∀ va vc, _ → Calls _ _ _ u (LEnds B D M nb rm (s.wsy nb rm (aw fi s c al)).1 (s.wsy nb rm (aw fi s c al)).2 lv u) at hwa
 unfold SyEnds
 obtain ⟨r1, hr1⟩ : ∃ r, s.wsy nb rm (aw fi s c al) = r := ⟨_, rfl⟩
 rw [hr1] at hwa hl1
 obtain ⟨s1, E1⟩ := r1
 have htt := fun u lv (h : DkS u B D M nb rm s1 lv) (hp : LgIs u P D fi sz a b c (.slice none 0 0)) (hP : ¬ Foot D M lv P) => turnTo_any B D M nb rm P fi sz a b c b (c + al.length) (.slice none 0 0) s1 lv u h hp hP ⟨h1, by omega⟩ (by omega) (by omega) (by omega) (by dsimp only at hl1; omega)
 change ∀ u lv, _ → _ → _ → Calls _ _ _ u (TEnds B D M nb rm P fi sz a b c _ (s1.wsy nb rm (mw fi (a + 1) b (c + al.length))).1 (s1.wsy nb rm (mw fi (a + 1) b (c + al.length))).2 _ _ _ lv u) at htt
 obtain ⟨r2, hr2⟩ : ∃ r, s1.wsy nb rm (mw fi (a + 1) b (c + al.length)) = r := ⟨_, rfl⟩
 rw [hr2] at htt
 obtain ⟨s2, E2⟩ := r2
 dsimp only at hwa htt
 have HWA := hid hwa
 have HR1 := hid hr1
 have HR2 := hid hr2
 have hcc : (c : Int) ≤ 1048576 := by omega
 have hall : (al.length : Int) ≤ 1048576 := by omega
 have hce : ((c + al.length : Nat) : Int) = (c : Int) + (al.length : Int) := by omega
 rw [hce] at htt
 have HTT := hid htt
 have HD := hid hd
 have HP := hid h
 have HO := hid ho
 have HNF := hid hP
 have HNE := hid hne
 have HLT := hid h.lt
 have h0i : ¬ ((al.length : Int) = 0) := by omega
 have k0 := (cell_of_row _ (P) 0 _ _ _ h).trans (show (#[Value.pointer (some ⟨D, 0, none⟩), .int .i64 fi, .int .i64 sz, .int .u64 (a : Int), .int .u64 (b : Int), .int .u64 (c : Int), (.slice sa al.length sc)] : Array Value)[0]? = some (.pointer (some ⟨D, 0, none⟩)) from rfl)
 have k1 := (cell_of_row _ (P) 1 _ _ _ h).trans (show (#[Value.pointer (some ⟨D, 0, none⟩), .int .i64 fi, .int .i64 sz, .int .u64 (a : Int), .int .u64 (b : Int), .int .u64 (c : Int), (.slice sa al.length sc)] : Array Value)[1]? = some (.int .i64 fi) from rfl)
 have k2 := (cell_of_row _ (P) 2 _ _ _ h).trans (show (#[Value.pointer (some ⟨D, 0, none⟩), .int .i64 fi, .int .i64 sz, .int .u64 (a : Int), .int .u64 (b : Int), .int .u64 (c : Int), (.slice sa al.length sc)] : Array Value)[2]? = some (.int .i64 sz) from rfl)
 have k3 := (cell_of_row _ (P) 3 _ _ _ h).trans (show (#[Value.pointer (some ⟨D, 0, none⟩), .int .i64 fi, .int .i64 sz, .int .u64 (a : Int), .int .u64 (b : Int), .int .u64 (c : Int), (.slice sa al.length sc)] : Array Value)[3]? = some (.int .u64 (a : Int)) from rfl)
 have k4 := (cell_of_row _ (P) 4 _ _ _ h).trans (show (#[Value.pointer (some ⟨D, 0, none⟩), .int .i64 fi, .int .i64 sz, .int .u64 (a : Int), .int .u64 (b : Int), .int .u64 (c : Int), (.slice sa al.length sc)] : Array Value)[4]? = some (.int .u64 (b : Int)) from rfl)
 have k5 := (cell_of_row _ (P) 5 _ _ _ h).trans (show (#[Value.pointer (some ⟨D, 0, none⟩), .int .i64 fi, .int .i64 sz, .int .u64 (a : Int), .int .u64 (b : Int), .int .u64 (c : Int), (.slice sa al.length sc)] : Array Value)[5]? = some (.int .u64 (c : Int)) from rfl)
 have k6 := (cell_of_row _ (P) 6 _ _ _ h).trans (show (#[Value.pointer (some ⟨D, 0, none⟩), .int .i64 fi, .int .i64 sz, .int .u64 (a : Int), .int .u64 (b : Int), .int .u64 (c : Int), (.slice sa al.length sc)] : Array Value)[6]? = some (.slice sa al.length sc) from rfl)
 clear hd h ho hP hne hwa htt hr1 hr2 hl1 hl2 ha hb hL hen hce h0 hdn
 go_enter Tryz.func86, Tryz.ntmps86
 go_wp2_with fail
 refine (drop_any P D fi sz a b c (.slice sa al.length sc) w HP.out).mono ?_
 rintro e w1 ⟨rfl, hp1, hc1, hs1⟩
 have HP1 := hid hp1
 have HC1 := hid hc1
 have HD1 := hid (HD.out.chg hc1 (fun k hk e => HNF.out (by rw [← e]; exact hk)))
 have HO1 := hid (HO.out.chg hc1 (fun g hg e => HNE.out (by rw [hg, e])))
 have HBS1 := hid (show BsB w1 w1.heap.size (.slice sa al.length sc) al from ⟨HO1.out.bs, fun ad n c e h0 => (HO1.out.lt ad.block (by rw [e]; rfl)).2⟩)
 have HS1 := hid (show w1.drew.heap[P]? = some (.cells #[Value.pointer (some ⟨D, 0, none⟩), .int .i64 fi, .int .i64 sz, .int .u64 (a : Int), .int .u64 (b : Int), .int .u64 (c : Int), .slice none 0 0] 116 (0, 0)) from hp1)
 clear hp1 hc1 hs1 k0 k1 k2 k3 k4 k5 k6
 go_wp2_with fail
 have hw1 : IntKind.i64.wrap (c : Int) = (c : Int) := wrap_i64 _ (by omega) (by omega)
 refine wp_region_held_drew (S := fun u => u.heap[P]? = some (.cells #[Value.pointer (some ⟨D, 0, none⟩), .int .i64 fi, .int .i64 sz, .int .u64 (a : Int), .int .u64 (b : Int), .int .u64 (c : Int), .slice none 0 0] 116 (0, 0))) (by kernel_rfl) (HS1.out) (fun hHeld => ?_)
 refine tk (i := 0) (oi := ⟨some 17, .move (.tmp 0), 71, "log.go:73", #[], none⟩) (v := ?_) (Or.inl ⟨by rfl, ?_⟩) ?_
 rotate_left 1
 ·(intro u hSw; go_simp; try with_reducible rfl)
 try simp only [Act.put, sA, sB, sC]
 refine tk (i := 1) (oi := ⟨some 18, .nilCheck (.tmp 17), 0, "log.go:73", #[⟨0, .data⟩], none⟩) (v := ?_) (Or.inl ⟨by rfl, ?_⟩) ?_
 rotate_left 1
 ·(intro u hSw; go_simp; try with_reducible rfl)
 try simp only [Act.put, sA, sB, sC]
 refine tk (i := 2) (oi := ⟨some 19, .fieldAddr 116 (.tmp 18) 0, 0, "log.go:73", #[⟨1, .data⟩], none⟩) (v := ?_) (Or.inl ⟨by rfl, ?_⟩) ?_
 rotate_left 1
 ·(intro u hSw; go_simp; try with_reducible rfl)
 try simp only [Act.put, sA, sB, sC]
 refine tk (i := 3) (oi := ⟨some 20, .load 103 (.tmp 19), 103, "log.go:73", #[⟨2, .data⟩], none⟩) (v := ?_) (Or.inl ⟨by rfl, ?_⟩) ?_
 rotate_left 1
 ·intro u hSw
  have p0 := (cell_of_row u (P) 0 _ _ _ hSw).trans (show (#[Value.pointer (some ⟨D, 0, none⟩), .int .i64 fi, .int .i64 sz, .int .u64 (a : Int), .int .u64 (b : Int), .int .u64 (c : Int), .slice none 0 0] : Array Value)[0]? = some (.pointer (some ⟨D, 0, none⟩)) from rfl); have p1 := (cell_of_row u (P) 1 _ _ _ hSw).trans (show (#[Value.pointer (some ⟨D, 0, none⟩), .int .i64 fi, .int .i64 sz, .int .u64 (a : Int), .int .u64 (b : Int), .int .u64 (c : Int), .slice none 0 0] : Array Value)[1]? = some (.int .i64 fi) from rfl); have p2 := (cell_of_row u (P) 2 _ _ _ hSw).trans (show (#[Value.pointer (some ⟨D, 0, none⟩), .int .i64 fi, .int .i64 sz, .int .u64 (a : Int), .int .u64 (b : Int), .int .u64 (c : Int), .slice none 0 0] : Array Value)[2]? = some (.int .i64 sz) from rfl); have p3 := (cell_of_row u (P) 3 _ _ _ hSw).trans (show (#[Value.pointer (some ⟨D, 0, none⟩), .int .i64 fi, .int .i64 sz, .int .u64 (a : Int), .int .u64 (b : Int), .int .u64 (c : Int), .slice none 0 0] : Array Value)[3]? = some (.int .u64 (a : Int)) from rfl); have p4 := (cell_of_row u (P) 4 _ _ _ hSw).trans (show (#[Value.pointer (some ⟨D, 0, none⟩), .int .i64 fi, .int .i64 sz, .int .u64 (a : Int), .int .u64 (b : Int), .int .u64 (c : Int), .slice none 0 0] : Array Value)[4]? = some (.int .u64 (b : Int)) from rfl); have p5 := (cell_of_row u (P) 5 _ _ _ hSw).trans (show (#[Value.pointer (some ⟨D, 0, none⟩), .int .i64 fi, .int .i64 sz, .int .u64 (a : Int), .int .u64 (b : Int), .int .u64 (c : Int), .slice none 0 0] : Array Value)[5]? = some (.int .u64 (c : Int)) from rfl); have p6 := (cell_of_row u (P) 6 _ _ _ hSw).trans (show (#[Value.pointer (some ⟨D, 0, none⟩), .int .i64 fi, .int .i64 sz, .int .u64 (a : Int), .int .u64 (b : Int), .int .u64 (c : Int), .slice none 0 0] : Array Value)[6]? = some (.slice none 0 0) from rfl)
  go_simp
  try with_reducible rfl
 try simp only [Act.put, sA, sB, sC]
 refine tk (i := 4) (oi := ⟨some 21, .move (.tmp 0), 71, "log.go:73", #[], none⟩) (v := ?_) (Or.inl ⟨by rfl, ?_⟩) ?_
 rotate_left 1
 ·(intro u hSw; go_simp; try with_reducible rfl)
 try simp only [Act.put, sA, sB, sC]
 refine tk (i := 5) (oi := ⟨some 22, .nilCheck (.tmp 21), 0, "log.go:73", #[⟨4, .data⟩], none⟩) (v := ?_) (Or.inl ⟨by rfl, ?_⟩) ?_
 rotate_left 1
 ·(intro u hSw; go_simp; try with_reducible rfl)
 try simp only [Act.put, sA, sB, sC]
 refine tk (i := 6) (oi := ⟨some 23, .fieldAddr 116 (.tmp 22) 1, 0, "log.go:73", #[⟨5, .data⟩], none⟩) (v := ?_) (Or.inl ⟨by rfl, ?_⟩) ?_
 rotate_left 1
 ·(intro u hSw; go_simp; try with_reducible rfl)
 try simp only [Act.put, sA, sB, sC]
 refine tk (i := 7) (oi := ⟨some 24, .fieldAddr 107 (.tmp 23) 2, 0, "log.go:73", #[⟨6, .data⟩], none⟩) (v := ?_) (Or.inl ⟨by rfl, ?_⟩) ?_
 rotate_left 1
 ·(intro u hSw; go_simp; try with_reducible rfl)
 try simp only [Act.put, sA, sB, sC]
 refine tk (i := 8) (oi := ⟨some 25, .load 60 (.tmp 24), 60, "log.go:73", #[⟨7, .data⟩], none⟩) (v := ?_) (Or.inl ⟨by rfl, ?_⟩) ?_
 rotate_left 1
 ·intro u hSw
  have p0 := (cell_of_row u (P) 0 _ _ _ hSw).trans (show (#[Value.pointer (some ⟨D, 0, none⟩), .int .i64 fi, .int .i64 sz, .int .u64 (a : Int), .int .u64 (b : Int), .int .u64 (c : Int), .slice none 0 0] : Array Value)[0]? = some (.pointer (some ⟨D, 0, none⟩)) from rfl); have p1 := (cell_of_row u (P) 1 _ _ _ hSw).trans (show (#[Value.pointer (some ⟨D, 0, none⟩), .int .i64 fi, .int .i64 sz, .int .u64 (a : Int), .int .u64 (b : Int), .int .u64 (c : Int), .slice none 0 0] : Array Value)[1]? = some (.int .i64 fi) from rfl); have p2 := (cell_of_row u (P) 2 _ _ _ hSw).trans (show (#[Value.pointer (some ⟨D, 0, none⟩), .int .i64 fi, .int .i64 sz, .int .u64 (a : Int), .int .u64 (b : Int), .int .u64 (c : Int), .slice none 0 0] : Array Value)[2]? = some (.int .i64 sz) from rfl); have p3 := (cell_of_row u (P) 3 _ _ _ hSw).trans (show (#[Value.pointer (some ⟨D, 0, none⟩), .int .i64 fi, .int .i64 sz, .int .u64 (a : Int), .int .u64 (b : Int), .int .u64 (c : Int), .slice none 0 0] : Array Value)[3]? = some (.int .u64 (a : Int)) from rfl); have p4 := (cell_of_row u (P) 4 _ _ _ hSw).trans (show (#[Value.pointer (some ⟨D, 0, none⟩), .int .i64 fi, .int .i64 sz, .int .u64 (a : Int), .int .u64 (b : Int), .int .u64 (c : Int), .slice none 0 0] : Array Value)[4]? = some (.int .u64 (b : Int)) from rfl); have p5 := (cell_of_row u (P) 5 _ _ _ hSw).trans (show (#[Value.pointer (some ⟨D, 0, none⟩), .int .i64 fi, .int .i64 sz, .int .u64 (a : Int), .int .u64 (b : Int), .int .u64 (c : Int), .slice none 0 0] : Array Value)[5]? = some (.int .u64 (c : Int)) from rfl); have p6 := (cell_of_row u (P) 6 _ _ _ hSw).trans (show (#[Value.pointer (some ⟨D, 0, none⟩), .int .i64 fi, .int .i64 sz, .int .u64 (a : Int), .int .u64 (b : Int), .int .u64 (c : Int), .slice none 0 0] : Array Value)[6]? = some (.slice none 0 0) from rfl)
  go_simp
  try with_reducible rfl
 try simp only [Act.put, sA, sB, sC]
 refine tk (i := 9) (oi := ⟨some 26, .convert 60 3 (.tmp 25), 3, "log.go:73", #[⟨8, .data⟩], none⟩) (v := ?_) (Or.inl ⟨by rfl, ?_⟩) ?_
 rotate_left 1
 ·(intro u hSw; go_simp; try with_reducible rfl)
 try simp only [Act.put, sA, sB, sC]
 refine tk (i := 10) (oi := ⟨some 27, .move (.tmp 3), 83, "log.go:73", #[], none⟩) (v := ?_) (Or.inl ⟨by rfl, ?_⟩) ?_
 rotate_left 1
 ·(intro u hSw; go_simp; try with_reducible rfl)
 try simp only [Act.put, sA, sB, sC]
 refine wpAnyH_ready (rs := [11]) (by kernel_rfl) (by simp) ?_
 refine AllReadyH.cons (o := ⟨some 28, .call ⟨.value (.func 102), #[.tmp 20, .tmp 26, .tmp 27], #[103, 3, 83]⟩, 28, "log.go:73", #[⟨3, .data⟩, ⟨9, .data⟩, ⟨10, .data⟩], none⟩) rfl (fun K hK => ?_) AllReadyH.nil
 go_simp
 go_at_call 102
 refine (HWA.out w1.drew lv (HD1.out.kept (fun _ _ => rfl)) sa sc HBS1.out).mono ?_
 rintro e w2 ⟨rfl, lv2, hdk, hch, hft⟩
 have HD2 := hid hdk
 have HC2 := hid (show Chg (Foot D M lv) w1 w2 from ((Chg.refl (Foot D M lv) w1).drew).trans hch (fun _ h => .inl h))
 have HF2 := hid (show ∀ k, Foot D M lv2 k → Foot D M lv k ∨ w1.heap.size ≤ k from hft)
 have HP2 := hid ((HC2.out.block P HP1.out.lt HNF.out).trans HP1.out)
 clear hdk hch hft
 go_wp2_with fail
 refine hK.out _ _ HP2.out (fun hHeld => ?_)
 clear hK K
 try simp only [Act.put, sA, sB, sC]
 refine tk (i := 12) (oi := ⟨some 4, .assign (.tmp 28), 28, "log.go:73", #[⟨11, .data⟩, ⟨11, .chain⟩, ⟨0, .phase⟩, ⟨1, .phase⟩, ⟨2, .phase⟩, ⟨3, .phase⟩, ⟨4, .phase⟩, ⟨5, .phase⟩, ⟨6, .phase⟩, ⟨7, .phase⟩, ⟨8, .phase⟩, ⟨9, .phase⟩, ⟨10, .phase⟩, ⟨11, .phase⟩], none⟩) (v := ?_) (Or.inl ⟨by rfl, ?_⟩) ?_
 rotate_left 1
 ·(intro u hSw; go_simp; try with_reducible rfl)
 try simp only [Act.put, sA, sB, sC]
 refine wpAnyH_done (by kernel_rfl) ?_ _
 have HCW := hid (show Chg (fun k => Foot D M lv k ∨ k = P) w w2 from (HC1.out.mono (fun k hk => .inr hk)).trans HC2.out (fun _ h => .inl (.inl h)))
 have HFW := hid (show ∀ k, Foot D M lv2 k → Foot D M lv k ∨ w.heap.size ≤ k from fun k hk => (HF2.out k hk).elim .inl (fun h => .inr (by have := HC1.out.size; omega)))
 have HPF := hid (show ¬ Foot D M lv2 P from fun e => (HF2.out P e).elim HNF.out (fun h => by have := HP1.out.lt; omega))
 by_cases hE : E1 = 0
 ·have hw2 : IntKind.u64.wrap (al.length : Int) = (al.length : Int) := wrap_u64 _ (by omega) (by omega)
  have hw3 : IntKind.u64.wrap ((c : Int) + (al.length : Int)) = (c : Int) + (al.length : Int) := wrap_u64 _ (by omega) (by omega)
  have HS2 := hid (show w2.drew.heap[P]? = some (.cells #[Value.pointer (some ⟨D, 0, none⟩), .int .i64 fi, .int .i64 sz, .int .u64 (a : Int), .int .u64 (b : Int), .int .u64 (c : Int), .slice none 0 0] 116 (0, 0)) from HP2.out)
  go_wp2_with fail
  have z0 := (cell_of_row _ (P) 0 _ _ _ HP2.out).trans (show (#[Value.pointer (some ⟨D, 0, none⟩), .int .i64 fi, .int .i64 sz, .int .u64 (a : Int), .int .u64 (b : Int), .int .u64 (c : Int), .slice none 0 0] : Array Value)[0]? = some (.pointer (some ⟨D, 0, none⟩)) from rfl)
  have z1 := (cell_of_row _ (P) 1 _ _ _ HP2.out).trans (show (#[Value.pointer (some ⟨D, 0, none⟩), .int .i64 fi, .int .i64 sz, .int .u64 (a : Int), .int .u64 (b : Int), .int .u64 (c : Int), .slice none 0 0] : Array Value)[1]? = some (.int .i64 fi) from rfl)
  have z2 := (cell_of_row _ (P) 2 _ _ _ HP2.out).trans (show (#[Value.pointer (some ⟨D, 0, none⟩), .int .i64 fi, .int .i64 sz, .int .u64 (a : Int), .int .u64 (b : Int), .int .u64 (c : Int), .slice none 0 0] : Array Value)[2]? = some (.int .i64 sz) from rfl)
  have z3 := (cell_of_row _ (P) 3 _ _ _ HP2.out).trans (show (#[Value.pointer (some ⟨D, 0, none⟩), .int .i64 fi, .int .i64 sz, .int .u64 (a : Int), .int .u64 (b : Int), .int .u64 (c : Int), .slice none 0 0] : Array Value)[3]? = some (.int .u64 (a : Int)) from rfl)
  have z4 := (cell_of_row _ (P) 4 _ _ _ HP2.out).trans (show (#[Value.pointer (some ⟨D, 0, none⟩), .int .i64 fi, .int .i64 sz, .int .u64 (a : Int), .int .u64 (b : Int), .int .u64 (c : Int), .slice none 0 0] : Array Value)[4]? = some (.int .u64 (b : Int)) from rfl)
  have z5 := (cell_of_row _ (P) 5 _ _ _ HP2.out).trans (show (#[Value.pointer (some ⟨D, 0, none⟩), .int .i64 fi, .int .i64 sz, .int .u64 (a : Int), .int .u64 (b : Int), .int .u64 (c : Int), .slice none 0 0] : Array Value)[5]? = some (.int .u64 (c : Int)) from rfl)
  have z6 := (cell_of_row _ (P) 6 _ _ _ HP2.out).trans (show (#[Value.pointer (some ⟨D, 0, none⟩), .int .i64 fi, .int .i64 sz, .int .u64 (a : Int), .int .u64 (b : Int), .int .u64 (c : Int), .slice none 0 0] : Array Value)[6]? = some (.slice none 0 0) from rfl)
  clear hw1
  refine wp_region_held_drew (S := fun _ => True) (by kernel_rfl) (trivial) (fun hHeld => ?_)
  refine tk (i := 0) (oi := ⟨some 32, .move (.tmp 0), 71, "log.go:76", #[], none⟩) (v := ?_) (Or.inl ⟨by rfl, ?_⟩) ?_
  rotate_left 1
  ·(intro u hSw; go_simp; try with_reducible rfl)
  try simp only [Act.put, sA, sB, sC]
  refine tk (i := 1) (oi := ⟨some 33, .move (.tmp 0), 71, "log.go:76", #[], none⟩) (v := ?_) (Or.inl ⟨by rfl, ?_⟩) ?_
  rotate_left 1
  ·(intro u hSw; go_simp; try with_reducible rfl)
  try simp only [Act.put, sA, sB, sC]
  refine tk (i := 2) (oi := ⟨some 34, .nilCheck (.tmp 33), 0, "log.go:76", #[⟨1, .data⟩], none⟩) (v := ?_) (Or.inl ⟨by rfl, ?_⟩) ?_
  rotate_left 1
  ·(intro u hSw; go_simp; try with_reducible rfl)
  try simp only [Act.put, sA, sB, sC]
  refine tk (i := 3) (oi := ⟨some 35, .fieldAddr 116 (.tmp 34) 1, 0, "log.go:76", #[⟨2, .data⟩], none⟩) (v := ?_) (Or.inl ⟨by rfl, ?_⟩) ?_
  rotate_left 1
  ·(intro u hSw; go_simp; try with_reducible rfl)
  try simp only [Act.put, sA, sB, sC]
  refine tk (i := 4) (oi := ⟨some 36, .fieldAddr 107 (.tmp 35) 1, 0, "log.go:76", #[⟨3, .data⟩], none⟩) (v := ?_) (Or.inl ⟨by rfl, ?_⟩) ?_
  rotate_left 1
  ·(intro u hSw; go_simp; try with_reducible rfl)
  try simp only [Act.put, sA, sB, sC]
  refine tk (i := 6) (oi := ⟨some 38, .move (.tmp 0), 71, "log.go:76", #[], none⟩) (v := ?_) (Or.inl ⟨by rfl, ?_⟩) ?_
  rotate_left 1
  ·(intro u hSw; go_simp; try with_reducible rfl)
  try simp only [Act.put, sA, sB, sC]
  refine tk (i := 7) (oi := ⟨some 39, .nilCheck (.tmp 38), 0, "log.go:76", #[⟨6, .data⟩], none⟩) (v := ?_) (Or.inl ⟨by rfl, ?_⟩) ?_
  rotate_left 1
  ·(intro u hSw; go_simp; try with_reducible rfl)
  try simp only [Act.put, sA, sB, sC]
  refine tk (i := 8) (oi := ⟨some 40, .fieldAddr 116 (.tmp 39) 1, 0, "log.go:76", #[⟨7, .data⟩], none⟩) (v := ?_) (Or.inl ⟨by rfl, ?_⟩) ?_
  rotate_left 1
  ·(intro u hSw; go_simp; try with_reducible rfl)
  try simp only [Act.put, sA, sB, sC]
  refine tk (i := 9) (oi := ⟨some 41, .fieldAddr 107 (.tmp 40) 2, 0, "log.go:76", #[⟨8, .data⟩], none⟩) (v := ?_) (Or.inl ⟨by rfl, ?_⟩) ?_
  rotate_left 1
  ·(intro u hSw; go_simp; try with_reducible rfl)
  try simp only [Act.put, sA, sB, sC]
  refine tk (i := 11) (oi := ⟨some 43, .move (.tmp 3), 83, "log.go:76", #[], none⟩) (v := ?_) (Or.inl ⟨by rfl, ?_⟩) ?_
  rotate_left 1
  ·(intro u hSw; go_simp; try with_reducible rfl)
  try simp only [Act.put, sA, sB, sC]
  refine tk (i := 12) (oi := ⟨some 44, .call ⟨.builtin .len, #[.tmp 43], #[83]⟩, 3, "log.go:76", #[⟨11, .data⟩], none⟩) (v := ?_) (Or.inl ⟨by rfl, ?_⟩) ?_
  rotate_left 1
  ·(intro u hSw; go_simp; try with_reducible rfl)
  try simp only [Act.put, sA, sB, sC]
  refine tk (i := 13) (oi := ⟨some 45, .convert 3 60 (.tmp 44), 60, "log.go:76", #[⟨12, .data⟩], none⟩) (v := ?_) (Or.inl ⟨by rfl, ?_⟩) ?_
  rotate_left 1
  ·(intro u hSw; go_simp; try with_reducible rfl)
  try simp only [Act.put, sA, sB, sC]
  refine wpAnyH_ready (rs := [5, 10]) (by kernel_rfl) (by simp) ?_
  refine (AllReadyH.cons (o := ⟨some 37, .load 60 (.tmp 36), 60, "log.go:76", #[⟨4, .data⟩], none⟩) rfl (fun K hK => ?_) (AllReadyH.cons (o := ⟨some 42, .load 60 (.tmp 41), 60, "log.go:76", #[⟨9, .data⟩], none⟩) rfl (fun K hK => ?_) AllReadyH.nil))
  ·go_simp
   refine hK.out _ _ trivial (fun hHeld => ?_)
   clear hK K
   try simp only [Act.put, sA, sB, sC]
   refine wpAnyH_ready (rs := [10]) (by kernel_rfl) (by simp) ?_
   refine (AllReadyH.cons (o := ⟨some 42, .load 60 (.tmp 41), 60, "log.go:76", #[⟨9, .data⟩], none⟩) rfl (fun K hK => ?_) AllReadyH.nil)
   go_simp
   refine hK.out _ _ trivial (fun hHeld => ?_)
   clear hK K
   try simp only [Act.put, sA, sB, sC]
   refine tk (i := 14) (oi := ⟨some 46, .binOp BinOp.add 60 (.tmp 42) (.tmp 45) 60, 60, "log.go:76", #[⟨10, .data⟩, ⟨13, .data⟩], none⟩) (v := ?_) (Or.inl ⟨by rfl, ?_⟩) ?_
   rotate_left 1
   ·(intro u hSw; go_simp; try with_reducible rfl)
   try simp only [Act.put, sA, sB, sC]
   refine wpAnyH_ready (rs := [15]) (by kernel_rfl) (by simp) ?_
   refine (AllReadyH.cons (o := ⟨some 47, .call ⟨.value (.func 97), #[.tmp 32, .tmp 37, .tmp 46], #[71, 60, 60]⟩, 28, "log.go:76", #[⟨0, .data⟩, ⟨5, .data⟩, ⟨14, .data⟩], none⟩) rfl (fun K hK => ?_) AllReadyH.nil)
   go_simp
   go_at_call 97
   refine (HTT.out w2.drew lv2 (HD2.out.kept (fun _ _ => rfl)) HP2.out HPF.out).mono ?_
   rintro e w3 ⟨rfl, lv3, hdk, hp3, hch, hft⟩
   have HD3 := hid hdk
   have HP3 := hid hp3
   have HC3 := hid (show Chg (fun k => Foot D M lv2 k ∨ k = P) w2 w3 from ((Chg.refl _ w2).drew).trans hch (fun _ h => .inl h))
   have HF3 := hid (show ∀ k, Foot D M lv3 k → Foot D M lv2 k ∨ w2.heap.size ≤ k from hft)
   clear hdk hch hft hp3
   go_wp2_with fail
   refine hK.out _ _ trivial (fun hHeld => ?_)
   clear hK K
   try simp only [Act.put, sA, sB, sC]
   refine tk (i := 16) (oi := ⟨some 2, .assign (.tmp 47), 28, "log.go:76", #[⟨15, .data⟩, ⟨15, .chain⟩, ⟨0, .phase⟩, ⟨1, .phase⟩, ⟨2, .phase⟩, ⟨3, .phase⟩, ⟨4, .phase⟩, ⟨5, .phase⟩, ⟨6, .phase⟩, ⟨7, .phase⟩, ⟨8, .phase⟩, ⟨9, .phase⟩, ⟨10, .phase⟩, ⟨11, .phase⟩, ⟨12, .phase⟩, ⟨13, .phase⟩, ⟨14, .phase⟩, ⟨15, .phase⟩], none⟩) (v := ?_) (Or.inl ⟨by rfl, ?_⟩) ?_
   rotate_left 1
   ·(intro u hSw; go_simp; try with_reducible rfl)
   try simp only [Act.put, sA, sB, sC]
   refine wpAnyH_done (by kernel_rfl) ?_ _
   go_wp2_with fail
   go_ret
   refine ⟨s2, E2, _, _, _, lv3, rfl, HD3.out, HP3.out, HCW.out.trans HC3.out (fun k hk => hk.elim (fun h => (HFW.out k h).elim (fun h => .inl (.inl h)) .inr) (fun h => .inl (.inr h))), fun k hk => ?_, .inr ⟨by rw [HR1.out]; exact hE, by rw [HR1.out]; dsimp only; rw [HR2.out], by rw [HR1.out]; dsimp only; rw [HR2.out], rfl, by split <;> rfl, rfl⟩⟩
   exact (HF3.out k hk).elim (fun h => HFW.out k h) (fun h => .inr (by have := HCW.out.size; omega))
  ·go_simp
   refine hK.out _ _ trivial (fun hHeld => ?_)
   clear hK K
   try simp only [Act.put, sA, sB, sC]
   refine tk (i := 14) (oi := ⟨some 46, .binOp BinOp.add 60 (.tmp 42) (.tmp 45) 60, 60, "log.go:76", #[⟨10, .data⟩, ⟨13, .data⟩], none⟩) (v := ?_) (Or.inl ⟨by rfl, ?_⟩) ?_
   rotate_left 1
   ·(intro u hSw; go_simp; try with_reducible rfl)
   try simp only [Act.put, sA, sB, sC]
   refine wpAnyH_ready (rs := [5]) (by kernel_rfl) (by simp) ?_
   refine (AllReadyH.cons (o := ⟨some 37, .load 60 (.tmp 36), 60, "log.go:76", #[⟨4, .data⟩], none⟩) rfl (fun K hK => ?_) AllReadyH.nil)
   go_simp
   refine hK.out _ _ trivial (fun hHeld => ?_)
   clear hK K
   try simp only [Act.put, sA, sB, sC]
   refine wpAnyH_ready (rs := [15]) (by kernel_rfl) (by simp) ?_
   refine (AllReadyH.cons (o := ⟨some 47, .call ⟨.value (.func 97), #[.tmp 32, .tmp 37, .tmp 46], #[71, 60, 60]⟩, 28, "log.go:76", #[⟨0, .data⟩, ⟨5, .data⟩, ⟨14, .data⟩], none⟩) rfl (fun K hK => ?_) AllReadyH.nil)
   go_simp
   go_at_call 97
   refine (HTT.out w2.drew lv2 (HD2.out.kept (fun _ _ => rfl)) HP2.out HPF.out).mono ?_
   rintro e w3 ⟨rfl, lv3, hdk, hp3, hch, hft⟩
   have HD3 := hid hdk
   have HP3 := hid hp3
   have HC3 := hid (show Chg (fun k => Foot D M lv2 k ∨ k = P) w2 w3 from ((Chg.refl _ w2).drew).trans hch (fun _ h => .inl h))
   have HF3 := hid (show ∀ k, Foot D M lv3 k → Foot D M lv2 k ∨ w2.heap.size ≤ k from hft)
   clear hdk hch hft hp3
   go_wp2_with fail
   refine hK.out _ _ trivial (fun hHeld => ?_)
   clear hK K
   try simp only [Act.put, sA, sB, sC]
   refine tk (i := 16) (oi := ⟨some 2, .assign (.tmp 47), 28, "log.go:76", #[⟨15, .data⟩, ⟨15, .chain⟩, ⟨0, .phase⟩, ⟨1, .phase⟩, ⟨2, .phase⟩, ⟨3, .phase⟩, ⟨4, .phase⟩, ⟨5, .phase⟩, ⟨6, .phase⟩, ⟨7, .phase⟩, ⟨8, .phase⟩, ⟨9, .phase⟩, ⟨10, .phase⟩, ⟨11, .phase⟩, ⟨12, .phase⟩, ⟨13, .phase⟩, ⟨14, .phase⟩, ⟨15, .phase⟩], none⟩) (v := ?_) (Or.inl ⟨by rfl, ?_⟩) ?_
   rotate_left 1
   ·(intro u hSw; go_simp; try with_reducible rfl)
   try simp only [Act.put, sA, sB, sC]
   refine wpAnyH_done (by kernel_rfl) ?_ _
   go_wp2_with fail
   go_ret
   refine ⟨s2, E2, _, _, _, lv3, rfl, HD3.out, HP3.out, HCW.out.trans HC3.out (fun k hk => hk.elim (fun h => (HFW.out k h).elim (fun h => .inl (.inl h)) .inr) (fun h => .inl (.inr h))), fun k hk => ?_, .inr ⟨by rw [HR1.out]; exact hE, by rw [HR1.out]; dsimp only; rw [HR2.out], by rw [HR1.out]; dsimp only; rw [HR2.out], rfl, by split <;> rfl, rfl⟩⟩
   exact (HF3.out k hk).elim (fun h => HFW.out k h) (fun h => .inr (by have := HCW.out.size; omega))
 ·go_wp2_with fail
  go_ret
  exact ⟨s1, E1, a, b, c, lv2, rfl, HD2.out, HP2.out, HCW.out, HFW.out, .inl ⟨by rw [HR1.out]; exact hE, by rw [HR1.out], by rw [HR1.out], rfl, rfl, rfl⟩⟩
end Go.Proofs.YtdkjkibdncbibaaGreat
namespace Go.Proofs.YtdkjkibdncbibaaGreat
open Go.RowKit
open Go.Lib (hid)
set_option maxRecDepth 100000 in
theorem restart_nil (B D M : Nat) (nb rm : Int) (P : Nat) (fi sz : Int) (a b c : Nat) (sa : Option Addr) (sc : Nat) (s : DS) (lv : Value) (w : World) (hd : DkS w B D M nb rm s lv) (h : LgIs w P D fi sz a b c (.slice sa 0 sc)) (hP : ¬ Foot D M lv P) (hfi : 0 ≤ fi ∧ fi ≤ 4096)
  (ha : a < 1099511627776) (hb : b < 1099511627776) (hL : s.L.length ≤ 268435456) :
  Calls Tryz.prog 80 #[.pointer (some ⟨P, 0, none⟩)] w
   (TEnds B D M nb rm P fi sz a b c (.slice sa 0 sc) (s.wsy nb rm (mw fi (a + 1) (b + 1) 0)).1 (s.wsy nb rm (mw fi (a + 1) (b + 1) 0)).2 (a + 1) (b + 1) 0 lv w) := by
 have htt := turnTo_any B D M nb rm P fi sz a b c (b + 1) 0 (.slice sa 0 sc) s lv w hd h hP hfi (by omega) (by omega) (by omega) hL
 change Calls _ _ _ w (TEnds B D M nb rm P fi sz a b c _ (s.wsy nb rm (mw fi (a + 1) (b + 1) 0)).1 (s.wsy nb rm (mw fi (a + 1) (b + 1) 0)).2 _ _ _ lv w) at htt
 obtain ⟨r, hr⟩ : ∃ r, s.wsy nb rm (mw fi (a + 1) (b + 1) 0) = r := ⟨_, rfl⟩
 rw [hr] at htt ⊢
 obtain ⟨s2, E2⟩ := r
 dsimp only at htt ⊢
 rw [show ((b + 1 : Nat) : Int) = (b : Int) + 1 by omega, show ((0 : Nat) : Int) = 0 from rfl] at htt
 have HTT := hid htt
 have hbb : (b : Int) + 1 ≤ 1099511627777 := by omega
 have k0 := (cell_of_row _ (P) 0 _ _ _ h).trans (show (#[Value.pointer (some ⟨D, 0, none⟩), .int .i64 fi, .int .i64 sz, .int .u64 (a : Int), .int .u64 (b : Int), .int .u64 (c : Int), .slice sa 0 sc] : Array Value)[0]? = some (.pointer (some ⟨D, 0, none⟩)) from rfl)
 have k1 := (cell_of_row _ (P) 1 _ _ _ h).trans (show (#[Value.pointer (some ⟨D, 0, none⟩), .int .i64 fi, .int .i64 sz, .int .u64 (a : Int), .int .u64 (b : Int), .int .u64 (c : Int), .slice sa 0 sc] : Array Value)[1]? = some (.int .i64 fi) from rfl)
 have k2 := (cell_of_row _ (P) 2 _ _ _ h).trans (show (#[Value.pointer (some ⟨D, 0, none⟩), .int .i64 fi, .int .i64 sz, .int .u64 (a : Int), .int .u64 (b : Int), .int .u64 (c : Int), .slice sa 0 sc] : Array Value)[2]? = some (.int .i64 sz) from rfl)
 have k3 := (cell_of_row _ (P) 3 _ _ _ h).trans (show (#[Value.pointer (some ⟨D, 0, none⟩), .int .i64 fi, .int .i64 sz, .int .u64 (a : Int), .int .u64 (b : Int), .int .u64 (c : Int), .slice sa 0 sc] : Array Value)[3]? = some (.int .u64 (a : Int)) from rfl)
 have k4 := (cell_of_row _ (P) 4 _ _ _ h).trans (show (#[Value.pointer (some ⟨D, 0, none⟩), .int .i64 fi, .int .i64 sz, .int .u64 (a : Int), .int .u64 (b : Int), .int .u64 (c : Int), .slice sa 0 sc] : Array Value)[4]? = some (.int .u64 (b : Int)) from rfl)
 have k5 := (cell_of_row _ (P) 5 _ _ _ h).trans (show (#[Value.pointer (some ⟨D, 0, none⟩), .int .i64 fi, .int .i64 sz, .int .u64 (a : Int), .int .u64 (b : Int), .int .u64 (c : Int), .slice sa 0 sc] : Array Value)[5]? = some (.int .u64 (c : Int)) from rfl)
 have k6 := (cell_of_row _ (P) 6 _ _ _ h).trans (show (#[Value.pointer (some ⟨D, 0, none⟩), .int .i64 fi, .int .i64 sz, .int .u64 (a : Int), .int .u64 (b : Int), .int .u64 (c : Int), .slice sa 0 sc] : Array Value)[6]? = some (.slice sa 0 sc) from rfl)
 clear htt hd h hP hr ha hb hL
 go_enter Tryz.func80, Tryz.ntmps80
 go_wp2_with fail
 refine HTT.out.mono ?_
 intro e w2 ht
 have HT := hid ht
 have ht' := ht
 obtain ⟨rfl, _⟩ := ht'
 clear ht
 go_wp2_with fail
 go_ret
 exact HT.out
/-- what Format writes -/
def fw (fi : Int) : List (Int × List Int) := [(fi + 1, mb 1 1 0), (fi, zeros 256)]
set_option maxRecDepth 100000 in
set_option maxHeartbeats 4000000 in
theorem format_yes (B D M : Nat) (nb rm fi sz : Int) (s : DS) (lv : Value) (w : World) (hd : DkS w B D M nb rm s lv) (h1 : 0 ≤ fi) (h2 : 3 ≤ sz) (h3 : fi ≤ nb - sz) (hnb : nb ≤ 4096) (hL : s.L.length ≤ 268435400) :
  Calls Tryz.prog 33 #[.pointer (some ⟨D, 0, none⟩), .int .i64 fi, .int .i64 sz] w (LEnds B D M nb rm (s.wsy nb rm (fw fi)).1 (s.wsy nb rm (fw fi)).2 lv w) := by
 have hz := zero102
 have hW : s.wsy nb rm (fw fi) = if s.we nb rm (fi + 1) = 0 then (if (s.wr nb rm (fi + 1) (mb 1 1 0)).we nb rm fi = 0 then (((s.wr nb rm (fi + 1) (mb 1 1 0)).wr nb rm fi (zeros 256)).sy, ((s.wr nb rm (fi + 1) (mb 1 1 0)).wr nb rm fi (zeros 256)).se) else ((s.wr nb rm (fi + 1) (mb 1 1 0)).wr nb rm fi (zeros 256), (s.wr nb rm (fi + 1) (mb 1 1 0)).we nb rm fi)) else (s.wr nb rm (fi + 1) (mb 1 1 0), s.we nb rm (fi + 1)) := by
  rw [fw, wsy_cons]
  by_cases h : s.we nb rm (fi + 1) = 0
  ·rw [if_pos h, if_pos h, wsy_cons]
   by_cases h' : (s.wr nb rm (fi + 1) (mb 1 1 0)).we nb rm fi = 0
   ·rw [if_pos h', if_pos h', wsy_nil]
   ·rw [if_neg h', if_neg h']
  ·rw [if_neg h, if_neg h]
 have hd1 := fun u lv (h : DkS u B D M nb rm s lv) => dwrite_any B D M nb rm (fi + 1) s lv (mb 1 1 0) u h (mb_len 1 1 0) (by omega) fi sz 1 rfl ⟨h1, by omega⟩ (by omega)
 have hL1 := wr_L nb rm s (fi + 1) (mb 1 1 0)
 generalize s.wr nb rm (fi + 1) (mb 1 1 0) = s1 at *
 generalize s.we nb rm (fi + 1) = E1 at *
 have hd2 := fun u lv (h : DkS u B D M nb rm s1 lv) => dwrite_any B D M nb rm fi s1 lv (zeros 256) u h (zeros_len 256) (by omega) fi sz 0 (by omega) ⟨h1, by omega⟩ (by omega)
 generalize s1.wr nb rm fi (zeros 256) = s2 at *
 generalize s1.we nb rm fi = E2 at *
 have hd3 := fun u lv (h : DkS u B D M nb rm s2 lv) => dsync_any B D M nb rm s2 lv u h
 generalize s2.sy = s3 at *
 generalize s2.se = E3 at *
 generalize s.wsy nb rm (fw fi) = r at *
 have HD1 := hid hd1
 have HD2 := hid hd2
 have HD3 := hid hd3
 have HW := hid hW
 have HD := hid hd
 have HBO := hid (blocksOf_yes B D M nb rm s.fz fi sz s.dn s.f s.L lv w hd h1 h2 h3 hnb)
 have hbl : ∀ u : World, (Instr.build 107 #[(0, Value.int .u64 1), (1, Value.int .u64 1)]).run Tryz.prog u = .ok (.agg #[.int .u64 1, .int .u64 1, .int .u64 0]) u := fun u => by kernel_rfl
 have hbz : ∀ u : World, (Instr.build 50 #[]).run Tryz.prog u = .ok (.agg (ArrU8 (zeros 256))) u := fun u => by kernel_rfl
 clear hd1 hd2 hd3 hW hd hL1 hL
 go_enter Tryz.func33, Tryz.ntmps33
 go_wp2_with fail
 refine HBO.out.mono ?_
 rintro e wa ⟨rfl, hb⟩
 have XA := hid hb
 have HXA := hid (heap_alloc_new wa (.cells #[Value.pointer (some ⟨D, 0, none⟩), .int .i64 fi, .int .i64 sz] 103))
 have XB := hid (show Below w.heap.size w (wa.alloc (.cells #[Value.pointer (some ⟨D, 0, none⟩), .int .i64 fi, .int .i64 sz] 103)) from hb.alloc hb.size _)
 have HDB := hid (HD.out.chg (Chg.fresh (F := fun _ => False) XB.out) (fun _ _ h => h))
 have HFT := hid (show ∀ k, Foot D M lv k → k < w.heap.size from fun k hk => (HD.out.foot k hk).2)
 clear hb
 go_wp2_with fail
 generalize hwb : wa.alloc (.cells #[Value.pointer (some ⟨D, 0, none⟩), .int .i64 fi, .int .i64 sz] 103) = wb at *
 have HWB := hid hwb
 clear hwb
 have HSB := hid (show wb.drew.heap[wa.heap.size]? = some (.cells #[Value.pointer (some ⟨D, 0, none⟩), .int .i64 fi, .int .i64 sz] 103 (0, 0)) from HXA.out)
 have HLA := hid (show w.heap.size ≤ wa.heap.size ∧ wa.heap.size < wb.heap.size from ⟨XA.out.size, (Array.getElem?_eq_some_iff.1 HXA.out).1⟩)
 refine wp_region_held_drew (S := fun u => u.heap[wa.heap.size]? = some (.cells #[Value.pointer (some ⟨D, 0, none⟩), .int .i64 fi, .int .i64 sz] 103 (0, 0))) (by kernel_rfl) (HSB.out) (fun hHeld => ?_)
 refine tk (i := 0) (oi := ⟨some 21, .load 103 (.tmp 7), 103, "log.go:23", #[], none⟩) (v := ?_) (Or.inl ⟨by rfl, ?_⟩) ?_
 rotate_left 1
 ·intro u hSw
  have p0 := (cell_of_row u (wa.heap.size) 0 _ _ _ hSw).trans (show (#[Value.pointer (some ⟨D, 0, none⟩), .int .i64 fi, .int .i64 sz] : Array Value)[0]? = some (.pointer (some ⟨D, 0, none⟩)) from rfl); have p1 := (cell_of_row u (wa.heap.size) 1 _ _ _ hSw).trans (show (#[Value.pointer (some ⟨D, 0, none⟩), .int .i64 fi, .int .i64 sz] : Array Value)[1]? = some (.int .i64 fi) from rfl); have p2 := (cell_of_row u (wa.heap.size) 2 _ _ _ hSw).trans (show (#[Value.pointer (some ⟨D, 0, none⟩), .int .i64 fi, .int .i64 sz] : Array Value)[2]? = some (.int .i64 sz) from rfl)
  go_simp
  try with_reducible rfl
 try simp only [Act.put, sA, sB, sC]
 refine tk (i := 1) (oi := ⟨some 22, .build 107 #[(0, .const (Value.int IntKind.u64 1)), (1, .const (Value.int IntKind.u64 1))], 107, "log.go:23", #[], none⟩) (v := ?_) (Or.inl ⟨by rfl, ?_⟩) ?_
 rotate_left 1
 ·(intro u hSw; go_simp; try with_reducible rfl)
 try simp only [Act.put, sA, sB, sC]
 refine wpAnyH_ready (rs := [2]) (by kernel_rfl) (by simp) ?_
 refine AllReadyH.cons (o := ⟨some 23, .call ⟨.value (.func 68), #[.tmp 22], #[107]⟩, 50, "log.go:23", #[⟨1, .data⟩], none⟩) rfl (fun K hK => ?_) AllReadyH.nil
 go_simp
 go_at_call 68
 refine (mblock_any 1 1 0 _ (by decide) (by decide) (by decide)).mono ?_
 rintro e wc ⟨rfl, hb⟩
 have XC := hid (show Below wb.heap.size wb wc from ((Below.refl _ _).drew).trans hb)
 have HSC := hid ((XC.out.block _ HLA.out.2).trans HXA.out)
 clear hb
 go_wp2_with fail
 refine hK.out _ _ HSC.out (fun hHeld => ?_)
 clear hK K
 try simp only [Act.put, sA, sB, sC]
 refine wpAnyH_ready (rs := [3]) (by kernel_rfl) (by simp) ?_
 refine AllReadyH.cons (o := ⟨some 24, .call ⟨.value (.func 67), #[.tmp 21, .const (Value.int IntKind.i64 1), .tmp 23], #[103, 3, 50]⟩, 28, "log.go:23", #[⟨0, .data⟩, ⟨2, .data⟩, ⟨2, .chain⟩], none⟩) rfl (fun K hK => ?_) AllReadyH.nil
 go_simp
 go_at_call 67
 refine (HD1.out wc lv (HDB.out.chg (Chg.fresh (F := fun _ => False) XC.out) (fun _ _ h => h))).mono ?_
 rintro e wd ⟨rfl, lvd, hdk, hch, hft⟩
 have HDD := hid hdk
 have HCD := hid hch
 have HFD := hid hft
 have HSD := hid ((hch.block _ (by have := HLA.out; have := XC.out.size; omega) (fun e => by have := HFT.out _ e; have := HLA.out; omega)).trans HSC.out)
 clear hdk hch hft
 go_wp2_with fail
 refine hK.out _ _ HSD.out (fun hHeld => ?_)
 clear hK K
 try simp only [Act.put, sA, sB, sC]
 refine tk (i := 4) (oi := ⟨some 9, .assign (.tmp 24), 28, "log.go:23", #[⟨3, .data⟩, ⟨3, .chain⟩, ⟨0, .phase⟩, ⟨1, .phase⟩, ⟨2, .phase⟩, ⟨3, .phase⟩], none⟩) (v := ?_) (Or.inl ⟨by rfl, ?_⟩) ?_
 rotate_left 1
 ·(intro u hSw; go_simp; try with_reducible rfl)
 try simp only [Act.put, sA, sB, sC]
 refine wpAnyH_done (by kernel_rfl) ?_ _
 have XWC := hid (XB.out.trans (XC.out.mono XB.out.size))
 by_cases hE1 : E1 = 0
 ·have HW1 := hid (HW.out.trans (if_pos hE1))
  have z0 := (cell_of_row _ (wa.heap.size) 0 _ _ _ HSD.out).trans (show (#[Value.pointer (some ⟨D, 0, none⟩), .int .i64 fi, .int .i64 sz] : Array Value)[0]? = some (.pointer (some ⟨D, 0, none⟩)) from rfl)
  have z1 := (cell_of_row _ (wa.heap.size) 1 _ _ _ HSD.out).trans (show (#[Value.pointer (some ⟨D, 0, none⟩), .int .i64 fi, .int .i64 sz] : Array Value)[1]? = some (.int .i64 fi) from rfl)
  have z2 := (cell_of_row _ (wa.heap.size) 2 _ _ _ HSD.out).trans (show (#[Value.pointer (some ⟨D, 0, none⟩), .int .i64 fi, .int .i64 sz] : Array Value)[2]? = some (.int .i64 sz) from rfl)
  go_wp2_with fail
  refine (HD2.out wd lvd HDD.out).mono ?_
  rintro e we ⟨rfl, lve, hdk, hch, hft⟩
  have HDE := hid hdk
  have HCE := hid (show Chg (Foot D M lv) wc we from HCD.out.trans hch (fun k hk => (HFD.out k hk)))
  have HFE := hid (show ∀ k, Foot D M lve k → Foot D M lv k ∨ wc.heap.size ≤ k from fun k hk => (hft k hk).elim (fun h => HFD.out k h) (fun h => .inr (by have := HCD.out.size; omega)))
  clear hdk hch hft
  by_cases hE2 : E2 = 0
  ·have HW2 := hid (HW1.out.trans (if_pos hE2))
   go_wp2_with fail
   refine (HD3.out we lve HDE.out).mono ?_
   intro e wf hl
   have HL := hid (LEnds.seq2 XWC.out HCE.out HFE.out (Below.refl _ _) hl)
   have hl' := hl
   obtain ⟨rfl, _⟩ := hl'
   clear hl
   go_wp2_with fail
   go_ret
   rw [HW2.out]
   exact HL.out
  ·have HW2 := hid (HW1.out.trans (if_neg hE2))
   go_wp2_with fail
   go_ret
   rw [HW2.out]
   exact LEnds.pre XWC.out ⟨rfl, lve, HDE.out, HCE.out, HFE.out⟩
 ·have HW1 := hid (HW.out.trans (if_neg hE1))
  go_wp2_with fail
  go_ret
  rw [HW1.out]
  exact LEnds.pre XWC.out ⟨rfl, lvd, HDD.out, HCD.out, HFD.out⟩
end Go.Proofs.YtdkjkibdncbibaaGreat
