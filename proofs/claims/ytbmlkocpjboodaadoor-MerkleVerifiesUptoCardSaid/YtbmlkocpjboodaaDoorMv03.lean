import Derived.Test.YtbmlkocpjboodaaDoorMv02
namespace Go.Proofs.YtbmlkocpjboodaaDoor
open Go.RowKit
open Go.Lib (hid)
set_option maxRecDepth 1000000 in
set_option maxHeartbeats 4000000 in
theorem loop4 {u0 u1 u2 u3 u4 u9 u10 u11 u12 u13 u14 u15 u16 u17 u18 u19 u20 u21 u22 u23 u24 u25 u26 u27 u28 u29 u30 u31 u32 u33 u34 u35 u36 u37 u38 u39 u40 u41 u42 u43 u44 u45 u46 u47 u48 u49 u50 u51 u52 u53 u54 u55 u56 u57 u58 u59 u60 u61 u62 u63 u64 u65 u66 u67 u68 u69 u70 u71 u72 u73 u74 u75 u76 u77 u78 u79 u80 u81 u82 u83 u84 u85 u86 u87 u88 u89 u90 u91 u92 u93 u94 u95 u96 u97 u98 u99 u100 u101 u102 u103 u104 u105 u106 u107 u108 u109 u110 u111 u112 u113 u114 u115 u116 u117 u118 u119 u120 u121 u122 u123 u124 u125 u126 u127 u128 u129 u130 u131 u132 u133 u134 u135 u136 u137 u138 u139 u140 u141 u142 u143 u144 u145 u146 u147 u148 u149 u150 u151 u152 u153 u154 u155 u156 u157 u158 u159 u160 u161 u162 u163 u164 u165 u166 u167 u168 u169 u170 u171 u172 u173 u174 u175 u176 u177 u178 u179 u180 u181 u182 u183 u184 u185 u186 u187 u188 u189 u190 u191 u192 u193 u194 u195 u196 u197 u198 u199 u200 u201 u202 u203 u204 u205 u206 u207 u208 u209 u210 u211 u212 u213 u214 u215 u216 u217 u218 u219 u220 u221 u222 u223 u224 u225 u226 u227 u228 u229 u230 u231 u232 u233 u234 u235 u236 u237 u238 u239 u240 u241 u242 u243 u244 u245 u246 u247 u248 u249 u250 u251 u252 u253 u254 u255 u256 u257 u258 u259 u260 u261 u262 u263 u264 u265 u266 u267 u268 u269 u270 u271 u272 u273 u274 u275 u276 u277 u278 u279 u280 u281 u282 u283 u284 u285 u286 u287 u288 u289 u290 u291 u292 u293 u294 u295 u296 u297 u298 u299 u300 u301 u302 u303 u304 : Value} (Q : Exit → Act → World → Prop) (bs : List Int) (T nb g6 c6 G : Nat) (w : World) (hlt : T < nb) (qn : 64 * nb ≤ 1099511627776) (hc6 : 64 * nb ≤ c6) (h6 : g6 < G) (hsx0 : G < w.heap.size)
  (hx0 : w.heap[G]? = some (.cells (SW bs 0) 97 (0, 0))) (hf : ∀ i, i < 64 → w.cell? ⟨g6, 64 * T + i, none⟩ = some (.int .u8 (bs[i]?.getD 0)))
  (hexit : ∀ (x8 x9 x10 x11 x52 x53 x54 x55 x56 x57 x58 x59 x60 x61 x62 x63 x64 x65 x66 x67 x68 x69 x70 x71 x72 x73 x74 x75 x76 x77 x78 x79 x80 x81 x82 x83 x84 x85 x86 x87 x88 x89 x90 x91 x92 x93 x94 x95 x96 x97 x98 x99 x100 x101 x102 x103 x104 x105 x106 x107 x108 x109 x110 x111 x112 x113 x114 x115 x116 x117 x118 x119 x120 x121 x122 x123 x124 x125 x126 x127 x128 x129 x130 x131 x132 x133 x134 x135 x136 x137 x138 x139 x140 x141 x142 x143 x144 x145 x146 x147 x148 x149 x150 x151 : Value) (w' : World), Below G w w' → G < w'.heap.size → w'.heap[G]? = some (.cells (SW bs 64) 97 (0, 0)) → Q (.exit 4) ⟨#[u0, u1, u2, u3, u4, .slice (some ⟨g6, 0, none⟩) (64 * nb) c6, .int .i64 (64 * (T : Int)), .slice (some ⟨G, 0, none⟩) 64 64, x8, x9, x10, x11, u12, u13, u14, u15, u16, u17, u18, u19, u20, u21, u22, u23, u24, u25, u26, u27, u28, u29, u30, u31, u32, u33, u34, u35, u36, u37, u38, u39, u40, u41, u42, u43, u44, u45, u46, u47, u48, u49, u50, u51, x52, x53, x54, x55, x56, x57, x58, x59, x60, x61, x62, x63, x64, x65, x66, x67, x68, x69, x70, x71, x72, x73, x74, x75, x76, x77, x78, x79, x80, x81, x82, x83, x84, x85, x86, x87, x88, x89, x90, x91, x92, x93, x94, x95, x96, x97, x98, x99, x100, x101, x102, x103, x104, x105, x106, x107, x108, x109, x110, x111, x112, x113, x114, x115, x116, x117, x118, x119, x120, x121, x122, x123, x124, x125, x126, x127, x128, x129, x130, x131, x132, x133, x134, x135, x136, x137, x138, x139, x140, x141, x142, x143, x144, x145, x146, x147, x148, x149, x150, x151, u152, u153, u154, u155, u156, u157, u158, u159, u160, u161, u162, u163, u164, u165, u166, u167, u168, u169, u170, u171, u172, u173, u174, u175, u176, u177, u178, u179, u180, u181, u182, u183, u184, u185, u186, u187, u188, u189, u190, u191, u192, u193, u194, u195, u196, u197, u198, u199, u200, u201, u202, u203, u204, u205, u206, u207, u208, u209, u210, u211, u212, u213, u214, u215, u216, u217, u218, u219, u220, u221, u222, u223, u224, u225, u226, u227, u228, u229, u230, u231, u232, u233, u234, u235, u236, u237, u238, u239, u240, u241, u242, u243, u244, u245, u246, u247, u248, u249, u250, u251, u252, u253, u254, u255, u256, u257, u258, u259, u260, u261, u262, u263, u264, u265, u266, u267, u268, u269, u270, u271, u272, u273, u274, u275, u276, u277, u278, u279, u280, u281, u282, u283, u284, u285, u286, u287, u288, u289, u290, u291, u292, u293, u294, u295, u296, u297, u298, u299, u300, u301, u302, u303, u304], []⟩ w') :
  Code.wp Tryd.prog ((Tryd.f26.body.bind (findBlock 4)).getD .skip) Q ⟨#[u0, u1, u2, u3, u4, .slice (some ⟨g6, 0, none⟩) (64 * nb) c6, .int .i64 (64 * (T : Int)), .slice (some ⟨G, 0, none⟩) 64 64, .int .i64 0, u9, u10, u11, u12, u13, u14, u15, u16, u17, u18, u19, u20, u21, u22, u23, u24, u25, u26, u27, u28, u29, u30, u31, u32, u33, u34, u35, u36, u37, u38, u39, u40, u41, u42, u43, u44, u45, u46, u47, u48, u49, u50, u51, u52, u53, u54, u55, u56, u57, u58, u59, u60, u61, u62, u63, u64, u65, u66, u67, u68, u69, u70, u71, u72, u73, u74, u75, u76, u77, u78, u79, u80, u81, u82, u83, u84, u85, u86, u87, u88, u89, u90, u91, u92, u93, u94, u95, u96, u97, u98, u99, u100, u101, u102, u103, u104, u105, u106, u107, u108, u109, u110, u111, u112, u113, u114, u115, u116, u117, u118, u119, u120, u121, u122, u123, u124, u125, u126, u127, u128, u129, u130, u131, u132, u133, u134, u135, u136, u137, u138, u139, u140, u141, u142, u143, u144, u145, u146, u147, u148, u149, u150, u151, u152, u153, u154, u155, u156, u157, u158, u159, u160, u161, u162, u163, u164, u165, u166, u167, u168, u169, u170, u171, u172, u173, u174, u175, u176, u177, u178, u179, u180, u181, u182, u183, u184, u185, u186, u187, u188, u189, u190, u191, u192, u193, u194, u195, u196, u197, u198, u199, u200, u201, u202, u203, u204, u205, u206, u207, u208, u209, u210, u211, u212, u213, u214, u215, u216, u217, u218, u219, u220, u221, u222, u223, u224, u225, u226, u227, u228, u229, u230, u231, u232, u233, u234, u235, u236, u237, u238, u239, u240, u241, u242, u243, u244, u245, u246, u247, u248, u249, u250, u251, u252, u253, u254, u255, u256, u257, u258, u259, u260, u261, u262, u263, u264, u265, u266, u267, u268, u269, u270, u271, u272, u273, u274, u275, u276, u277, u278, u279, u280, u281, u282, u283, u284, u285, u286, u287, u288, u289, u290, u291, u292, u293, u294, u295, u296, u297, u298, u299, u300, u301, u302, u303, u304], []⟩ w := by
 have HF := hid hf
 have HX0 := hid hx0
 have HQ := hid hexit
 clear hf hx0 hexit
 conv => arg 2; whnf
 dsimp only
 go_loopw [8] (fun tv wx => ∃ t : Nat, t ≤ 64 ∧ tv = .int .i64 t ∧ Below G w wx ∧ G < wx.heap.size ∧ wx.heap[G]? = some (.cells (SW bs t) 97 (0, 0))) (fun tv _ => 64 - (intOf tv).toNat)
 case atStart => exact ⟨0, by omega, rfl, Below.refl _ _, hsx0, HX0.out⟩
 case round =>
  clear HX0 hsx0
  obtain ⟨t, ht, rfl, hbx, hsx, hx⟩ := hrel
  by_cases hlt2 : t < 64
  ·have HX := hid hx
   have HBX := hid hbx
   have hti : (t : Int) < 64 := by omega
   by_cases h16 : t < 16
   ·have hti16 : (t : Int) < 16 := by omega
    have e1 : IntKind.i64.wrap (4 * (t : Int)) = 4 * (t : Int) := IntWalk.i64_in _ (by omega)
    have e2 : IntKind.i64.wrap (64 * (T : Int) + 4 * (t : Int)) = 64 * (T : Int) + 4 * (t : Int) := IntWalk.i64_in _ (by omega)
    have e3 : IntKind.i64.wrap (64 * (T : Int) + 4 * (t : Int) + 4) = 64 * (T : Int) + 4 * (t : Int) + 4 := IntWalk.i64_in _ (by omega)
    have n1 : 0 ≤ 64 * (T : Int) + 4 * (t : Int) := by omega
    have n2 : 64 * (T : Int) + 4 * (t : Int) ≤ 64 * (T : Int) + 4 * (t : Int) + 4 := by omega
    have n3 : 64 * (T : Int) + 4 * (t : Int) + 4 ≤ (c6 : Int) := by omega
    have t1 : (64 * (T : Int) + 4 * (t : Int)).toNat = 64 * T + 4 * t := by omega
    have t2 : (64 * (T : Int) + 4 * (t : Int) + 4).toNat = 64 * T + 4 * t + 4 := by omega
    have t3 : 64 * T + 4 * t + 4 - (64 * T + 4 * t) = 4 := by omega
    have t4 : ¬ (c6 = 64 * T + 4 * t) := by omega
    have hd := fun j (hj : j < 4) => (HBX.out.cell (p := ⟨g6, 64 * T + (4 * t + j), none⟩) h6).trans (HF.out (4 * t + j) (by omega))
    simp only [← Nat.add_assoc] at hd
    have d0 := hd 0 (by omega)
    simp only [Nat.add_zero] at d0
    have d1 := hd 1 (by omega)
    have d2 := hd 2 (by omega)
    have d3 := hd 3 (by omega)
    obtain ⟨old, ho⟩ := SW_get bs t (by omega) t (by omega)
    have cs := (cell_of_row wr _ t _ _ _ hx).trans ho
    have fs := frozen_of_row wr _ t _ _ hx
    clear hd hx ho hbx
    go_wp2
    clear e1 e2 e3 n1 n2 n3 t1 t2 t3 t4
    go_still_tail 25, (by kernel_rfl)
    change wpList _ _ _ _ _ wr.drew
    clear d0 d1 d2 d3
    go_wp2
    refine ⟨⟨t + 1, by omega, by go_num, (HBX.out.drew.setCell (by simp) _), by simpa [World.setCell] using hsx, ?_⟩, by simp [intOf]; omega⟩
    refine (heap_setCell_same _ _ _ _ _ _ HX.out).trans ?_
    rw [SW_set bs t (by omega) _ (by rw [if_pos h16]; rfl)]
   ·have hti16 : ¬ (t : Int) < 16 := by omega
    have w15 : IntKind.i64.wrap ((t:Int) - 15) = (t:Int) - 15 := IntWalk.i64_in _ (by omega)
    have w2 : IntKind.i64.wrap ((t:Int) - 2) = (t:Int) - 2 := IntWalk.i64_in _ (by omega)
    have w7 : IntKind.i64.wrap ((t:Int) - 7) = (t:Int) - 7 := IntWalk.i64_in _ (by omega)
    have w16 : IntKind.i64.wrap ((t:Int) - 16) = (t:Int) - 16 := IntWalk.i64_in _ (by omega)
    have n15 : 0 ≤ (t:Int) - 15 := by omega
    have n2 : 0 ≤ (t:Int) - 2 := by omega
    have n7 : 0 ≤ (t:Int) - 7 := by omega
    have n16 : 0 ≤ (t:Int) - 16 := by omega
    have b15 : (t:Int) - 15 < 64 := by omega
    have b2 : (t:Int) - 2 < 64 := by omega
    have b7 : (t:Int) - 7 < 64 := by omega
    have b16 : (t:Int) - 16 < 64 := by omega
    have m2 : 2 ≤ (t:Int) := by omega
    have m7 : 7 ≤ (t:Int) := by omega
    have m15 : 15 ≤ (t:Int) := by omega
    have m16 : 16 ≤ (t:Int) := by omega
    have t15 : ((t:Int) - 15).toNat = t - 15 := by omega
    have t2 : ((t:Int) - 2).toNat = t - 2 := by omega
    have t7 : ((t:Int) - 7).toNat = t - 7 := by omega
    have t16 : ((t:Int) - 16).toNat = t - 16 := by omega
    have c15 := (cell_of_row wr _ (t-15) _ _ _ hx).trans (SW_at bs t (t-15) (by omega))
    have c2 := (cell_of_row wr _ (t-2) _ _ _ hx).trans (SW_at bs t (t-2) (by omega))
    have c7 := (cell_of_row wr _ (t-7) _ _ _ hx).trans (SW_at bs t (t-7) (by omega))
    have c16 := (cell_of_row wr _ (t-16) _ _ _ hx).trans (SW_at bs t (t-16) (by omega))
    obtain ⟨old, ho⟩ := SW_get bs t (by omega) t (by omega)
    have cs := (cell_of_row wr _ t _ _ _ hx).trans ho
    have fs := frozen_of_row wr _ t _ _ hx
    generalize hL : sched bs t = L at c15 c2 c7 c16
    have HL := hid hL
    clear hx ho hbx hL
    go_wp2
    go_quiet ((go_at_call 50; exact Calls.quiet_of ((rot_any _ _ _ (by omega) (by omega)).mono fun _ _ ⟨h, he⟩ => ⟨he, h⟩)))
    obtain ⟨wq, hwq⟩ : ∃ x, x = wr.drewN nq := ⟨_, rfl⟩
    rw [← hwq]
    have d2 : wq.cell? ⟨G, t - 2, none⟩ = some (.int .u32 (L[t-2]?.getD 0)) := by rw [hwq]; exact c2
    have d7 : wq.cell? ⟨G, t - 7, none⟩ = some (.int .u32 (L[t-7]?.getD 0)) := by rw [hwq]; exact c7
    have d16 : wq.cell? ⟨G, t - 16, none⟩ = some (.int .u32 (L[t-16]?.getD 0)) := by rw [hwq]; exact c16
    have ds : wq.cell? ⟨G, t, none⟩ = some (.int .u32 old) := by rw [hwq]; exact cs
    have dfs : wq.frozen? ⟨G, t, none⟩ = false := by rw [hwq]; exact fs
    have HH := hid (show wq.heap = wr.heap by rw [hwq]; rfl)
    have HBQ := hid (show Below G _ wq by rw [hwq]; exact below_drewN HBX.out nq)
    clear hwq c15 c2 c7 c16 cs fs
    go_wp2
    go_quiet ((go_at_call 50; exact Calls.quiet_of ((rot_any _ _ _ (by omega) (by omega)).mono fun _ _ ⟨h, he⟩ => ⟨he, h⟩)))
    obtain ⟨wp, hwp⟩ : ∃ x, x = wq.drewN nq := ⟨_, rfl⟩
    rw [← hwp]
    have f7 : wp.cell? ⟨G, t - 7, none⟩ = some (.int .u32 (L[t-7]?.getD 0)) := by rw [hwp]; exact d7
    have f16 : wp.cell? ⟨G, t - 16, none⟩ = some (.int .u32 (L[t-16]?.getD 0)) := by rw [hwp]; exact d16
    have fs : wp.cell? ⟨G, t, none⟩ = some (.int .u32 old) := by rw [hwp]; exact ds
    have ffs : wp.frozen? ⟨G, t, none⟩ = false := by rw [hwp]; exact dfs
    have HH2 := hid (show wp.heap = wr.heap by rw [hwp]; exact HH.out)
    have HBP := hid (show Below G _ wp by rw [hwp]; exact below_drewN HBQ.out nq)
    clear hwp d2 d7 d16 ds dfs HH HBQ
    go_wp2
    go_still_tail 18, (by kernel_rfl)
    change wpList _ _ _ _ _ wp.drew
    clear w15 w2 w7 w16 n15 n2 n7 n16 b15 b2 b7 b16 m2 m7 m15 m16 t15 t2 t7 t16 f7 f16
    go_wp2
    refine ⟨⟨t + 1, by omega, by go_num, (HBP.out.drew.setCell (by simp) _), by simpa [World.setCell, HH2.out] using hsx, ?_⟩, by simp [intOf]; omega⟩
    refine (heap_setCell_same _ _ _ _ _ _ ((congrArg (fun h => h[G]?) HH2.out).trans HX.out)).trans ?_
    rw [SW_set bs t (by omega) _ (by rw [if_neg h16, HL.out]; rfl)]
  ·obtain rfl : t = 64 := by omega
   have HX := hid hx
   have HBX := hid hbx
   clear hx hbx
   go_wp2
   exact HQ.out _ _ _ _ _ _ _ _ _ _ _ _ _ _ _ _ _ _ _ _ _ _ _ _ _ _ _ _ _ _ _ _ _ _ _ _ _ _ _ _ _ _ _ _ _ _ _ _ _ _ _ _ _ _ _ _ _ _ _ _ _ _ _ _ _ _ _ _ _ _ _ _ _ _ _ _ _ _ _ _ _ _ _ _ _ _ _ _ _ _ _ _ _ _ _ _ _ _ _ _ _ _ _ _ _ HBX.out hsx HX.out
end Go.Proofs.YtbmlkocpjboodaaDoor
namespace Go.Proofs.YtbmlkocpjboodaaDoor
open Go.RowKit
open Go.Lib (hid)
theorem addL_cell (st v : List Int) (i : Nat) (hs : st.length = 8) (hv : v.length = 8) (hi : i < 8) : ((addL st v i).map (Value.int .u32))[i]? = some (.int .u32 (st[i]?.getD 0)) := by
  have := addL_get st v i hs hv hi
  simpa [ArrU32] using this
theorem addL_step (st v : List Int) (i : Nat) (hs : st.length = 8) (hv : v.length = 8) (hi : i < 8) : ((addL st v i).map (Value.int .u32)).set i (.int .u32 ((st[i]?.getD 0 + v[i]?.getD 0) % 4294967296)) = (addL st v (i + 1)).map (Value.int .u32) := by
  have := congrArg Array.toList (addL_set st v i hs hv hi _ rfl)
  simpa [ArrU32] using this
theorem addL_all (s v : S8) : (addL s.list v.list 8).map (Value.int .u32) = (addS s v).list.map (Value.int .u32) := by
  have := congrArg Array.toList (addL_end s v)
  simpa [ArrU32] using this
set_option maxRecDepth 1000000 in
set_option maxHeartbeats 4000000 in
theorem loop8 {u0 u1 u2 u4 u5 u6 u7 u8 u9 u10 u11 u13 u14 u15 u16 u17 u18 u20 u21 u22 u23 u24 u25 u26 u27 u28 u29 u30 u31 u32 u33 u34 u35 u36 u37 u38 u39 u40 u41 u42 u43 u44 u45 u46 u47 u48 u49 u50 u51 u52 u53 u54 u55 u56 u57 u58 u59 u60 u61 u62 u63 u64 u65 u66 u67 u68 u69 u70 u71 u72 u73 u74 u75 u76 u77 u78 u79 u80 u81 u82 u83 u84 u85 u86 u87 u88 u89 u90 u91 u92 u93 u94 u95 u96 u97 u98 u99 u100 u101 u102 u103 u104 u105 u106 u107 u108 u109 u110 u111 u112 u113 u114 u115 u116 u117 u118 u119 u120 u121 u122 u123 u124 u125 u126 u127 u128 u129 u130 u131 u132 u133 u134 u135 u136 u137 u138 u139 u140 u141 u142 u143 u144 u145 u146 u147 u148 u149 u150 u151 u152 u153 u154 u155 u156 u157 u158 u159 u160 u161 u162 u163 u164 u165 u166 u167 u168 u169 u170 u171 u172 u173 u174 u175 u176 u177 u178 u179 u180 u181 u182 u183 u184 u185 u186 u187 u188 u189 u190 u191 u192 u193 u194 u195 u196 u197 u198 u199 u200 u201 u202 u203 u204 u205 u206 u207 u208 u209 u210 u211 u212 u213 u214 u215 u216 u217 u218 u219 u220 u221 u222 u223 u224 u225 u226 u227 u228 u229 u230 u231 u232 u233 u234 u235 u236 u237 u238 u239 u240 u241 u242 u243 u244 u245 u246 u247 u248 u249 u250 u251 u252 u253 u254 u255 u256 u257 u258 u259 u260 u261 u262 u263 u264 u265 u266 u267 u268 u269 u270 u271 u272 u273 u274 u275 u276 u277 u278 u279 u280 u281 u282 u283 u284 u285 u286 u287 u288 u289 u290 u291 u292 u293 u294 u295 u296 u297 u298 u299 u300 u301 u302 u303 u304 : Value} (Q : Exit → Act → World → Prop) (S V : S8) (B g3 c3 gv cv : Nat) (w : World) (hc3 : 8 ≤ c3) (hcv : 8 ≤ cv) (hne : gv ≠ g3) (hgv : gv < w.heap.size)
  (ho : w.ownsRow B 97 1 (.slice (some ⟨g3, 0, none⟩) 8 c3) 8 (S.list.map (Value.int .u32))) (hf : ∀ i, i < 8 → w.cell? ⟨gv, i, none⟩ = some (.int .u32 (V.list[i]?.getD 0)))
  (hexit : ∀ (x19 x272 x273 x274 x275 x276 x277 x278 x279 x280 x281 x282 x283 x284 x285 : Value) (w' : World), w.grownBy w' (some g3) → w'.ownsRow B 97 1 (.slice (some ⟨g3, 0, none⟩) 8 c3) 8 ((addS S V).list.map (Value.int .u32)) → Q (.exit 8) ⟨#[u0, u1, u2, .slice (some ⟨g3, 0, none⟩) 8 c3, u4, u5, u6, u7, u8, u9, u10, u11, .slice (some ⟨gv, 0, none⟩) 8 cv, u13, u14, u15, u16, u17, u18, x19, u20, u21, u22, u23, u24, u25, u26, u27, u28, u29, u30, u31, u32, u33, u34, u35, u36, u37, u38, u39, u40, u41, u42, u43, u44, u45, u46, u47, u48, u49, u50, u51, u52, u53, u54, u55, u56, u57, u58, u59, u60, u61, u62, u63, u64, u65, u66, u67, u68, u69, u70, u71, u72, u73, u74, u75, u76, u77, u78, u79, u80, u81, u82, u83, u84, u85, u86, u87, u88, u89, u90, u91, u92, u93, u94, u95, u96, u97, u98, u99, u100, u101, u102, u103, u104, u105, u106, u107, u108, u109, u110, u111, u112, u113, u114, u115, u116, u117, u118, u119, u120, u121, u122, u123, u124, u125, u126, u127, u128, u129, u130, u131, u132, u133, u134, u135, u136, u137, u138, u139, u140, u141, u142, u143, u144, u145, u146, u147, u148, u149, u150, u151, u152, u153, u154, u155, u156, u157, u158, u159, u160, u161, u162, u163, u164, u165, u166, u167, u168, u169, u170, u171, u172, u173, u174, u175, u176, u177, u178, u179, u180, u181, u182, u183, u184, u185, u186, u187, u188, u189, u190, u191, u192, u193, u194, u195, u196, u197, u198, u199, u200, u201, u202, u203, u204, u205, u206, u207, u208, u209, u210, u211, u212, u213, u214, u215, u216, u217, u218, u219, u220, u221, u222, u223, u224, u225, u226, u227, u228, u229, u230, u231, u232, u233, u234, u235, u236, u237, u238, u239, u240, u241, u242, u243, u244, u245, u246, u247, u248, u249, u250, u251, u252, u253, u254, u255, u256, u257, u258, u259, u260, u261, u262, u263, u264, u265, u266, u267, u268, u269, u270, u271, x272, x273, x274, x275, x276, x277, x278, x279, x280, x281, x282, x283, x284, x285, u286, u287, u288, u289, u290, u291, u292, u293, u294, u295, u296, u297, u298, u299, u300, u301, u302, u303, u304], []⟩ w') :
  Code.wp Tryd.prog ((Tryd.f26.body.bind (findBlock 8)).getD .skip) Q ⟨#[u0, u1, u2, .slice (some ⟨g3, 0, none⟩) 8 c3, u4, u5, u6, u7, u8, u9, u10, u11, .slice (some ⟨gv, 0, none⟩) 8 cv, u13, u14, u15, u16, u17, u18, .int .i64 0, u20, u21, u22, u23, u24, u25, u26, u27, u28, u29, u30, u31, u32, u33, u34, u35, u36, u37, u38, u39, u40, u41, u42, u43, u44, u45, u46, u47, u48, u49, u50, u51, u52, u53, u54, u55, u56, u57, u58, u59, u60, u61, u62, u63, u64, u65, u66, u67, u68, u69, u70, u71, u72, u73, u74, u75, u76, u77, u78, u79, u80, u81, u82, u83, u84, u85, u86, u87, u88, u89, u90, u91, u92, u93, u94, u95, u96, u97, u98, u99, u100, u101, u102, u103, u104, u105, u106, u107, u108, u109, u110, u111, u112, u113, u114, u115, u116, u117, u118, u119, u120, u121, u122, u123, u124, u125, u126, u127, u128, u129, u130, u131, u132, u133, u134, u135, u136, u137, u138, u139, u140, u141, u142, u143, u144, u145, u146, u147, u148, u149, u150, u151, u152, u153, u154, u155, u156, u157, u158, u159, u160, u161, u162, u163, u164, u165, u166, u167, u168, u169, u170, u171, u172, u173, u174, u175, u176, u177, u178, u179, u180, u181, u182, u183, u184, u185, u186, u187, u188, u189, u190, u191, u192, u193, u194, u195, u196, u197, u198, u199, u200, u201, u202, u203, u204, u205, u206, u207, u208, u209, u210, u211, u212, u213, u214, u215, u216, u217, u218, u219, u220, u221, u222, u223, u224, u225, u226, u227, u228, u229, u230, u231, u232, u233, u234, u235, u236, u237, u238, u239, u240, u241, u242, u243, u244, u245, u246, u247, u248, u249, u250, u251, u252, u253, u254, u255, u256, u257, u258, u259, u260, u261, u262, u263, u264, u265, u266, u267, u268, u269, u270, u271, u272, u273, u274, u275, u276, u277, u278, u279, u280, u281, u282, u283, u284, u285, u286, u287, u288, u289, u290, u291, u292, u293, u294, u295, u296, u297, u298, u299, u300, u301, u302, u303, u304], []⟩ w := by
 have HF := hid hf
 have HO := hid ho
 have HQ := hid hexit
 clear hf ho hexit
 conv => arg 2; whnf
 dsimp only
 go_loopw [19] (fun iv wx => ∃ i : Nat, i ≤ 8 ∧ iv = .int .i64 i ∧ wx.ownsRow B 97 1 (.slice (some ⟨g3, 0, none⟩) 8 c3) 8 ((addL S.list V.list i).map (Value.int .u32)) ∧ w.grownBy wx (some g3)) (fun iv _ => 8 - (intOf iv).toNat)
 case atStart => exact ⟨0, by omega, rfl, by simpa [addL] using HO.out, World.grownBy.refl _ _⟩
 case round =>
  clear HO
  obtain ⟨i, hi, rfl, hox, hgx⟩ := hrel
  by_cases hlt : i < 8
  ·have hii : (i : Int) < 8 := by omega
   have hcvi : (8 : Int) ≤ (cv : Int) := by omega
   have hc3i : (8 : Int) ≤ (c3 : Int) := by omega
   have ch := (hox.cellAt i (by omega)).trans (addL_cell S.list V.list i rfl rfl hlt)
   have cv0 := (World.cell?_of_block (a := ⟨gv, i, none⟩) (hgx.block gv hgv (by simp; exact hne))).trans (HF.out i hlt)
   have fh := hox.frozenAt i
   have hst := addL_step S.list V.list i rfl rfl hlt
   generalize hp : S.list[i]?.getD 0 = p at *
   generalize hq : V.list[i]?.getD 0 = q at *
   have HST := hid hst
   have HOX := hid hox
   have HGX := hid hgx
   clear hst hox hgx hp hq
   go_wp2
   go_still_tail 10, (by kernel_rfl)
   change wpList _ _ _ _ _ wr.drew
   clear cv0
   go_wp2
   have hs := World.ownsRow.stored (w := wr.drew) (show wr.drew.ownsRow B 97 1 (.slice (some ⟨g3, 0, none⟩) 8 c3) 8 _ from HOX.out) i (.int .u32 ((p + q) % 4294967296))
   refine ⟨⟨i + 1, by omega, by go_num, ?_, ?_⟩, by simp [intOf]; omega⟩
   ·rw [← HST.out]; exact hs.1
   ·exact grownBy_trans (grownBy_trans HGX.out (grownBy_drewN wr 1 _)) hs.2
  ·obtain rfl : i = 8 := by omega
   have HOX := hid hox
   have HGX := hid hgx
   clear hox hgx
   go_wp2
   exact HQ.out _ _ _ _ _ _ _ _ _ _ _ _ _ _ _ _ HGX.out (by rw [← addL_all]; exact HOX.out)
end Go.Proofs.YtbmlkocpjboodaaDoor
namespace Go.Proofs.YtbmlkocpjboodaaDoor
open Go.RowKit
open Go.Lib (hid)
set_option maxRecDepth 1000000 in
set_option maxHeartbeats 8000000 in
theorem loop2 {u0 u1 u2 u7 u8 u9 u10 u11 u12 u13 u14 u15 u16 u17 u18 u19 u20 u21 u22 u23 u24 u25 u26 u27 u28 u29 u30 u31 u32 u33 u34 u35 u36 u37 u38 u39 u40 u41 u42 u43 u44 u45 u46 u47 u48 u49 u50 u51 u52 u53 u54 u55 u56 u57 u58 u59 u60 u61 u62 u63 u64 u65 u66 u67 u68 u69 u70 u71 u72 u73 u74 u75 u76 u77 u78 u79 u80 u81 u82 u83 u84 u85 u86 u87 u88 u89 u90 u91 u92 u93 u94 u95 u96 u97 u98 u99 u100 u101 u102 u103 u104 u105 u106 u107 u108 u109 u110 u111 u112 u113 u114 u115 u116 u117 u118 u119 u120 u121 u122 u123 u124 u125 u126 u127 u128 u129 u130 u131 u132 u133 u134 u135 u136 u137 u138 u139 u140 u141 u142 u143 u144 u145 u146 u147 u148 u149 u150 u151 u152 u153 u154 u155 u156 u157 u158 u159 u160 u161 u162 u163 u164 u165 u166 u167 u168 u169 u170 u171 u172 u173 u174 u175 u176 u177 u178 u179 u180 u181 u182 u183 u184 u185 u186 u187 u188 u189 u190 u191 u192 u193 u194 u195 u196 u197 u198 u199 u200 u201 u202 u203 u204 u205 u206 u207 u208 u209 u210 u211 u212 u213 u214 u215 u216 u217 u218 u219 u220 u221 u222 u223 u224 u225 u226 u227 u228 u229 u230 u231 u232 u233 u234 u235 u236 u237 u238 u239 u240 u241 u242 u243 u244 u245 u246 u247 u248 u249 u250 u251 u252 u253 u254 u255 u256 u257 u258 u259 u260 u261 u262 u263 u264 u265 u266 u267 u268 u269 u270 u271 u272 u273 u274 u275 u276 u277 u278 u279 u280 u281 u282 u283 u284 u285 u286 u287 u288 u289 u290 u291 u292 u293 u294 u295 u296 u297 u298 u299 u300 u301 u302 u303 u304 : Value} (Q : Exit → Act → World → Prop) (M : List Int) (nb B g3 c3 g4 c4 g6 c6 : Nat) (w6 : World) (qn : 64 * nb ≤ 1099511627776) (hc6 : 64 * nb ≤ c6) (hc3 : 8 ≤ c3) (hc4 : 64 ≤ c4) (h34 : g4 ≠ g3) (h36 : g6 ≠ g3)
    (h3 : g3 < w6.heap.size) (h4 : g4 < w6.heap.size) (h6 : g6 < w6.heap.size) (ho : w6.ownsRow B 97 1 (.slice (some ⟨g3, 0, none⟩) 8 c3) 8 (iv.list.map (Value.int .u32)))
    (f4 : ∀ i, i < 64 → w6.cell? ⟨g4, i, none⟩ = some (.int .u32 (Kt[i]?.getD 0))) (f5 : ∀ i, i < 64 * nb → w6.cell? ⟨g6, i, none⟩ = some (.int .u8 (M[i]?.getD 0)))
    (hexit : ∀ (x6 x7 x8 x9 x10 x11 x12 x13 x14 x15 x16 x17 x18 x19 x45 x46 x47 x48 x49 x50 x51 x52 x53 x54 x55 x56 x57 x58 x59 x60 x61 x62 x63 x64 x65 x66 x67 x68 x69 x70 x71 x72 x73 x74 x75 x76 x77 x78 x79 x80 x81 x82 x83 x84 x85 x86 x87 x88 x89 x90 x91 x92 x93 x94 x95 x96 x97 x98 x99 x100 x101 x102 x103 x104 x105 x106 x107 x108 x109 x110 x111 x112 x113 x114 x115 x116 x117 x118 x119 x120 x121 x122 x123 x124 x125 x126 x127 x128 x129 x130 x131 x132 x133 x134 x135 x136 x137 x138 x139 x140 x141 x142 x143 x144 x145 x146 x147 x148 x149 x150 x151 x152 x153 x154 x155 x156 x157 x158 x159 x160 x161 x162 x163 x164 x165 x166 x167 x168 x169 x170 x171 x172 x173 x174 x175 x176 x177 x178 x179 x180 x181 x182 x183 x184 x185 x186 x187 x188 x189 x190 x191 x192 x193 x194 x195 x196 x197 x198 x199 x200 x201 x202 x203 x204 x205 x206 x207 x208 x209 x210 x211 x212 x213 x214 x215 x216 x217 x218 x219 x220 x221 x222 x223 x224 x225 x226 x227 x228 x229 x230 x231 x232 x233 x234 x235 x236 x237 x238 x239 x240 x241 x242 x243 x244 x245 x246 x247 x248 x249 x250 x251 x252 x253 x254 x255 x256 x257 x258 x259 x260 x261 x262 x263 x264 x265 x266 x267 x268 x269 x270 x271 x272 x273 x274 x275 x276 x277 x278 x279 x280 x281 x282 x283 x284 x285 : Value) (w' : World), w6.grownBy w' (some g3) → w'.ownsRow B 97 1 (.slice (some ⟨g3, 0, none⟩) 8 c3) 8 ((blk M nb).list.map (Value.int .u32)) → Q (.exit 2) ⟨#[u0, u1, u2, .slice (some ⟨g3, 0, none⟩) 8 c3, .slice (some ⟨g4, 0, none⟩) 64 c4, .slice (some ⟨g6, 0, none⟩) (64 * nb) c6, x6, x7, x8, x9, x10, x11, x12, x13, x14, x15, x16, x17, x18, x19, u20, u21, u22, u23, u24, u25, u26, u27, u28, u29, u30, u31, u32, u33, u34, u35, u36, u37, u38, u39, u40, u41, u42, u43, u44, x45, x46, x47, x48, x49, x50, x51, x52, x53, x54, x55, x56, x57, x58, x59, x60, x61, x62, x63, x64, x65, x66, x67, x68, x69, x70, x71, x72, x73, x74, x75, x76, x77, x78, x79, x80, x81, x82, x83, x84, x85, x86, x87, x88, x89, x90, x91, x92, x93, x94, x95, x96, x97, x98, x99, x100, x101, x102, x103, x104, x105, x106, x107, x108, x109, x110, x111, x112, x113, x114, x115, x116, x117, x118, x119, x120, x121, x122, x123, x124, x125, x126, x127, x128, x129, x130, x131, x132, x133, x134, x135, x136, x137, x138, x139, x140, x141, x142, x143, x144, x145, x146, x147, x148, x149, x150, x151, x152, x153, x154, x155, x156, x157, x158, x159, x160, x161, x162, x163, x164, x165, x166, x167, x168, x169, x170, x171, x172, x173, x174, x175, x176, x177, x178, x179, x180, x181, x182, x183, x184, x185, x186, x187, x188, x189, x190, x191, x192, x193, x194, x195, x196, x197, x198, x199, x200, x201, x202, x203, x204, x205, x206, x207, x208, x209, x210, x211, x212, x213, x214, x215, x216, x217, x218, x219, x220, x221, x222, x223, x224, x225, x226, x227, x228, x229, x230, x231, x232, x233, x234, x235, x236, x237, x238, x239, x240, x241, x242, x243, x244, x245, x246, x247, x248, x249, x250, x251, x252, x253, x254, x255, x256, x257, x258, x259, x260, x261, x262, x263, x264, x265, x266, x267, x268, x269, x270, x271, x272, x273, x274, x275, x276, x277, x278, x279, x280, x281, x282, x283, x284, x285, u286, u287, u288, u289, u290, u291, u292, u293, u294, u295, u296, u297, u298, u299, u300, u301, u302, u303, u304], []⟩ w') :
    Code.wp Tryd.prog ((Tryd.f26.body.bind (findBlock 2)).getD .skip) Q ⟨#[u0, u1, u2, .slice (some ⟨g3, 0, none⟩) 8 c3, .slice (some ⟨g4, 0, none⟩) 64 c4, .slice (some ⟨g6, 0, none⟩) (64 * nb) c6, .int .i64 0, u7, u8, u9, u10, u11, u12, u13, u14, u15, u16, u17, u18, u19, u20, u21, u22, u23, u24, u25, u26, u27, u28, u29, u30, u31, u32, u33, u34, u35, u36, u37, u38, u39, u40, u41, u42, u43, u44, u45, u46, u47, u48, u49, u50, u51, u52, u53, u54, u55, u56, u57, u58, u59, u60, u61, u62, u63, u64, u65, u66, u67, u68, u69, u70, u71, u72, u73, u74, u75, u76, u77, u78, u79, u80, u81, u82, u83, u84, u85, u86, u87, u88, u89, u90, u91, u92, u93, u94, u95, u96, u97, u98, u99, u100, u101, u102, u103, u104, u105, u106, u107, u108, u109, u110, u111, u112, u113, u114, u115, u116, u117, u118, u119, u120, u121, u122, u123, u124, u125, u126, u127, u128, u129, u130, u131, u132, u133, u134, u135, u136, u137, u138, u139, u140, u141, u142, u143, u144, u145, u146, u147, u148, u149, u150, u151, u152, u153, u154, u155, u156, u157, u158, u159, u160, u161, u162, u163, u164, u165, u166, u167, u168, u169, u170, u171, u172, u173, u174, u175, u176, u177, u178, u179, u180, u181, u182, u183, u184, u185, u186, u187, u188, u189, u190, u191, u192, u193, u194, u195, u196, u197, u198, u199, u200, u201, u202, u203, u204, u205, u206, u207, u208, u209, u210, u211, u212, u213, u214, u215, u216, u217, u218, u219, u220, u221, u222, u223, u224, u225, u226, u227, u228, u229, u230, u231, u232, u233, u234, u235, u236, u237, u238, u239, u240, u241, u242, u243, u244, u245, u246, u247, u248, u249, u250, u251, u252, u253, u254, u255, u256, u257, u258, u259, u260, u261, u262, u263, u264, u265, u266, u267, u268, u269, u270, u271, u272, u273, u274, u275, u276, u277, u278, u279, u280, u281, u282, u283, u284, u285, u286, u287, u288, u289, u290, u291, u292, u293, u294, u295, u296, u297, u298, u299, u300, u301, u302, u303, u304], []⟩ w6 := by
  have F4 := hid f4
  have F5 := hid f5
  have HO := hid ho
  have HQ := hid hexit
  clear ho hexit f4 f5
  conv => arg 2; whnf
  dsimp only
  go_loopw [6] (fun av wr => ∃ T : Nat, T ≤ nb ∧ av = .int .i64 (64 * (T : Int)) ∧ wr.ownsRow B 97 1 (.slice (some ⟨g3, 0, none⟩) 8 c3) 8 ((blk M T).list.map (Value.int .u32)) ∧ w6.grownBy wr (some g3)) (fun av _ => 64 * nb - (intOf av).toNat)
  case atStart => exact ⟨0, Nat.zero_le _, rfl, HO.out, World.grownBy.refl _ _⟩
  case round =>
    clear HO
    obtain ⟨T, hT, rfl, ho3, hg3r⟩ := hrel
    have HR3 := hid ho3
    have HG3 := hid hg3r
    have hsr := hg3r.size
    clear ho3 hg3r
    by_cases hlt : T < nb
    · have hmk : ∀ u : World, (Instr.makeSlice 93 (.int .i64 64) (.int .i64 64)).run Tryd.prog u = .ok (.slice (some ⟨u.heap.size, 0, none⟩) 64 64) (u.alloc (.cells ((zeros 64).map (Value.int .u32)).toArray 97)) := fun u => by kernel_rfl
      have hai2 : 64 * (T : Int) < 64 * (nb : Int) := by omega
      go_wp2_with fail
      obtain ⟨bs, hbs⟩ : ∃ bs : List Int, bs = (M.drop (64 * T)).take 64 := ⟨_, rfl⟩
      have hbg : ∀ i, i < 64 → M[64 * T + i]?.getD 0 = bs[i]?.getD 0 := fun i hi => by rw [hbs, List.getElem?_take_of_lt hi, List.getElem?_drop]
      have hgr : w6.grownBy (wr.alloc (.cells (SW bs 0) 97)) (some g3) := grownBy_trans HG3.out (grownBy_of_below ((Below.refl _ _).alloc (Nat.le_refl _) _) _)
      have hf : ∀ i, i < 64 → (wr.alloc (.cells (SW bs 0) 97)).cell? ⟨g6, 64 * T + i, none⟩ = some (.int .u8 (bs[i]?.getD 0)) := fun i hi => by
        rw [← hbg i hi]
        exact (World.cell?_of_block (a := ⟨g6, 64 * T + i, none⟩) (hgr.block g6 h6 (by simp; exact h36))).trans (F5.out (64 * T + i) (by omega))
      refine loop4 _ bs T nb g6 c6 wr.heap.size (wr.alloc (.cells (SW bs 0) 97)) hlt qn hc6 (by omega) (by simp) (heap_alloc_new _ _) hf ?_
      intro x8 x9 x10 x11 x52 x53 x54 x55 x56 x57 x58 x59 x60 x61 x62 x63 x64 x65 x66 x67 x68 x69 x70 x71 x72 x73 x74 x75 x76 x77 x78 x79 x80 x81 x82 x83 x84 x85 x86 x87 x88 x89 x90 x91 x92 x93 x94 x95 x96 x97 x98 x99 x100 x101 x102 x103 x104 x105 x106 x107 x108 x109 x110 x111 x112 x113 x114 x115 x116 x117 x118 x119 x120 x121 x122 x123 x124 x125 x126 x127 x128 x129 x130 x131 x132 x133 x134 x135 x136 x137 x138 x139 x140 x141 x142 x143 x144 x145 x146 x147 x148 x149 x150 x151 w8 hb8 hs8 hx8
      have hbr : Below wr.heap.size wr w8 := ((Below.refl _ _).alloc (Nat.le_refl _) _).trans hb8
      have HBR := hid hbr
      have HX8 := hid hx8
      have HBS := hid hbs
      clear hbg hgr hf hb8 hx8 hbr hbs hmk
      have hh8 : ∀ j u, ((blk M T).list.map (Value.int .u32))[j]? = some u → w8.cell? ((⟨g3, 0, none⟩ : Addr).add j) = some u := fun j u hu => by
        have := HR3.out.cells (g := g3) rfl j u hu
        rw [Addr.add_mid] at this ⊢
        exact (HBR.out.cell (p := ⟨g3, 0 + j, none⟩) (by show g3 < wr.heap.size; omega)).trans this
      have HH8 := hid hh8
      obtain ⟨i1, hi1, hy0, hy1, hy2⟩ := info_parts info49
      clear hh8
      have hsw8 : wr.heap.size < w8.heap.size := hs8
      go_wp2_with (first
        | (refine wpList_build_empty (o := ⟨some 152, _, _, _, _, _⟩) rfl 93 97 1 rfl build44 ?_; intro v152 w9 ho9 hb9 hob9 hs9; have HO9 := hid ho9; have HB9 := hid hb9; have hs9' : w8.heap.size ≤ w9.heap.size := (by omega); clear ho9 hb9 hob9 hs9)
        | (at_builtin; refine wpList_append_lies (o := ⟨some 154, _, _, _, _, _⟩) _ rfl (Operand.tmp 152) (Operand.tmp 153) 93 rfl w8.heap.size 97 i1 (.int .u32 0) 1 4 Tryd.underlying93 hi1 hy0 hy1 hy2 rfl (by decide) v152 0 [] rfl HO9.out ⟨g3, 0, none⟩ 8 c3 ((blk M T).list.map (Value.int .u32)) rfl (by simp [S8.list]) (fun j u hu => (HB9.out.cell (p := (⟨g3, 0, none⟩ : Addr).add j) (by rw [Addr.add_mid]; show g3 < w8.heap.size; omega)).trans (HH8.out j u hu)) (by intro v hv; obtain ⟨x, _, rfl⟩ := List.mem_map.1 hv; rfl) (by decide) (by unfold maxLen; omega) (by omega) hs9' w9.heap.size rfl ?_; intro gv cv w10 hown10 hg10 hH10 hl10; have HO10 := hid hown10; have hb10 := HB9.out.grown hg10 hs9' (fun g hg => (HO9.out.lt g hg).1); have HB10 := hid hb10; clear hown10 hg10 hH10 hb10)
        | fail)
      have hcv8 : 8 ≤ cv := by obtain ⟨g, c, e, h, _⟩ := own_some HO10.out (by omega); injection e with _ _ e; omega
      have hgv8 : w8.heap.size ≤ gv := (HO10.out.lt gv rfl).1
      have fv : ∀ j, j < 8 → w10.cell? ⟨gv, j, none⟩ = some (.int .u32 ((blk M T).list[j]?.getD 0)) := fun j hj => by
        have := HO10.out.cells (g := gv) rfl j (.int .u32 ((blk M T).list[j]?.getD 0)) (by rw [List.nil_append, List.getElem?_map, List.getElem?_eq_getElem (show j < (blk M T).list.length from hj)]; rfl)
        rw [Addr.add_mid, Nat.zero_add] at this
        exact this
      have f4 : ∀ i, i < 64 → w8.cell? ⟨g4, i, none⟩ = some (.int .u32 (Kt[i]?.getD 0)) := fun i hi => (HBR.out.cell (p := ⟨g4, i, none⟩) (by show g4 < wr.heap.size; omega)).trans ((World.cell?_of_block (a := ⟨g4, i, none⟩) (HG3.out.block g4 h4 (by simp; exact h34))).trans (F4.out i hi))
      have fW : ∀ i, i < 64 → w8.cell? ⟨wr.heap.size, i, none⟩ = some (.int .u32 ((sched bs 64)[i]?.getD 0)) := fun i hi => (cell_of_row w8 _ i _ _ _ HX8.out).trans (SW_at bs 64 i hi)
      refine loop6 _ (blk M T) (sched bs 64) g4 c4 wr.heap.size gv cv w8 w10 hc4 (by omega) hsw8 hcv8 hgv8 HB10.out f4 fW fv ?_
      intro y13 y14 y15 y16 y17 y18 y155 y156 y157 y158 y159 y160 y161 y162 y163 y164 y165 y166 y167 y168 y169 y170 y171 y172 y173 y174 y175 y176 y177 y178 y179 y180 y181 y182 y183 y184 y185 y186 y187 y188 y189 y190 y191 y192 y193 y194 y195 y196 y197 y198 y199 y200 y201 y202 y203 y204 y205 y206 y207 y208 y209 y210 y211 y212 y213 y214 y215 y216 y217 y218 y219 y220 y221 y222 y223 y224 y225 y226 y227 y228 y229 y230 y231 y232 y233 y234 y235 y236 y237 y238 y239 y240 y241 y242 y243 y244 y245 y246 y247 y248 y249 y250 y251 y252 y253 y254 y255 y256 y257 y258 y259 y260 y261 y262 y263 y264 y265 y266 y267 y268 y269 y270 y271 gv' cv' w11 hcv' hgv' hb11 hf11
      have HB11 := hid hb11
      have HF11 := hid hf11
      clear f4 fW fv hb11 hf11 HO9 HB9 HO10 HB10 hs9' hcv8 hgv8 hl10
      go_wp2_with fail
      have hgl : gv' < w11.heap.size := World.block_lt_of_cell? _ _ (HF11.out 0 (by omega))
      have k11 : wr.grownBy w11 none := ⟨(HBR.out.trans (HB11.out.mono (Nat.le_of_lt hsw8))).os, (HBR.out.trans (HB11.out.mono (Nat.le_of_lt hsw8))).tape, (HBR.out.trans (HB11.out.mono (Nat.le_of_lt hsw8))).output, (HBR.out.trans (HB11.out.mono (Nat.le_of_lt hsw8))).size, fun q hq _ => (HBR.out.trans (HB11.out.mono (Nat.le_of_lt hsw8))).block q hq⟩
      have ho11 := HR3.out.kept k11 (.inr (by simp [Value.ownBlock]))
      have hg11 := grownBy_trans HG3.out (grownBy_of_below (HBR.out.trans (HB11.out.mono (Nat.le_of_lt hsw8))) (some g3))
      have HG11 := hid hg11
      refine loop8 _ (blk M T) (rnds (blk M T) (sched bs 64) 64) B g3 c3 gv' cv' w11 hc3 hcv' (by omega) hgl ho11 HF11.out ?_
      intro z19 z272 z273 z274 z275 z276 z277 z278 z279 z280 z281 z282 z283 z284 z285 w12 hg12 ho12
      have HO12 := hid ho12
      have HG12 := hid (grownBy_trans HG11.out hg12)
      have hbk : blk M (T + 1) = addS (blk M T) (rnds (blk M T) (sched bs 64) 64) := by rw [blk, compress, HBS.out]
      have HBK := hid hbk
      have e1 : IntKind.i64.wrap (64 * (T : Int) + 64) = 64 * (T : Int) + 64 := IntWalk.i64_in _ (by omega)
      clear ho12 hg12 hbk HG11 hg11 ho11 k11
      go_wp2
      refine ⟨⟨T + 1, by omega, by first | (congr 1; omega) | congr 1, by rw [HBK.out]; exact HO12.out, HG12.out⟩, by simp [intOf]; omega⟩
    · obtain rfl : T = nb := by omega
      go_wp2_with fail
      exact HQ.out _ _ _ _ _ _ _ _ _ _ _ _ _ _ _ _ _ _ _ _ _ _ _ _ _ _ _ _ _ _ _ _ _ _ _ _ _ _ _ _ _ _ _ _ _ _ _ _ _ _ _ _ _ _ _ _ _ _ _ _ _ _ _ _ _ _ _ _ _ _ _ _ _ _ _ _ _ _ _ _ _ _ _ _ _ _ _ _ _ _ _ _ _ _ _ _ _ _ _ _ _ _ _ _ _ _ _ _ _ _ _ _ _ _ _ _ _ _ _ _ _ _ _ _ _ _ _ _ _ _ _ _ _ _ _ _ _ _ _ _ _ _ _ _ _ _ _ _ _ _ _ _ _ _ _ _ _ _ _ _ _ _ _ _ _ _ _ _ _ _ _ _ _ _ _ _ _ _ _ _ _ _ _ _ _ _ _ _ _ _ _ _ _ _ _ _ _ _ _ _ _ _ _ _ _ _ _ _ _ _ _ _ _ _ _ _ _ _ _ _ _ _ _ _ _ _ _ _ _ _ _ _ _ _ _ _ _ _ _ _ _ _ _ _ _ _ _ _ _ _ _ _ _ _ _ _ HG3.out HR3.out
end Go.Proofs.YtbmlkocpjboodaaDoor
namespace Go.Proofs.YtbmlkocpjboodaaDoor
open Go.RowKit
open Go.Lib (hid)
def DR (s : S8) (i : Nat) : Array Value := ArrU8 ((dig s).take i ++ zeros (32 - i))
theorem dig_len (s : S8) : (dig s).length = 32 := by simp [dig, S8.list]
theorem dig_get (s : S8) (i : Nat) (h : i < 32) : (dig s)[i]?.getD 0 = s.list[i / 4]?.getD 0 / 2 ^ (24 - 8 * (i % 4)) % 256 := by
 have hc : i = 0 ∨ i = 1 ∨ i = 2 ∨ i = 3 ∨ i = 4 ∨ i = 5 ∨ i = 6 ∨ i = 7 ∨ i = 8 ∨ i = 9 ∨ i = 10 ∨ i = 11 ∨ i = 12 ∨ i = 13 ∨ i = 14 ∨ i = 15 ∨ i = 16 ∨ i = 17 ∨ i = 18 ∨ i = 19 ∨ i = 20 ∨ i = 21 ∨ i = 22 ∨ i = 23 ∨ i = 24 ∨ i = 25 ∨ i = 26 ∨ i = 27 ∨ i = 28 ∨ i = 29 ∨ i = 30 ∨ i = 31 := by omega
 rcases hc with rfl | rfl | rfl | rfl | rfl | rfl | rfl | rfl | rfl | rfl | rfl | rfl | rfl | rfl | rfl | rfl | rfl | rfl | rfl | rfl | rfl | rfl | rfl | rfl | rfl | rfl | rfl | rfl | rfl | rfl | rfl | rfl <;> first | rfl | simp [dig, S8.list]
theorem DR_size (s : S8) (i : Nat) (hi : i ≤ 32) : (DR s i).size = 32 := by
  have := dig_len s
  simp [DR, ArrU8, zeros]; omega
theorem DR_get (s : S8) (i j : Nat) (hi : i ≤ 32) (hj : j < 32) : ∃ x, (DR s i)[j]? = some (.int .u8 x) := by
 have : j < (DR s i).size := by rw [DR_size s i hi]; exact hj
 rw [Array.getElem?_eq_getElem this]
 simp only [DR, ArrU8, List.getElem_toArray, List.getElem_map]
 exact ⟨_, rfl⟩
theorem DR_set (s : S8) (i : Nat) (hi : i < 32) : (DR s i).setIfInBounds i (.int .u8 ((dig s)[i]?.getD 0)) = DR s (i + 1) := by
 have hl := dig_len s
 simp only [DR, ArrU8, sA]
 congr 1
 rw [List.take_succ_eq_append_getElem (by omega), List.getElem?_eq_getElem (by omega), show 32 - i = (32 - (i + 1)) + 1 by omega]
 simp only [zeros, List.replicate_succ, List.map_append, List.map_cons, Option.getD_some]
 rw [List.set_append_right _ _ (by simp; omega)]
 simp [List.length_take, hl, Nat.min_eq_left (Nat.le_of_lt hi)]
theorem DR_end (s : S8) : DR s 32 = ArrU8 (dig s) := by
 have hl := dig_len s
 simp only [DR, zeros]
 rw [List.take_of_length_le (by omega)]
 simp
/-- the message behind 0x80 and k noughts -/
def padK (l : List Int) (k : Nat) : List Int := l ++ 128 :: zeros k
theorem padK_succ (l : List Int) (k : Nat) : padK l (k + 1) = padK l k ++ [0] := by
 simp [padK, zeros, List.replicate_succ']
set_option maxRecDepth 100000 in
set_option maxHeartbeats 4000000 in
theorem refSum_any (v : Value) (l : List Int) (w : World) (hv : Bs w v l) (hl : l.length ≤ 549755813888) :
    Calls Tryd.prog 26 #[v] w fun e w' => e = .returned (.agg (ArrU8 (sha l))) ∧ Below w.heap.size w w' := by
  obtain ⟨i0, hi, hz0, hz1, hz2⟩ := info_parts info5
  have HV := hid hv
  have hvl : ∃ a c, v = .slice a l.length c := by obtain ⟨a, c, h, _⟩ := hv; exact ⟨a, c, h⟩
  obtain ⟨va, vc, rfl⟩ := hvl
  generalize hN : l.length = n at *
  have HN := hid hN
  clear hv hN
  go_enter Tryd.func26, Tryd.ntmps26
  go_wp2_with fail
  obtain ⟨w0, hw0⟩ : ∃ w1 : World, w1 = w.alloc (.cells ((List.replicate 32 (Value.int .u8 0)).toArray) 35) := ⟨_, rfl⟩
  change Calls _ _ _ (w.alloc (.cells ((List.replicate 32 (Value.int .u8 0)).toArray) 35)) _
  rw [← hw0]
  have hs0 : w0.heap.size = w.heap.size + 1 := by rw [hw0]; simp
  have b0 : Below w.heap.size w w0 := by rw [hw0]; exact (Below.refl _ _).alloc (Nat.le_refl _) _
  have r0 : w0.heap[w.heap.size]? = some (.cells ((List.replicate 32 (Value.int .u8 0)).toArray) 35 (0,0)) := by rw [hw0]; exact heap_alloc_new _ _
  have R0 := hid r0
  have B0 := hid b0
  clear hw0 b0 r0
  refine (numbers_any w0).mono ?_
  rintro e w1 ⟨v3, v4, rfl, ho3, ho4, hne, hb1⟩
  have HO3 := hid ho3
  have HO4 := hid ho4
  have HNE := hid hne
  have B1 := hid hb1
  have hs1 := hb1.size
  clear ho3 ho4 hne hb1
  have bw1 : Below w.heap.size w w1 := B0.out.trans (B1.out.mono (by omega))
  have BW1 := hid bw1
  have R1 := hid ((B1.out.block w.heap.size (by omega)).trans R0.out)
  clear bw1 R0 B0
  go_wp2_with (first
    | (refine wpList_build_empty (o := ⟨some 26, _, _, _, _, _⟩) rfl 31 5 1 rfl build22 ?_; intro v26 w2 ho2 hb2 hob hs2; have LIT := hid ho2; have HB2 := hid hb2; have HOB := hid hob; clear ho2 hb2 hob)
    | (at_builtin; refine wpList_append_bs (o := ⟨some 28, _, _, _, _, _⟩) rfl (Operand.tmp 26) (Operand.tmp 27) 31 rfl w1.heap.size 5 i0 Tryd.underlying31 hi hz0 hz1 hz2 v26 0 [] rfl LIT.out (.slice va n vc) l rfl (HV.out.below (BW1.out.trans (HB2.out.mono (by omega)))) (by rw [HN.out]; omega) (by omega) ?_; rw [HN.out]; intro v5 w3 hown3 hg3; have HO3b := hid hown3; have hb3 := HB2.out.grown hg3 (by omega) (fun g hg => by rw [HOB.out] at hg; injection hg with hg; omega); have HB3 := hid hb3; have hs3 := hb3.size; clear hown3 hg3 hb3)
    | (at_builtin; refine wpList_append_lies (o := ⟨some 30, _, _, _, _, _⟩) _ rfl (Operand.tmp 28) (Operand.tmp 29) 31 rfl w1.heap.size 5 i0 (.int .u8 0) 1 1 Tryd.underlying31 hi hz0 hz1 hz2 rfl (by decide) v5 (0 + n) _ rfl (HO3b.out.alloc _) ⟨w3.heap.size, 0, none⟩ 1 1 [.int .u8 128] rfl rfl (cell_one_new _ _ _) (by intro u hu; simp at hu; subst hu; rfl) (by decide) (by unfold maxLen; omega) (by omega) (by simp; omega) (w3.heap.size + 1) (by simp) ?_; intro g5 c5 w4 hown4 hg4 hH4 hl4; have HO5 := hid hown4; have hb4 := (HB3.out.alloc hs3 _).grown hg4 (by simp; omega) (fun g hg => (HO3b.out.lt g hg).1); have HB4 := hid hb4; clear hown4 hg4 hH4 hb4)
    | fail)
  rw [Nat.zero_add] at HO5
  have hpz : padZeros n < 64 := by unfold padZeros; omega
  go_loopw [5] (fun v5 wr => ∃ k g cp, k ≤ padZeros n ∧ v5 = .slice (some ⟨g, 0, none⟩) (n + 1 + k) cp ∧ wr.ownsRow w1.heap.size 5 1 (.slice (some ⟨g, 0, none⟩) (n + 1 + k) cp) (n + 1 + k) ((padK l k).map (Value.int .u8)) ∧ Below w1.heap.size w1 wr) (fun v5 _ => n + 65 - lenV v5)
  case atStart => exact ⟨0, g5, c5, Nat.zero_le _, rfl, by simpa [padK, zeros] using HO5.out, HB4.out⟩
  case round =>
    obtain ⟨k, g, cp, hk, rfl, hown, hbr⟩ := hrel
    have HO := hid hown
    have HB := hid hbr
    have hsb := hbr.size
    clear hown hbr HO5 HB4 HO3b HB3 LIT HB2 HOB
    by_cases hlt : k < padZeros n
    · have hpk := hid (padK_succ l k)
      have hm : ¬ (((n + 1 + k : Nat) : Int) % 64 = 56) := by unfold padZeros at hlt hk; omega
      have hlt2 := hid hlt
      clear hlt
      go_wp2_with (at_builtin; refine wpList_append_lies (o := ⟨some 37, _, _, _, _, _⟩) _ rfl (Operand.tmp 35) (Operand.tmp 36) 31 rfl w1.heap.size 5 i0 (.int .u8 0) 1 1 Tryd.underlying31 hi hz0 hz1 hz2 rfl (by decide) _ (n + 1 + k) _ rfl (HO.out.alloc _) ⟨wr.heap.size, 0, none⟩ 1 1 [.int .u8 0] rfl rfl (cell_one_new _ _ _) (by intro u hu; simp at hu; subst hu; rfl) (by decide) (by unfold maxLen; omega) (by omega) (by simp; omega) (wr.heap.size + 1) (by simp) ?_; intro g6 c6 w5 hown5 hg5 hH5 hl5; have HO5 := hid hown5; have hb5 := (HB.out.alloc hsb _).grown hg5 (by simp; omega) (fun g hg => (HO.out.lt g hg).1); have HB5 := hid hb5; clear hown5 hg5 hH5 hb5)
      exact ⟨⟨k + 1, g6, c6, by have := hlt2.out; omega, rfl, by rw [hpk.out, List.map_append]; exact HO5.out, HB5.out⟩, by simp [lenV]; omega⟩
    · have hkp : k = padZeros n := by omega
      have hm : (((n + 1 + k : Nat) : Int) % 64 = 56) := by rw [hkp]; unfold padZeros; omega
      have HKP := hid hkp
      clear hlt hkp
      go_wp2_with fail
      have e8n : (8 * (n : Int)) = ((n * 8 : Nat) : Int) := by omega
      rw [e8n]
      refine (number01_any (n * 8) wr (by omega)).mono ?_
      rintro e w5 ⟨v8, rfl, hown8, hb8⟩
      obtain ⟨g8, c8, rfl, hc8, hg8, hl8⟩ := own_some hown8 (by omega)
      have hcell8 : ∀ j u, ((be8 (n * 8)).map (Value.int .u8))[j]? = some u → w5.cell? (((⟨g8, 0, none⟩ : Addr)).add j) = some u := hown8.cells rfl
      have HO8 := hid hcell8
      have HO5b := hid (HO.out.kept (row := none) ⟨hb8.os, hb8.tape, hb8.output, hb8.size, fun k hk _ => hb8.block k hk⟩ (.inr (by simp [Value.ownBlock])))
      have HB5 := hid (HB.out.trans (hb8.mono hsb))
      have hs5 := HB5.out.size
      clear e8n hown8 hcell8 hb8
      go_wp2_with (at_builtin; refine wpList_append_lies (o := ⟨some 44, _, _, _, _, _⟩) _ rfl (Operand.tmp 38) (Operand.tmp 43) 31 rfl w1.heap.size 5 i0 (.int .u8 0) 1 1 Tryd.underlying31 hi hz0 hz1 hz2 rfl (by decide) _ (n + 1 + k) _ rfl HO5b.out ⟨g8, 0, none⟩ 8 c8 ((be8 (n * 8)).map (Value.int .u8)) rfl (by simp [be8_len]) HO8.out (by intro v hv; obtain ⟨x, _, rfl⟩ := List.mem_map.1 hv; rfl) (by decide) (by unfold maxLen; omega) (by omega) hs5 w5.heap.size rfl ?_; intro g6 c6 w6 hown6 hg6 hH6 hl6; have HO6 := hid hown6; have hb6 := HB5.out.grown hg6 hs5 (fun g hg => (HO.out.lt g hg).1); have HB6 := hid hb6; clear hown6 hg6 hH6 hb6)
      have hM : padK l k ++ be8 (n * 8) = l ++ padding n := by rw [HKP.out, padding, padK, List.append_assoc, List.cons_append]
      have hlM : n + 1 + k + 8 = 64 * ((n + 1 + k + 8) / 64) := by rw [HKP.out]; unfold padZeros; omega
      obtain ⟨nb, hnb⟩ : ∃ nb, nb = (n + 1 + k + 8) / 64 := ⟨_, rfl⟩
      rw [← hnb] at hlM
      have ho6 := HO6.out
      rw [← List.map_append, hM, hlM] at ho6
      have hg6 := (ho6.lt g6 rfl).1
      have f5 : ∀ i, i < 64 * nb → w6.cell? ⟨g6, i, none⟩ = some (.int .u8 ((l ++ padding n)[i]?.getD 0)) := fun i hi => by
        have hlen := ho6.1
        rw [List.length_map, Nat.mul_one] at hlen
        have := ho6.cells (g := g6) rfl i (.int .u8 ((l ++ padding n)[i]?.getD 0)) (by rw [List.getElem?_map, List.getElem?_eq_getElem (by omega)]; rfl)
        rw [Addr.add_mid, Nat.zero_add] at this
        exact this
      have hMl : (l ++ padding n).length = 64 * nb := by have := ho6.1; rw [List.length_map, Nat.mul_one] at this; exact this
      have hc6 : 64 * nb ≤ c6 := by
        rcases ho6.2 with ⟨h0, _⟩ | ⟨g, cp, cur, h0, _, _, h1, _⟩
        · cases h0
        · injection h0 with _ _ h3; omega
      have hsha : sha l = dig (blk (l ++ padding n) nb) := by rw [sha, HN.out, hMl]; congr 2; omega
      have k6 : w1.grownBy w6 none := ⟨HB6.out.os, HB6.out.tape, HB6.out.output, HB6.out.size, fun q hq _ => HB6.out.block q hq⟩
      have hs6 := HB6.out.size
      obtain ⟨g3, c3, rfl, hc3, hg3, hl3⟩ := own_some HO3.out (by omega)
      obtain ⟨g4, c4, rfl, hc4, hg4, hl4'⟩ := own_some HO4.out (by omega)
      have f3 := HO3.out.kept k6 (.inr (by simp [Value.ownBlock]))
      have o4 := HO4.out.kept k6 (.inr (by simp [Value.ownBlock]))
      have f4 : ∀ i, i < 64 → w6.cell? ⟨g4, i, none⟩ = some (.int .u32 (Kt[i]?.getD 0)) := fun i hi => by
        have := o4.cells (g := g4) rfl i (.int .u32 (Kt[i]?.getD 0)) (by have : i < Kt.length := hi; simp [this])
        rw [Addr.add_mid, Nat.zero_add] at this
        exact this
      have hne : g3 ≠ g4 := fun e => HNE.out (by rw [e]; rfl)
      have r6 := (HB6.out.block w.heap.size (by omega)).trans R1.out
      have b6 := BW1.out.trans (HB6.out.mono (by omega))
      have hn64 : n + 1 + k + 8 = 64 * nb := hlM
      generalize hMM : l ++ padding n = M at *
      have F3 := hid f3
      have F4 := hid f4
      have F5 := hid f5
      have R6 := hid r6
      have B6 := hid b6
      have HSHA := hid hsha
      have HML := hid hMl
      rw [hlM]
      clear f3 f4 f5 r6 b6 hsha hMl o4 k6 ho6 HO6 HB6 hM hMM HO5b HO8 HB5 HO HB hlM hnb HO3 HO4 HNE R1 BW1 HKP hm
      have q0 : w.heap.size < w0.heap.size := by omega
      have q3 : g3 < w6.heap.size := by omega
      have q4 : g4 < w6.heap.size := by omega
      have q6 : g3 < g6 := by omega
      have q46 : g4 < g6 := by omega
      have qw : w.heap.size < w6.heap.size := by omega
      have qn : 64 * nb ≤ 1099511627776 := by omega
      clear hs0 hs1 hs2 hs3 hs5 hs6 hn64 hl hpz hk hsb hc8 hg8 hl8 hl3 hl4' hi hz0 hz1 hz2
      refine loop2 _ M nb w0.heap.size g3 c3 g4 c4 g6 c6 w6 qn hc6 hc3 hc4 (Ne.symm hne) (by omega) q3 q4 hl6 F3.out F4.out F5.out ?_
      as_aux_lemma =>
      intro x6 x7 x8 x9 x10 x11 x12 x13 x14 x15 x16 x17 x18 x19 x45 x46 x47 x48 x49 x50 x51 x52 x53 x54 x55 x56 x57 x58 x59 x60 x61 x62 x63 x64 x65 x66 x67 x68 x69 x70 x71 x72 x73 x74 x75 x76 x77 x78 x79 x80 x81 x82 x83 x84 x85 x86 x87 x88 x89 x90 x91 x92 x93 x94 x95 x96 x97 x98 x99 x100 x101 x102 x103 x104 x105 x106 x107 x108 x109 x110 x111 x112 x113 x114 x115 x116 x117 x118 x119 x120 x121 x122 x123 x124 x125 x126 x127 x128 x129 x130 x131 x132 x133 x134 x135 x136 x137 x138 x139 x140 x141 x142 x143 x144 x145 x146 x147 x148 x149 x150 x151 x152 x153 x154 x155 x156 x157 x158 x159 x160 x161 x162 x163 x164 x165 x166 x167 x168 x169 x170 x171 x172 x173 x174 x175 x176 x177 x178 x179 x180 x181 x182 x183 x184 x185 x186 x187 x188 x189 x190 x191 x192 x193 x194 x195 x196 x197 x198 x199 x200 x201 x202 x203 x204 x205 x206 x207 x208 x209 x210 x211 x212 x213 x214 x215 x216 x217 x218 x219 x220 x221 x222 x223 x224 x225 x226 x227 x228 x229 x230 x231 x232 x233 x234 x235 x236 x237 x238 x239 x240 x241 x242 x243 x244 x245 x246 x247 x248 x249 x250 x251 x252 x253 x254 x255 x256 x257 x258 x259 x260 x261 x262 x263 x264 x265 x266 x267 x268 x269 x270 x271 x272 x273 x274 x275 x276 x277 x278 x279 x280 x281 x282 x283 x284 x285 w7 hg7 ho7
      have hcell : ∀ j, j < 8 → w7.cell? ⟨g3, j, none⟩ = some (.int .u32 ((blk M nb).list[j]?.getD 0)) := fun j hj => by
        have := ho7.cells (g := g3) rfl j (.int .u32 ((blk M nb).list[j]?.getD 0)) (by rw [List.getElem?_map, List.getElem?_eq_getElem (show j < (blk M nb).list.length from hj)]; rfl)
        rw [Addr.add_mid, Nat.zero_add] at this
        exact this
      have q7 : g3 < w7.heap.size := (ho7.lt g3 rfl).2
      have r7 := (hg7.block w.heap.size qw (by simp; omega)).trans R6.out
      have b7 : Below w.heap.size w w7 := B6.out.trans ⟨hg7.os, hg7.tape, hg7.output, hg7.size, fun k hk => hg7.block k (by omega) (by simp; omega)⟩
      have HC := hid hcell
      have R7 := hid r7
      have B7 := hid b7
      have qw7 : w.heap.size < w7.heap.size := by have := hg7.size; omega
      generalize blk M nb = s at *
      clear hcell r7 b7 hg7 ho7 F3 F4 F5 R6 B6
      have HI0 := hid (show (Tryd.prog.info? 35).map (·.size) = some (ArrU8 (zeros 32)).size by kernel_rfl)
      go_wp2_with (first | (refine wpList_store_row rfl 35 (Operand.tmp 20) (Operand.tmp 286) rfl w7.heap.size (ArrU8 (zeros 32)) rfl rfl 35 _ (heap_alloc_new _ _) HI0.out rfl (ArrU8_one _) ?_; rw [World.setRow_alloc_new]) | fail)
      have hZ : ArrU8 (zeros 32) = DR s 0 := rfl
      rw [hZ]
      have HZ0 := hid (show (w7.alloc (.cells (DR s 0) 35)).heap[w7.heap.size]? = some (.cells (DR s 0) 35 (0, 0)) from heap_alloc_new _ _)
      go_loopw [21] (fun iv wx => ∃ i : Nat, i ≤ 32 ∧ iv = .int .i64 i ∧ Below w7.heap.size w7 wx ∧ w7.heap.size < wx.heap.size ∧ wx.heap[w7.heap.size]? = some (.cells (DR s i) 35 (0, 0))) (fun iv _ => 32 - (intOf iv).toNat)
      case atStart => exact ⟨0, by omega, rfl, (Below.refl _ _).alloc (Nat.le_refl _) _, by simp, HZ0.out⟩
      case round =>
        clear HZ0 hZ
        obtain ⟨i, hi, rfl, hbx, hsx, hx⟩ := hrel
        have HX := hid hx
        have HBX := hid hbx
        by_cases hlt : i < 32
        · have hii : (i : Int) < 32 := by omega
          have d1 : (0 : Int) ≤ (i : Int) / 4 := by omega
          have d2 : (i : Int) / 4 < 8 := by omega
          have d3 : ((i : Int) / 4).toNat = i / 4 := by omega
          have d4 : IntKind.i64.wrap (8 * ((i : Int) % 4)) = 8 * ((i : Int) % 4) := IntWalk.i64_in _ (by omega)
          have d5 : IntKind.i64.wrap (24 - 8 * ((i : Int) % 4)) = 24 - 8 * ((i : Int) % 4) := IntWalk.i64_in _ (by omega)
          have d6 : 0 ≤ 24 - 8 * ((i : Int) % 4) := by omega
          have d7 : (24 - 8 * ((i : Int) % 4)).toNat = 24 - 8 * (i % 4) := by omega
          have hdg := dig_get s i hlt
          have hc3i : (8 : Int) ≤ (c3 : Int) := by omega
          have ch := (HBX.out.cell (p := ⟨g3, i / 4, none⟩) q7).trans (HC.out (i / 4) (by omega))
          generalize s.list[i / 4]?.getD 0 = x at *
          have HDG := hid hdg
          obtain ⟨old, ho⟩ := DR_get s i i (by omega) hlt
          have cs := (cell_of_row wr _ i _ _ _ hx).trans ho
          have fs := frozen_of_row wr _ i _ _ hx
          clear hdg hx hbx ho
          go_wp2
          refine ⟨⟨i + 1, by omega, by go_num, HBX.out.setCell (by simp) _, by simpa [World.setCell] using hsx, ?_⟩, by simp [intOf]; omega⟩
          refine (heap_setCell_same _ _ _ _ _ _ HX.out).trans ?_
          rw [← DR_set s i hlt, HDG.out]
        · obtain rfl : i = 32 := by omega
          clear hx hbx
          have HI := hid (show (Tryd.prog.info? 35).map (·.size) = some (DR s 32).size by rw [DR_size s 32 (by omega)]; kernel_rfl)
          have HS := hid (DR_size s 32 (by omega))
          have R8 := hid ((HBX.out.block w.heap.size qw7).trans R7.out)
          go_wp2_with (first | (refine wpList_load_row rfl 35 (Operand.tmp 20) rfl w7.heap.size rfl 35 (DR s 32) (0,0) _ HX.out Tryd.underlying35 rfl HI.out ?_) | (refine wpList_store_row rfl 35 (Operand.tmp 2) (Operand.tmp 304) rfl w.heap.size (DR s 32) rfl rfl 35 _ R8.out HI.out (by rw [HS.out]; rfl) (ArrU8_one _) ?_))
          refine bodyPost_ret (results_cell_row rfl _ _ w.heap.size 35 (DR s 32) (0,0) _ rfl (setRow_heap _ _ _ _ _ _ R8.out) Tryd.underlying35 rfl HI.out) rfl ⟨?_, below_setRow (B7.out.trans (HBX.out.mono (by omega))) (by omega) _⟩
          rw [HSHA.out, DR_end]
end Go.Proofs.YtbmlkocpjboodaaDoor
