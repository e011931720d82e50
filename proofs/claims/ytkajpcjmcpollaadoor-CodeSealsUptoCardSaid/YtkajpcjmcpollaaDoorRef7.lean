import Derived.Test.YtkajpcjmcpollaaDoorRef6
import Derived.WalkKit
import Derived.ProofKit
import Derived.BigQuiet
import Derived.Deep.QuietTactic
import Derived.WalkSpells
import Derived.WalkLawsBesides
import Derived.Lib.Hide
import Derived.Deep.MidRow
import Derived.Deep.RegionLaw
import Derived.BigRegion
import Derived.Laws.AppendOwnNone
import Derived.Deep.DeepMust
import Derived.Deep.AppendLies
import Derived.RegionTactic
import Derived.Deep.WholeRow
import Derived.BigFrame
import Derived.Deep.RegionWith
import Derived.Deep.RegionHeld3
import Derived.Maps.RangeWalk
import Derived.Laws.CopyOwn
import Derived.StillTailTactics
namespace Go.Proofs.YtkajpcjmcpollaaDoor
open Go.RowKit
set_option maxRecDepth 1000000 in
set_option maxHeartbeats 4000000 in
theorem loop4 {u0 u1 u2 u3 u4 u9 u10 u11 u12 u13 u14 u15 u16 u17 u18 u19 u20 u21 u22 u23 u24 u25 u26 u27 u28 u29 u30 u31 u32 u33 u34 u35 u36 u37 u38 u39 u40 u41 u42 u43 u44 u45 u46 u47 u48 u49 u50 u51 u52 u53 u54 u55 u56 u57 u58 u59 u60 u61 u62 u63 u64 u65 u66 u67 u68 u69 u70 u71 u72 u73 u74 u75 u76 u77 u78 u79 u80 u81 u82 u83 u84 u85 u86 u87 u88 u89 u90 u91 u92 u93 u94 u95 u96 u97 u98 u99 u100 u101 u102 u103 u104 u105 u106 u107 u108 u109 u110 u111 u112 u113 u114 u115 u116 u117 u118 u119 u120 u121 u122 u123 u124 u125 u126 u127 u128 u129 u130 u131 u132 u133 u134 u135 u136 u137 u138 u139 u140 u141 u142 u143 u144 u145 u146 u147 u148 u149 u150 u151 u152 u153 u154 u155 u156 u157 u158 u159 u160 u161 u162 u163 u164 u165 u166 u167 u168 u169 u170 u171 u172 u173 u174 u175 u176 u177 u178 u179 u180 u181 u182 u183 u184 u185 u186 u187 u188 u189 u190 u191 u192 u193 u194 u195 u196 u197 u198 u199 u200 u201 u202 u203 u204 u205 u206 u207 u208 u209 u210 u211 u212 u213 u214 u215 u216 u217 u218 u219 u220 u221 u222 u223 u224 u225 u226 u227 u228 u229 u230 u231 u232 u233 u234 u235 u236 u237 u238 u239 u240 u241 u242 u243 u244 u245 u246 u247 u248 u249 u250 u251 u252 u253 u254 u255 u256 u257 u258 u259 u260 u261 u262 u263 u264 u265 u266 u267 u268 u269 u270 u271 u272 u273 u274 u275 u276 u277 u278 u279 u280 u281 u282 u283 u284 u285 u286 u287 u288 u289 u290 u291 u292 u293 u294 u295 u296 u297 u298 u299 u300 u301 u302 u303 u304 : Value} (Q : Exit → Act → World → Prop) (bs : List Int) (T nb g6 c6 G : Nat) (w : World) (hlt : T < nb) (qn : 64 * nb ≤ 1099511627776) (hc6 : 64 * nb ≤ c6) (h6 : g6 < G) (hsx0 : G < w.heap.size)
    (hx0 : w.heap[G]? = some (.cells (SW bs 0) 77 (0, 0))) (hf : ∀ i, i < 64 → w.cell? ⟨g6, 64 * T + i, none⟩ = some (.int .u8 (bs[i]?.getD 0)))
    (hexit : ∀ (x8 x9 x10 x11 x52 x53 x54 x55 x56 x57 x58 x59 x60 x61 x62 x63 x64 x65 x66 x67 x68 x69 x70 x71 x72 x73 x74 x75 x76 x77 x78 x79 x80 x81 x82 x83 x84 x85 x86 x87 x88 x89 x90 x91 x92 x93 x94 x95 x96 x97 x98 x99 x100 x101 x102 x103 x104 x105 x106 x107 x108 x109 x110 x111 x112 x113 x114 x115 x116 x117 x118 x119 x120 x121 x122 x123 x124 x125 x126 x127 x128 x129 x130 x131 x132 x133 x134 x135 x136 x137 x138 x139 x140 x141 x142 x143 x144 x145 x146 x147 x148 x149 x150 x151 : Value) (w' : World), Below G w w' → G < w'.heap.size → w'.heap[G]? = some (.cells (SW bs 64) 77 (0, 0)) → Q (.exit 4) ⟨#[u0, u1, u2, u3, u4, .slice (some ⟨g6, 0, none⟩) (64 * nb) c6, .int .i64 (64 * (T : Int)), .slice (some ⟨G, 0, none⟩) 64 64, x8, x9, x10, x11, u12, u13, u14, u15, u16, u17, u18, u19, u20, u21, u22, u23, u24, u25, u26, u27, u28, u29, u30, u31, u32, u33, u34, u35, u36, u37, u38, u39, u40, u41, u42, u43, u44, u45, u46, u47, u48, u49, u50, u51, x52, x53, x54, x55, x56, x57, x58, x59, x60, x61, x62, x63, x64, x65, x66, x67, x68, x69, x70, x71, x72, x73, x74, x75, x76, x77, x78, x79, x80, x81, x82, x83, x84, x85, x86, x87, x88, x89, x90, x91, x92, x93, x94, x95, x96, x97, x98, x99, x100, x101, x102, x103, x104, x105, x106, x107, x108, x109, x110, x111, x112, x113, x114, x115, x116, x117, x118, x119, x120, x121, x122, x123, x124, x125, x126, x127, x128, x129, x130, x131, x132, x133, x134, x135, x136, x137, x138, x139, x140, x141, x142, x143, x144, x145, x146, x147, x148, x149, x150, x151, u152, u153, u154, u155, u156, u157, u158, u159, u160, u161, u162, u163, u164, u165, u166, u167, u168, u169, u170, u171, u172, u173, u174, u175, u176, u177, u178, u179, u180, u181, u182, u183, u184, u185, u186, u187, u188, u189, u190, u191, u192, u193, u194, u195, u196, u197, u198, u199, u200, u201, u202, u203, u204, u205, u206, u207, u208, u209, u210, u211, u212, u213, u214, u215, u216, u217, u218, u219, u220, u221, u222, u223, u224, u225, u226, u227, u228, u229, u230, u231, u232, u233, u234, u235, u236, u237, u238, u239, u240, u241, u242, u243, u244, u245, u246, u247, u248, u249, u250, u251, u252, u253, u254, u255, u256, u257, u258, u259, u260, u261, u262, u263, u264, u265, u266, u267, u268, u269, u270, u271, u272, u273, u274, u275, u276, u277, u278, u279, u280, u281, u282, u283, u284, u285, u286, u287, u288, u289, u290, u291, u292, u293, u294, u295, u296, u297, u298, u299, u300, u301, u302, u303, u304], []⟩ w') :
    Code.wp Tryd.prog ((Tryd.f42.body.bind (findBlock 4)).getD .skip) Q ⟨#[u0, u1, u2, u3, u4, .slice (some ⟨g6, 0, none⟩) (64 * nb) c6, .int .i64 (64 * (T : Int)), .slice (some ⟨G, 0, none⟩) 64 64, .int .i64 0, u9, u10, u11, u12, u13, u14, u15, u16, u17, u18, u19, u20, u21, u22, u23, u24, u25, u26, u27, u28, u29, u30, u31, u32, u33, u34, u35, u36, u37, u38, u39, u40, u41, u42, u43, u44, u45, u46, u47, u48, u49, u50, u51, u52, u53, u54, u55, u56, u57, u58, u59, u60, u61, u62, u63, u64, u65, u66, u67, u68, u69, u70, u71, u72, u73, u74, u75, u76, u77, u78, u79, u80, u81, u82, u83, u84, u85, u86, u87, u88, u89, u90, u91, u92, u93, u94, u95, u96, u97, u98, u99, u100, u101, u102, u103, u104, u105, u106, u107, u108, u109, u110, u111, u112, u113, u114, u115, u116, u117, u118, u119, u120, u121, u122, u123, u124, u125, u126, u127, u128, u129, u130, u131, u132, u133, u134, u135, u136, u137, u138, u139, u140, u141, u142, u143, u144, u145, u146, u147, u148, u149, u150, u151, u152, u153, u154, u155, u156, u157, u158, u159, u160, u161, u162, u163, u164, u165, u166, u167, u168, u169, u170, u171, u172, u173, u174, u175, u176, u177, u178, u179, u180, u181, u182, u183, u184, u185, u186, u187, u188, u189, u190, u191, u192, u193, u194, u195, u196, u197, u198, u199, u200, u201, u202, u203, u204, u205, u206, u207, u208, u209, u210, u211, u212, u213, u214, u215, u216, u217, u218, u219, u220, u221, u222, u223, u224, u225, u226, u227, u228, u229, u230, u231, u232, u233, u234, u235, u236, u237, u238, u239, u240, u241, u242, u243, u244, u245, u246, u247, u248, u249, u250, u251, u252, u253, u254, u255, u256, u257, u258, u259, u260, u261, u262, u263, u264, u265, u266, u267, u268, u269, u270, u271, u272, u273, u274, u275, u276, u277, u278, u279, u280, u281, u282, u283, u284, u285, u286, u287, u288, u289, u290, u291, u292, u293, u294, u295, u296, u297, u298, u299, u300, u301, u302, u303, u304], []⟩ w := by
  have HF := Lib.hid hf
  have HX0 := Lib.hid hx0
  have HQ := Lib.hid hexit
  clear hf hx0 hexit
  conv => arg 2; whnf
  dsimp only
  go_loopw [8] (fun tv wx => ∃ t : Nat, t ≤ 64 ∧ tv = .int .i64 t ∧ Below G w wx ∧ G < wx.heap.size ∧ wx.heap[G]? = some (.cells (SW bs t) 77 (0, 0))) (fun tv _ => 64 - (intOf tv).toNat)
  case atStart => exact ⟨0, by omega, rfl, Below.refl _ _, hsx0, HX0.out⟩
  case round =>
    clear HX0 hsx0
    obtain ⟨t, ht, rfl, hbx, hsx, hx⟩ := hrel
    by_cases hlt2 : t < 64
    · have HX := Lib.hid hx
      have HBX := Lib.hid hbx
      have hti : (t : Int) < 64 := by omega
      by_cases h16 : t < 16
      · have hti16 : (t : Int) < 16 := by omega
        have e1 : IntKind.i64.wrap (4 * (t : Int)) = 4 * (t : Int) := IntWalk.i64_in _ (by omega)
        have e2 : IntKind.i64.wrap (64 * (T : Int) + 4 * (t : Int)) = 64 * (T : Int) + 4 * (t : Int) := IntWalk.i64_in _ (by omega)
        have e3 : IntKind.i64.wrap (64 * (T : Int) + 4 * (t : Int) + 4) = 64 * (T : Int) + 4 * (t : Int) + 4 := IntWalk.i64_in _ (by omega)
        have n1 : 0 ≤ 64 * (T : Int) + 4 * (t : Int) := by omega
        have n2 : 64 * (T : Int) + 4 * (t : Int) ≤ 64 * (T : Int) + 4 * (t : Int) + 4 := by omega
        have n3 : 64 * (T : Int) + 4 * (t : Int) + 4 ≤ (c6 : Int) := by omega
        have t1 : (64 * (T : Int) + 4 * (t : Int)).toNat = 64 * T + 4 * t := by omega
        have t2 : (64 * (T : Int) + 4 * (t : Int) + 4).toNat = 64 * T + 4 * t + 4 := by omega
        have t3 : 64 * T + 4 * t + 4 - (64 * T + 4 * t) = 4 := by omega
        have t4 : ¬ (c6 = 64 * T + 4 * t) := by omega
        have hd := fun j (hj : j < 4) => (HBX.out.cell (p := ⟨g6, 64 * T + (4 * t + j), none⟩) h6).trans (HF.out (4 * t + j) (by omega))
        simp only [← Nat.add_assoc] at hd
        have d0 := hd 0 (by omega)
        simp only [Nat.add_zero] at d0
        have d1 := hd 1 (by omega)
        have d2 := hd 2 (by omega)
        have d3 := hd 3 (by omega)
        obtain ⟨old, ho⟩ := SW_get bs t (by omega) t (by omega)
        have cs := (cell_of_row wr _ t _ _ _ hx).trans ho
        have fs := frozen_of_row wr _ t _ _ hx
        clear hd hx ho hbx
        go_wp2
        clear e1 e2 e3 n1 n2 n3 t1 t2 t3 t4
        go_still_tail 25, (by kernel_rfl)
        change wpList _ _ _ _ _ wr.drew
        clear d0 d1 d2 d3
        go_wp2
        refine ⟨⟨t + 1, by omega, by go_num, (HBX.out.drew.setCell (by simp) _), by simpa [World.setCell] using hsx, ?_⟩, by simp [intOf]; omega⟩
        refine (heap_setCell_same _ _ _ _ _ _ HX.out).trans ?_
        rw [SW_set bs t (by omega) _ (by rw [if_pos h16]; rfl)]
      · have hti16 : ¬ (t : Int) < 16 := by omega
        have w15 : IntKind.i64.wrap ((t:Int) - 15) = (t:Int) - 15 := IntWalk.i64_in _ (by omega)
        have w2 : IntKind.i64.wrap ((t:Int) - 2) = (t:Int) - 2 := IntWalk.i64_in _ (by omega)
        have w7 : IntKind.i64.wrap ((t:Int) - 7) = (t:Int) - 7 := IntWalk.i64_in _ (by omega)
        have w16 : IntKind.i64.wrap ((t:Int) - 16) = (t:Int) - 16 := IntWalk.i64_in _ (by omega)
        have n15 : 0 ≤ (t:Int) - 15 := by omega
        have n2 : 0 ≤ (t:Int) - 2 := by omega
        have n7 : 0 ≤ (t:Int) - 7 := by omega
        have n16 : 0 ≤ (t:Int) - 16 := by omega
        have b15 : (t:Int) - 15 < 64 := by omega
        have b2 : (t:Int) - 2 < 64 := by omega
        have b7 : (t:Int) - 7 < 64 := by omega
        have b16 : (t:Int) - 16 < 64 := by omega
        have m2 : 2 ≤ (t:Int) := by omega
        have m7 : 7 ≤ (t:Int) := by omega
        have m15 : 15 ≤ (t:Int) := by omega
        have m16 : 16 ≤ (t:Int) := by omega
        have t15 : ((t:Int) - 15).toNat = t - 15 := by omega
        have t2 : ((t:Int) - 2).toNat = t - 2 := by omega
        have t7 : ((t:Int) - 7).toNat = t - 7 := by omega
        have t16 : ((t:Int) - 16).toNat = t - 16 := by omega
        have c15 := (cell_of_row wr _ (t-15) _ _ _ hx).trans (SW_at bs t (t-15) (by omega))
        have c2 := (cell_of_row wr _ (t-2) _ _ _ hx).trans (SW_at bs t (t-2) (by omega))
        have c7 := (cell_of_row wr _ (t-7) _ _ _ hx).trans (SW_at bs t (t-7) (by omega))
        have c16 := (cell_of_row wr _ (t-16) _ _ _ hx).trans (SW_at bs t (t-16) (by omega))
        obtain ⟨old, ho⟩ := SW_get bs t (by omega) t (by omega)
        have cs := (cell_of_row wr _ t _ _ _ hx).trans ho
        have fs := frozen_of_row wr _ t _ _ hx
        generalize hL : sched bs t = L at c15 c2 c7 c16
        have HL := Lib.hid hL
        clear hx ho hbx hL
        go_wp2
        go_quiet ((go_at_call 50; exact Calls.quiet_of ((rot_any _ _ _ (by omega) (by omega)).mono fun _ _ ⟨h, he⟩ => ⟨he, h⟩)))
        obtain ⟨wq, hwq⟩ : ∃ x, x = wr.drewN nq := ⟨_, rfl⟩
        rw [← hwq]
        have d2 : wq.cell? ⟨G, t - 2, none⟩ = some (.int .u32 (L[t-2]?.getD 0)) := by rw [hwq]; exact c2
        have d7 : wq.cell? ⟨G, t - 7, none⟩ = some (.int .u32 (L[t-7]?.getD 0)) := by rw [hwq]; exact c7
        have d16 : wq.cell? ⟨G, t - 16, none⟩ = some (.int .u32 (L[t-16]?.getD 0)) := by rw [hwq]; exact c16
        have ds : wq.cell? ⟨G, t, none⟩ = some (.int .u32 old) := by rw [hwq]; exact cs
        have dfs : wq.frozen? ⟨G, t, none⟩ = false := by rw [hwq]; exact fs
        have HH := Lib.hid (show wq.heap = wr.heap by rw [hwq]; rfl)
        have HBQ := Lib.hid (show Below G _ wq by rw [hwq]; exact below_drewN HBX.out nq)
        clear hwq c15 c2 c7 c16 cs fs
        go_wp2
        go_quiet ((go_at_call 50; exact Calls.quiet_of ((rot_any _ _ _ (by omega) (by omega)).mono fun _ _ ⟨h, he⟩ => ⟨he, h⟩)))
        obtain ⟨wp, hwp⟩ : ∃ x, x = wq.drewN nq := ⟨_, rfl⟩
        rw [← hwp]
        have f7 : wp.cell? ⟨G, t - 7, none⟩ = some (.int .u32 (L[t-7]?.getD 0)) := by rw [hwp]; exact d7
        have f16 : wp.cell? ⟨G, t - 16, none⟩ = some (.int .u32 (L[t-16]?.getD 0)) := by rw [hwp]; exact d16
        have fs : wp.cell? ⟨G, t, none⟩ = some (.int .u32 old) := by rw [hwp]; exact ds
        have ffs : wp.frozen? ⟨G, t, none⟩ = false := by rw [hwp]; exact dfs
        have HH2 := Lib.hid (show wp.heap = wr.heap by rw [hwp]; exact HH.out)
        have HBP := Lib.hid (show Below G _ wp by rw [hwp]; exact below_drewN HBQ.out nq)
        clear hwp d2 d7 d16 ds dfs HH HBQ
        go_wp2
        go_still_tail 18, (by kernel_rfl)
        change wpList _ _ _ _ _ wp.drew
        clear w15 w2 w7 w16 n15 n2 n7 n16 b15 b2 b7 b16 m2 m7 m15 m16 t15 t2 t7 t16 f7 f16
        go_wp2
        refine ⟨⟨t + 1, by omega, by go_num, (HBP.out.drew.setCell (by simp) _), by simpa [World.setCell, HH2.out] using hsx, ?_⟩, by simp [intOf]; omega⟩
        refine (heap_setCell_same _ _ _ _ _ _ ((congrArg (fun h => h[G]?) HH2.out).trans HX.out)).trans ?_
        rw [SW_set bs t (by omega) _ (by rw [if_neg h16, HL.out]; rfl)]
    · obtain rfl : t = 64 := by omega
      have HX := Lib.hid hx
      have HBX := Lib.hid hbx
      clear hx hbx
      go_wp2
      exact HQ.out _ _ _ _ _ _ _ _ _ _ _ _ _ _ _ _ _ _ _ _ _ _ _ _ _ _ _ _ _ _ _ _ _ _ _ _ _ _ _ _ _ _ _ _ _ _ _ _ _ _ _ _ _ _ _ _ _ _ _ _ _ _ _ _ _ _ _ _ _ _ _ _ _ _ _ _ _ _ _ _ _ _ _ _ _ _ _ _ _ _ _ _ _ _ _ _ _ _ _ _ _ _ _ _ _ HBX.out hsx HX.out
end Go.Proofs.YtkajpcjmcpollaaDoor
