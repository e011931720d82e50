import Derived.Test.YtkajpcjmcpollaaDoorRef5
import Derived.WalkKit
import Derived.ProofKit
import Derived.BigQuiet
import Derived.Deep.QuietTactic
import Derived.WalkSpells
import Derived.WalkLawsBesides
import Derived.Lib.Hide
import Derived.Deep.MidRow
import Derived.Deep.RegionLaw
import Derived.BigRegion
import Derived.Laws.AppendOwnNone
import Derived.Deep.DeepMust
import Derived.Deep.AppendLies
import Derived.RegionTactic
import Derived.Deep.WholeRow
import Derived.BigFrame
import Derived.Deep.RegionWith
import Derived.Deep.RegionHeld3
import Derived.Maps.RangeWalk
import Derived.Laws.CopyOwn
import Derived.StillTailTactics
namespace Go.Proofs.YtkajpcjmcpollaaDoor
open Go.RowKit
def findBlock (n : Nat) : Code → Option Code
  | .loop c => findBlock n c
  | .seq a b => match findBlock n a with
    | some c => some c
    | none => findBlock n b
  | .block m c => if m = n then some c else findBlock n c
  | .scope c => findBlock n c
  | .cond _ a b => match findBlock n a with
    | some c => some c
    | none => findBlock n b
  | _ => none
theorem quiet_add {P : Program} {f : FuncId} {args : Array Value} {w : World} {a n : Nat} {v : Value}
    (h : Calls P f args (w.drewN (a + n)) fun e w' => e = .returned v ∧ ∃ m, w' = (w.drewN (a + n)).drewN m) :
    Calls P f args (w.drewN (a + n)) fun e w'' => e = .returned v ∧ ∃ m, w'' = w.drewN (a + m) :=
  h.mono fun _ _ ⟨he, m, hm⟩ => ⟨he, n + m, by rw [hm, World.drewN_drewN, Nat.add_assoc]⟩
theorem rnd_list (s : S8) (k w : Int) : (rnd s k w).list = [(s.h + Sig1 s.e + chI s.e s.f s.g + k + w + (Sig0 s.a + majI s.a s.b s.c)) % 4294967296, s.a, s.b, s.c, (s.d + (s.h + Sig1 s.e + chI s.e s.f s.g + k + w)) % 4294967296, s.e, s.f, s.g] := by
  simp only [rnd, S8.list, T1, T2]
  generalize s.h + Sig1 s.e + chI s.e s.f s.g + k + w = X
  generalize Sig0 s.a + majI s.a s.b s.c = Y
  have h1 : (X % 4294967296 + Y % 4294967296) % 4294967296 = (X + Y) % 4294967296 := by omega
  have h2 : (s.d + X % 4294967296) % 4294967296 = (s.d + X) % 4294967296 := by omega
  rw [h1, h2]
set_option maxRecDepth 1000000 in
set_option maxHeartbeats 4000000 in
theorem loop6 {u0 u1 u2 u3 u5 u6 u8 u9 u10 u11 u14 u15 u16 u17 u18 u19 u20 u21 u22 u23 u24 u25 u26 u27 u28 u29 u30 u31 u32 u33 u34 u35 u36 u37 u38 u39 u40 u41 u42 u43 u44 u45 u46 u47 u48 u49 u50 u51 u52 u53 u54 u55 u56 u57 u58 u59 u60 u61 u62 u63 u64 u65 u66 u67 u68 u69 u70 u71 u72 u73 u74 u75 u76 u77 u78 u79 u80 u81 u82 u83 u84 u85 u86 u87 u88 u89 u90 u91 u92 u93 u94 u95 u96 u97 u98 u99 u100 u101 u102 u103 u104 u105 u106 u107 u108 u109 u110 u111 u112 u113 u114 u115 u116 u117 u118 u119 u120 u121 u122 u123 u124 u125 u126 u127 u128 u129 u130 u131 u132 u133 u134 u135 u136 u137 u138 u139 u140 u141 u142 u143 u144 u145 u146 u147 u148 u149 u150 u151 u152 u153 u154 u155 u156 u157 u158 u159 u160 u161 u162 u163 u164 u165 u166 u167 u168 u169 u170 u171 u172 u173 u174 u175 u176 u177 u178 u179 u180 u181 u182 u183 u184 u185 u186 u187 u188 u189 u190 u191 u192 u193 u194 u195 u196 u197 u198 u199 u200 u201 u202 u203 u204 u205 u206 u207 u208 u209 u210 u211 u212 u213 u214 u215 u216 u217 u218 u219 u220 u221 u222 u223 u224 u225 u226 u227 u228 u229 u230 u231 u232 u233 u234 u235 u236 u237 u238 u239 u240 u241 u242 u243 u244 u245 u246 u247 u248 u249 u250 u251 u252 u253 u254 u255 u256 u257 u258 u259 u260 u261 u262 u263 u264 u265 u266 u267 u268 u269 u270 u271 u272 u273 u274 u275 u276 u277 u278 u279 u280 u281 u282 u283 u284 u285 u286 u287 u288 u289 u290 u291 u292 u293 u294 u295 u296 u297 u298 u299 u300 u301 u302 u303 u304 : Value} (Q : Exit → Act → World → Prop) (S : S8) (W : List Int) (g4 c4 G gv cv : Nat) (w8 w : World) (hc4 : 64 ≤ c4) (h4 : g4 < w8.heap.size) (hG : G < w8.heap.size) (hcv : 8 ≤ cv) (hgv : w8.heap.size ≤ gv) (hb : Below w8.heap.size w8 w)
    (f4 : ∀ i, i < 64 → w8.cell? ⟨g4, i, none⟩ = some (.int .u32 (Kt[i]?.getD 0))) (fW : ∀ i, i < 64 → w8.cell? ⟨G, i, none⟩ = some (.int .u32 (W[i]?.getD 0)))
    (fv : ∀ j, j < 8 → w.cell? ⟨gv, j, none⟩ = some (.int .u32 (S.list[j]?.getD 0)))
    (hexit : ∀ (x13 x14 x15 x16 x17 x18 x155 x156 x157 x158 x159 x160 x161 x162 x163 x164 x165 x166 x167 x168 x169 x170 x171 x172 x173 x174 x175 x176 x177 x178 x179 x180 x181 x182 x183 x184 x185 x186 x187 x188 x189 x190 x191 x192 x193 x194 x195 x196 x197 x198 x199 x200 x201 x202 x203 x204 x205 x206 x207 x208 x209 x210 x211 x212 x213 x214 x215 x216 x217 x218 x219 x220 x221 x222 x223 x224 x225 x226 x227 x228 x229 x230 x231 x232 x233 x234 x235 x236 x237 x238 x239 x240 x241 x242 x243 x244 x245 x246 x247 x248 x249 x250 x251 x252 x253 x254 x255 x256 x257 x258 x259 x260 x261 x262 x263 x264 x265 x266 x267 x268 x269 x270 x271 : Value) (gv' cv' : Nat) (w' : World), 8 ≤ cv' → w8.heap.size ≤ gv' → Below w8.heap.size w8 w' → (∀ j, j < 8 → w'.cell? ⟨gv', j, none⟩ = some (.int .u32 ((rnds S W 64).list[j]?.getD 0))) → Q (.exit 6) ⟨#[u0, u1, u2, u3, .slice (some ⟨g4, 0, none⟩) 64 c4, u5, u6, .slice (some ⟨G, 0, none⟩) 64 64, u8, u9, u10, u11, .slice (some ⟨gv', 0, none⟩) 8 cv', x13, x14, x15, x16, x17, x18, u19, u20, u21, u22, u23, u24, u25, u26, u27, u28, u29, u30, u31, u32, u33, u34, u35, u36, u37, u38, u39, u40, u41, u42, u43, u44, u45, u46, u47, u48, u49, u50, u51, u52, u53, u54, u55, u56, u57, u58, u59, u60, u61, u62, u63, u64, u65, u66, u67, u68, u69, u70, u71, u72, u73, u74, u75, u76, u77, u78, u79, u80, u81, u82, u83, u84, u85, u86, u87, u88, u89, u90, u91, u92, u93, u94, u95, u96, u97, u98, u99, u100, u101, u102, u103, u104, u105, u106, u107, u108, u109, u110, u111, u112, u113, u114, u115, u116, u117, u118, u119, u120, u121, u122, u123, u124, u125, u126, u127, u128, u129, u130, u131, u132, u133, u134, u135, u136, u137, u138, u139, u140, u141, u142, u143, u144, u145, u146, u147, u148, u149, u150, u151, u152, u153, u154, x155, x156, x157, x158, x159, x160, x161, x162, x163, x164, x165, x166, x167, x168, x169, x170, x171, x172, x173, x174, x175, x176, x177, x178, x179, x180, x181, x182, x183, x184, x185, x186, x187, x188, x189, x190, x191, x192, x193, x194, x195, x196, x197, x198, x199, x200, x201, x202, x203, x204, x205, x206, x207, x208, x209, x210, x211, x212, x213, x214, x215, x216, x217, x218, x219, x220, x221, x222, x223, x224, x225, x226, x227, x228, x229, x230, x231, x232, x233, x234, x235, x236, x237, x238, x239, x240, x241, x242, x243, x244, x245, x246, x247, x248, x249, x250, x251, x252, x253, x254, x255, x256, x257, x258, x259, x260, x261, x262, x263, x264, x265, x266, x267, x268, x269, x270, x271, u272, u273, u274, u275, u276, u277, u278, u279, u280, u281, u282, u283, u284, u285, u286, u287, u288, u289, u290, u291, u292, u293, u294, u295, u296, u297, u298, u299, u300, u301, u302, u303, u304], []⟩ w') :
    Code.wp Tryd.prog ((Tryd.f42.body.bind (findBlock 6)).getD .skip) Q ⟨#[u0, u1, u2, u3, .slice (some ⟨g4, 0, none⟩) 64 c4, u5, u6, .slice (some ⟨G, 0, none⟩) 64 64, u8, u9, u10, u11, .slice (some ⟨gv, 0, none⟩) 8 cv, .int .i64 0, u14, u15, u16, u17, u18, u19, u20, u21, u22, u23, u24, u25, u26, u27, u28, u29, u30, u31, u32, u33, u34, u35, u36, u37, u38, u39, u40, u41, u42, u43, u44, u45, u46, u47, u48, u49, u50, u51, u52, u53, u54, u55, u56, u57, u58, u59, u60, u61, u62, u63, u64, u65, u66, u67, u68, u69, u70, u71, u72, u73, u74, u75, u76, u77, u78, u79, u80, u81, u82, u83, u84, u85, u86, u87, u88, u89, u90, u91, u92, u93, u94, u95, u96, u97, u98, u99, u100, u101, u102, u103, u104, u105, u106, u107, u108, u109, u110, u111, u112, u113, u114, u115, u116, u117, u118, u119, u120, u121, u122, u123, u124, u125, u126, u127, u128, u129, u130, u131, u132, u133, u134, u135, u136, u137, u138, u139, u140, u141, u142, u143, u144, u145, u146, u147, u148, u149, u150, u151, u152, u153, u154, u155, u156, u157, u158, u159, u160, u161, u162, u163, u164, u165, u166, u167, u168, u169, u170, u171, u172, u173, u174, u175, u176, u177, u178, u179, u180, u181, u182, u183, u184, u185, u186, u187, u188, u189, u190, u191, u192, u193, u194, u195, u196, u197, u198, u199, u200, u201, u202, u203, u204, u205, u206, u207, u208, u209, u210, u211, u212, u213, u214, u215, u216, u217, u218, u219, u220, u221, u222, u223, u224, u225, u226, u227, u228, u229, u230, u231, u232, u233, u234, u235, u236, u237, u238, u239, u240, u241, u242, u243, u244, u245, u246, u247, u248, u249, u250, u251, u252, u253, u254, u255, u256, u257, u258, u259, u260, u261, u262, u263, u264, u265, u266, u267, u268, u269, u270, u271, u272, u273, u274, u275, u276, u277, u278, u279, u280, u281, u282, u283, u284, u285, u286, u287, u288, u289, u290, u291, u292, u293, u294, u295, u296, u297, u298, u299, u300, u301, u302, u303, u304], []⟩ w := by
  have HF4 := Lib.hid f4
  have HFW := Lib.hid fW
  have HFV := Lib.hid fv
  have HB := Lib.hid hb
  have HQ := Lib.hid hexit
  have hz := hb.size
  clear f4 fW fv hb hexit
  conv => arg 2; whnf
  dsimp only
  go_loopw [12, 13] (fun vv tv wx => ∃ (t gv cv : Nat), t ≤ 64 ∧ tv = .int .i64 t ∧ vv = .slice (some ⟨gv, 0, none⟩) 8 cv ∧ 8 ≤ cv ∧ w8.heap.size ≤ gv ∧ Below w8.heap.size w8 wx ∧ (∀ j, j < 8 → wx.cell? ⟨gv, j, none⟩ = some (.int .u32 ((rnds S W t).list[j]?.getD 0)))) (fun _ tv _ => 64 - (intOf tv).toNat)
  case atStart => exact ⟨0, gv, _, by omega, rfl, rfl, hcv, hgv, HB.out, HFV.out⟩
  case round =>
    clear HFV HB hz hcv hgv
    obtain ⟨t, gv, cv, ht, rfl, rfl, hcv8, hgv, hbx, hcl⟩ := hrel
    have HBX := Lib.hid hbx
    have HCL := Lib.hid hcl
    have hzr := hbx.size
    clear hbx hcl
    by_cases hlt : t < 64
    · have hti : (t : Int) < 64 := by omega
      have hcvi : (8 : Int) ≤ (cv : Int) := by omega
      have hc4i : (64 : Int) ≤ (c4 : Int) := by omega
      generalize hs4 : rnds S W t = s at *
      have HS4 := Lib.hid hs4
      have ck := (HBX.out.cell (p := ⟨g4, t, none⟩) h4).trans (HF4.out t hlt)
      have cw := (HBX.out.cell (p := ⟨G, t, none⟩) hG).trans (HFW.out t hlt)
      generalize hkk : Kt[t]?.getD 0 = kk at *
      generalize hww : W[t]?.getD 0 = ww at *
      have HKK := Lib.hid hkk
      have HWW := Lib.hid hww
      have c0 : wr.cell? ⟨gv, 0, none⟩ = some (.int .u32 s.a) := HCL.out 0 (by omega)
      have c1 : wr.cell? ⟨gv, 1, none⟩ = some (.int .u32 s.b) := HCL.out 1 (by omega)
      have c2 : wr.cell? ⟨gv, 2, none⟩ = some (.int .u32 s.c) := HCL.out 2 (by omega)
      have c3 : wr.cell? ⟨gv, 3, none⟩ = some (.int .u32 s.d) := HCL.out 3 (by omega)
      have c4 : wr.cell? ⟨gv, 4, none⟩ = some (.int .u32 s.e) := HCL.out 4 (by omega)
      have c5 : wr.cell? ⟨gv, 5, none⟩ = some (.int .u32 s.f) := HCL.out 5 (by omega)
      have c6 : wr.cell? ⟨gv, 6, none⟩ = some (.int .u32 s.g) := HCL.out 6 (by omega)
      have c7 : wr.cell? ⟨gv, 7, none⟩ = some (.int .u32 s.h) := HCL.out 7 (by omega)
      clear hs4 hkk hww HCL
      go_wp2
      go_quiet ((go_at_call 50; first | exact Calls.quiet_of ((rot_any _ _ _ (by omega) (by omega)).mono fun _ _ ⟨h, he⟩ => ⟨he, h⟩) | exact quiet_add ((rot_any _ _ _ (by omega) (by omega)).mono fun _ _ ⟨h, he⟩ => ⟨he, h⟩)))
      go_wp2
      go_quiet (fail)
      go_wp2
      go_quiet (fail)
      go_wp2
      go_quiet ((go_at_call 50; first | exact Calls.quiet_of ((rot_any _ _ _ (by omega) (by omega)).mono fun _ _ ⟨h, he⟩ => ⟨he, h⟩) | exact quiet_add ((rot_any _ _ _ (by omega) (by omega)).mono fun _ _ ⟨h, he⟩ => ⟨he, h⟩)))
      go_wp2
      go_quiet (fail)
      go_wp2
      refine (fun (h : ∀ wz, wz = _ → Code.wp Tryd.prog _ _ _ wz) => h _ rfl) ?_
      intro wz hwz
      have d0 : wz.cell? ⟨gv, 0, none⟩ = some (.int .u32 s.a) := by rw [hwz]; exact c0
      have d1 : wz.cell? ⟨gv, 1, none⟩ = some (.int .u32 s.b) := by rw [hwz]; exact c1
      have d2 : wz.cell? ⟨gv, 2, none⟩ = some (.int .u32 s.c) := by rw [hwz]; exact c2
      have d3 : wz.cell? ⟨gv, 3, none⟩ = some (.int .u32 s.d) := by rw [hwz]; exact c3
      have d4 : wz.cell? ⟨gv, 4, none⟩ = some (.int .u32 s.e) := by rw [hwz]; exact c4
      have d5 : wz.cell? ⟨gv, 5, none⟩ = some (.int .u32 s.f) := by rw [hwz]; exact c5
      have d6 : wz.cell? ⟨gv, 6, none⟩ = some (.int .u32 s.g) := by rw [hwz]; exact c6
      have HZ := Lib.hid (show Below w8.heap.size w8 wz by rw [hwz]; exact ⟨HBX.out.os, HBX.out.tape, HBX.out.output, HBX.out.size, HBX.out.block⟩)
      clear hwz c0 c1 c2 c3 c4 c5 c6 c7 ck cw
      go_still_tail 26, (by kernel_rfl)
      change wpList _ _ _ _ _ wz.drew
      have hzz := HZ.out.size
      clear d0 d1 d2 d3 d4 d5 d6
      go_wp2
      refine ⟨⟨t + 1, wz.heap.size, 8, by omega, by go_num, rfl, by omega, hzz, (HZ.out.alloc hzz _).drew, fun j hj => ?_⟩, by simp [intOf]; omega⟩
      refine (cell_of_row (wz.alloc _) wz.heap.size j _ _ _ (heap_alloc_new wz _)).trans ?_
      rw [show rnds S W (t + 1) = rnd s kk ww by rw [rnds, HS4.out, HKK.out, HWW.out], rnd_list]
      match j, hj with
      | 0, _ => rfl
      | 1, _ => rfl
      | 2, _ => rfl
      | 3, _ => rfl
      | 4, _ => rfl
      | 5, _ => rfl
      | 6, _ => rfl
      | 7, _ => rfl
    · obtain rfl : t = 64 := by omega
      go_wp2
      exact HQ.out _ _ _ _ _ _ _ _ _ _ _ _ _ _ _ _ _ _ _ _ _ _ _ _ _ _ _ _ _ _ _ _ _ _ _ _ _ _ _ _ _ _ _ _ _ _ _ _ _ _ _ _ _ _ _ _ _ _ _ _ _ _ _ _ _ _ _ _ _ _ _ _ _ _ _ _ _ _ _ _ _ _ _ _ _ _ _ _ _ _ _ _ _ _ _ _ _ _ _ _ _ _ _ _ _ _ _ _ _ _ _ _ _ _ _ _ _ _ _ _ _ _ _ _ _ _ hcv8 hgv HBX.out HCL.out
end Go.Proofs.YtkajpcjmcpollaaDoor
