import Derived.Test.YtbfjklpoheooaaaGreatDoorJ01
import Derived.Test.YtbfjklpoheooaaaGreatDoorJ27
import Derived.Test.YtbfjklpoheooaaaGreatDoorJ50
set_option linter.unusedSimpArgs false
set_option linter.unusedVariables false
namespace Go.Proofs.YtbfjklpoheooaaaGreatDoor
set_option maxRecDepth 100000
namespace Vl
open Go.RowKit
open Tw (Tb tcell tval ccell)
set_option maxHeartbeats 8000000 in
theorem op_go (code : Code) (hcode : code = cL (cR (cR (cR (cR (cB (cL (cR (cB (cB (cR (cL (cR (cR (cR (cR (cR (cR (cR (cR (cR (cR (Tryz.f3.body.getD .skip))))))))))))))))))))))) (w0 wx : World) (N db cb Rb rd rc b1 b2 : Nat) (s : ByteArray) (n wh : Int) (ag : Bool) (a b : Value)
    (HDN : Hid (Done w0 wx N db cb Rb rd rc b1 b2 s (kbOf s) (ktOf s) n wh a b)) (HAG : Hid (again wh = ag)) (HT : Hid (Sm.Tab w0)) (HRB : Hid (RBase Rb s (kbOf s) (ktOf s))) (HE : Hid (Et w0)) (hn : n < 1000000) (h16 : s.size = 16)
    (K : Act → World → Prop) (Q' : Exit → Act → World → Prop) (t1 t2 t3 t4 t11 t13 t14 t15 t16 t17 t19 t20 t21 t22 t23 t24 t25 t26 t27 t28 t29 t30 t31 t32 t33 t34 t35 t36 t37 t38 t39 t40 t41 t42 t43 t44 t45 t46 t47 t48 t49 t50 t51 t52 t53 t54 t55 t56 t57 t58 t59 t60 t61 t62 t63 t64 t65 t66 t67 t68 t69 t70 t71 t72 t73 t74 t75 t76 t77 t78 t79 t80 t81 t82 t83 t84 t85 t86 t87 t88 t89 t90 t91 t92 t93 t94 t95 t96 t97 t98 t99 t100 t101 t102 t103 t104 t105 t106 t107 t108 t109 t110 t111 t112 t113 t114 t115 t116 t117 t118 t119 t120 t121 t122 t123 t124 t125 t126 t127 t128 t129 t130 t131 t132 t133 t134 t135 t136 t137 t138 t139 t140 t141 t142 t143 t144 t145 t146 t147 t148 t149 t150 t151 t152 t153 t154 t155 t156 t157 t158 t159 t160 t161 t162 t163 t164 t165 t166 t167 t168 t169 t170 t171 t172 t173 t174 t175 t176 t177 t178 t179 t180 t181 t182 t183 t184 t185 t186 t187 t188 t189 t190 t191 t192 t193 t194 t195 t196 t197 t198 t199 t200 t201 t202 t203 t204 t205 t206 t207 t208 t209 t210 t211 t212 t213 t214 t215 t216 t217 t218 t219 t220 t221 t222 t223 t224 t225 t226 t227 t228 t229 t230 t231 t232 t233 t234 t235 t236 t237 : Value)
    (HKK : Hid (∀ (wc : World) (z10 z11 z12 z13 z192 z193 z194 z195 z196 z197 z198 z199 z200 z201 z202 z203 z204 z205 z206 z207 z208 z209 z210 z211 z212 z213 z214 z215 z216 : Value), St w0 wc N db cb Rb rd rc s (kbOf s) (ktOf s) (n + 1) z10 z12 → Boxes wc N db cb rd rc b1 b2 → K ⟨#[.string s, t1, t2, t3, t4, .pointer (some ⟨Rb, 0, none⟩), .pointer (some ⟨rd, 0, none⟩), .pointer (some ⟨db, 0, none⟩), .pointer (some ⟨cb, 0, none⟩), .pointer (some ⟨rc, 0, none⟩), z10, z11, z12, z13, t14, t15, t16, t17, .bool ag, t19, t20, t21, t22, t23, t24, t25, t26, t27, t28, t29, t30, t31, t32, t33, t34, t35, t36, t37, t38, t39, t40, t41, t42, t43, t44, t45, t46, t47, t48, t49, t50, t51, t52, t53, t54, t55, t56, t57, t58, t59, t60, t61, t62, t63, t64, t65, t66, t67, t68, t69, t70, t71, t72, t73, t74, t75, t76, t77, t78, t79, t80, t81, t82, t83, t84, t85, t86, t87, t88, t89, t90, t91, t92, t93, t94, t95, t96, t97, t98, t99, t100, t101, t102, t103, t104, t105, t106, t107, t108, t109, t110, t111, t112, t113, t114, t115, t116, t117, t118, t119, t120, t121, t122, t123, t124, t125, t126, t127, t128, t129, t130, t131, t132, t133, t134, t135, t136, t137, t138, t139, t140, t141, t142, t143, t144, t145, t146, t147, t148, t149, t150, t151, t152, t153, t154, t155, t156, t157, t158, t159, t160, t161, t162, t163, t164, t165, t166, t167, t168, t169, t170, t171, t172, t173, t174, t175, t176, t177, t178, t179, t180, t181, t182, t183, t184, t185, t186, t187, t188, t189, t190, t191, z192, z193, z194, z195, z196, z197, z198, z199, z200, z201, z202, z203, z204, z205, z206, z207, z208, z209, z210, z211, z212, z213, z214, z215, z216, t217, t218, t219, t220, t221, t222, t223, t224, t225, t226, t227, t228, t229, t230, t231, t232, t233, t234, t235, t236, t237], []⟩ wc)) : Code.wp Tryz.prog code (Exit.then K Q') ⟨#[.string s, t1, t2, t3, t4, .pointer (some ⟨Rb, 0, none⟩), .pointer (some ⟨rd, 0, none⟩), .pointer (some ⟨db, 0, none⟩), .pointer (some ⟨cb, 0, none⟩), .pointer (some ⟨rc, 0, none⟩), a, t11, b, t13, t14, t15, t16, t17, .bool ag, t19, t20, t21, t22, t23, t24, t25, t26, t27, t28, t29, t30, t31, t32, t33, t34, t35, t36, t37, t38, t39, t40, t41, t42, t43, t44, t45, t46, t47, t48, t49, t50, t51, t52, t53, t54, t55, t56, t57, t58, t59, t60, t61, t62, t63, t64, t65, t66, t67, t68, t69, t70, t71, t72, t73, t74, t75, t76, t77, t78, t79, t80, t81, t82, t83, t84, t85, t86, t87, t88, t89, t90, t91, t92, t93, t94, t95, t96, t97, t98, t99, t100, t101, t102, t103, t104, t105, t106, t107, t108, t109, t110, t111, t112, t113, t114, t115, t116, t117, t118, t119, t120, t121, t122, t123, t124, t125, t126, t127, t128, t129, t130, t131, t132, t133, t134, t135, t136, t137, t138, t139, t140, t141, t142, t143, t144, t145, t146, t147, t148, t149, t150, t151, t152, t153, t154, t155, t156, t157, t158, t159, t160, t161, t162, t163, t164, t165, t166, t167, t168, t169, t170, t171, t172, t173, t174, t175, t176, t177, t178, t179, t180, t181, t182, t183, t184, t185, t186, t187, t188, t189, t190, t191, t192, t193, t194, t195, t196, t197, t198, t199, t200, t201, t202, t203, t204, t205, t206, t207, t208, t209, t210, t211, t212, t213, t214, t215, t216, t217, t218, t219, t220, t221, t222, t223, t224, t225, t226, t227, t228, t229, t230, t231, t232, t233, t234, t235, t236, t237], []⟩ wx := by
  rw [hcode]
  clear hcode
  dsimp only [Tryz.f3, cL, cR, cB, Option.getD]
  cases ag with
  | false =>
    have HX : Hid (St w0 wx N db cb Rb rd rc s (kbOf s) (ktOf s) (n + 1) a b) := HDN.out.no HAG.out
    have HBX : Hid (Boxes wx N db cb rd rc b1 b2) := HDN.out.box
    go_wp2_with fail
    exact HKK.out _ _ _ _ _ _ _ _ _ _ _ _ _ _ _ _ _ _ _ _ _ _ _ _ _ _ _ _ _ _ HX.out HBX.out
  | true =>
    obtain ⟨D, c, hd, hws, hc0, hcn⟩ := HDN.out.yes HAG.out
    have HD : Hid (BD w0 wx N db cb Rb rd rc D D c) := hd
    have HBX : Hid (Boxes wx N db cb rd rc b1 b2) := HDN.out.box
    clear hd
    go_wp2_with fail
    refine (openR HRB.out h16 (c := c) ⟨by omega, by omega⟩ (D := D) hws HD.out).mono ?_
    rintro e w6 ⟨rv, r, S', he, hm6, hk6⟩
    have HM6 : Hid (OMid w0 w6 N db cb rv Rb rd rc s D c r S') := hm6
    have HK6 : Hid (Keeps wx w6 db cb rd rc) := hk6
    clear hm6 hk6
    by_cases hr : r = 0
    · subst hr
      have he' : e = .returned (.tuple #[.pointer (some ⟨rv, 0, none⟩), .int .i64 0]) := by
        rcases he with ⟨_, h⟩ | ⟨h, _⟩
        · exact h
        · exact absurd rfl h
      subst he'
      clear he
      go_wp2_with fail
      refine (openP HT.out h16 (by omega) HM6.out).mono ?_
      rintro e w7 ⟨a', b', hab, rfl, hst, hk7⟩
      obtain ⟨rfl, vb, rfl⟩ : a' = .pointer (some ⟨rv, 0, none⟩) ∧ ∃ vb, b' = .pointer (some ⟨vb, 0, none⟩) := by
        rcases hab with ⟨_, h⟩ | ⟨h, _⟩
        · exact h
        · exact absurd rfl h
      have HST : Hid (St w0 w7 N db cb Rb rd rc s (kbOf s) (ktOf s) (c + 1) (.pointer (some ⟨rv, 0, none⟩)) (.pointer (some ⟨vb, 0, none⟩))) := hst
      have HK7 : Hid (Keeps wx w7 db cb rd rc) := HK6.out.trans hk7
      clear hst hab HM6 hk7
      go_wp2_with fail
      refine (bare_ev 0 _ (HE.out.since HST.out.since)).mono ?_
      rintro e w8 ⟨rfl, hs8⟩
      go_wp2_with fail
      exact HKK.out _ _ _ _ _ _ _ _ _ _ _ _ _ _ _ _ _ _ _ _ _ _ _ _ _ _ _ _ _ _ ((HST.out.go hs8).le (by omega)) (HBX.out.keeps (HK7.out.trans (Keeps.of_since hs8)))
    · have he' : e = .returned (.tuple #[.pointer none, .int .i64 r]) := by
        rcases he with ⟨h, _⟩ | ⟨_, h⟩
        · exact absurd h hr
        · exact h
      subst he'
      clear he
      go_wp2_with fail
      refine (openP HT.out h16 (by omega) HM6.out).mono ?_
      rintro e w7 ⟨a', b', hab, rfl, hst, hk7⟩
      obtain ⟨rfl, rfl⟩ : a' = .pointer none ∧ b' = .pointer none := by
        rcases hab with ⟨h, _⟩ | ⟨_, h⟩
        · exact absurd h hr
        · exact h
      have HST : Hid (St w0 w7 N db cb Rb rd rc s (kbOf s) (ktOf s) (c + 1) (.pointer none) (.pointer none)) := hst
      have HK7 : Hid (Keeps wx w7 db cb rd rc) := HK6.out.trans hk7
      clear hst hab HM6 hk7
      generalize hev : ev r = er at *
      have HBA : Hid (∀ W, Et W → Calls Tryz.prog 10 #[er, .int .i64 r] W fun e w' => e = .returned (.bool true) ∧ Since W w') := fun W hW => by rw [← hev]; exact bare_ev r W hW
      clear hev hr
      go_wp2_with fail
      refine (HBA.out _ (HE.out.since HST.out.since)).mono ?_
      rintro e w8 ⟨rfl, hs8⟩
      go_wp2_with fail
      exact HKK.out _ _ _ _ _ _ _ _ _ _ _ _ _ _ _ _ _ _ _ _ _ _ _ _ _ _ _ _ _ _ ((HST.out.go hs8).le (by omega)) (HBX.out.keeps (HK7.out.trans (Keeps.of_since hs8)))
set_option maxHeartbeats 8000000 in
theorem ck_go (code : Code) (hcode : code = cR (cR (cR (cR (cR (cB (cL (cR (cB (cB (cR (cL (cR (cR (cR (cR (cR (cR (cR (cR (cR (cR (Tryz.f3.body.getD .skip))))))))))))))))))))))) (w0 wx : World) (N db cb Rb rd rc : Nat) (s kb kt : ByteArray) (n : Int) (a b : Value)
    (HST : Hid (St w0 wx N db cb Rb rd rc s kb kt n a b)) (HE : Hid (Et w0))
    (K : Act → World → Prop) (Q' : Exit → Act → World → Prop) (HQP : Hid (∀ c a (d : Nat) v w, Q' (.panic c) (a.put (some d) v) w → Q' (.panic c) a w)) (t0 t1 t2 t3 t4 t5 t11 t13 t14 t15 t16 t17 t18 t19 t20 t21 t22 t23 t24 t25 t26 t27 t28 t29 t30 t31 t32 t33 t34 t35 t36 t37 t38 t39 t40 t41 t42 t43 t44 t45 t46 t47 t48 t49 t50 t51 t52 t53 t54 t55 t56 t57 t58 t59 t60 t61 t62 t63 t64 t65 t66 t67 t68 t69 t70 t71 t72 t73 t74 t75 t76 t77 t78 t79 t80 t81 t82 t83 t84 t85 t86 t87 t88 t89 t90 t91 t92 t93 t94 t95 t96 t97 t98 t99 t100 t101 t102 t103 t104 t105 t106 t107 t108 t109 t110 t111 t112 t113 t114 t115 t116 t117 t118 t119 t120 t121 t122 t123 t124 t125 t126 t127 t128 t129 t130 t131 t132 t133 t134 t135 t136 t137 t138 t139 t140 t141 t142 t143 t144 t145 t146 t147 t148 t149 t150 t151 t152 t153 t154 t155 t156 t157 t158 t159 t160 t161 t162 t163 t164 t165 t166 t167 t168 t169 t170 t171 t172 t173 t174 t175 t176 t177 t178 t179 t180 t181 t182 t183 t184 t185 t186 t187 t188 t189 t190 t191 t192 t193 t194 t195 t196 t197 t198 t199 t200 t201 t202 t203 t204 t205 t206 t207 t208 t209 t210 t211 t212 t213 t214 t215 t216 t217 t218 t219 t220 t221 t222 t223 t224 t225 t226 t227 t228 t229 t230 t231 t232 t233 t234 t235 t236 t237 : Value)
    (HKK : Hid (∀ (wc : World), Since wx wc → ∀ (z217 z218 z219 z220 z221 z222 z223 z224 z225 z226 z227 z228 z229 z230 z231 z232 z233 z234 z235 z236 z237 : Value), K ⟨#[t0, t1, t2, t3, t4, t5, .pointer (some ⟨rd, 0, none⟩), .pointer (some ⟨db, 0, none⟩), .pointer (some ⟨cb, 0, none⟩), .pointer (some ⟨rc, 0, none⟩), a, t11, b, t13, t14, t15, t16, t17, t18, t19, t20, t21, t22, t23, t24, t25, t26, t27, t28, t29, t30, t31, t32, t33, t34, t35, t36, t37, t38, t39, t40, t41, t42, t43, t44, t45, t46, t47, t48, t49, t50, t51, t52, t53, t54, t55, t56, t57, t58, t59, t60, t61, t62, t63, t64, t65, t66, t67, t68, t69, t70, t71, t72, t73, t74, t75, t76, t77, t78, t79, t80, t81, t82, t83, t84, t85, t86, t87, t88, t89, t90, t91, t92, t93, t94, t95, t96, t97, t98, t99, t100, t101, t102, t103, t104, t105, t106, t107, t108, t109, t110, t111, t112, t113, t114, t115, t116, t117, t118, t119, t120, t121, t122, t123, t124, t125, t126, t127, t128, t129, t130, t131, t132, t133, t134, t135, t136, t137, t138, t139, t140, t141, t142, t143, t144, t145, t146, t147, t148, t149, t150, t151, t152, t153, t154, t155, t156, t157, t158, t159, t160, t161, t162, t163, t164, t165, t166, t167, t168, t169, t170, t171, t172, t173, t174, t175, t176, t177, t178, t179, t180, t181, t182, t183, t184, t185, t186, t187, t188, t189, t190, t191, t192, t193, t194, t195, t196, t197, t198, t199, t200, t201, t202, t203, t204, t205, t206, t207, t208, t209, t210, t211, t212, t213, t214, t215, t216, z217, z218, z219, z220, z221, z222, z223, z224, z225, z226, z227, z228, z229, z230, z231, z232, z233, z234, z235, z236, z237], []⟩ wc)) : Code.wp Tryz.prog code (Exit.then K Q') ⟨#[t0, t1, t2, t3, t4, t5, .pointer (some ⟨rd, 0, none⟩), .pointer (some ⟨db, 0, none⟩), .pointer (some ⟨cb, 0, none⟩), .pointer (some ⟨rc, 0, none⟩), a, t11, b, t13, t14, t15, t16, t17, t18, t19, t20, t21, t22, t23, t24, t25, t26, t27, t28, t29, t30, t31, t32, t33, t34, t35, t36, t37, t38, t39, t40, t41, t42, t43, t44, t45, t46, t47, t48, t49, t50, t51, t52, t53, t54, t55, t56, t57, t58, t59, t60, t61, t62, t63, t64, t65, t66, t67, t68, t69, t70, t71, t72, t73, t74, t75, t76, t77, t78, t79, t80, t81, t82, t83, t84, t85, t86, t87, t88, t89, t90, t91, t92, t93, t94, t95, t96, t97, t98, t99, t100, t101, t102, t103, t104, t105, t106, t107, t108, t109, t110, t111, t112, t113, t114, t115, t116, t117, t118, t119, t120, t121, t122, t123, t124, t125, t126, t127, t128, t129, t130, t131, t132, t133, t134, t135, t136, t137, t138, t139, t140, t141, t142, t143, t144, t145, t146, t147, t148, t149, t150, t151, t152, t153, t154, t155, t156, t157, t158, t159, t160, t161, t162, t163, t164, t165, t166, t167, t168, t169, t170, t171, t172, t173, t174, t175, t176, t177, t178, t179, t180, t181, t182, t183, t184, t185, t186, t187, t188, t189, t190, t191, t192, t193, t194, t195, t196, t197, t198, t199, t200, t201, t202, t203, t204, t205, t206, t207, t208, t209, t210, t211, t212, t213, t214, t215, t216, t217, t218, t219, t220, t221, t222, t223, t224, t225, t226, t227, t228, t229, t230, t231, t232, t233, t234, t235, t236, t237], []⟩ wx := by
  rw [hcode]
  clear hcode
  dsimp only [Tryz.f3, cL, cR, cB, Option.getD]
  obtain ⟨D, c, hd, hws, hc0, hcn⟩ := HST.out.bd
  have HD : Hid (BD w0 wx N db cb Rb rd rc D D c) := hd
  clear hd hws hc0 hcn
  have HSS : Hid (∀ W, Since wx W → W.cell? ⟨rc, 0, none⟩ = some (.int .i64 c)) := fun W hW => (HD.out.go hW).r.ctr.cell 0 (by omega)
  have HMG : Hid (∀ W, Since wx W → Calls Tryz.prog 25 #[.pointer (some ⟨cb, 0, none⟩)] W fun e w' => e = .returned (.int .i64 c) ∧ Since W w') := fun W hW => by
    obtain ⟨v, hv, _⟩ := (HD.out.go hW).p
    exact (Mt.get_any cb c W (hv.ctr.cell 0 (by omega))).mono (fun e w' ⟨h1, h2⟩ => ⟨h1, by rw [h2]; exact Since.refl _⟩)
  have HLO : Hid (db < wx.heap.size ∧ ∀ z, z < 8 → D.sure z ≤ 1000) := by
    have h1 := HD.out.ap.lt
    have h2 := HD.out.nN
    exact ⟨by omega, fun z hz => by have h1 := HD.out.dok.sure z hz; have h2 := HD.out.dok.cnt z hz; omega⟩
  rcases HST.out with ⟨vb, rv, S, rfl, rfl, hbo⟩ | ⟨rfl, rfl, _⟩
  · have HBO : Hid (Both w0 wx N vb db cb rv Rb rd rc s kb kt S n) := hbo
    clear hbo
    go_wp2_with fail
    go_region_held3 (fun W => W.cell? ⟨rc, 0, none⟩ = some (.int .i64 c)) (first | exact HSS.out _ (Since.refl _) | exact HSS.out _ (Since.refl _).drew | exact HSS.out _ H5.out | exact HSS.out _ H4.out | exact HSS.out _ H3.out | exact HSS.out _ H2.out | exact HSS.out _ H1.out) (first
      | (go_simp; go_at_call 25; refine (HMG.out _ (Since.refl _).drew).mono ?_; rintro e w1 ⟨rfl, h1⟩; have H1 : Hid (Since wx w1) := (Since.refl wx).drew.trans h1; clear h1; dsimp only)
      | (go_simp; go_at_call 20; refine (imgP (HD.out.go H1.out)).mono ?_; rintro e w2 ⟨iv1, rfl, hr2, hs2⟩; have HR2 : Hid (∀ z, z < 8 → w2.ownsRow w1.heap.size 9 1 (iv1 z) (D.sure z) (blks (D.blk z) (D.sure z))) := hr2; have H2 : Hid (Since wx w2) := H1.out.trans hs2; have hl2 := hs2.size; have hl1 := H1.out.size; clear hr2 hs2; dsimp only)
      | (go_simp; go_at_call 21; refine (imgR HD.out.dok (HD.out.go H2.out)).mono ?_; rintro e w3 ⟨iv2, rfl, hr3, hs3⟩; have HR3 : Hid (∀ z, z < 8 → w3.ownsRow w2.heap.size 9 1 (iv2 z) (D.sure z) (blks (D.blk z) (D.sure z))) := hr3; have HR2b : Hid (∀ z, z < 8 → w3.ownsRow w1.heap.size 9 1 (iv1 z) (D.sure z) (blks (D.blk z) (D.sure z))) := fun z hz => ownsRow_since (HR2.out z hz) hs3; have H3 : Hid (Since wx w3) := H2.out.trans hs3; clear hr3 hs3; dsimp only)
      | (go_simp; go_at_call 26; refine (sameImage_any db iv1 iv2 D.sure (fun z j => txt 128 (D.blk z j)) (fun z j => txt 128 (D.blk z j)) _ _ _ (fun z hz => Sl.of_own (HR2b.out z hz) (by have := HLO.out.1; omega) (fun j hj => blks_get _ _ j hj)) (fun z hz => Sl.of_own (HR3.out z hz) (by have := HLO.out.1; omega) (fun j hj => blks_get _ _ j hj)) (fun z j _ _ => rfl) HLO.out.2).mono ?_; rintro e w4 ⟨rfl, hs4⟩; have H4 : Hid (Since wx w4) := H3.out.trans hs4; clear hs4; dsimp only)
      | (go_simp; go_at_call 27; refine (sameVolume_any HE.out (HBO.out.go H4.out)).mono ?_; rintro e w5 ⟨rfl, hs5⟩; have H5 : Hid (Since wx w5) := H4.out.trans hs5; clear hs5; dsimp only))
    go_wp2_with fail
    exact HKK.out _ H5.out _ _ _ _ _ _ _ _ _ _ _ _ _ _ _ _ _ _ _ _ _
  · go_wp2_with fail
    have hS0 : (fun W : World => W.cell? ⟨rc, 0, none⟩ = some (.int .i64 c)) wx.drew := HSS.out _ (Since.refl wx).drew
    refine wp_region_held (S := fun W : World => W.cell? ⟨rc, 0, none⟩ = some (.int .i64 c)) (by kernel_rfl) ?_
    refine Tw.takeD (i := 1) (d := 218) (v := ?v1) rfl rfl (by kernel_rfl) (by kernel_rfl) (by kernel_rfl) (fun _ _ _ h => HQP.out _ _ _ _ _ h) (Or.inl ⟨by rfl, ?hw1⟩) hS0 ?q1
    case hw1 => (intro w hSw; have s0 := hSw; go_simp; try with_reducible rfl)
    simp only [Act.put, List.setIfInBounds_toArray, List.set_cons_zero, List.set_cons_succ]
    refine wpAnyH_ready (rs := [0]) (by kernel_rfl) (by simp) (AllReadyH.cons rfl (fun K hK => ?_) AllReadyH.nil)
    rw [if_pos (by rfl)]
    go_simp
    refine (HMG.out _ (Since.refl _).drew).mono ?_
    rintro e w1 ⟨rfl, h1⟩
    have H1 : Hid (Since wx w1) := (Since.refl wx).drew.trans h1
    clear h1
    simp only []
    have hS1 : (fun W : World => W.cell? ⟨rc, 0, none⟩ = some (.int .i64 c)) w1 := HSS.out _ H1.out
    refine hK.out _ _ hS1 (fun _ => ?_)
    clear hK K
    (try simp only [Act.put, List.setIfInBounds_toArray, List.set_cons_zero, List.set_cons_succ])
    refine Tw.takeD (i := 2) (d := 219) (v := ?v2) rfl rfl (by kernel_rfl) (by kernel_rfl) (by kernel_rfl) (fun _ _ _ h => HQP.out _ _ _ _ _ h) (Or.inl ⟨by rfl, ?hw2⟩) hS1 ?q2
    case hw2 => (intro w hSw; have s0 := hSw; go_simp; try with_reducible rfl)
    simp only [Act.put, List.setIfInBounds_toArray, List.set_cons_zero, List.set_cons_succ]
    refine Tw.takeD (i := 3) (d := 220) (v := ?v3) rfl rfl (by kernel_rfl) (by kernel_rfl) (by kernel_rfl) (fun _ _ _ h => HQP.out _ _ _ _ _ h) (Or.inl ⟨by rfl, ?hw3⟩) hS1 ?q3
    case hw3 => (intro w hSw; have s0 := hSw; go_simp; try with_reducible rfl)
    simp only [Act.put, List.setIfInBounds_toArray, List.set_cons_zero, List.set_cons_succ]
    refine Tw.takeD (i := 4) (d := 221) (v := ?v4) rfl rfl (by kernel_rfl) (by kernel_rfl) (by kernel_rfl) (fun _ _ _ h => HQP.out _ _ _ _ _ h) (Or.inl ⟨Tw.wanted_by rfl rfl rfl rfl, ?hw4⟩) hS1 ?q4
    case hw4 => (intro w hSw; have s0 := hSw; go_simp; try with_reducible rfl)
    simp only [Act.put, List.setIfInBounds_toArray, List.set_cons_zero, List.set_cons_succ]
    refine Tw.takeD (i := 6) (d := 223) (v := ?v5) rfl rfl (by kernel_rfl) (by kernel_rfl) (by kernel_rfl) (fun _ _ _ h => HQP.out _ _ _ _ _ h) (Or.inl ⟨Tw.wanted_by rfl rfl rfl rfl, ?hw5⟩) hS1 ?q5
    case hw5 => (intro w hSw; have s0 := hSw; go_simp; try with_reducible rfl)
    simp only [Act.put, List.setIfInBounds_toArray, List.set_cons_zero, List.set_cons_succ]
    refine wpAnyH_ready (rs := [5]) (by kernel_rfl) (by simp) (AllReadyH.cons rfl (fun K hK => ?_) AllReadyH.nil)
    rw [if_pos (Tw.wanted_by rfl rfl rfl rfl)]
    go_simp
    refine (imgP (HD.out.go H1.out)).mono ?_
    rintro e w2 ⟨iv1, rfl, hr2, hs2⟩
    have HR2 : Hid (∀ z, z < 8 → w2.ownsRow w1.heap.size 9 1 (iv1 z) (D.sure z) (blks (D.blk z) (D.sure z))) := hr2
    have H2 : Hid (Since wx w2) := H1.out.trans hs2
    have hl2 := hs2.size
    have hl1 := H1.out.size
    clear hr2 hs2
    simp only []
    have hS2 : (fun W : World => W.cell? ⟨rc, 0, none⟩ = some (.int .i64 c)) w2 := HSS.out _ H2.out
    refine hK.out _ _ hS2 (fun _ => ?_)
    clear hK K
    (try simp only [Act.put, List.setIfInBounds_toArray, List.set_cons_zero, List.set_cons_succ])
    refine wpAnyH_ready (rs := [7]) (by kernel_rfl) (by simp) (AllReadyH.cons rfl (fun K hK => ?_) AllReadyH.nil)
    rw [if_pos (Tw.wanted_by rfl rfl rfl rfl)]
    go_simp
    refine (imgR HD.out.dok (HD.out.go H2.out)).mono ?_
    rintro e w3 ⟨iv2, rfl, hr3, hs3⟩
    have HR3 : Hid (∀ z, z < 8 → w3.ownsRow w2.heap.size 9 1 (iv2 z) (D.sure z) (blks (D.blk z) (D.sure z))) := hr3
    have HR2b : Hid (∀ z, z < 8 → w3.ownsRow w1.heap.size 9 1 (iv1 z) (D.sure z) (blks (D.blk z) (D.sure z))) := fun z hz => ownsRow_since (HR2.out z hz) hs3
    have H3 : Hid (Since wx w3) := H2.out.trans hs3
    clear hr3 hs3
    simp only []
    have hS3 : (fun W : World => W.cell? ⟨rc, 0, none⟩ = some (.int .i64 c)) w3 := HSS.out _ H3.out
    refine hK.out _ _ hS3 (fun _ => ?_)
    clear hK K
    (try simp only [Act.put, List.setIfInBounds_toArray, List.set_cons_zero, List.set_cons_succ])
    refine wpAnyH_ready (rs := [8]) (by kernel_rfl) (by simp) (AllReadyH.cons rfl (fun K hK => ?_) AllReadyH.nil)
    rw [if_pos (Tw.wanted_by rfl rfl rfl rfl)]
    go_simp
    refine (sameImage_any db iv1 iv2 D.sure (fun z j => txt 128 (D.blk z j)) (fun z j => txt 128 (D.blk z j)) _ _ _ (fun z hz => Sl.of_own (HR2b.out z hz) (by have := HLO.out.1; omega) (fun j hj => blks_get _ _ j hj)) (fun z hz => Sl.of_own (HR3.out z hz) (by have := HLO.out.1; omega) (fun j hj => blks_get _ _ j hj)) (fun z j _ _ => rfl) HLO.out.2).mono ?_
    rintro e w4 ⟨rfl, hs4⟩
    have H4 : Hid (Since wx w4) := H3.out.trans hs4
    clear hs4
    simp only []
    have hS4 : (fun W : World => W.cell? ⟨rc, 0, none⟩ = some (.int .i64 c)) w4 := HSS.out _ H4.out
    refine hK.out _ _ hS4 (fun _ => ?_)
    clear hK K
    (try simp only [Act.put, List.setIfInBounds_toArray, List.set_cons_zero, List.set_cons_succ])
    refine Tw.takeD (i := 9) (d := 226) (v := ?v6) rfl rfl (by kernel_rfl) (by kernel_rfl) (by kernel_rfl) (fun _ _ _ h => HQP.out _ _ _ _ _ h) (Or.inl ⟨Tw.wanted_by rfl rfl rfl rfl, ?hw6⟩) hS4 ?q6
    case hw6 => (intro w hSw; have s0 := hSw; go_simp; try with_reducible rfl)
    simp only [Act.put, List.setIfInBounds_toArray, List.set_cons_zero, List.set_cons_succ]
    refine Tw.takeD (i := 10) (d := 227) (v := ?v7) rfl rfl (by kernel_rfl) (by kernel_rfl) (by kernel_rfl) (fun _ _ _ h => HQP.out _ _ _ _ _ h) (Or.inl ⟨by rfl, ?hw7⟩) hS4 ?q7
    case hw7 => (intro w hSw; have s0 := hSw; go_simp; try with_reducible rfl)
    simp only [Act.put, List.setIfInBounds_toArray, List.set_cons_zero, List.set_cons_succ]
    refine Tw.takeD (i := 11) (d := 228) (v := ?v8) rfl rfl (by kernel_rfl) (by kernel_rfl) (by kernel_rfl) (fun _ _ _ h => HQP.out _ _ _ _ _ h) (Or.inl ⟨by rfl, ?hw8⟩) hS4 ?q8
    case hw8 => (intro w hSw; have s0 := hSw; go_simp; try with_reducible rfl)
    simp only [Act.put, List.setIfInBounds_toArray, List.set_cons_zero, List.set_cons_succ]
    refine Tw.takeD (i := 12) (d := 229) (v := ?v9) rfl rfl (by kernel_rfl) (by kernel_rfl) (by kernel_rfl) (fun _ _ _ h => HQP.out _ _ _ _ _ h) (Or.inl ⟨Tw.wanted_by rfl rfl rfl rfl, ?hw9⟩) hS4 ?q9
    case hw9 => (intro w hSw; have s0 := hSw; go_simp; try with_reducible rfl)
    simp only [Act.put, List.setIfInBounds_toArray, List.set_cons_zero, List.set_cons_succ]
    refine Tw.takeD (i := 13) (d := 230) (v := ?v10) rfl rfl (by kernel_rfl) (by kernel_rfl) (by kernel_rfl) (fun _ _ _ h => HQP.out _ _ _ _ _ h) (Or.inl ⟨Tw.wanted_by rfl rfl rfl rfl, ?hw10⟩) hS4 ?q10
    case hw10 => (intro w hSw; have s0 := hSw; go_simp; try with_reducible rfl)
    simp only [Act.put, List.setIfInBounds_toArray, List.set_cons_zero, List.set_cons_succ]
    refine Tw.takeD (i := 14) (d := 231) (v := ?v11) rfl rfl (by kernel_rfl) (by kernel_rfl) (by kernel_rfl) (fun _ _ _ h => HQP.out _ _ _ _ _ h) (Or.inl ⟨Tw.wanted_by rfl rfl rfl rfl, ?hw11⟩) hS4 ?q11
    case hw11 => (intro w hSw; have s0 := hSw; go_simp; try with_reducible rfl)
    simp only [Act.put, List.setIfInBounds_toArray, List.set_cons_zero, List.set_cons_succ]
    refine Tw.takeD (i := 15) (d := 232) (v := undef) rfl rfl (by kernel_rfl) (by kernel_rfl) (by kernel_rfl) (fun _ _ _ h => HQP.out _ _ _ _ _ h) (Or.inr ⟨Tw.unwanted_by rfl rfl rfl rfl (by decide), rfl⟩) hS4 ?q12
    simp only [Act.put, List.setIfInBounds_toArray, List.set_cons_zero, List.set_cons_succ]
    refine Tw.takeD (i := 16) (d := 233) (v := undef) rfl rfl (by kernel_rfl) (by kernel_rfl) (by kernel_rfl) (fun _ _ _ h => HQP.out _ _ _ _ _ h) (Or.inr ⟨Tw.unwanted_by rfl rfl rfl rfl (by decide), rfl⟩) hS4 ?q13
    simp only [Act.put, List.setIfInBounds_toArray, List.set_cons_zero, List.set_cons_succ]
    refine Tw.takeD (i := 17) (d := 234) (v := undef) rfl rfl (by kernel_rfl) (by kernel_rfl) (by kernel_rfl) (fun _ _ _ h => HQP.out _ _ _ _ _ h) (Or.inr ⟨Tw.unwanted_by rfl rfl rfl rfl (by decide), rfl⟩) hS4 ?q14
    simp only [Act.put, List.setIfInBounds_toArray, List.set_cons_zero, List.set_cons_succ]
    refine Tw.takeD (i := 18) (d := 235) (v := undef) rfl rfl (by kernel_rfl) (by kernel_rfl) (by kernel_rfl) (fun _ _ _ h => HQP.out _ _ _ _ _ h) (Or.inr ⟨Tw.unwanted_by rfl rfl rfl rfl (by decide), rfl⟩) hS4 ?q15
    simp only [Act.put, List.setIfInBounds_toArray, List.set_cons_zero, List.set_cons_succ]
    refine Tw.takeD (i := 19) (d := 236) (v := ?v16) rfl rfl (by kernel_rfl) (by kernel_rfl) (by kernel_rfl) (fun _ _ _ h => HQP.out _ _ _ _ _ h) (Or.inl ⟨Tw.wanted_by rfl rfl rfl rfl, ?hw16⟩) hS4 ?q16
    case hw16 => (intro w hSw; have s0 := hSw; go_simp; try with_reducible rfl)
    simp only [Act.put, List.setIfInBounds_toArray, List.set_cons_zero, List.set_cons_succ]
    refine Tw.takeD (i := 20) (d := 237) (v := ?v17) rfl rfl (by kernel_rfl) (by kernel_rfl) (by kernel_rfl) (fun _ _ _ h => HQP.out _ _ _ _ _ h) (Or.inl ⟨by rfl, ?hw17⟩) hS4 ?q17
    case hw17 => (intro w hSw; have s0 := hSw; go_simp; try with_reducible rfl)
    simp only [Act.put, List.setIfInBounds_toArray, List.set_cons_zero, List.set_cons_succ]
    refine wpAnyH_done (by kernel_rfl) ?_ _
    clear hS0 hS1 hS2 hS3 hS4
    go_wp2_with fail
    exact HKK.out _ H4.out _ _ _ _ _ _ _ _ _ _ _ _ _ _ _ _ _ _ _ _ _
end Vl
end Go.Proofs.YtbfjklpoheooaaaGreatDoor
