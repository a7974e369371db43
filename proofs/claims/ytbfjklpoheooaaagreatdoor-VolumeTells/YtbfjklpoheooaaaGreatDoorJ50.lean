import Derived.Deep.CutBlock
import Derived.Deep.MidRow
import Derived.Test.YtbfjklpoheooaaaGreatDoorJ21
import Derived.Test.YtbfjklpoheooaaaGreatDoorJ49
set_option linter.unusedSimpArgs false
set_option linter.unusedVariables false
namespace Go.Proofs.YtbfjklpoheooaaaGreatDoor
set_option maxRecDepth 100000
namespace Vl
open Go.RowKit
open Tw (Tb tcell tval ccell)
def cL : Code → Code
  | .seq a _ => a
  | c => c
def cR : Code → Code
  | .seq _ a => a
  | c => c
def cB : Code → Code
  | .block _ a => a
  | .loop a => a
  | c => c
def again (x : Int) : Bool := x == 3 || x == 5 || x == 7 || x == 8
structure Done (w0 w : World) (N db cb Rb rd rc b1 b2 : Nat) (s kb kt : ByteArray) (n wh : Int) (a b : Value) : Prop where
  yes : again wh = true → ∃ D c, BD w0 w N db cb Rb rd rc D D c ∧ D.ws.length ≤ 1 ∧ 0 ≤ c ∧ c ≤ n
  no : again wh = false → St w0 w N db cb Rb rd rc s kb kt (n + 1) a b
  box : Boxes w N db cb rd rc b1 b2
set_option maxHeartbeats 8000000 in
theorem sw_go (code : Code) (hcode : code = cR (cL (cR (cR (cR (cB (cL (cR (cB (cB (cR (cL (cR (cR (cR (cR (cR (cR (cR (cR (cR (cR (Tryz.f3.body.getD .skip))))))))))))))))))))))) (w0 wx : World) (N db cb Rb rd rc b1 b2 xb : Nat) (s kb kt : ByteArray) (n wh at_ by_ : Int) (t : ByteArray) (na sa : Option Addr) (nk nc ns sc : Nat) (ks : Nat → Int) (sl : Nat → Bool) (a b : Value)
    (HST : Hid (St w0 wx N db cb Rb rd rc s kb kt n a b)) (HBX : Hid (Boxes wx N db cb rd rc b1 b2)) (HAB : Hid (ActB wx db cb rd rc xb (acell wh at_ by_ t (.slice na nk nc) (.slice sa ns sc)))) (HB : Hid (Base w0 kb kt)) (HRB : Hid (RBase Rb s kb kt)) (HE : Hid (Et w0)) (hn : n < 1000000) (HAT : Hid (at_ ≤ 9223372036854775807))
    (HKV : Hid (SlA w0 w0.heap.size (.slice na nk nc) nk (fun i => .int .i64 (ks i)))) (HSV : Hid (SlA w0 w0.heap.size (.slice sa ns sc) ns (fun i => .bool (sl i))))
    (K : Act → World → Prop) (Q' : Exit → Act → World → Prop) (HQP : Hid (∀ c a (d : Nat) v w, Q' (.panic c) (a.put (some d) v) w → Q' (.panic c) a w)) (t0 t1 t2 t3 t4 t11 t13 t16 t18 t19 t20 t21 t22 t23 t24 t25 t26 t27 t28 t29 t30 t31 t32 t33 t34 t35 t36 t37 t38 t39 t40 t41 t42 t43 t44 t45 t46 t47 t48 t49 t50 t51 t52 t53 t54 t55 t56 t57 t58 t59 t60 t61 t62 t63 t64 t65 t66 t67 t68 t69 t70 t71 t72 t73 t74 t75 t76 t77 t78 t79 t80 t81 t82 t83 t84 t85 t86 t87 t88 t89 t90 t91 t92 t93 t94 t95 t96 t97 t98 t99 t100 t101 t103 t104 t105 t106 t107 t108 t109 t110 t111 t112 t113 t114 t115 t116 t117 t118 t119 t120 t121 t122 t123 t124 t125 t126 t127 t128 t129 t130 t131 t132 t133 t134 t135 t136 t137 t138 t139 t140 t141 t142 t143 t144 t145 t146 t147 t148 t149 t150 t151 t152 t153 t154 t155 t156 t157 t158 t159 t160 t161 t162 t163 t164 t165 t166 t167 t168 t169 t170 t171 t172 t173 t174 t175 t176 t177 t178 t179 t180 t181 t182 t183 t184 t185 t186 t187 t188 t189 t190 t191 t192 t193 t194 t195 t196 t197 t198 t199 t200 t201 t202 t203 t204 t205 t206 t207 t208 t209 t210 t211 t212 t213 t214 t215 t216 t217 t218 t219 t220 t221 t222 t223 t224 t225 t226 t227 t228 t229 t230 t231 t232 t233 t234 t235 t236 t237 : Value)
    (HKK : Hid (∀ (wc : World), Done w0 wc N db cb Rb rd rc b1 b2 s kb kt n wh a b → ∀ (z101 z102 z103 z104 z105 z106 z107 z108 z109 z110 z111 z112 z113 z114 z115 z116 z117 z118 z119 z120 z121 z122 z123 z124 z125 z126 z127 z128 z129 z130 z131 z132 z133 z134 z135 z136 z137 z138 z139 z140 z141 z142 z143 z144 z145 z146 z147 z148 z149 z150 z151 z152 z153 z154 z155 z156 z157 z158 z159 z160 z161 z162 z163 z164 z165 z166 z167 z168 z169 z170 z171 z172 z173 z174 z175 z176 z177 z178 z179 z180 z181 z182 z183 z184 z185 z186 z187 z188 z189 z190 z191 : Value), K ⟨#[t0, t1, t2, t3, t4, .pointer (some ⟨Rb, 0, none⟩), .pointer (some ⟨rd, 0, none⟩), .pointer (some ⟨db, 0, none⟩), .pointer (some ⟨cb, 0, none⟩), .pointer (some ⟨rc, 0, none⟩), a, t11, b, t13, .pointer (some ⟨b1, 0, none⟩), .pointer (some ⟨b2, 0, none⟩), t16, .pointer (some ⟨xb, 0, none⟩), t18, t19, t20, t21, t22, t23, t24, t25, t26, t27, t28, t29, t30, t31, t32, t33, t34, t35, t36, t37, t38, t39, t40, t41, t42, t43, t44, t45, t46, t47, t48, t49, t50, t51, t52, t53, t54, t55, t56, t57, t58, t59, t60, t61, t62, t63, t64, t65, t66, t67, t68, t69, t70, t71, t72, t73, t74, t75, t76, t77, t78, t79, t80, t81, t82, t83, t84, t85, t86, t87, t88, t89, t90, t91, t92, t93, t94, t95, t96, t97, t98, t99, t100, z101, z102, z103, z104, z105, z106, z107, z108, z109, z110, z111, z112, z113, z114, z115, z116, z117, z118, z119, z120, z121, z122, z123, z124, z125, z126, z127, z128, z129, z130, z131, z132, z133, z134, z135, z136, z137, z138, z139, z140, z141, z142, z143, z144, z145, z146, z147, z148, z149, z150, z151, z152, z153, z154, z155, z156, z157, z158, z159, z160, z161, z162, z163, z164, z165, z166, z167, z168, z169, z170, z171, z172, z173, z174, z175, z176, z177, z178, z179, z180, z181, z182, z183, z184, z185, z186, z187, z188, z189, z190, z191, t192, t193, t194, t195, t196, t197, t198, t199, t200, t201, t202, t203, t204, t205, t206, t207, t208, t209, t210, t211, t212, t213, t214, t215, t216, t217, t218, t219, t220, t221, t222, t223, t224, t225, t226, t227, t228, t229, t230, t231, t232, t233, t234, t235, t236, t237], []⟩ wc)) : Code.wp Tryz.prog code (Exit.then K Q') ⟨#[t0, t1, t2, t3, t4, .pointer (some ⟨Rb, 0, none⟩), .pointer (some ⟨rd, 0, none⟩), .pointer (some ⟨db, 0, none⟩), .pointer (some ⟨cb, 0, none⟩), .pointer (some ⟨rc, 0, none⟩), a, t11, b, t13, .pointer (some ⟨b1, 0, none⟩), .pointer (some ⟨b2, 0, none⟩), t16, .pointer (some ⟨xb, 0, none⟩), t18, t19, t20, t21, t22, t23, t24, t25, t26, t27, t28, t29, t30, t31, t32, t33, t34, t35, t36, t37, t38, t39, t40, t41, t42, t43, t44, t45, t46, t47, t48, t49, t50, t51, t52, t53, t54, t55, t56, t57, t58, t59, t60, t61, t62, t63, t64, t65, t66, t67, t68, t69, t70, t71, t72, t73, t74, t75, t76, t77, t78, t79, t80, t81, t82, t83, t84, t85, t86, t87, t88, t89, t90, t91, t92, t93, t94, t95, t96, t97, t98, t99, t100, t101, .int .i64 wh, t103, t104, t105, t106, t107, t108, t109, t110, t111, t112, t113, t114, t115, t116, t117, t118, t119, t120, t121, t122, t123, t124, t125, t126, t127, t128, t129, t130, t131, t132, t133, t134, t135, t136, t137, t138, t139, t140, t141, t142, t143, t144, t145, t146, t147, t148, t149, t150, t151, t152, t153, t154, t155, t156, t157, t158, t159, t160, t161, t162, t163, t164, t165, t166, t167, t168, t169, t170, t171, t172, t173, t174, t175, t176, t177, t178, t179, t180, t181, t182, t183, t184, t185, t186, t187, t188, t189, t190, t191, t192, t193, t194, t195, t196, t197, t198, t199, t200, t201, t202, t203, t204, t205, t206, t207, t208, t209, t210, t211, t212, t213, t214, t215, t216, t217, t218, t219, t220, t221, t222, t223, t224, t225, t226, t227, t228, t229, t230, t231, t232, t233, t234, t235, t236, t237], []⟩ wx := by
  have c0 : wx.cell? ⟨xb, 0, none⟩ = some (.int .i64 wh) := HAB.out.cel.cell 0 (by omega)
  have C : Hid (∀ {w' : World}, ActB w' db cb rd rc xb (acell wh at_ by_ t (.slice na nk nc) (.slice sa ns sc)) → w'.cell? ⟨xb, 1, none⟩ = some (.int .i64 at_) ∧ w'.cell? ⟨xb, 2, none⟩ = some (.int .i64 by_) ∧ w'.cell? ⟨xb, 3, none⟩ = some (.string t) ∧ w'.cell? ⟨xb, 4, none⟩ = some (.slice na nk nc) ∧ w'.cell? ⟨xb, 5, none⟩ = some (.slice sa ns sc)) :=
    fun h => ⟨h.cel.cell 1 (by omega), h.cel.cell 2 (by omega), h.cel.cell 3 (by omega), h.cel.cell 4 (by omega), h.cel.cell 5 (by omega)⟩
  generalize acell wh at_ by_ t (.slice na nk nc) (.slice sa ns sc) = xc at *
  rw [hcode]
  clear hcode
  dsimp only [Tryz.f3, cL, cR, cB, Option.getD]
  by_cases q0 : wh = 0
  · have E0 : Hid (again wh = false) := by show again wh = false; rw [q0]; rfl
    rcases HST.out with ⟨vb, rv, S, rfl, rfl, hbo⟩ | ⟨rfl, rfl, hd⟩
    · have HBO : Hid (Both w0 wx N vb db cb rv Rb rd rc s kb kt S n) := hbo
      clear hbo c0
      have HSS : Hid (∀ W, Keeps wx W db cb rd rc → W.cell? ⟨xb, 1, none⟩ = some (.int .i64 at_) ∧ W.cell? ⟨xb, 3, none⟩ = some (.string t)) := fun W hk => ⟨(C.out (HAB.out.keeps hk)).1, (C.out (HAB.out.keeps hk)).2.2.1⟩
      go_wp2_with fail
      go_region_held3 (fun W => W.cell? ⟨xb, 1, none⟩ = some (.int .i64 at_) ∧ W.cell? ⟨xb, 3, none⟩ = some (.string t)) (first | exact HSS.out _ (Keeps.of_since (Since.refl _)) | exact HSS.out _ (Keeps.of_since (Since.refl _).drew) | exact HSS.out _ HK4.out | exact HSS.out _ HK3.out | exact HSS.out _ HK2.out) (first
        | (go_simp; go_at_call 11; refine (writeP HB.out (by omega) at_ t (HBO.out.go (Since.refl wx).drew)).mono ?_; rintro e w2 ⟨rfl, hm2, hk2⟩; have HM2 : Hid (Mid w0 w2 N vb db cb rv Rb rd rc s kb kt S (S.write kb kt at_ t).2 n) := hm2; have HK2 : Hid (Keeps wx w2 db cb rd rc) := (Keeps.of_since (Since.refl wx).drew).trans hk2; clear hm2 hk2; dsimp only)
        | (go_simp; go_at_call 12; refine (writeR HRB.out (by omega) at_ t HM2.out).mono ?_; rintro e w3 ⟨rfl, hb3, hk3⟩; have HB3 : Hid (Both w0 w3 N vb db cb rv Rb rd rc s kb kt (S.write kb kt at_ t).2 (n + 1)) := hb3; have HK3 : Hid (Keeps wx w3 db cb rd rc) := HK2.out.trans hk3; clear hb3 hk3; dsimp only)
        | (go_simp; go_at_call 10; refine (bare_ev _ _ (HE.out.since HB3.out.since)).mono ?_; rintro e w4 ⟨rfl, hs4⟩; have HB4 : Hid (Both w0 w4 N vb db cb rv Rb rd rc s kb kt (S.write kb kt at_ t).2 (n + 1)) := HB3.out.go hs4; have HK4 : Hid (Keeps wx w4 db cb rd rc) := HK3.out.trans (Keeps.of_since hs4); clear hs4; dsimp only))
      go_wp2_with fail
      exact HKK.out _ ⟨(fun h => absurd (E0.out.symm.trans h) (by decide)), fun _ => Or.inl ⟨vb, rv, _, rfl, rfl, HB4.out⟩, HBX.out.keeps HK4.out⟩ _ _ _ _ _ _ _ _ _ _ _ _ _ _ _ _ _ _ _ _ _ _ _ _ _ _ _ _ _ _ _ _ _ _ _ _ _ _ _ _ _ _ _ _ _ _ _ _ _ _ _ _ _ _ _ _ _ _ _ _ _ _ _ _ _ _ _ _ _ _ _ _ _ _ _ _ _ _ _ _ _ _ _ _ _ _ _ _ _ _ _
    · go_wp2_with fail
      go_quiet (fail)
      go_wp2_with fail
      exact HKK.out _ ⟨(fun h => absurd (E0.out.symm.trans h) (by decide)), fun _ => (St.le (Or.inr ⟨rfl, rfl, hd⟩) (by omega)).go ((Since.refl wx).drewN _), HBX.out.keeps (Keeps.of_since ((Since.refl wx).drewN _))⟩ _ _ _ _ _ _ _ _ _ _ _ _ _ _ _ _ _ _ _ _ _ _ _ _ _ _ _ _ _ _ _ _ _ _ _ _ _ _ _ _ _ _ _ _ _ _ _ _ _ _ _ _ _ _ _ _ _ _ _ _ _ _ _ _ _ _ _ _ _ _ _ _ _ _ _ _ _ _ _ _ _ _ _ _ _ _ _ _ _ _ _
  by_cases q1 : wh = 1
  · have E0 : Hid (again wh = false) := by show again wh = false; rw [q1]; rfl
    clear q0
    rcases HST.out with ⟨vb, rv, S, rfl, rfl, hbo⟩ | ⟨rfl, rfl, hd⟩
    · have HBO : Hid (Both w0 wx N vb db cb rv Rb rd rc s kb kt S n) := hbo
      clear hbo c0
      go_wp2_with fail
      refine (flushP HB.out (by omega) HBO.out).mono ?_
      rintro e w2 ⟨rfl, hm2, hk2⟩
      have HM2 : Hid (Mid w0 w2 N vb db cb rv Rb rd rc s kb kt S (S.flush kt).2 n) := hm2
      have HK2 : Hid (Keeps wx w2 db cb rd rc) := hk2
      clear hm2 hk2
      go_wp2_with fail
      refine (flushR HRB.out (by omega) HM2.out).mono ?_
      rintro e w3 ⟨rfl, hb3, hk3⟩
      have HB3 : Hid (Both w0 w3 N vb db cb rv Rb rd rc s kb kt (S.flush kt).2 (n + 1)) := hb3
      have HK3 : Hid (Keeps wx w3 db cb rd rc) := HK2.out.trans hk3
      clear hb3 hk3
      go_wp2_with fail
      refine (bare_ev _ _ (HE.out.since HB3.out.since)).mono ?_
      rintro e w4 ⟨rfl, hs4⟩
      go_wp2_with fail
      exact HKK.out _ ⟨(fun h => absurd (E0.out.symm.trans h) (by decide)), fun _ => Or.inl ⟨vb, rv, _, rfl, rfl, HB3.out.go hs4⟩, HBX.out.keeps (HK3.out.trans (Keeps.of_since hs4))⟩ _ _ _ _ _ _ _ _ _ _ _ _ _ _ _ _ _ _ _ _ _ _ _ _ _ _ _ _ _ _ _ _ _ _ _ _ _ _ _ _ _ _ _ _ _ _ _ _ _ _ _ _ _ _ _ _ _ _ _ _ _ _ _ _ _ _ _ _ _ _ _ _ _ _ _ _ _ _ _ _ _ _ _ _ _ _ _ _ _ _ _
    · go_wp2_with fail
      exact HKK.out _ ⟨(fun h => absurd (E0.out.symm.trans h) (by decide)), fun _ => St.le (Or.inr ⟨rfl, rfl, hd⟩) (by omega), HBX.out⟩ _ _ _ _ _ _ _ _ _ _ _ _ _ _ _ _ _ _ _ _ _ _ _ _ _ _ _ _ _ _ _ _ _ _ _ _ _ _ _ _ _ _ _ _ _ _ _ _ _ _ _ _ _ _ _ _ _ _ _ _ _ _ _ _ _ _ _ _ _ _ _ _ _ _ _ _ _ _ _ _ _ _ _ _ _ _ _ _ _ _ _
  by_cases q2 : wh = 2
  · have E0 : Hid (again wh = false) := by show again wh = false; rw [q2]; rfl
    clear q0 q1
    rcases HST.out with ⟨vb, rv, S, rfl, rfl, hbo⟩ | ⟨rfl, rfl, hd⟩
    · have HBO : Hid (Both w0 wx N vb db cb rv Rb rd rc s kb kt S n) := hbo
      clear hbo c0
      go_wp2_with fail
      refine (reclaims_any HB.out HRB.out HE.out (by omega) HBO.out).mono ?_
      rintro e w2 ⟨rfl, hm2, hk2⟩
      go_wp2_with fail
      exact HKK.out _ ⟨(fun h => absurd (E0.out.symm.trans h) (by decide)), fun _ => Or.inl ⟨vb, rv, _, rfl, rfl, hm2⟩, HBX.out.keeps hk2⟩ _ _ _ _ _ _ _ _ _ _ _ _ _ _ _ _ _ _ _ _ _ _ _ _ _ _ _ _ _ _ _ _ _ _ _ _ _ _ _ _ _ _ _ _ _ _ _ _ _ _ _ _ _ _ _ _ _ _ _ _ _ _ _ _ _ _ _ _ _ _ _ _ _ _ _ _ _ _ _ _ _ _ _ _ _ _ _ _ _ _ _
    · go_wp2_with fail
      exact HKK.out _ ⟨(fun h => absurd (E0.out.symm.trans h) (by decide)), fun _ => St.le (Or.inr ⟨rfl, rfl, hd⟩) (by omega), HBX.out⟩ _ _ _ _ _ _ _ _ _ _ _ _ _ _ _ _ _ _ _ _ _ _ _ _ _ _ _ _ _ _ _ _ _ _ _ _ _ _ _ _ _ _ _ _ _ _ _ _ _ _ _ _ _ _ _ _ _ _ _ _ _ _ _ _ _ _ _ _ _ _ _ _ _ _ _ _ _ _ _ _ _ _ _ _ _ _ _ _ _ _ _
  by_cases q4 : wh = 4
  · have E0 : Hid (again wh = false) := by show again wh = false; rw [q4]; rfl
    clear q0 q1 q2
    obtain ⟨c1, _, _, _, _⟩ := C.out HAB.out
    rcases HST.out with ⟨vb, rv, S, rfl, rfl, hbo⟩ | ⟨rfl, rfl, D, c, hd, hws, hc0, hcn⟩
    · have HBO : Hid (Both w0 wx N vb db cb rv Rb rd rc s kb kt S n) := hbo
      clear hbo c0
      go_wp2_with fail
      refine (fuseVP at_ HAT.out HBO.out).mono ?_
      rintro e w2 ⟨rfl, hv2, hr2, hk2, hN2⟩
      have HV2 : Hid (∃ v1, Vol w0 w2 vb db cb kb kt { S with D := S.D.fuse at_ } v1 ∧ ∀ k, v1.ownBlock = some k → N ≤ k) := hv2
      have HR2 : Hid (RVol w0 w2 N rv Rb rd rc s S) := hr2
      have HK2 : Hid (Keeps wx w2 db cb rd rc) := hk2
      have HN2 : Hid (N ≤ w2.heap.size) := hN2
      clear hv2 hr2 hk2 hN2 c1
      obtain ⟨c1, _, _, _, _⟩ := C.out (HAB.out.keeps HK2.out)
      go_wp2_with fail
      refine (fuseVR at_ HBO.out.ap HBO.out.nv HN2.out (fuse_vok at_ HBO.out.ok) HV2.out HR2.out).mono ?_
      rintro e w3 ⟨rfl, hb3, hk3⟩
      go_wp2_with fail
      exact HKK.out _ ⟨(fun h => absurd (E0.out.symm.trans h) (by decide)), fun _ => St.le (Or.inl ⟨vb, rv, _, rfl, rfl, hb3⟩) (by omega), HBX.out.keeps (HK2.out.trans hk3)⟩ _ _ _ _ _ _ _ _ _ _ _ _ _ _ _ _ _ _ _ _ _ _ _ _ _ _ _ _ _ _ _ _ _ _ _ _ _ _ _ _ _ _ _ _ _ _ _ _ _ _ _ _ _ _ _ _ _ _ _ _ _ _ _ _ _ _ _ _ _ _ _ _ _ _ _ _ _ _ _ _ _ _ _ _ _ _ _ _ _ _ _
    · have HD : Hid (BD w0 wx N db cb Rb rd rc D D c) := hd
      clear hd c0
      go_wp2_with fail
      refine (fuseP at_ HAT.out HD.out).mono ?_
      rintro e w2 ⟨rfl, hb2, hk2⟩
      have HD2 : Hid (BD w0 w2 N db cb Rb rd rc (D.fuse at_) D c) := hb2
      have HK2 : Hid (Keeps wx w2 db cb rd rc) := hk2
      clear hb2 hk2 c1
      obtain ⟨c1, _, _, _, _⟩ := C.out (HAB.out.keeps HK2.out)
      go_wp2_with fail
      refine (fuseR at_ HD2.out).mono ?_
      rintro e w3 ⟨rfl, hb3, hk3⟩
      go_wp2_with fail
      exact HKK.out _ ⟨(fun h => absurd (E0.out.symm.trans h) (by decide)), fun _ => Or.inr ⟨rfl, rfl, _, _, hb3, hws, hc0, by omega⟩, HBX.out.keeps (HK2.out.trans hk3)⟩ _ _ _ _ _ _ _ _ _ _ _ _ _ _ _ _ _ _ _ _ _ _ _ _ _ _ _ _ _ _ _ _ _ _ _ _ _ _ _ _ _ _ _ _ _ _ _ _ _ _ _ _ _ _ _ _ _ _ _ _ _ _ _ _ _ _ _ _ _ _ _ _ _ _ _ _ _ _ _ _ _ _ _ _ _ _ _ _ _ _ _
  by_cases q5 : wh = 5
  · have E0 : Hid (again wh = true) := by show again wh = true; rw [q5]; rfl
    clear q0 q1 q2 q4
    obtain ⟨_, _, _, c4, c5⟩ := C.out HAB.out
    obtain ⟨D, c, hd, hws, hc0, hcn⟩ := HST.out.bd
    have HD : Hid (BD w0 wx N db cb Rb rd rc D D c) := hd
    clear hd c0 hws
    go_wp2_with fail
    refine (crashP nk ns _ _ ks sl HKV.out HSV.out HD.out).mono ?_
    rintro e w2 ⟨rfl, hb2, hk2⟩
    have HD2 : Hid (BD w0 w2 N db cb Rb rd rc (D.crashed nk ks ns sl) D c) := hb2
    have HK2 : Hid (Keeps wx w2 db cb rd rc) := hk2
    clear hb2 hk2 c4 c5
    obtain ⟨_, _, _, c4, c5⟩ := C.out (HAB.out.keeps HK2.out)
    go_wp2_with fail
    refine (crashR nk ns _ _ ks sl HD.out.dok HKV.out HSV.out HD2.out).mono ?_
    rintro e w3 ⟨rfl, hb3, hk3⟩
    go_wp2_with fail
    exact HKK.out _ ⟨fun _ => ⟨_, _, hb3, Nat.zero_le _, hc0, hcn⟩, (fun h => absurd (E0.out.symm.trans h) (by decide)), HBX.out.keeps (HK2.out.trans hk3)⟩ _ _ _ _ _ _ _ _ _ _ _ _ _ _ _ _ _ _ _ _ _ _ _ _ _ _ _ _ _ _ _ _ _ _ _ _ _ _ _ _ _ _ _ _ _ _ _ _ _ _ _ _ _ _ _ _ _ _ _ _ _ _ _ _ _ _ _ _ _ _ _ _ _ _ _ _ _ _ _ _ _ _ _ _ _ _ _ _ _ _ _
  by_cases q6 : wh = 6
  · have E0 : Hid (again wh = false) := by show again wh = false; rw [q6]; rfl
    clear q0 q1 q2 q4 q5
    obtain ⟨D, c, hd, _, _, _⟩ := HST.out.bd
    have HD : Hid (BD w0 wx N db cb Rb rd rc D D c) := hd
    clear hd c0
    go_wp2_with fail
    refine (imgP HD.out).mono ?_
    rintro e w2 ⟨iv1, rfl, hr2, hs2⟩
    have HR2 : Hid (∀ z, z < 8 → w2.ownsRow wx.heap.size 9 1 (iv1 z) (D.sure z) (blks (D.blk z) (D.sure z))) := hr2
    have HS2 : Hid (Since wx w2) := hs2
    clear hr2 hs2
    go_wp2_with fail
    refine (imgR HD.out.dok (HD.out.go HS2.out)).mono ?_
    rintro e w3 ⟨iv2, rfl, hr3, hs3⟩
    have HR3 : Hid (∀ z, z < 8 → w3.ownsRow w2.heap.size 9 1 (iv2 z) (D.sure z) (blks (D.blk z) (D.sure z))) := hr3
    have HR2b : Hid (∀ z, z < 8 → w3.ownsRow wx.heap.size 9 1 (iv1 z) (D.sure z) (blks (D.blk z) (D.sure z))) := fun z hz => ownsRow_since (HR2.out z hz) hs3
    have HS3 : Hid (Since wx w3) := HS2.out.trans hs3
    have hl2 := HS2.out.size
    clear hr3 hs3
    generalize txt 500 (D.slot 0) = s0 at *
    generalize txt 500 (D.slot 1) = s1 at *
    have HBX3 : Hid (Boxes w3 N db cb rd rc b1 b2) := HBX.out.keeps (Keeps.of_since HS3.out)
    obtain ⟨jv1, jv2, r0, r1, nn, l, k1, k2, _⟩ := HBX3.out.im
    have o1 := fun j (_ : j < 10) => icell_one iv1 s0 s1 (fun z hz => own_one (HR2b.out z hz)) j
    have o2 := fun j (_ : j < 10) => icell_one iv2 s0 s1 (fun z hz => own_one (HR3.out z hz)) j
    have HC1 : Cel (w3.setCells b1 0 (brow 10 (icell iv1 s0 s1))) b1 10 (icell iv1 s0 s1) := (k1.cel.setRow 0 10 (by omega) (icell iv1 s0 s1)).congr (fun j hj => by unfold updl; rw [if_pos (by omega)]; rfl)
    have hc2 := k2.cel.setRow_other (b' := b1) (o' := 0) (brow 10 (icell iv1 s0 s1)) (Ne.symm HBX3.out.ne)
    have HC2 : Cel ((w3.setCells b1 0 (brow 10 (icell iv1 s0 s1))).setCells b2 0 (brow 10 (icell iv2 s0 s1))) b2 10 (icell iv2 s0 s1) := (hc2.setRow 0 10 (by omega) (icell iv2 s0 s1)).congr (fun j hj => by unfold updl; rw [if_pos (by omega)]; rfl)
    have HC1b : Cel ((w3.setCells b1 0 (brow 10 (icell iv1 s0 s1))).setCells b2 0 (brow 10 (icell iv2 s0 s1))) b1 10 (icell iv1 s0 s1) := HC1.setRow_other _ HBX3.out.ne
    have X1 : Bxd w3 (w3.setCells b1 0 (brow 10 (icell iv1 s0 s1))) N b1 := Bxd.setCells HBX3.out.n.1 _ _ HBX3.out.t.1
    have X2 : Bxd (w3.setCells b1 0 (brow 10 (icell iv1 s0 s1))) ((w3.setCells b1 0 (brow 10 (icell iv1 s0 s1))).setCells b2 0 (brow 10 (icell iv2 s0 s1))) N b2 := Bxd.setCells HBX3.out.n.2 _ _ (Ty.setCells _ _ _ _ HBX3.out.t.2)
    have hY : ∀ k, k < w3.heap.size → Ty w3 k 9 → ((w3.setCells b1 0 (brow 10 (icell iv1 s0 s1))).setCells b2 0 (brow 10 (icell iv2 s0 s1))).heap[k]? = w3.heap[k]? := fun k hk ht => (X2.block k (Nat.lt_of_lt_of_le hk X1.size) (fun e => by subst e; exact absurd (ht.one HBX3.out.t.2) (by decide))).trans (X1.block k hk (fun e => by subst e; exact absurd (ht.one HBX3.out.t.1) (by decide)))
    have T1 : Ty ((w3.setCells b1 0 (brow 10 (icell iv1 s0 s1))).setCells b2 0 (brow 10 (icell iv2 s0 s1))) b1 48 := Ty.setCells _ _ _ _ (Ty.setCells _ _ _ _ HBX3.out.t.1)
    have T2 : Ty ((w3.setCells b1 0 (brow 10 (icell iv1 s0 s1))).setCells b2 0 (brow 10 (icell iv2 s0 s1))) b2 48 := Ty.setCells _ _ _ _ (Ty.setCells _ _ _ _ HBX3.out.t.2)
    have hlo := HD.out.ap.lt
    have hnN := HD.out.nN
    have HDN : Hid (Done w0 ((w3.setCells b1 0 (brow 10 (icell iv1 s0 s1))).setCells b2 0 (brow 10 (icell iv2 s0 s1))) N db cb Rb rd rc b1 b2 s kb kt n wh a b) :=
      ⟨(fun h => absurd (E0.out.symm.trans h) (by decide)), fun _ => (((HST.out.go HS3.out).box X1).box X2).le (by omega), ⟨HBX3.out.ne, HBX3.out.n, ⟨T1, T2⟩, iv1, iv2, s0, s1, D.sure, (fun z j => txt 128 (D.blk z j)), kept_img HR2b.out ⟨by omega, by omega, by omega, by omega⟩ hY HC1b ⟨⟨_, T1, by decide, by decide, by decide⟩, k1.safe.2⟩, kept_img HR3.out ⟨by omega, by omega, by omega, by omega⟩ hY HC2 ⟨⟨_, T2, by decide, by decide, by decide⟩, k2.safe.2⟩, fun z hz => by have h1 := HD.out.dok.sure z hz; have h2 := HD.out.dok.cnt z hz; omega⟩⟩
    have t1 := k1.cel.there 0 10 (by omega)
    have t2 := hc2.there 0 10 (by omega)
    have l1 := ln10 iv1 s0 s1
    have l2 := ln10 iv2 s0 s1
    have a1 : (brow 10 (icell iv1 s0 s1)).toArray.all (·.oneCell') = true := all_oneCell_toArray (brow_one _ _ o1)
    have a2 : (brow 10 (icell iv2 s0 s1)).toArray.all (·.oneCell') = true := all_oneCell_toArray (brow_one _ _ o2)
    clear HC1 hc2 HC2 HC1b X1 X2 hY T1 T2 hlo hnN o1 o2 k1 k2 hl2
    generalize brow 10 (icell iv1 s0 s1) = c1 at *
    generalize brow 10 (icell iv2 s0 s1) = c2 at *
    have t1' : w3.there b1 0 c1.toArray.size := by
      have e : c1.toArray.size = 10 := by rw [List.size_toArray]; exact l1
      rw [e]; exact t1
    have t2' : (w3.setCells b1 0 c1).there b2 0 c2.toArray.size := by
      have e : c2.toArray.size = 10 := by rw [List.size_toArray]; exact l2
      rw [e]; exact t2
    clear t1 t2
    go_wp2_with (first
      | refine wpList_store_mid (by rfl) 48 _ _ (by rfl) b1 0 c1.toArray (by rfl) (by rfl) t1' (by rw [List.size_toArray, l1]; kernel_rfl) a1 ?_
      | refine wpList_store_mid (by rfl) 48 _ _ (by rfl) b2 0 c2.toArray (by rfl) (by rfl) t2' (by rw [List.size_toArray, l2]; kernel_rfl) a2 ?_)
    exact HKK.out _ HDN.out _ _ _ _ _ _ _ _ _ _ _ _ _ _ _ _ _ _ _ _ _ _ _ _ _ _ _ _ _ _ _ _ _ _ _ _ _ _ _ _ _ _ _ _ _ _ _ _ _ _ _ _ _ _ _ _ _ _ _ _ _ _ _ _ _ _ _ _ _ _ _ _ _ _ _ _ _ _ _ _ _ _ _ _ _ _ _ _ _ _ _
  by_cases q7 : wh = 7
  · have E0 : Hid (again wh = true) := by show again wh = true; rw [q7]; rfl
    clear q0 q1 q2 q4 q5 q6
    obtain ⟨D, c, hd, hws, hc0, hcn⟩ := HST.out.bd
    have HD : Hid (BD w0 wx N db cb Rb rd rc D D c) := hd
    clear hd c0 hws
    obtain ⟨iv1, iv2, s0, s1, nn, l, k1, k2, k3⟩ := HBX.out.im
    have HK1 : Hid (Kept wx db cb rd rc b1 iv1 s0 s1 nn l) := k1
    have HKK2 : Hid (Kept wx db cb rd rc b2 iv2 s0 s1 nn l) := k2
    have HN3 : Hid (∀ z, z < 8 → nn z ≤ 1000) := k3
    clear k1 k2 k3
    have hL1 := ln10 iv1 s0 s1
    have hL2 := ln10 iv2 s0 s1
    have hR : wx.rangeAt b1 0 (brow 10 (icell iv1 s0 s1)) := by have := HK1.out.cel.range 0 10 (by omega); simpa only [Nat.zero_add] using this
    go_wp2_with (refine wpList_load_mid (by rfl) 48 _ (by rfl) b1 0 (by rfl) _ _ hR Tryz.underlying48 (by rfl) (by rw [hL1]; kernel_rfl) ?_)
    refine (layP iv1 s0 s1 nn l HK1.out.img.1 HD.out).mono ?_
    rintro e w2 ⟨rfl, hb2, hk2⟩
    have HD2 : Hid (BD w0 w2 N db cb Rb rd rc (D.laidBy nn l s0 s1) D c) := hb2
    have HK2 : Hid (Keeps wx w2 db cb rd rc) := hk2
    clear hb2 hk2 hR
    have hR : w2.rangeAt b2 0 (brow 10 (icell iv2 s0 s1)) := by have := (HKK2.out.keeps HK2.out).cel.range 0 10 (by omega); simpa only [Nat.zero_add] using this
    go_wp2_with (refine wpList_load_mid (by rfl) 48 _ (by rfl) b2 0 (by rfl) _ _ hR Tryz.underlying48 (by rfl) (by rw [hL2]; kernel_rfl) ?_)
    refine (layR iv2 s0 s1 nn l (HKK2.out.keeps HK2.out).img.2 HN3.out HD2.out).mono ?_
    rintro e w3 ⟨rfl, hb3, hk3⟩
    clear hR
    go_wp2_with fail
    exact HKK.out _ ⟨fun _ => ⟨_, _, hb3, Nat.zero_le _, hc0, hcn⟩, (fun h => absurd (E0.out.symm.trans h) (by decide)), HBX.out.keeps (HK2.out.trans hk3)⟩ _ _ _ _ _ _ _ _ _ _ _ _ _ _ _ _ _ _ _ _ _ _ _ _ _ _ _ _ _ _ _ _ _ _ _ _ _ _ _ _ _ _ _ _ _ _ _ _ _ _ _ _ _ _ _ _ _ _ _ _ _ _ _ _ _ _ _ _ _ _ _ _ _ _ _ _ _ _ _ _ _ _ _ _ _ _ _ _ _ _ _
  by_cases q8 : wh = 8
  · have E0 : Hid (again wh = true) := by show again wh = true; rw [q8]; rfl
    clear q0 q1 q2 q4 q5 q6 q7
    obtain ⟨c1, c2, _, _, _⟩ := C.out HAB.out
    obtain ⟨D, c, hd, hws, hc0, hcn⟩ := HST.out.bd
    have HD : Hid (BD w0 wx N db cb Rb rd rc D D c) := hd
    clear hd c0
    go_wp2_with fail
    refine (spoils_any at_ by_ HD.out hws).mono ?_
    rintro e w2 ⟨rfl, D', hb2, hw2, hk2⟩
    go_wp2_with fail
    exact HKK.out _ ⟨fun _ => ⟨_, _, hb2, hw2, hc0, hcn⟩, (fun h => absurd (E0.out.symm.trans h) (by decide)), HBX.out.keeps hk2⟩ _ _ _ _ _ _ _ _ _ _ _ _ _ _ _ _ _ _ _ _ _ _ _ _ _ _ _ _ _ _ _ _ _ _ _ _ _ _ _ _ _ _ _ _ _ _ _ _ _ _ _ _ _ _ _ _ _ _ _ _ _ _ _ _ _ _ _ _ _ _ _ _ _ _ _ _ _ _ _ _ _ _ _ _ _ _ _ _ _ _ _
  go_wp2_with fail
  have HX : Hid (Done w0 wx N db cb Rb rd rc b1 b2 s kb kt n wh a b) := ⟨fun _ => HST.out.bd, fun _ => HST.out.le (by omega), HBX.out⟩
  exact HKK.out _ HX.out _ _ _ _ _ _ _ _ _ _ _ _ _ _ _ _ _ _ _ _ _ _ _ _ _ _ _ _ _ _ _ _ _ _ _ _ _ _ _ _ _ _ _ _ _ _ _ _ _ _ _ _ _ _ _ _ _ _ _ _ _ _ _ _ _ _ _ _ _ _ _ _ _ _ _ _ _ _ _ _ _ _ _ _ _ _ _ _ _ _ _
end Vl
end Go.Proofs.YtbfjklpoheooaaaGreatDoor
