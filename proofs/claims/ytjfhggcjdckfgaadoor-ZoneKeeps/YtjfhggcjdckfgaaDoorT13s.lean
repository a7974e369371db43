/- The law ZoneKeeps walked: its switch. -/
import Derived.Test.YtjfhggcjdckfgaaDoorT12
import Derived.Deep.CutBlock
import Derived.Deep.MidRow
namespace Go.Proofs.YtjfhggcjdckfgaaDoor
set_option linter.unusedSimpArgs false
set_option linter.unusedVariables false
open Go.RowKit

/-- the steps that came in -/
structure Ops (w : World) (a : Option Addr) (n : Nat) (wh at_ : Nat → Int) (s : Nat → ByteArray) (kv sv : Nat → Value) (nk ns : Nat → Nat) (ks : Nat → Nat → Int) (sl : Nat → Nat → Bool) : Prop where
  cells : 0 < n → ∃ k o, a = some ⟨k, o, none⟩ ∧ ∀ j, j < n → w.rangeAt k (o + j * 5) [.int .i64 (wh j), .int .i64 (at_ j), .string (s j), kv j, sv j]
  keeps : ∀ j, j < n → SlA w w.heap.size (kv j) (nk j) (fun i => .int .i64 (ks j i))
  slots : ∀ j, j < n → SlA w w.heap.size (sv j) (ns j) (fun i => .bool (sl j i))
  small : ∀ j, j < n → -9223372036854775808 ≤ at_ j ∧ at_ j ≤ 9223372036854775807
/-- a step's cells -/
def xcell (wh at_ : Int) (s : ByteArray) (kv sv : Value) (j : Nat) : Value := if j = 0 then .int .i64 wh else if j = 1 then .int .i64 at_ else if j = 2 then .string s else if j = 3 then kv else sv
theorem SlA.since {w w' : World} {v : Value} {n : Nat} {f : Nat → Value} (h : SlA w w.heap.size v n f) (hs : Since w w') : SlA w' w'.heap.size v n f := by
  obtain ⟨a, c, hv, h⟩ := h
  refine ⟨a, c, hv, fun hn => ?_⟩
  obtain ⟨k, o, ha, hk, hc⟩ := h hn
  exact ⟨k, o, ha, Nat.lt_of_lt_of_le hk hs.size, fun j hj => (hs.cell (p := ⟨k, o + j, none⟩) (World.block_lt_of_cell? w _ (hc j hj))).trans (hc j hj)⟩
theorem ImA.since {w w' : World} {iv : Nat → Value} {n : Nat → Nat} {l : Nat → Nat → ByteArray} (h : ImA w w.heap.size iv n l) (hs : Since w w') : ImA w' w'.heap.size iv n l where
  row z hz := by
    obtain ⟨a, c, hv, hc, h⟩ := h.row z hz
    refine ⟨a, c, hv, hc, fun hn => ?_⟩
    obtain ⟨k, o, ha, hk, hc⟩ := h hn
    exact ⟨k, o, ha, Nat.lt_of_lt_of_le hk hs.size, fun j hj => (hs.cell (p := ⟨k, o + j, none⟩) (World.block_lt_of_cell? w _ (hc j hj))).trans (hc j hj)⟩
theorem bo_new {w0 w : World} {b rb : Nat} {D : Dv} (wh at_ : Int) (s : ByteArray) (kv sv : Value) (h : ∃ v lv av wv, Dev w b D v ∧ Ref w rb (b + 1) D lv av wv ∧ (∀ k, v.ownBlock = some k → b < k)) (hs : Since w0 w) (lo : w0.heap.size ≤ rb ∧ rb < b) :
    Bo w0 (w.alloc (.cells #[.int .i64 wh, .int .i64 at_, .string s, kv, sv] 54)) b rb w.heap.size (xcell wh at_ s kv sv) D D where
  st := by
    obtain ⟨v, lv, av, wv, hd, hr, hv⟩ := h
    exact ⟨v, lv, av, wv, hd.since ((Since.refl _).alloc _), hr.since ((Since.refl _).alloc _), hv⟩
  xt := ⟨_, heap_alloc_new _ _⟩
  xc := Cel.new w 5 _ _ _ (fun j hj => by
    match j, hj with
    | 0, _ => rfl
    | 1, _ => rfl
    | 2, _ => rfl
    | 3, _ => rfl
    | 4, _ => rfl) _ rfl
  xne := by
    obtain ⟨v, lv, av, wv, hd, hr, hv⟩ := h
    have h1 := hd.lt
    have h2 := lo.2
    omega
  since := hs.trans ((Since.refl _).alloc _)
  lo := lo
theorem apR_ws (D : Dv) (z : Int) (s : ByteArray) : (D.apR z s).2.2.ws.length ≤ D.ws.length := by
  unfold Dv.apR
  repeat' split
  all_goals first
    | exact Nat.le_refl _
    | (show D.burnt.ws.length ≤ _; rw [burnt_ws]; exact Nat.le_refl _)
theorem rsR_ws (D : Dv) (z : Int) : (D.rsR z).2.ws.length ≤ D.ws.length := by
  unfold Dv.rsR
  repeat' split
  all_goals first
    | exact Nat.le_refl _
    | (show D.burnt.ws.length ≤ _; rw [burnt_ws]; exact Nat.le_refl _)
theorem ptR_ws (D : Dv) (z : Int) (s : ByteArray) : (D.ptR z s).2.ws.length ≤ D.ws.length + 1 := by
  unfold Dv.ptR
  repeat' split
  all_goals first
    | exact Nat.le_succ _
    | (show (D.burnt.ws ++ [_]).length ≤ _; rw [burnt_ws]; simp)
theorem syR_ws (D : Dv) : D.syR.2.ws.length ≤ D.ws.length := by
  unfold Dv.syR
  split
  · exact Nat.le_refl _
  · exact Nat.zero_le _
theorem get_all2 {w : World} {b : Nat} {D : Dv} {v : Value} (z : Int) (hd : Dev w b D v) :
    Calls Tryd.prog 51 #[.pointer (some ⟨b, 0, none⟩), .int .i64 z] w fun e w' => e = .returned (.tuple #[.string (D.gtR z).1, ev (D.gtR z).2]) ∧ Since w w' := by
  unfold Dv.gtR
  by_cases hz : 0 ≤ z ∧ z < 2
  · rw [if_neg (by omega)]
    obtain ⟨k, rfl⟩ := Int.eq_ofNat_of_zero_le hz.1
    rw [Int.toNat_natCast]
    exact get_any D v b k w hd (by omega)
  · rw [if_pos hz]
    refine (get_bad b z w hz).mono ?_
    rintro e w' ⟨rfl, rfl⟩
    exact ⟨rfl, Since.refl _⟩
/-- where a look goes -/
def zs (a : Int) (q : Nat) : Int := if q = 0 then a else if q = 1 then 0 else if q = 2 then 7 else if q = 3 then 8 else -1

/-- a part of a text -/
def cL : Code → Code
  | .seq a _ => a
  | c => c
def cR : Code → Code
  | .seq _ a => a
  | c => c
def cB : Code → Code
  | .block _ a => a
  | .loop a => a
  | c => c
set_option maxRecDepth 100000 in
set_option maxHeartbeats 8000000 in
theorem sw_go (code : Code) (hcode : code = cR (cL (cR (cR (cB (cL (cR (cB (cB (cR (cL (cR (cR (cR (Tryd.f5.body.getD .skip))))))))))))))) (wq wx : World) (b rb xb ib k : Nat) (xc : Nat → Value) (D : Dv) (whk atk : Int) (sk : ByteArray) (na sa : Option Addr) (nkk nsk nc sc : Nat) (ksk : Nat → Int) (slk : Nat → Bool)
    (iv : Nat → Value) (n : Nat → Nat) (l : Nat → Nat → ByteArray) (s0 s1 : ByteArray)
    (HB : Hid (Bo wq wx b rb xb xc D D)) (C : Hid (∀ {w' : World} {D1 D2 : Dv}, Bo wq w' b rb xb xc D1 D2 → w'.cell? ⟨xb, 0, none⟩ = some (.int .i64 whk) ∧ w'.cell? ⟨xb, 1, none⟩ = some (.int .i64 atk) ∧ w'.cell? ⟨xb, 2, none⟩ = some (.string sk) ∧ w'.cell? ⟨xb, 3, none⟩ = some (.slice na nkk nc) ∧ w'.cell? ⟨xb, 4, none⟩ = some (.slice sa nsk sc))) (SW : Hid (∀ wr, Since wq wr → Et wr)) (HWS : Hid (D.ws.length ≤ k)) (HAT : Hid (-9223372036854775808 ≤ atk ∧ atk ≤ 9223372036854775807)) (hk50 : k ≤ 50)
    (HKV : Hid (SlA wq wq.heap.size (.slice na nkk nc) nkk (fun i => .int .i64 (ksk i)))) (HSV : Hid (SlA wq wq.heap.size (.slice sa nsk sc) nsk (fun i => .bool (slk i))))
    (HIQ : Hid (ImA wq wq.heap.size iv n l)) (HN : Hid (∀ z, z < 8 → n z ≤ 1000)) (BQ : Hid (Cel wq ib 10 (icell iv s0 s1)))
    (K : Act → World → Prop) (Q' : Exit → Act → World → Prop) (HQP : Hid (∀ c a (d : Nat) v w, Q' (.panic c) (a.put (some d) v) w → Q' (.panic c) a w)) (t0 t1 t2 t4 t7 t9 t10 t11 t12 t13 t14 t15 t16 t17 t18 t19 t20 t21 t22 t23 t24 t25 t26 t27 t28 t29 t30 t31 t32 t33 t34 t35 t36 t37 t38 t39 t40 t41 t42 t43 t44 t45 t46 t47 t48 t49 t50 t51 t52 t53 t54 t55 t56 t58 t59 t60 t61 t62 t63 t64 t65 t66 t67 t68 t69 t70 t71 t72 t73 t74 t75 t76 t77 t78 t79 t80 t81 t82 t83 t84 t85 t86 t87 t88 t89 t90 t91 t92 t93 t94 t95 t96 t97 t98 t99 t100 t101 t102 t103 t104 t105 t106 t107 t108 t109 t110 t111 t112 t113 t114 t115 t116 t117 t118 t119 t120 t121 t122 t123 t124 t125 t126 t127 t128 t129 t130 t131 t132 t133 t134 t135 t136 t137 t138 t139 t140 t141 t142 t143 t144 t145 t146 t147 t148 t149 t150 t151 t152 t153 t154 t155 t156 t157 t158 t159 t160 t161 t162 t163 t164 t165 t166 t167 t168 t169 t170 t171 t172 t173 t174 t175 t176 t177 t178 t179 t180 t181 t182 t183 t184 t185 t186 t187 t188 t189 t190 t191 t192 t193 t194 t195 t196 t197 t198 t199 t200 t201 t202 t203 t204 t205 t206 t207 t208 t209 t210 t211 t212 t213 t214 t215 t216 t217 t218 t219 t220 t221 t222 t223 t224 t225 t226 t227 t228 t229 t230 t231 t232 t233 t234 t235 t236 : Value)
    (HKK : Hid (∀ (D' : Dv) (wc : World), Bo wq wc b rb xb xc D' D' → D'.ws.length ≤ k + 1 → ∀ (z9 z10 z11 z12 z57 z58 z59 z60 z61 z62 z63 z64 z65 z66 z67 z68 z69 z70 z71 z72 z73 z74 z75 z76 z77 z78 z79 z80 z81 z82 z83 z84 z85 z86 z87 z88 z89 z90 z91 z92 z93 z94 z95 z96 z97 z98 z99 z100 z101 z102 z103 z104 z105 z106 z107 z108 z109 z110 z111 z112 z113 z114 z115 z116 z117 z118 z119 z120 z121 z122 z123 z124 z125 z126 z127 z128 z129 z130 z131 z132 z133 z134 z135 z136 z137 z138 z139 z140 z141 z142 z143 z144 z145 z146 z147 z148 z149 z150 z151 z152 z153 z154 : Value), K ⟨#[t0, t1, t2, .pointer (some ⟨ib, 0, none⟩), t4, .pointer (some ⟨rb, 0, none⟩), .pointer (some ⟨b, 0, none⟩), t7, .pointer (some ⟨xb, 0, none⟩), z9, z10, z11, z12, t13, t14, t15, t16, t17, t18, t19, t20, t21, t22, t23, t24, t25, t26, t27, t28, t29, t30, t31, t32, t33, t34, t35, t36, t37, t38, t39, t40, t41, t42, t43, t44, t45, t46, t47, t48, t49, t50, t51, t52, t53, t54, t55, t56, z57, z58, z59, z60, z61, z62, z63, z64, z65, z66, z67, z68, z69, z70, z71, z72, z73, z74, z75, z76, z77, z78, z79, z80, z81, z82, z83, z84, z85, z86, z87, z88, z89, z90, z91, z92, z93, z94, z95, z96, z97, z98, z99, z100, z101, z102, z103, z104, z105, z106, z107, z108, z109, z110, z111, z112, z113, z114, z115, z116, z117, z118, z119, z120, z121, z122, z123, z124, z125, z126, z127, z128, z129, z130, z131, z132, z133, z134, z135, z136, z137, z138, z139, z140, z141, z142, z143, z144, z145, z146, z147, z148, z149, z150, z151, z152, z153, z154, t155, t156, t157, t158, t159, t160, t161, t162, t163, t164, t165, t166, t167, t168, t169, t170, t171, t172, t173, t174, t175, t176, t177, t178, t179, t180, t181, t182, t183, t184, t185, t186, t187, t188, t189, t190, t191, t192, t193, t194, t195, t196, t197, t198, t199, t200, t201, t202, t203, t204, t205, t206, t207, t208, t209, t210, t211, t212, t213, t214, t215, t216, t217, t218, t219, t220, t221, t222, t223, t224, t225, t226, t227, t228, t229, t230, t231, t232, t233, t234, t235, t236], []⟩ wc)) : Code.wp Tryd.prog code (Exit.then K Q') ⟨#[t0, t1, t2, .pointer (some ⟨ib, 0, none⟩), t4, .pointer (some ⟨rb, 0, none⟩), .pointer (some ⟨b, 0, none⟩), t7, .pointer (some ⟨xb, 0, none⟩), t9, t10, t11, t12, t13, t14, t15, t16, t17, t18, t19, t20, t21, t22, t23, t24, t25, t26, t27, t28, t29, t30, t31, t32, t33, t34, t35, t36, t37, t38, t39, t40, t41, t42, t43, t44, t45, t46, t47, t48, t49, t50, t51, t52, t53, t54, t55, t56, .int .i64 whk, t58, t59, t60, t61, t62, t63, t64, t65, t66, t67, t68, t69, t70, t71, t72, t73, t74, t75, t76, t77, t78, t79, t80, t81, t82, t83, t84, t85, t86, t87, t88, t89, t90, t91, t92, t93, t94, t95, t96, t97, t98, t99, t100, t101, t102, t103, t104, t105, t106, t107, t108, t109, t110, t111, t112, t113, t114, t115, t116, t117, t118, t119, t120, t121, t122, t123, t124, t125, t126, t127, t128, t129, t130, t131, t132, t133, t134, t135, t136, t137, t138, t139, t140, t141, t142, t143, t144, t145, t146, t147, t148, t149, t150, t151, t152, t153, t154, t155, t156, t157, t158, t159, t160, t161, t162, t163, t164, t165, t166, t167, t168, t169, t170, t171, t172, t173, t174, t175, t176, t177, t178, t179, t180, t181, t182, t183, t184, t185, t186, t187, t188, t189, t190, t191, t192, t193, t194, t195, t196, t197, t198, t199, t200, t201, t202, t203, t204, t205, t206, t207, t208, t209, t210, t211, t212, t213, t214, t215, t216, t217, t218, t219, t220, t221, t222, t223, t224, t225, t226, t227, t228, t229, t230, t231, t232, t233, t234, t235, t236], []⟩ wx := by
  obtain ⟨c0, c1, c2, _, _⟩ := C.out HB.out
  rw [hcode]
  clear hcode
  dsimp only [Tryd.f5, cL, cR, cB, Option.getD]
  by_cases e0 : whk = 0
  · go_wp2_with fail
    refine (rappend_all atk sk HB.out HB.out.ok).mono ?_
    rintro e w2 ⟨rfl, hb2⟩
    have HB2 : Hid (Bo wq w2 b rb xb xc D (D.apR atk sk).2.2) := hb2
    clear hb2 c0 c1 c2
    obtain ⟨c0, c1, c2, _, _⟩ := C.out HB2.out
    go_wp2_with fail
    refine (append_all atk sk HB2.out).mono ?_
    rintro e w3 ⟨rfl, hb3⟩
    have HB3 : Hid (Bo wq w3 b rb xb xc (D.apR atk sk).2.2 (D.apR atk sk).2.2) := hb3
    clear hb3 c0 c1 c2
    go_wp2_with fail
    refine (bare_ev _ _ (SW.out _ HB3.out.since)).mono ?_
    rintro e w4 ⟨rfl, hS4⟩
    go_wp2_with fail
    exact HKK.out _ _ (HB3.out.go hS4) (by have := apR_ws D atk sk; have := HWS.out; omega) _ _ _ _ _ _ _ _ _ _ _ _ _ _ _ _ _ _ _ _ _ _ _ _ _ _ _ _ _ _ _ _ _ _ _ _ _ _ _ _ _ _ _ _ _ _ _ _ _ _ _ _ _ _ _ _ _ _ _ _ _ _ _ _ _ _ _ _ _ _ _ _ _ _ _ _ _ _ _ _ _ _ _ _ _ _ _ _ _ _ _ _ _ _ _ _ _ _ _ _ _ _
  by_cases e1 : whk = 1
  · clear e0
    go_wp2_with fail
    clear c0 c1 c2
    have HBd : Hid (Bo wq wx.drew b rb xb xc D D) := HB.out.go (Since.refl _).drew
    have hS4 : (fun w' : World => w'.cell? ⟨xb, 1, none⟩ = some (.int .i64 atk) ∧ w'.cell? ⟨xb, 2, none⟩ = some (.string sk)) wx.drew := ⟨(C.out HBd.out).2.1, (C.out HBd.out).2.2.1⟩
    refine wp_region_held (S := fun w' : World => w'.cell? ⟨xb, 1, none⟩ = some (.int .i64 atk) ∧ w'.cell? ⟨xb, 2, none⟩ = some (.string sk)) (by kernel_rfl) ?_
    refine takeD (i := 0) (d := 89) (v := ?vp0) rfl rfl (by kernel_rfl) (by kernel_rfl) (by kernel_rfl) (fun _ _ _ h => HQP.out _ _ _ _ _ h) (Or.inl ⟨by rfl, ?hyp0⟩) hS4 ?rp0
    case hyp0 => (intro w _; go_simp; try with_reducible rfl)
    simp only [Act.put, List.setIfInBounds_toArray, List.set_cons_zero, List.set_cons_succ]
    refine takeD (i := 1) (d := 90) (v := ?vp1) rfl rfl (by kernel_rfl) (by kernel_rfl) (by kernel_rfl) (fun _ _ _ h => HQP.out _ _ _ _ _ h) (Or.inl ⟨by rfl, ?hyp1⟩) hS4 ?rp1
    case hyp1 => (intro w _; go_simp; try with_reducible rfl)
    simp only [Act.put, List.setIfInBounds_toArray, List.set_cons_zero, List.set_cons_succ]
    refine takeD (i := 2) (d := 91) (v := ?vp2) rfl rfl (by kernel_rfl) (by kernel_rfl) (by kernel_rfl) (fun _ _ _ h => HQP.out _ _ _ _ _ h) (Or.inl ⟨by rfl, ?hyp2⟩) hS4 ?rp2
    case hyp2 => (intro w hSw; obtain ⟨s0, s1⟩ := hSw; go_simp; try with_reducible rfl)
    simp only [Act.put, List.setIfInBounds_toArray, List.set_cons_zero, List.set_cons_succ]
    refine takeD (i := 4) (d := 93) (v := ?vp4) rfl rfl (by kernel_rfl) (by kernel_rfl) (by kernel_rfl) (fun _ _ _ h => HQP.out _ _ _ _ _ h) (Or.inl ⟨by rfl, ?hyp4⟩) hS4 ?rp4
    case hyp4 => (intro w _; go_simp; try with_reducible rfl)
    simp only [Act.put, List.setIfInBounds_toArray, List.set_cons_zero, List.set_cons_succ]
    refine takeD (i := 5) (d := 94) (v := ?vp5) rfl rfl (by kernel_rfl) (by kernel_rfl) (by kernel_rfl) (fun _ _ _ h => HQP.out _ _ _ _ _ h) (Or.inl ⟨by rfl, ?hyp5⟩) hS4 ?rp5
    case hyp5 => (intro w _; go_simp; try with_reducible rfl)
    simp only [Act.put, List.setIfInBounds_toArray, List.set_cons_zero, List.set_cons_succ]
    refine takeD (i := 6) (d := 95) (v := ?vp6) rfl rfl (by kernel_rfl) (by kernel_rfl) (by kernel_rfl) (fun _ _ _ h => HQP.out _ _ _ _ _ h) (Or.inl ⟨by rfl, ?hyp6⟩) hS4 ?rp6
    case hyp6 => (intro w hSw; obtain ⟨s0, s1⟩ := hSw; go_simp; try with_reducible rfl)
    simp only [Act.put, List.setIfInBounds_toArray, List.set_cons_zero, List.set_cons_succ]
    refine wpAnyH_ready (rs := [3]) (by kernel_rfl) (by simp) (AllReadyH.cons rfl (fun K hK => ?_) AllReadyH.nil)
    go_simp
    refine (reset_all atk HBd.out).mono ?_
    rintro e wa ⟨rfl, hba⟩
    have HBa : Hid (Bo wq wa b rb xb xc (D.rsR atk).2 D) := hba
    clear hba
    simp only []
    have hS4 : (fun w' : World => w'.cell? ⟨xb, 1, none⟩ = some (.int .i64 atk) ∧ w'.cell? ⟨xb, 2, none⟩ = some (.string sk)) wa := ⟨(C.out HBa.out).2.1, (C.out HBa.out).2.2.1⟩
    refine hK.out _ _ hS4 (fun _ => ?_)
    clear hK K
    (try simp only [Act.put, List.setIfInBounds_toArray, List.set_cons_zero, List.set_cons_succ])
    refine wpAnyH_ready (rs := [7]) (by kernel_rfl) (by simp) (AllReadyH.cons rfl (fun K hK => ?_) AllReadyH.nil)
    go_simp
    refine (rreset_all atk HBa.out HB.out.ok).mono ?_
    rintro e wb ⟨rfl, hbb⟩
    have HBb : Hid (Bo wq wb b rb xb xc (D.rsR atk).2 (D.rsR atk).2) := hbb
    clear hbb
    simp only []
    have hS4 : (fun w' : World => w'.cell? ⟨xb, 1, none⟩ = some (.int .i64 atk) ∧ w'.cell? ⟨xb, 2, none⟩ = some (.string sk)) wb := ⟨(C.out HBb.out).2.1, (C.out HBb.out).2.2.1⟩
    refine hK.out _ _ hS4 (fun _ => ?_)
    clear hK K
    (try simp only [Act.put, List.setIfInBounds_toArray, List.set_cons_zero, List.set_cons_succ])
    refine wpAnyH_ready (rs := [8]) (by kernel_rfl) (by simp) (AllReadyH.cons rfl (fun K hK => ?_) AllReadyH.nil)
    go_simp
    refine (bare_ev _ _ (SW.out _ HBb.out.since)).mono ?_
    rintro e wz ⟨rfl, hsz⟩
    have HBz : Hid (Bo wq wz b rb xb xc (D.rsR atk).2 (D.rsR atk).2) := HBb.out.go hsz
    clear hsz
    simp only []
    have hS4 : (fun w' : World => w'.cell? ⟨xb, 1, none⟩ = some (.int .i64 atk) ∧ w'.cell? ⟨xb, 2, none⟩ = some (.string sk)) wz := ⟨(C.out HBz.out).2.1, (C.out HBz.out).2.2.1⟩
    refine hK.out _ _ hS4 (fun _ => ?_)
    clear hK K
    (try simp only [Act.put, List.setIfInBounds_toArray, List.set_cons_zero, List.set_cons_succ])
    refine takeD (i := 9) (d := 98) (v := ?vp9) rfl rfl (by kernel_rfl) (by kernel_rfl) (by kernel_rfl) (fun _ _ _ h => HQP.out _ _ _ _ _ h) (Or.inl ⟨by rfl, ?hyp9⟩) hS4 ?rp9
    case hyp9 => (intro w _; go_simp; try with_reducible rfl)
    simp only [Act.put, List.setIfInBounds_toArray, List.set_cons_zero, List.set_cons_succ]
    refine wpAnyH_done (by kernel_rfl) ?_ _
    clear hS4
    go_wp2_with fail
    exact HKK.out _ _ (HBz.out) (by have := rsR_ws D atk; have := HWS.out; omega) _ _ _ _ _ _ _ _ _ _ _ _ _ _ _ _ _ _ _ _ _ _ _ _ _ _ _ _ _ _ _ _ _ _ _ _ _ _ _ _ _ _ _ _ _ _ _ _ _ _ _ _ _ _ _ _ _ _ _ _ _ _ _ _ _ _ _ _ _ _ _ _ _ _ _ _ _ _ _ _ _ _ _ _ _ _ _ _ _ _ _ _ _ _ _ _ _ _ _ _ _ _
  by_cases e2 : whk = 2
  · clear e0 e1
    go_wp2_with fail
    clear c0 c1 c2
    have HBd : Hid (Bo wq wx.drew b rb xb xc D D) := HB.out.go (Since.refl _).drew
    have hS4 : (fun w' : World => w'.cell? ⟨xb, 1, none⟩ = some (.int .i64 atk) ∧ w'.cell? ⟨xb, 2, none⟩ = some (.string sk)) wx.drew := ⟨(C.out HBd.out).2.1, (C.out HBd.out).2.2.1⟩
    refine wp_region_held (S := fun w' : World => w'.cell? ⟨xb, 1, none⟩ = some (.int .i64 atk) ∧ w'.cell? ⟨xb, 2, none⟩ = some (.string sk)) (by kernel_rfl) ?_
    refine takeD (i := 0) (d := 101) (v := ?vq0) rfl rfl (by kernel_rfl) (by kernel_rfl) (by kernel_rfl) (fun _ _ _ h => HQP.out _ _ _ _ _ h) (Or.inl ⟨by rfl, ?hyq0⟩) hS4 ?rq0
    case hyq0 => (intro w _; go_simp; try with_reducible rfl)
    simp only [Act.put, List.setIfInBounds_toArray, List.set_cons_zero, List.set_cons_succ]
    refine takeD (i := 1) (d := 102) (v := ?vq1) rfl rfl (by kernel_rfl) (by kernel_rfl) (by kernel_rfl) (fun _ _ _ h => HQP.out _ _ _ _ _ h) (Or.inl ⟨by rfl, ?hyq1⟩) hS4 ?rq1
    case hyq1 => (intro w _; go_simp; try with_reducible rfl)
    simp only [Act.put, List.setIfInBounds_toArray, List.set_cons_zero, List.set_cons_succ]
    refine takeD (i := 2) (d := 103) (v := ?vq2) rfl rfl (by kernel_rfl) (by kernel_rfl) (by kernel_rfl) (fun _ _ _ h => HQP.out _ _ _ _ _ h) (Or.inl ⟨by rfl, ?hyq2⟩) hS4 ?rq2
    case hyq2 => (intro w hSw; obtain ⟨s0, s1⟩ := hSw; go_simp; try with_reducible rfl)
    simp only [Act.put, List.setIfInBounds_toArray, List.set_cons_zero, List.set_cons_succ]
    refine takeD (i := 3) (d := 104) (v := ?vq3) rfl rfl (by kernel_rfl) (by kernel_rfl) (by kernel_rfl) (fun _ _ _ h => HQP.out _ _ _ _ _ h) (Or.inl ⟨by rfl, ?hyq3⟩) hS4 ?rq3
    case hyq3 => (intro w _; go_simp; try with_reducible rfl)
    simp only [Act.put, List.setIfInBounds_toArray, List.set_cons_zero, List.set_cons_succ]
    refine takeD (i := 4) (d := 105) (v := ?vq4) rfl rfl (by kernel_rfl) (by kernel_rfl) (by kernel_rfl) (fun _ _ _ h => HQP.out _ _ _ _ _ h) (Or.inl ⟨by rfl, ?hyq4⟩) hS4 ?rq4
    case hyq4 => (intro w hSw; obtain ⟨s0, s1⟩ := hSw; go_simp; try with_reducible rfl)
    simp only [Act.put, List.setIfInBounds_toArray, List.set_cons_zero, List.set_cons_succ]
    refine takeD (i := 6) (d := 107) (v := ?vq6) rfl rfl (by kernel_rfl) (by kernel_rfl) (by kernel_rfl) (fun _ _ _ h => HQP.out _ _ _ _ _ h) (Or.inl ⟨by rfl, ?hyq6⟩) hS4 ?rq6
    case hyq6 => (intro w _; go_simp; try with_reducible rfl)
    simp only [Act.put, List.setIfInBounds_toArray, List.set_cons_zero, List.set_cons_succ]
    refine takeD (i := 7) (d := 108) (v := ?vq7) rfl rfl (by kernel_rfl) (by kernel_rfl) (by kernel_rfl) (fun _ _ _ h => HQP.out _ _ _ _ _ h) (Or.inl ⟨by rfl, ?hyq7⟩) hS4 ?rq7
    case hyq7 => (intro w _; go_simp; try with_reducible rfl)
    simp only [Act.put, List.setIfInBounds_toArray, List.set_cons_zero, List.set_cons_succ]
    refine takeD (i := 8) (d := 109) (v := ?vq8) rfl rfl (by kernel_rfl) (by kernel_rfl) (by kernel_rfl) (fun _ _ _ h => HQP.out _ _ _ _ _ h) (Or.inl ⟨by rfl, ?hyq8⟩) hS4 ?rq8
    case hyq8 => (intro w hSw; obtain ⟨s0, s1⟩ := hSw; go_simp; try with_reducible rfl)
    simp only [Act.put, List.setIfInBounds_toArray, List.set_cons_zero, List.set_cons_succ]
    refine takeD (i := 9) (d := 110) (v := ?vq9) rfl rfl (by kernel_rfl) (by kernel_rfl) (by kernel_rfl) (fun _ _ _ h => HQP.out _ _ _ _ _ h) (Or.inl ⟨by rfl, ?hyq9⟩) hS4 ?rq9
    case hyq9 => (intro w _; go_simp; try with_reducible rfl)
    simp only [Act.put, List.setIfInBounds_toArray, List.set_cons_zero, List.set_cons_succ]
    refine takeD (i := 10) (d := 111) (v := ?vq10) rfl rfl (by kernel_rfl) (by kernel_rfl) (by kernel_rfl) (fun _ _ _ h => HQP.out _ _ _ _ _ h) (Or.inl ⟨by rfl, ?hyq10⟩) hS4 ?rq10
    case hyq10 => (intro w hSw; obtain ⟨s0, s1⟩ := hSw; go_simp; try with_reducible rfl)
    simp only [Act.put, List.setIfInBounds_toArray, List.set_cons_zero, List.set_cons_succ]
    refine wpAnyH_ready (rs := [5]) (by kernel_rfl) (by simp) (AllReadyH.cons rfl (fun K hK => ?_) AllReadyH.nil)
    go_simp
    refine (put_all atk sk HBd.out (by have := HWS.out; omega)).mono ?_
    rintro e wa ⟨rfl, hba⟩
    have HBa : Hid (Bo wq wa b rb xb xc (D.ptR atk sk).2 D) := hba
    clear hba
    simp only []
    have hS4 : (fun w' : World => w'.cell? ⟨xb, 1, none⟩ = some (.int .i64 atk) ∧ w'.cell? ⟨xb, 2, none⟩ = some (.string sk)) wa := ⟨(C.out HBa.out).2.1, (C.out HBa.out).2.2.1⟩
    refine hK.out _ _ hS4 (fun _ => ?_)
    clear hK K
    (try simp only [Act.put, List.setIfInBounds_toArray, List.set_cons_zero, List.set_cons_succ])
    refine wpAnyH_ready (rs := [11]) (by kernel_rfl) (by simp) (AllReadyH.cons rfl (fun K hK => ?_) AllReadyH.nil)
    go_simp
    refine (rput_all atk sk HBa.out HB.out.ok (by have := HWS.out; omega)).mono ?_
    rintro e wb ⟨rfl, hbb⟩
    have HBb : Hid (Bo wq wb b rb xb xc (D.ptR atk sk).2 (D.ptR atk sk).2) := hbb
    clear hbb
    simp only []
    have hS4 : (fun w' : World => w'.cell? ⟨xb, 1, none⟩ = some (.int .i64 atk) ∧ w'.cell? ⟨xb, 2, none⟩ = some (.string sk)) wb := ⟨(C.out HBb.out).2.1, (C.out HBb.out).2.2.1⟩
    refine hK.out _ _ hS4 (fun _ => ?_)
    clear hK K
    (try simp only [Act.put, List.setIfInBounds_toArray, List.set_cons_zero, List.set_cons_succ])
    refine wpAnyH_ready (rs := [12]) (by kernel_rfl) (by simp) (AllReadyH.cons rfl (fun K hK => ?_) AllReadyH.nil)
    go_simp
    refine (bare_ev _ _ (SW.out _ HBb.out.since)).mono ?_
    rintro e wz ⟨rfl, hsz⟩
    have HBz : Hid (Bo wq wz b rb xb xc (D.ptR atk sk).2 (D.ptR atk sk).2) := HBb.out.go hsz
    clear hsz
    simp only []
    have hS4 : (fun w' : World => w'.cell? ⟨xb, 1, none⟩ = some (.int .i64 atk) ∧ w'.cell? ⟨xb, 2, none⟩ = some (.string sk)) wz := ⟨(C.out HBz.out).2.1, (C.out HBz.out).2.2.1⟩
    refine hK.out _ _ hS4 (fun _ => ?_)
    clear hK K
    (try simp only [Act.put, List.setIfInBounds_toArray, List.set_cons_zero, List.set_cons_succ])
    refine takeD (i := 13) (d := 114) (v := ?vq13) rfl rfl (by kernel_rfl) (by kernel_rfl) (by kernel_rfl) (fun _ _ _ h => HQP.out _ _ _ _ _ h) (Or.inl ⟨by rfl, ?hyq13⟩) hS4 ?rq13
    case hyq13 => (intro w _; go_simp; try with_reducible rfl)
    simp only [Act.put, List.setIfInBounds_toArray, List.set_cons_zero, List.set_cons_succ]
    refine wpAnyH_done (by kernel_rfl) ?_ _
    clear hS4
    go_wp2_with fail
    exact HKK.out _ _ (HBz.out) (by have := ptR_ws D atk sk; have := HWS.out; omega) _ _ _ _ _ _ _ _ _ _ _ _ _ _ _ _ _ _ _ _ _ _ _ _ _ _ _ _ _ _ _ _ _ _ _ _ _ _ _ _ _ _ _ _ _ _ _ _ _ _ _ _ _ _ _ _ _ _ _ _ _ _ _ _ _ _ _ _ _ _ _ _ _ _ _ _ _ _ _ _ _ _ _ _ _ _ _ _ _ _ _ _ _ _ _ _ _ _ _ _ _ _
  by_cases e3 : whk = 3
  · clear e0 e1 e2
    go_wp2_with fail
    refine (sync_all HB.out).mono ?_
    rintro e w2 ⟨rfl, hb2⟩
    have HB2 : Hid (Bo wq w2 b rb xb xc D.syR.2 D) := hb2
    clear hb2 c0 c1 c2
    go_wp2_with fail
    refine (rsync_all HB2.out HB.out.ok).mono ?_
    rintro e w3 ⟨rfl, hb3⟩
    have HB3 : Hid (Bo wq w3 b rb xb xc D.syR.2 D.syR.2) := hb3
    clear hb3
    go_wp2_with fail
    refine (bare_ev _ _ (SW.out _ HB3.out.since)).mono ?_
    rintro e w4 ⟨rfl, hS4⟩
    go_wp2_with fail
    exact HKK.out _ _ (HB3.out.go hS4) (by have := syR_ws D; have := HWS.out; omega) _ _ _ _ _ _ _ _ _ _ _ _ _ _ _ _ _ _ _ _ _ _ _ _ _ _ _ _ _ _ _ _ _ _ _ _ _ _ _ _ _ _ _ _ _ _ _ _ _ _ _ _ _ _ _ _ _ _ _ _ _ _ _ _ _ _ _ _ _ _ _ _ _ _ _ _ _ _ _ _ _ _ _ _ _ _ _ _ _ _ _ _ _ _ _ _ _ _ _ _ _ _
  by_cases e4 : whk = 4
  · clear e0 e1 e2 e3
    go_wp2_with fail
    refine (fuse_all atk HB.out HAT.out.2).mono ?_
    rintro e w2 ⟨rfl, hb2⟩
    have HB2 : Hid (Bo wq w2 b rb xb xc (D.fuse atk) D) := hb2
    clear hb2 c0 c1 c2
    obtain ⟨c0, c1, c2, _, _⟩ := C.out HB2.out
    go_wp2_with fail
    refine (rfuse_all atk HB2.out).mono ?_
    rintro e w3 ⟨rfl, hb3⟩
    have HB3 : Hid (Bo wq w3 b rb xb xc (D.fuse atk) (D.fuse atk)) := hb3
    clear hb3 c0 c1 c2
    go_wp2_with fail
    exact HKK.out _ _ (HB3.out) (by show D.ws.length ≤ _; have := HWS.out; omega) _ _ _ _ _ _ _ _ _ _ _ _ _ _ _ _ _ _ _ _ _ _ _ _ _ _ _ _ _ _ _ _ _ _ _ _ _ _ _ _ _ _ _ _ _ _ _ _ _ _ _ _ _ _ _ _ _ _ _ _ _ _ _ _ _ _ _ _ _ _ _ _ _ _ _ _ _ _ _ _ _ _ _ _ _ _ _ _ _ _ _ _ _ _ _ _ _ _ _ _ _ _
  by_cases e5 : whk = 5
  · clear e0 e1 e2 e3 e4
    obtain ⟨_, _, _, c3, c4⟩ := C.out HB.out
    go_wp2_with fail
    refine (crash_all ksk slk HB.out HKV.out HSV.out).mono ?_
    rintro e w2 ⟨rfl, hb2⟩
    have HB2 : Hid (Bo wq w2 b rb xb xc (D.crashed nkk ksk nsk slk) D) := hb2
    clear hb2 c0 c1 c2 c3 c4
    obtain ⟨c0, c1, c2, c3, c4⟩ := C.out HB2.out
    go_wp2_with fail
    refine (rcrash_all ksk slk HB2.out HB.out.ok HKV.out HSV.out).mono ?_
    rintro e w3 ⟨rfl, hb3⟩
    have HB3 : Hid (Bo wq w3 b rb xb xc (D.crashed nkk ksk nsk slk) (D.crashed nkk ksk nsk slk)) := hb3
    clear hb3 c0 c1 c2 c3 c4
    go_wp2_with fail
    exact HKK.out _ _ (HB3.out) (Nat.zero_le _) _ _ _ _ _ _ _ _ _ _ _ _ _ _ _ _ _ _ _ _ _ _ _ _ _ _ _ _ _ _ _ _ _ _ _ _ _ _ _ _ _ _ _ _ _ _ _ _ _ _ _ _ _ _ _ _ _ _ _ _ _ _ _ _ _ _ _ _ _ _ _ _ _ _ _ _ _ _ _ _ _ _ _ _ _ _ _ _ _ _ _ _ _ _ _ _ _ _ _ _ _ _
  by_cases e6 : whk = 6
  · clear e0 e1 e2 e3 e4 e5
    have hL1 : (brow 10 (icell iv s0 s1)).length = 10 := brow_length _ _
    have hR : wx.rangeAt ib 0 (brow 10 (icell iv s0 s1)) := by have := (BQ.out.since HB.out.since).range 0 10 (by omega); simpa only [Nat.zero_add] using this
    go_wp2_with (refine wpList_load_mid (by rfl) 45 _ (by rfl) ib 0 (by rfl) _ _ hR Tryd.underlying45 (by rfl) (by rw [hL1]; kernel_rfl) ?_)
    refine (lay_all s0 s1 HB.out HIQ.out).mono ?_
    rintro e w2 ⟨rfl, hb2⟩
    have HB2 : Hid (Bo wq w2 b rb xb xc (D.laidBy n l s0 s1) D) := hb2
    clear hb2 c0 c1 c2 hR
    have hR : w2.rangeAt ib 0 (brow 10 (icell iv s0 s1)) := by have := (BQ.out.since HB2.out.since).range 0 10 (by omega); simpa only [Nat.zero_add] using this
    go_wp2_with (refine wpList_load_mid (by rfl) 45 _ (by rfl) ib 0 (by rfl) _ _ hR Tryd.underlying45 (by rfl) (by rw [hL1]; kernel_rfl) ?_)
    refine (rlay_all s0 s1 HB2.out HIQ.out HN.out).mono ?_
    rintro e w3 ⟨rfl, hb3⟩
    have HB3 : Hid (Bo wq w3 b rb xb xc (D.laidBy n l s0 s1) (D.laidBy n l s0 s1)) := hb3
    clear hb3 hR hL1
    go_wp2_with fail
    exact HKK.out _ _ (HB3.out) (Nat.zero_le _) _ _ _ _ _ _ _ _ _ _ _ _ _ _ _ _ _ _ _ _ _ _ _ _ _ _ _ _ _ _ _ _ _ _ _ _ _ _ _ _ _ _ _ _ _ _ _ _ _ _ _ _ _ _ _ _ _ _ _ _ _ _ _ _ _ _ _ _ _ _ _ _ _ _ _ _ _ _ _ _ _ _ _ _ _ _ _ _ _ _ _ _ _ _ _ _ _ _ _ _ _ _
  go_wp2_with fail
  exact HKK.out _ _ (HB.out) (by have := HWS.out; omega) _ _ _ _ _ _ _ _ _ _ _ _ _ _ _ _ _ _ _ _ _ _ _ _ _ _ _ _ _ _ _ _ _ _ _ _ _ _ _ _ _ _ _ _ _ _ _ _ _ _ _ _ _ _ _ _ _ _ _ _ _ _ _ _ _ _ _ _ _ _ _ _ _ _ _ _ _ _ _ _ _ _ _ _ _ _ _ _ _ _ _ _ _ _ _ _ _ _ _ _ _ _
end Go.Proofs.YtjfhggcjdckfgaaDoor
