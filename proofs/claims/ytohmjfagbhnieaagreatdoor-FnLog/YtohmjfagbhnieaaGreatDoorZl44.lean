/- The law on logs: LogDrop. -/
import Derived.Test.YtohmjfagbhnieaaGreatDoorZl43
import Derived.Maps.AppendAt
import Derived.BigQuiet
import Derived.Deep.DeepCutAuto
import Derived.Deep.RegionHeld3
namespace Go.Proofs.YtohmjfagbhnieaaGreatDoor
set_option linter.unusedVariables false
set_option linter.unusedSimpArgs false
open Go.RowKit

theorem sc_raws {fr : Nat} {E : List EntL} (h : EG fr E) : ScE none (rawsE E) E := by
  obtain ⟨L', hS⟩ := ScE.ex _ none (rawsE E) (Nat.le_refl _)
  have h1 := sc_exact h.chain h.bds hS
  subst h1
  exact hS
theorem wrap_in (z : Int) (h0 : -1000 ≤ z) (h1 : z ≤ 100000) : IntKind.i64.wrap z = z := by rw [IntKind.wrap_i64]; omega
set_option maxRecDepth 1000000 in
set_option maxHeartbeats 40000000 in
theorem log_mid (w wr : World) (cv : Value) (cs : List Int) (fr EL RL : Nat) (E : List EntL) (la : Option Addr) (lc : Nat) (ea : Option Addr) (ec : Nat) (oa : Option Addr) (oc : Nat) (vs : List Value) (ga : Option Addr) (gc : Nat) (hF : FL3 w wr w.heap.size cv cs (rawsE E) (endsE E) (E.map neO) (.slice la RL lc) (.slice ea (EL + 1) ec) (.slice oa EL oc) vs) (hE : EG fr E) (hEL : EL = E.length) (hRL : RL = (rawsE E).length) (h9 : EL ≤ 9) (hg : ErrT w) (hfr1 : 1 ≤ fr) (hfr2 : fr ≤ 100) (x0 x1 x2 x8 x9 x10 x11 x12 x13 x15 x16 x17 x18 x19 x20 x21 x22 x23 x24 x25 x26 x27 x28 x29 x30 x31 x32 x33 x34 x35 x36 x37 x38 x39 x40 x41 x42 x43 x44 x45 x46 x47 x48 x49 x50 x51 x52 x53 x54 x55 x56 x57 x58 x59 x60 x61 x62 x63 x64 x65 x66 x67 x68 x69 x70 x71 x72 x73 x74 x75 x76 x77 x78 x79 x80 x81 x82 x83 x84 x85 x86 x87 x88 x89 x90 x91 x92 x93 x94 x95 x96 x97 x98 x99 x100 x101 x102 x103 x104 x105 x106 x107 x108 x109 x110 x111 x112 x113 x114 x115 x116 x117 x118 x119 x120 x121 x122 x123 x124 x125 x126 x127 x128 x129 x130 x131 x132 x133 x134 x135 x136 x137 x138 x139 x140 x141 x142 x143 x144 x145 x146 x147 x148 x149 x150 x151 x152 x153 x154 x155 x156 x157 x158 x159 x160 x161 x162 x163 x164 x165 x166 x167 x168 x169 x170 x171 x172 x173 x174 x175 x176 x177 x178 x179 x180 x181 x182 x183 x184 x185 x186 x187 x188 x189 x190 x191 x192 x193 x194 x195 x196 x197 x198 x199 x200 x201 x202 x203 x204 x205 x206 x207 x208 x209 x210 x211 x212 x213 x214 x215 x216 x217 x218 x219 x220 x221 x222 x223 x224 x225 x226 x227 x228 x229 x230 x231 x232 x233 x234 x235 x236 x237 x238 x239 x240 x241 x242 x243 x244 x245 x246 x247 x248 x249 x250 x251 x252 x253 x254 x255 x256 x257 x258 x259 : Value)
    (K5 : Act → World → Prop) (hK5 : ∀ a w', Code.wp Tryz.prog (sndC (sndC (sndC (sndC (sndC (sndC (sndC (sndC (sndC (sndC (sndC (sndC (sndC (Tryz.f3.body.getD .skip)))))))))))))) (bodyPost Tryz.prog Tryz.f3 (fun e w' => e = .returned (.bool true) ∧ Below w.heap.size w w')) a w' → K5 a w') :
    Code.wp Tryz.prog (fstC (sndC (sndC (sndC (sndC (sndC (sndC (sndC (sndC (sndC (sndC (sndC (sndC (Tryz.f3.body.getD .skip)))))))))))))) (Exit.then K5 (bodyPost Tryz.prog Tryz.f3 (fun e w' => e = .returned (.bool true) ∧ Below w.heap.size w w'))) ⟨#[x0, x1, x2, .pointer (some ⟨w.heap.size, 0, none⟩), .int .i64 (fr : Int), .slice la RL lc, .slice ea (EL + 1) ec, .slice oa EL oc, x8, x9, x10, x11, x12, x13, .slice ga EL gc, x15, x16, x17, x18, x19, x20, x21, x22, x23, x24, x25, x26, x27, x28, x29, x30, x31, x32, x33, x34, x35, x36, x37, x38, x39, x40, x41, x42, x43, x44, x45, x46, x47, x48, x49, x50, x51, x52, x53, x54, x55, x56, x57, x58, x59, x60, x61, x62, x63, x64, x65, x66, x67, x68, x69, x70, x71, x72, x73, x74, x75, x76, x77, x78, x79, x80, x81, x82, x83, x84, x85, x86, x87, x88, x89, x90, x91, x92, x93, x94, x95, x96, x97, x98, x99, x100, x101, x102, x103, x104, x105, x106, x107, x108, x109, x110, x111, x112, x113, x114, x115, x116, x117, x118, x119, x120, x121, x122, x123, x124, x125, x126, x127, x128, x129, x130, x131, x132, x133, x134, x135, x136, x137, x138, x139, x140, x141, x142, x143, x144, x145, x146, x147, x148, x149, x150, x151, x152, x153, x154, x155, x156, x157, x158, x159, x160, x161, x162, x163, x164, x165, x166, x167, x168, x169, x170, x171, x172, x173, x174, x175, x176, x177, x178, x179, x180, x181, x182, x183, x184, x185, x186, x187, x188, x189, x190, x191, x192, x193, x194, x195, x196, x197, x198, x199, x200, x201, x202, x203, x204, x205, x206, x207, x208, x209, x210, x211, x212, x213, x214, x215, x216, x217, x218, x219, x220, x221, x222, x223, x224, x225, x226, x227, x228, x229, x230, x231, x232, x233, x234, x235, x236, x237, x238, x239, x240, x241, x242, x243, x244, x245, x246, x247, x248, x249, x250, x251, x252, x253, x254, x255, x256, x257, x258, x259], []⟩ wr := by
  conv => arg 2; whnf
  conv at hK5 => enter [a, w', 1, 2]; whnf
  have HF := hide hF
  have HE := hide hE
  have HEL := hide hEL
  have HRL := hide hRL
  have HG := hide hg
  have hRLb : RL ≤ 60000 := by rw [hRL]; exact raws_short hE.oks (by omega)
  obtain ⟨M, hM⟩ : ∃ M : Nat, (EL : Int) + 1 = (M : Int) := ⟨EL + 1, by omega⟩
  clear hF hE hg hEL hRL
  go_wp2_with fail
  refine (HF.out.sc.N M (by omega) (by omega)).mono ?_
  rintro e w1 ⟨at0, rfl, ha0, ha1, s1, d1⟩
  obtain ⟨at1, hat⟩ : ∃ at1 : Nat, at0 = (at1 : Int) := ⟨at0.toNat, by omega⟩
  subst hat
  have hat2 : at1 ≤ EL := by omega
  have F0 := hide (HF.out.draw s1 d1)
  clear s1 d1 HF
  have F1 := hide (F0.out.below (show Below w1.heap.size w1 w1.drew from (Below.refl _ _).drew))
  clear ha0 ha1 hM
  obtain ⟨ge, ce, hve⟩ := place_row F1.out.ends (by rw [endsE_len]; omega)
  injection hve with e1 e2 e3
  subst e1
  subst e3
  clear e2
  obtain ⟨x1, hx1⟩ : ∃ x1, x1 = endE E at1 := ⟨_, rfl⟩
  have hx1l : x1 ≤ RL := by rw [hx1, HRL.out]; exact endE_le E at1
  have HX := hide hx1
  obtain ⟨sa, sc, hsr, hsl⟩ := slice_pieceL (Rd.own F1.out.log) x1 (by rw [← HRL.out]; exact hx1l)
  rw [← HRL.out] at hsr hsl
  have HSR := hide hsr
  have HAT := hide (show (EL + 1 : Nat) = (endsE E).length by rw [endsE_len, HEL.out])
  clear hx1 hsr
  go_upto_region 31 with fail
  refine wp_region_noPanic ?_
  refine wp_region_held_drew (S := fun w' => FL3 w w' w.heap.size cv cs (rawsE E) (endsE E) (E.map neO) (.slice la RL lc) (.slice (some ⟨ge, 0, none⟩) (EL + 1) ec) (.slice oa EL oc) vs) (by kernel_rfl) F1.out (fun hH => ?_)
  refine wpAnyH_take (i := 0) (oi := _) (v := .slice la RL lc) rfl (by as_aux_lemma => kernel_rfl) (by as_aux_lemma => kernel_rfl) (by as_aux_lemma => kernel_rfl) (fun _ _ _ h => h) (Or.inl ⟨by rfl, fun w' hw' => by go_simp⟩) hH ?_
  try simp only [Act.put, List.getElem_toArray, List.getElem_cons_zero, List.getElem_cons_succ, List.setIfInBounds_toArray, List.set_cons_zero, List.set_cons_succ]
  refine wpAnyH_take (i := 2) (oi := _) (v := .int .i64 (fr : Int)) rfl (by as_aux_lemma => kernel_rfl) (by as_aux_lemma => kernel_rfl) (by as_aux_lemma => kernel_rfl) (fun _ _ _ h => h) (Or.inl ⟨by rfl, fun w' hw' => by go_simp⟩) hH ?_
  try simp only [Act.put, List.getElem_toArray, List.getElem_cons_zero, List.getElem_cons_succ, List.setIfInBounds_toArray, List.set_cons_zero, List.set_cons_succ]
  refine wpAnyH_take (i := 3) (oi := _) (v := .int .i64 (at1 : Int)) rfl (by as_aux_lemma => kernel_rfl) (by as_aux_lemma => kernel_rfl) (by as_aux_lemma => kernel_rfl) (fun _ _ _ h => h) (Or.inl ⟨by rfl, fun w' hw' => by go_simp⟩) hH ?_
  try simp only [Act.put, List.getElem_toArray, List.getElem_cons_zero, List.getElem_cons_succ, List.setIfInBounds_toArray, List.set_cons_zero, List.set_cons_succ]
  refine wpAnyH_take (i := 4) (oi := _) (v := .int .i64 ((fr : Int) + (at1 : Int))) rfl (by as_aux_lemma => kernel_rfl) (by as_aux_lemma => kernel_rfl) (by as_aux_lemma => kernel_rfl) (fun _ _ _ h => h) (Or.inl ⟨by rfl, fun w' hw' => by have hw4 := wrap_in ((fr : Int) + (at1 : Int)) (by omega) (by omega); go_simp⟩) hH ?_
  try simp only [Act.put, List.getElem_toArray, List.getElem_cons_zero, List.getElem_cons_succ, List.setIfInBounds_toArray, List.set_cons_zero, List.set_cons_succ]
  refine wpAnyH_take (i := 5) (oi := _) (v := .int .i64 ((fr : Int) + (at1 : Int) - 1)) rfl (by as_aux_lemma => kernel_rfl) (by as_aux_lemma => kernel_rfl) (by as_aux_lemma => kernel_rfl) (fun _ _ _ h => h) (Or.inl ⟨by rfl, fun w' hw' => by have hw5 := wrap_in ((fr : Int) + (at1 : Int) - 1) (by omega) (by omega); go_simp⟩) hH ?_
  try simp only [Act.put, List.getElem_toArray, List.getElem_cons_zero, List.getElem_cons_succ, List.setIfInBounds_toArray, List.set_cons_zero, List.set_cons_succ]
  refine wpAnyH_take (i := 7) (oi := _) (v := .slice la RL lc) rfl (by as_aux_lemma => kernel_rfl) (by as_aux_lemma => kernel_rfl) (by as_aux_lemma => kernel_rfl) (fun _ _ _ h => h) (Or.inl ⟨by rfl, fun w' hw' => by go_simp⟩) hH ?_
  try simp only [Act.put, List.getElem_toArray, List.getElem_cons_zero, List.getElem_cons_succ, List.setIfInBounds_toArray, List.set_cons_zero, List.set_cons_succ]
  refine wpAnyH_take (i := 8) (oi := _) (v := .slice (some ⟨ge, 0, none⟩) (EL + 1) ec) rfl (by as_aux_lemma => kernel_rfl) (by as_aux_lemma => kernel_rfl) (by as_aux_lemma => kernel_rfl) (fun _ _ _ h => h) (Or.inl ⟨by rfl, fun w' hw' => by go_simp⟩) hH ?_
  try simp only [Act.put, List.getElem_toArray, List.getElem_cons_zero, List.getElem_cons_succ, List.setIfInBounds_toArray, List.set_cons_zero, List.set_cons_succ]
  refine wpAnyH_take (i := 9) (oi := _) (v := .int .i64 (at1 : Int)) rfl (by as_aux_lemma => kernel_rfl) (by as_aux_lemma => kernel_rfl) (by as_aux_lemma => kernel_rfl) (fun _ _ _ h => h) (Or.inl ⟨by rfl, fun w' hw' => by go_simp⟩) hH ?_
  try simp only [Act.put, List.getElem_toArray, List.getElem_cons_zero, List.getElem_cons_succ, List.setIfInBounds_toArray, List.set_cons_zero, List.set_cons_succ]
  refine wpAnyH_take (i := 10) (oi := _) (v := .pointer (some ⟨ge, at1, none⟩)) rfl (by as_aux_lemma => kernel_rfl) (by as_aux_lemma => kernel_rfl) (by as_aux_lemma => kernel_rfl) (fun _ _ _ h => h) (Or.inl ⟨by rfl, fun w' hw' => by have hl1 : (at1 : Int) < (EL : Int) + 1 := (by omega); have hl2 : ¬ (EL + 1 ≤ at1) := (by omega); have hl3 : at1 < EL + 1 := (by omega); go_simp⟩) hH ?_
  try simp only [Act.put, List.getElem_toArray, List.getElem_cons_zero, List.getElem_cons_succ, List.setIfInBounds_toArray, List.set_cons_zero, List.set_cons_succ]
  refine wpAnyH_take (i := 11) (oi := _) (v := .int .i64 (x1 : Int)) rfl (by as_aux_lemma => kernel_rfl) (by as_aux_lemma => kernel_rfl) (by as_aux_lemma => kernel_rfl) (fun _ _ _ h => h) (Or.inl ⟨by rfl, fun w' hw' => by have hc := ends_cell (show w'.ownsRow (w.heap.size + 1) 3 1 (.slice (some ⟨ge, 0, none⟩) (EL + 1) ec) (EL + 1) _ by have := FL3.ends hw'; rw [endsE_len, ← HEL.out] at this; exact this) (by rw [HEL.out]) (show at1 ≤ E.length by have := HEL.out; omega); rw [← HX.out] at hc; clear hw'; go_simp⟩) hH ?_
  try simp only [Act.put, List.getElem_toArray, List.getElem_cons_zero, List.getElem_cons_succ, List.setIfInBounds_toArray, List.set_cons_zero, List.set_cons_succ]
  refine wpAnyH_take (i := 12) (oi := _) (v := .slice sa (RL - x1) sc) rfl (by as_aux_lemma => kernel_rfl) (by as_aux_lemma => kernel_rfl) (by as_aux_lemma => kernel_rfl) (fun _ _ _ h => h) (Or.inl ⟨by rfl, fun w' hw' => by go_simp⟩) hH ?_
  try simp only [Act.put, List.getElem_toArray, List.getElem_cons_zero, List.getElem_cons_succ, List.setIfInBounds_toArray, List.set_cons_zero, List.set_cons_succ]
  refine wpAnyH_ready (rs := [1]) (by kernel_rfl) (by simp) ?_
  refine AllReadyH.cons (o := _) rfl (fun K hK => ?_) AllReadyH.nil
  go_simp
  refine (cpL_any (.slice la RL lc) (rawsE E) _ (Rd.own F1.out.log) (by rw [← HRL.out]; omega)).mono ?_
  rintro e w2 ⟨v2, rfl, o2, b2⟩
  have F2 := hide (F1.out.below b2)
  have O2 := hide o2
  have R2 := hide (HSR.out.below b2)
  refine hK.out _ _ F2.out (fun hH => ?_)
  clear hK K o2 b2
  try simp only [Act.put, List.getElem_toArray, List.getElem_cons_zero, List.getElem_cons_succ, List.setIfInBounds_toArray, List.set_cons_zero, List.set_cons_succ]
  refine wpAnyH_ready (rs := [6]) (by kernel_rfl) (by simp) ?_
  refine AllReadyH.cons (o := _) rfl (fun K hK => ?_) AllReadyH.nil
  go_simp
  refine (implLD_any v2 (rawsE E) ((fr : Int) + (at1 : Int) - 1) E _ (sc_raws HE.out) (Rd.own O2.out) HE.out.bds (by rw [← HRL.out]; omega)).mono ?_
  rintro e w3 ⟨v3, rfl, o3, b3⟩
  have F3 := hide (F2.out.below b3)
  have R3 := hide (R2.out.below b3)
  have O3 := hide (show Rd .u8 w3 v3 ((rawsE E).drop x1) by rw [HX.out, raws_drop]; have := Rd.own o3; rw [keep_drop E fr at1 HE.out.num] at this; exact this)
  refine hK.out _ _ F3.out (fun hH => ?_)
  clear hK K o3 b3
  try simp only [Act.put, List.getElem_toArray, List.getElem_cons_zero, List.getElem_cons_succ, List.setIfInBounds_toArray, List.set_cons_zero, List.set_cons_succ]
  refine wpAnyH_ready (rs := [13]) (by kernel_rfl) (by simp) ?_
  refine AllReadyH.cons (o := _) rfl (fun K hK => ?_) AllReadyH.nil
  go_simp
  refine (smL_any v3 (.slice sa (RL - x1) sc) ((rawsE E).drop x1) _ O3.out R3.out).mono ?_
  rintro e w4 ⟨rfl, rfl⟩
  refine hK.out _ _ F3.out (fun hH => ?_)
  clear hK K
  try simp only [Act.put, List.getElem_toArray, List.getElem_cons_zero, List.getElem_cons_succ, List.setIfInBounds_toArray, List.set_cons_zero, List.set_cons_succ]
  refine wpAnyH_take (i := 14) (oi := _) (v := .bool false) rfl (by as_aux_lemma => kernel_rfl) (by as_aux_lemma => kernel_rfl) (by as_aux_lemma => kernel_rfl) (fun _ _ _ h => h) (Or.inl ⟨by rfl, fun w' hw' => by go_simp⟩) hH ?_
  try simp only [Act.put, List.getElem_toArray, List.getElem_cons_zero, List.getElem_cons_succ, List.setIfInBounds_toArray, List.set_cons_zero, List.set_cons_succ]
  refine wpAnyH_done (by kernel_rfl) (NoPanic.normal ?_) _
  clear hsl hH
  go_upto_region 33 with fail
  exact log_end w _ cv cs fr EL RL E la lc (some ⟨ge, 0, none⟩) ec oa oc vs ga gc F3.out HE.out HEL.out HRL.out h9 HG.out _ _ _ _ _ _ _ _ _ _ _ _ _ _ _ _ _ _ _ _ _ _ _ _ _ _ _ _ _ _ _ _ _ _ _ _ _ _ _ _ _ _ _ _ _ _ _ _ _ _ _ _ _ _ _ _ _ _ _ _ _ _ _ _ _ _ _ _ _ _ _ _ _ _ _ _ _ _ _ _ _ _ _ _ _ _ _ _ _ _ _ _ _ _ _ _ _ _ _ _ _ _ _ _ _ _ _ _ _ _ _ _ _ _ _ _ _ _ _ _ _ _ _ _ _ _ _ _ _ _ _ _ _ _ _ _ _ _ _ _ _ _ _ _ _ _ _ _ _ _ _ _ _ _ _ _ _ _ _ _ _ _ _ _ _ _ _ _ _ _ _ _ _ _ _ _ _ _ _ _ _ _ _ _ _ _ _ _ _ _ _ _ _ _ _ _ _ _ _ _ _ _ _ _ _ _ _ _ _ _ _ _ _ _ _ _ _ _ _ _ _ _ _ _ _ _ _ _ _ _ _ _ _ _ _ _ _ _ _ _ _ _ _ _ _ _ _ _ _ _ _ _ _ _ _ (by assumption) _ (by assumption)
end Go.Proofs.YtohmjfagbhnieaaGreatDoor
