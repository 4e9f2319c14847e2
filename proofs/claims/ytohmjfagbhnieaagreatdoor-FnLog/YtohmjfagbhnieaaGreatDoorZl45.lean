/- The law on logs: what was read held against what was laid down. -/
import Derived.Test.YtohmjfagbhnieaaGreatDoorZl44
import Derived.Maps.AppendAt
import Derived.BigQuiet
import Derived.Deep.DeepCutAuto
import Derived.Deep.RegionHeld3
import Derived.Deep.MidRow
namespace Go.Proofs.YtohmjfagbhnieaaGreatDoor
set_option linter.unusedVariables false
set_option linter.unusedSimpArgs false
open Go.RowKit

def zeroLE : Array Value := #[.int .i64 0, .int .i64 0, .int .i64 0, .int .i64 0, .int .i64 0, .int .i64 0, .string ⟨#[]⟩, .string ⟨#[]⟩, .slice none 0 0]
theorem infoLE9 : (Tryz.prog.info? 45).map (·.size) = some 9 := by kernel_rfl
theorem infoLE9b : (Tryz.prog.info? 45).map (·.size) = some 9 := by kernel_rfl
theorem leC_one (n K A B U G : Int) (p q : ByteArray) (a : Option Addr) (l c : Nat) : (#[.int .i64 n, .int .i64 K, .int .i64 A, .int .i64 B, .int .i64 U, .int .i64 G, .string p, .string q, .slice a l c] : Array Value).all (·.oneCell') = true := by simp [Value.oneCell']
set_option maxRecDepth 1000000 in
set_option maxHeartbeats 40000000 in
theorem log_cmp (w wr : World) (cv : Value) (cs : List Int) (fr EL RL : Nat) (E : List EntL) (la : Option Addr) (lc : Nat) (ea : Option Addr) (ec : Nat) (oa : Option Addr) (oc : Nat) (vs : List Value) (ga : Option Addr) (gc : Nat) (hF : FL3 w wr w.heap.size cv cs (rawsE E) (endsE E) (E.map neO) (.slice la RL lc) (.slice ea (EL + 1) ec) (.slice oa EL oc) vs) (hE : EG fr E) (hEL : EL = E.length) (hRL : RL = (rawsE E).length) (h9 : EL ≤ 9) (hg : ErrT w) (hfr1 : 1 ≤ fr) (hfr2 : fr ≤ 100) (vg : List Value) (n7 : Nat) (a7 : Option Addr) (c7 : Nat) (hG : OwnN wr (w.heap.size + 1) 45 8 (.slice ga EL gc) (E.map neE) vg) (h7 : EL ≤ n7) (h72 : n7 ≤ 1000000) (x0 x1 x2 x8 x9 x10 x11 x12 x13 x16 x17 x18 x19 x20 x21 x22 x23 x24 x25 x26 x27 x28 x29 x30 x31 x32 x33 x34 x35 x36 x37 x38 x39 x40 x41 x42 x43 x44 x45 x46 x47 x48 x49 x50 x51 x52 x53 x54 x55 x56 x57 x58 x59 x60 x61 x62 x63 x64 x65 x66 x67 x68 x69 x70 x71 x72 x73 x74 x75 x76 x77 x78 x79 x80 x81 x82 x83 x84 x85 x86 x87 x88 x89 x90 x91 x92 x93 x94 x95 x96 x97 x98 x99 x100 x101 x102 x103 x104 x105 x106 x107 x108 x109 x110 x111 x112 x113 x114 x115 x116 x117 x118 x119 x120 x121 x122 x123 x124 x125 x126 x127 x128 x129 x130 x131 x132 x133 x134 x135 x136 x137 x138 x139 x140 x141 x142 x143 x144 x145 x146 x147 x148 x149 x150 x151 x152 x153 x154 x155 x156 x157 x158 x159 x160 x161 x162 x163 x164 x165 x166 x167 x168 x169 x170 x171 x172 x173 x174 x175 x176 x177 x178 x179 x180 x181 x182 x183 x184 x185 x186 x187 x188 x189 x190 x191 x192 x193 x194 x195 x196 x197 x198 x199 x200 x201 x202 x203 x204 x205 x206 x207 x208 x209 x210 x211 x212 x213 x214 x215 x216 x217 x218 x219 x220 x221 x222 x223 x224 x225 x226 x227 x228 x229 x230 x231 x232 x233 x234 x235 x236 x237 x238 x239 x240 x241 x242 x243 x244 x245 x246 x247 x248 x249 x250 x251 x252 x253 x254 x255 x256 x257 x258 x259 : Value)
    (K5 : Act → World → Prop) (hK5 : ∀ a w', Code.wp Tryz.prog (sndC (sndC (sndC (sndC (sndC (sndC (sndC (sndC (sndC (sndC (sndC (Tryz.f3.body.getD .skip)))))))))))) (bodyPost Tryz.prog Tryz.f3 (fun e w' => e = .returned (.bool true) ∧ Below w.heap.size w w')) a w' → K5 a w') (K4 : Act → World → Prop) (hK4 : ∀ a w', Code.wp Tryz.prog (sndC (fstC (sndC (sndC (sndC (sndC (sndC (sndC (sndC (sndC (sndC (sndC (Tryz.f3.body.getD .skip))))))))))))) (Exit.then K5 (bodyPost Tryz.prog Tryz.f3 (fun e w' => e = .returned (.bool true) ∧ Below w.heap.size w w'))) a w' → K4 a w') :
    Code.wp Tryz.prog (fstC (fstC (sndC (sndC (sndC (sndC (sndC (sndC (sndC (sndC (sndC (sndC (Tryz.f3.body.getD .skip))))))))))))) (Exit.then K4 (Exit.then K5 (bodyPost Tryz.prog Tryz.f3 (fun e w' => e = .returned (.bool true) ∧ Below w.heap.size w w')))) ⟨#[x0, x1, x2, .pointer (some ⟨w.heap.size, 0, none⟩), .int .i64 (fr : Int), .slice la RL lc, .slice ea (EL + 1) ec, .slice oa EL oc, x8, x9, x10, x11, x12, x13, .slice ga EL gc, .slice a7 n7 c7, x16, x17, x18, x19, x20, x21, x22, x23, x24, x25, x26, x27, x28, x29, x30, x31, x32, x33, x34, x35, x36, x37, x38, x39, x40, x41, x42, x43, x44, x45, x46, x47, x48, x49, x50, x51, x52, x53, x54, x55, x56, x57, x58, x59, x60, x61, x62, x63, x64, x65, x66, x67, x68, x69, x70, x71, x72, x73, x74, x75, x76, x77, x78, x79, x80, x81, x82, x83, x84, x85, x86, x87, x88, x89, x90, x91, x92, x93, x94, x95, x96, x97, x98, x99, x100, x101, x102, x103, x104, x105, x106, x107, x108, x109, x110, x111, x112, x113, x114, x115, x116, x117, x118, x119, x120, x121, x122, x123, x124, x125, x126, x127, x128, x129, x130, x131, x132, x133, x134, x135, x136, x137, x138, x139, x140, x141, x142, x143, x144, x145, x146, x147, x148, x149, x150, x151, x152, x153, x154, x155, x156, x157, x158, x159, x160, x161, x162, x163, x164, x165, x166, x167, x168, x169, x170, x171, x172, x173, x174, x175, x176, x177, x178, x179, x180, x181, x182, x183, x184, x185, x186, x187, x188, x189, x190, x191, x192, x193, x194, x195, x196, x197, x198, x199, x200, x201, x202, x203, x204, x205, x206, x207, x208, x209, x210, x211, x212, x213, x214, x215, x216, x217, x218, x219, x220, x221, x222, x223, x224, x225, x226, x227, x228, x229, x230, x231, x232, x233, x234, x235, x236, x237, x238, x239, x240, x241, x242, x243, x244, x245, x246, x247, x248, x249, x250, x251, x252, x253, x254, x255, x256, x257, x258, x259], []⟩ wr := by
  conv => arg 2; whnf
  conv at hK4 => enter [a, w', 1, 2]; whnf
  conv at hK5 => enter [a, w', 1, 2]; whnf
  have HF := hide hF
  have HE := hide hE
  have HEL := hide hEL
  have HRL := hide hRL
  have HG := hide hg
  have HO := hide hG
  clear hF hE hg hEL hRL hG
  have q7 : ¬ ((n7 : Int) < (EL : Int)) := by omega
  have q8 : ¬ (n7 < EL) := by omega
  go_wp2
  go_loopw [102] (fun iv wx => ∃ i : Nat, i ≤ EL ∧ iv = .int .i64 (i : Int) ∧ FL3 w wx w.heap.size cv cs (rawsE E) (endsE E) (E.map neO) (.slice la RL lc) (.slice ea (EL + 1) ec) (.slice oa EL oc) vs ∧ OwnN wx (w.heap.size + 1) 45 8 (.slice ga EL gc) (E.map neE) vg) (fun iv _ => EL - (intOf iv).toNat)
  case atStart => exact ⟨0, by omega, rfl, HF.out, HO.out⟩
  case round =>
    clear HF HO
    obtain ⟨i, hi, rfl, hF, hO⟩ := hrel
    have HF := hide hF
    have HO := hide hO
    by_cases hiE : i < EL
    · obtain ⟨en, hen⟩ : ∃ en, E[i]? = some en := ⟨_, List.getElem?_eq_getElem (by have := HEL.out; omega)⟩
      have hnum := HE.out.num i en hen
      obtain ⟨xn, xK, xA, xB, xU, xG, xp, xq, xs⟩ := en
      simp only at hnum
      subst hnum
      obtain ⟨gb, off, u, hga, hgl, hu, hrd, hrg⟩ := RdN.at (i := i) (l := neE ⟨fr + i, xK, xA, xB, xU, xG, xp, xq, xs⟩) (show RdN wr 8 (.slice ga (E.map neE).length gc) (E.map neE) vg by rw [List.length_map, ← HEL.out]; exact hO.rd) (by rw [List.getElem?_map, hen]; rfl)
      subst hga
      obtain ⟨da, dc, rfl⟩ : ∃ da dc, u = .slice da xs.length dc := by obtain ⟨a, c, e, _⟩ := hrd; exact ⟨a, c, e⟩
      have hLl := hrd.len
      unfold maxLen at hLl
      have HRg := hide (show wr.rangeAt gb (off + i * 9) [.int .i64 ((fr + i : Nat) : Int), .int .i64 xK, .int .i64 xA, .int .i64 xB, .int .i64 xU, .int .i64 xG, .string xp, .string xq, .slice da xs.length dc] from hrg)
      obtain ⟨W3, hW3⟩ : ∃ W3, W3 = (wr.alloc (.cells #[.int .i64 0, .int .i64 0, .int .i64 0, .int .i64 0, .int .i64 0, .int .i64 0, .string ⟨#[]⟩, .string ⟨#[]⟩, .slice none 0 0] 45)).setRow wr.heap.size #[.int .i64 ((fr + i : Nat) : Int), .int .i64 xK, .int .i64 xA, .int .i64 xB, .int .i64 xU, .int .i64 xG, .string xp, .string xq, .slice da xs.length dc] := ⟨_, rfl⟩
      have B3 := hide (show Below wr.heap.size wr W3 from by rw [hW3]; exact below_setRow ((Below.refl _ _).alloc (Nat.le_refl _) _) (Nat.le_refl _) _)
      have K3 := hide (show Blk W3 wr.heap.size #[.int .i64 ((fr + i : Nat) : Int), .int .i64 xK, .int .i64 xA, .int .i64 xB, .int .i64 xU, .int .i64 xG, .string xp, .string xq, .slice da xs.length dc] 45 from by rw [hW3]; exact (Blk.new wr #[.int .i64 0, .int .i64 0, .int .i64 0, .int .i64 0, .int .i64 0, .int .i64 0, .string ⟨#[]⟩, .string ⟨#[]⟩, .slice none 0 0] 45).row _)
      have HW3 := hide hW3
      clear hW3
      have KN := hide (Blk.new wr #[.int .i64 0, .int .i64 0, .int .i64 0, .int .i64 0, .int .i64 0, .int .i64 0, .string ⟨#[]⟩, .string ⟨#[]⟩, .slice none 0 0] 45)
      have R3 := hide (show Rd .u8 wr (.slice da xs.length dc) xs from hrd)
      have F3 := hide (hF.below B3.out)
      have O3 := hide (hO.below B3.out)
      obtain ⟨go, offo, u2, hoa, hol, hu2, hrd2, hrg2⟩ := RdN.at (i := i) (l := neO ⟨fr + i, xK, xA, xB, xU, xG, xp, xq, xs⟩) (show RdN W3 7 (.slice oa (E.map neO).length oc) (E.map neO) vs by rw [List.length_map, ← HEL.out]; exact F3.out.ops.rd) (by rw [List.getElem?_map, hen]; rfl)
      subst hoa
      obtain ⟨da2, dc2, rfl⟩ : ∃ da dc, u2 = .slice da xs.length dc := by obtain ⟨a, c, e, _⟩ := hrd2; exact ⟨a, c, e⟩
      have co0 := hrg2 0 (.int .i64 xK) rfl
      have co1 := hrg2 1 (.int .i64 xA) rfl
      have co2 := hrg2 2 (.int .i64 xB) rfl
      have co5 := hrg2 5 (.string xp) rfl
      have co6 := hrg2 6 (.string xq) rfl
      have co7 := hrg2 7 (.slice da2 xs.length dc2) rfl
      simp only [Nat.reduceAdd, Nat.add_zero] at co0 co1 co2 co5 co6 co7
      have cb0 := (K3.out.cell 0).trans (show _ = some (.int .i64 ((fr + i : Nat) : Int)) from rfl)
      have cb1 := (K3.out.cell 1).trans (show _ = some (.int .i64 xK) from rfl)
      have cb2 := (K3.out.cell 2).trans (show _ = some (.int .i64 xA) from rfl)
      have cb3 := (K3.out.cell 3).trans (show _ = some (.int .i64 xB) from rfl)
      have cb6 := (K3.out.cell 6).trans (show _ = some (.string xp) from rfl)
      have cb7 := (K3.out.cell 7).trans (show _ = some (.string xq) from rfl)
      have cb8 := (K3.out.cell 8).trans (show _ = some (.slice da xs.length dc) from rfl)
      have SM := hide (fun n => smL_any (.slice da xs.length dc) (.slice da2 xs.length dc2) xs (W3.drewN n) ((R3.out.below B3.out).below (below_drewN (Below.refl _ _) n)) (hrd2.below (below_drewN (Below.refl _ _) n)))
      have ON := hide (leC_one ((fr + i : Nat) : Int) xK xA xB xU xG xp xq da xs.length dc)
      have hiE2 : (i : Int) < (EL : Int) := by omega
      clear hF hO hrg hrd hu hu2 hrd2 hrg2 hen
      go_upto_region 27 with (first
        | (refine wpList_load_mid rfl 45 _ rfl gb (off + i * 9) rfl [.int .i64 ((fr + i : Nat) : Int), .int .i64 xK, .int .i64 xA, .int .i64 xB, .int .i64 xU, .int .i64 xG, .string xp, .string xq, .slice da xs.length dc] _ HRg.out Tryz.underlying45 rfl infoLE9 ?_)
        | (refine wpList_store_row rfl 45 _ _ rfl wr.heap.size #[.int .i64 ((fr + i : Nat) : Int), .int .i64 xK, .int .i64 xA, .int .i64 xB, .int .i64 xU, .int .i64 xG, .string xp, .string xq, .slice da xs.length dc] rfl rfl 45 #[.int .i64 0, .int .i64 0, .int .i64 0, .int .i64 0, .int .i64 0, .int .i64 0, .string ⟨#[]⟩, .string ⟨#[]⟩, .slice none 0 0] KN.out infoLE9b rfl ON.out ?_)
        | fail)
      rw [← HW3.out]
      have hwr := wrap_in ((fr : Int) + (i : Int)) (by omega) (by omega)
      have hq2 : ((fr : Int) + (i : Int) != (fr : Int) + (i : Int)) = false := by simp
      have hqK : (xK != xK) = false := by simp
      have hqA : (xA != xA) = false := by simp
      have hqB : (xB != xB) = false := by simp
      go_quiet (first | (go_at_call 15; refine Calls.quiet_of_same (SM.out _)))
      go_wp2
      go_roundw
      case rel => exact ⟨i + 1, by omega, by go_num, F3.out.below (below_drewN (Below.refl _ _) nq), O3.out.below (below_drewN (Below.refl _ _) nq)⟩
      case measure => simp [intOf]; omega
    · have q9 : ¬ ((i : Int) < (EL : Int)) := by omega
      go_upto_region 30 with fail
      exact log_mid w _ cv cs fr EL RL E la lc ea ec oa oc vs ga gc HF.out HE.out HEL.out HRL.out h9 HG.out hfr1 hfr2 _ _ _ _ _ _ _ _ _ _ _ _ _ _ _ _ _ _ _ _ _ _ _ _ _ _ _ _ _ _ _ _ _ _ _ _ _ _ _ _ _ _ _ _ _ _ _ _ _ _ _ _ _ _ _ _ _ _ _ _ _ _ _ _ _ _ _ _ _ _ _ _ _ _ _ _ _ _ _ _ _ _ _ _ _ _ _ _ _ _ _ _ _ _ _ _ _ _ _ _ _ _ _ _ _ _ _ _ _ _ _ _ _ _ _ _ _ _ _ _ _ _ _ _ _ _ _ _ _ _ _ _ _ _ _ _ _ _ _ _ _ _ _ _ _ _ _ _ _ _ _ _ _ _ _ _ _ _ _ _ _ _ _ _ _ _ _ _ _ _ _ _ _ _ _ _ _ _ _ _ _ _ _ _ _ _ _ _ _ _ _ _ _ _ _ _ _ _ _ _ _ _ _ _ _ _ _ _ _ _ _ _ _ _ _ _ _ _ _ _ _ _ _ _ _ _ _ _ _ _ _ _ _ _ _ _ _ _ _ _ _ _ _ _ _ _ _ _ _ _ _ _ _ _ _ (by assumption)
end Go.Proofs.YtohmjfagbhnieaaGreatDoor
