/- The law on logs: the log read, with bytes behind it too. -/
import Derived.Test.YtohmjfagbhnieaaGreatDoorZl45
import Derived.Maps.AppendAt
import Derived.BigQuiet
import Derived.Deep.DeepCutAuto
import Derived.Deep.RegionHeld3
namespace Go.Proofs.YtohmjfagbhnieaaGreatDoor
set_option linter.unusedVariables false
set_option linter.unusedSimpArgs false
open Go.RowKit

theorem own_cellsU {w : World} {base g n cap : Nat} {xs : List Int} (h : w.ownsRow base 5 1 (.slice (some ⟨g, 0, none⟩) n cap) n (xs.map (Value.int .u8))) : ∀ j u, (xs.map (Value.int .u8))[j]? = some u → w.cell? (Addr.add ⟨g, 0, none⟩ j) = some u := by
  intro j u hj
  have hl : xs.length = n := by have := h.1; simpa using this
  have hjl : j < n := by
    rcases Nat.lt_or_ge j n with h1 | h1
    · exact h1
    · rw [List.getElem?_eq_none (by simp; omega)] at hj; cases hj
  rw [Addr.add_mid, Nat.zero_add, h.cellAt j (by omega), hj]
theorem neLE_u8 : (45 : TypeId) ≠ 5 := by decide
theorem ownN_lt {W : World} {base m : Nat} {e : TypeId} {v : Value} {L : List NE} {vs : List Value} (h : OwnN W base e m v L vs) {u : Value} (hu : u ∈ vs) {k : Nat} (hk : u.ownBlock = some k) : base ≤ k ∧ k < W.heap.size := by
  obtain ⟨i, hi⟩ := List.getElem?_of_mem hu
  have hlt : i < L.length := by rw [← h.len]; exact (List.getElem?_eq_some_iff.1 hi).1
  exact (h.dat i u _ hi (List.getElem?_eq_getElem hlt)).lt k hk
theorem ownN_far {W W' : World} {b m : Nat} {e : TypeId} {v : Value} {L : List NE} {vs : List Value} (h : OwnN W (b + 1) e m v L vs) (hg : W.grownBy W' (some b)) : OwnN W' (b + 1) e m v L vs :=
  h.keptN hg (fun r e hv => by cases e; have := (h.row.lt _ hv).1; omega) (fun r e u hu hv => by cases e; have := (ownN_lt h hu hv).1; omega)
theorem FL3.other {w W W' : World} {b : Nat} {cv : Value} {cs X Y : List Int} {Z : List NE} {vl ve vo x : Value} {vs : List Value} {n : Nat} {xs : List Value} (h : FL3 w W b cv cs X Y Z vl ve vo vs) (hx : W.ownsRow (b + 1) 5 1 x n xs) (ap : ∀ k, x.ownBlock = some k → vl.ownBlock ≠ some k ∧ ∀ u ∈ vs, u.ownBlock ≠ some k) (hg : W.grownBy W' x.ownBlock) : FL3 w W' b cv cs X Y Z vl ve vo vs :=
  ⟨h.scG hg (fun k e => (hx.lt k e).1), h.log.kept hg (by
      cases hv : vl.ownBlock with
      | none => exact .inl rfl
      | some k => exact .inr (fun e => (ap k e.symm).1 hv)), h.ends.kept hg (own_apart h.ends hx neU8_int.symm),
    h.ops.keptN hg (fun k e hv => by
      rcases own_apart h.ops.row hx neOp_ne with h1 | h1
      · rw [h1] at hv; cases hv
      · exact h1 (hv.trans e.symm)) (fun k e u hu hv => (ap k e).2 u hu hv), h.ap⟩
set_option maxRecDepth 1000000 in
set_option maxHeartbeats 40000000 in
theorem log_top (w wr : World) (cv : Value) (cs : List Int) (fr EL RL : Nat) (E : List EntL) (la : Option Addr) (lc : Nat) (ea : Option Addr) (ec : Nat) (oa : Option Addr) (oc : Nat) (vs : List Value) (hF : FL3 w wr w.heap.size cv cs (rawsE E) (endsE E) (E.map neO) (.slice la RL lc) (.slice ea (EL + 1) ec) (.slice oa EL oc) vs) (hE : EG fr E) (hEL : EL = E.length) (hRL : RL = (rawsE E).length) (h9 : EL ≤ 9) (hg : ErrT w) (hfr1 : 1 ≤ fr) (hfr2 : fr ≤ 100) (x0 x1 x2 x8 x9 x10 x11 x12 x13 x14 x15 x16 x17 x18 x19 x20 x21 x22 x23 x24 x25 x26 x27 x28 x29 x30 x31 x32 x33 x34 x35 x36 x37 x38 x39 x40 x41 x42 x43 x44 x45 x46 x47 x48 x49 x50 x51 x52 x53 x54 x55 x56 x57 x58 x59 x60 x61 x62 x63 x64 x65 x66 x67 x68 x69 x70 x71 x72 x73 x74 x75 x76 x77 x78 x79 x80 x81 x82 x83 x84 x85 x86 x87 x88 x89 x90 x91 x92 x93 x94 x95 x96 x97 x98 x99 x100 x101 x102 x103 x104 x105 x106 x107 x108 x109 x110 x111 x112 x113 x114 x115 x116 x117 x118 x119 x120 x121 x122 x123 x124 x125 x126 x127 x128 x129 x130 x131 x132 x133 x134 x135 x136 x137 x138 x139 x140 x141 x142 x143 x144 x145 x146 x147 x148 x149 x150 x151 x152 x153 x154 x155 x156 x157 x158 x159 x160 x161 x162 x163 x164 x165 x166 x167 x168 x169 x170 x171 x172 x173 x174 x175 x176 x177 x178 x179 x180 x181 x182 x183 x184 x185 x186 x187 x188 x189 x190 x191 x192 x193 x194 x195 x196 x197 x198 x199 x200 x201 x202 x203 x204 x205 x206 x207 x208 x209 x210 x211 x212 x213 x214 x215 x216 x217 x218 x219 x220 x221 x222 x223 x224 x225 x226 x227 x228 x229 x230 x231 x232 x233 x234 x235 x236 x237 x238 x239 x240 x241 x242 x243 x244 x245 x246 x247 x248 x249 x250 x251 x252 x253 x254 x255 x256 x257 x258 x259 : Value)
    (K5 : Act → World → Prop) (hK5 : ∀ a w', Code.wp Tryz.prog (sndC (sndC (sndC (sndC (sndC (sndC (sndC (sndC (sndC (Tryz.f3.body.getD .skip)))))))))) (bodyPost Tryz.prog Tryz.f3 (fun e w' => e = .returned (.bool true) ∧ Below w.heap.size w w')) a w' → K5 a w') :
    Code.wp Tryz.prog (fstC (sndC (sndC (sndC (sndC (sndC (sndC (sndC (sndC (Tryz.f3.body.getD .skip)))))))))) (Exit.then K5 (bodyPost Tryz.prog Tryz.f3 (fun e w' => e = .returned (.bool true) ∧ Below w.heap.size w w'))) ⟨#[x0, x1, x2, .pointer (some ⟨w.heap.size, 0, none⟩), .int .i64 (fr : Int), .slice la RL lc, .slice ea (EL + 1) ec, .slice oa EL oc, x8, x9, x10, x11, x12, x13, x14, x15, x16, x17, x18, x19, x20, x21, x22, x23, x24, x25, x26, x27, x28, x29, x30, x31, x32, x33, x34, x35, x36, x37, x38, x39, x40, x41, x42, x43, x44, x45, x46, x47, x48, x49, x50, x51, x52, x53, x54, x55, x56, x57, x58, x59, x60, x61, x62, x63, x64, x65, x66, x67, x68, x69, x70, x71, x72, x73, x74, x75, x76, x77, x78, x79, x80, x81, x82, x83, x84, x85, x86, x87, x88, x89, x90, x91, x92, x93, x94, x95, x96, x97, x98, x99, x100, x101, x102, x103, x104, x105, x106, x107, x108, x109, x110, x111, x112, x113, x114, x115, x116, x117, x118, x119, x120, x121, x122, x123, x124, x125, x126, x127, x128, x129, x130, x131, x132, x133, x134, x135, x136, x137, x138, x139, x140, x141, x142, x143, x144, x145, x146, x147, x148, x149, x150, x151, x152, x153, x154, x155, x156, x157, x158, x159, x160, x161, x162, x163, x164, x165, x166, x167, x168, x169, x170, x171, x172, x173, x174, x175, x176, x177, x178, x179, x180, x181, x182, x183, x184, x185, x186, x187, x188, x189, x190, x191, x192, x193, x194, x195, x196, x197, x198, x199, x200, x201, x202, x203, x204, x205, x206, x207, x208, x209, x210, x211, x212, x213, x214, x215, x216, x217, x218, x219, x220, x221, x222, x223, x224, x225, x226, x227, x228, x229, x230, x231, x232, x233, x234, x235, x236, x237, x238, x239, x240, x241, x242, x243, x244, x245, x246, x247, x248, x249, x250, x251, x252, x253, x254, x255, x256, x257, x258, x259], []⟩ wr := by
  conv => arg 2; whnf
  conv at hK5 => enter [a, w', 1, 2]; whnf
  obtain ⟨i1, hi1, hy0, hy1, hy2⟩ := info_parts infoU8
  have HF := hide hF
  have HE := hide hE
  have HEL := hide hEL
  have HRL := hide hRL
  have HG := hide hg
  have hRLb : RL ≤ 60000 := by rw [hRL]; exact raws_short hE.oks (by omega)
  clear hF hE hg hEL hRL
  go_wp2_with fail
  refine (cpL_any (.slice la RL lc) (rawsE E) _ (Rd.own HF.out.log) (by rw [← HRL.out]; omega)).mono ?_
  rintro e w1 ⟨v1, rfl, o1, b1⟩
  have F1 := hide (HF.out.below b1)
  have O1 := hide o1
  clear o1 b1 HF
  go_wp2_with fail
  refine (implLS_any v1 (rawsE E) E _ (sc_raws HE.out) (Rd.own O1.out) HE.out.bds (by rw [← HRL.out]; omega)).mono ?_
  rintro e w2 ⟨v2, vg, rfl, on, b2⟩
  have hrow := on.row
  rw [List.length_map, ← HEL.out] at hrow
  obtain ⟨ga, gc, rfl⟩ := shape_row hrow
  have F2 := hide (F1.out.below b2)
  have G2 := hide (on.mono (show w.heap.size + 1 ≤ w1.heap.size from F1.out.sc.src.lt))
  clear on b2 hrow O1 F1
  go_wp2_with fail
  refine (cpL_any (.slice la RL lc) (rawsE E) _ (Rd.own F2.out.log) (by rw [← HRL.out]; omega)).mono ?_
  rintro e w3 ⟨v3, rfl, o3, b3⟩
  rw [← HRL.out] at o3
  have F3 := hide (F2.out.below b3)
  have G3 := hide (G2.out.below b3)
  have hsz2 : w.heap.size + 1 ≤ w2.heap.size := F2.out.sc.src.lt
  have O3 := hide (own_mono o3 hsz2)
  have AP := hide (show ∀ k, v3.ownBlock = some k → (Value.slice la RL lc).ownBlock ≠ some k ∧ ∀ u ∈ vs, u.ownBlock ≠ some k from fun k hk => ⟨fun e => by have h1 := (o3.lt k hk).1; have h2 := (F2.out.log.lt k e).2; omega, fun u hu e => by have h1 := (o3.lt k hk).1; have h2 := (F2.out.vs_lt hu e).2; omega⟩)
  have AP2 := hide (show ∀ u ∈ vg, ∀ k, u.ownBlock = some k → v3.ownBlock ≠ some k from fun u hu k hk e => by have h1 := (o3.lt k e).1; have h2 := (ownN_lt G2.out hu hk).2; omega)
  clear o3 b3
  go_wp2_with fail
  refine (F3.out.sc.N 40 (by omega) (by omega)).mono ?_
  rintro e w4 ⟨z, rfl, hz0, hz1, s4, d4⟩
  obtain ⟨nb, hnb⟩ : ∃ nb : Nat, z = (nb : Int) := ⟨z.toNat, by omega⟩
  subst hnb
  have hnb40 : nb < 40 := by omega
  have F4 := hide (F3.out.draw s4 d4)
  have G4 := hide (ownN_far G3.out d4)
  have O4 := hide (kept_far O3.out d4 (by omega))
  clear s4 d4 hz0 hz1 F3 G3 O3 F2 G2
  go_wp2_with fail
  refine (bytes_drawn F4.out.sc nb (by omega)).mono ?_
  rintro e w5 ⟨v5, bs, rfl, hbl, hbB, ho5, s5, d5⟩
  have hsz4 : w.heap.size + 1 ≤ w4.heap.size := F4.out.sc.src.lt
  have F5 := hide (F4.out.draw s5 d5)
  have G5 := hide (ownN_far G4.out d5)
  have O5 := hide (kept_far O4.out d5 (by omega))
  have P5 := hide (own_mono ho5 hsz4)
  have hsz5 : w.heap.size + 1 ≤ w5.heap.size := F5.out.sc.src.lt
  obtain ⟨L', hS⟩ := ScE.ex _ none (rawsE E ++ bs) (Nat.le_refl _)
  have hbb : ∀ z ∈ rawsE E ++ bs, 0 ≤ z ∧ z < 256 := fun z hz => (List.mem_append.1 hz).elim (HE.out.bds z) (hbB z)
  have HS := hide (show ScE none (rawsE E ++ bs) L' ∧ (∀ z ∈ rawsE E ++ bs, 0 ≤ z ∧ z < 256) ∧ EL ≤ L'.length ∧ L'.length ≤ 1000000 from ⟨hS, hbb, by obtain ⟨L2, rfl, _⟩ := sc_pre E none bs L' HE.out.chain hbb hS; rw [List.length_append, HEL.out]; omega, by have := hS.len; rw [List.length_append, ← HRL.out] at this; omega⟩)
  obtain ⟨va3, vc3, rfl⟩ := shape_row O5.out
  clear s5 d5 F4 G4 O4 hS hbb hbB ho5
  by_cases hn0 : nb = 0
  · subst hn0
    have hbs : bs = [] := List.eq_nil_of_length_eq_zero hbl
    have HBS := hide hbs
    clear hbs
    obtain ⟨va5, vc5, rfl⟩ := shape_row P5.out
    have F6 := F5
    have G6 := G5
    have O6 := hide (show w5.ownsRow (w.heap.size + 1) 5 1 (.slice va3 RL vc3) RL ((rawsE E ++ bs).map (Value.int .u8)) by rw [HBS.out, List.append_nil]; exact O5.out)
    go_wp2_with (first
      | (at_builtin; refine wpList_append_emptyLU rfl (.tmp 81) (.tmp 85) 22 rfl (w.heap.size + 1) 5 i1 1 Tryz.underlying22 hi1 (.slice va3 RL vc3) RL ((rawsE E).map (Value.int .u8)) rfl O5.out va5 vc5 rfl ?_)
      | fail)
    refine (implLS_any (.slice va3 RL vc3) (rawsE E ++ bs) L' _ HS.out.1 (Rd.own O6.out) HS.out.2.1 (by rw [List.length_append, ← HRL.out]; omega)).mono ?_
    rintro e w7 ⟨v7, vg7, rfl, on7, b7⟩
    have hrow7 := on7.row
    rw [List.length_map] at hrow7
    obtain ⟨n7, hn7⟩ : ∃ n7, n7 = L'.length := ⟨_, rfl⟩
    rw [← hn7] at hrow7
    obtain ⟨a7, c7, rfl⟩ := shape_row hrow7
    have h7 : EL ≤ n7 := by rw [hn7]; exact HS.out.2.2.1
    have h72 : n7 ≤ 1000000 := by rw [hn7]; exact HS.out.2.2.2
    have F7 := hide (F6.out.below b7)
    have G7 := hide (G6.out.below b7)
    clear hn7 on7 b7 hrow7
    go_upto_region 22 with fail
    exact log_cmp w _ cv cs fr EL RL E la lc ea ec oa oc vs ga gc F7.out HE.out HEL.out HRL.out h9 HG.out hfr1 hfr2 vg n7 a7 c7 G7.out h7 h72 _ _ _ _ _ _ _ _ _ _ _ _ _ _ _ _ _ _ _ _ _ _ _ _ _ _ _ _ _ _ _ _ _ _ _ _ _ _ _ _ _ _ _ _ _ _ _ _ _ _ _ _ _ _ _ _ _ _ _ _ _ _ _ _ _ _ _ _ _ _ _ _ _ _ _ _ _ _ _ _ _ _ _ _ _ _ _ _ _ _ _ _ _ _ _ _ _ _ _ _ _ _ _ _ _ _ _ _ _ _ _ _ _ _ _ _ _ _ _ _ _ _ _ _ _ _ _ _ _ _ _ _ _ _ _ _ _ _ _ _ _ _ _ _ _ _ _ _ _ _ _ _ _ _ _ _ _ _ _ _ _ _ _ _ _ _ _ _ _ _ _ _ _ _ _ _ _ _ _ _ _ _ _ _ _ _ _ _ _ _ _ _ _ _ _ _ _ _ _ _ _ _ _ _ _ _ _ _ _ _ _ _ _ _ _ _ _ _ _ _ _ _ _ _ _ _ _ _ _ _ _ _ _ _ _ _ _ _ _ _ _ _ _ _ _ _ _ _ _ _ _ _ _ _ (by assumption) _ (by assumption)
  · obtain ⟨gb, cb, hvb⟩ := place_row P5.out (by omega)
    subst hvb
    have CB := hide (own_cellsU P5.out)
    go_wp2_with (first
      | (at_builtin; refine wpList_append_own_at _ rfl (.tmp 81) (.tmp 85) 22 rfl (w.heap.size + 1) 5 i1 (.int .u8 0) 1 1 Tryz.underlying22 hi1 hy0 hy1 hy2 rfl (by decide) (.slice va3 RL vc3) RL ((rawsE E).map (Value.int .u8)) rfl O5.out ⟨gb, 0, none⟩ nb cb (bs.map (Value.int .u8)) rfl (by simp [hbl]) CB.out (ints_oneCell _ _) (by unfold maxLen; omega) (by omega) (by omega) ?_; intro v6 w6 o6 g6 _ _; obtain ⟨a6, c6, rfl⟩ := shape_row o6; have F6 := hide (F5.out.other O5.out AP.out g6); have G6 := hide (G5.out.keptN g6 (fun r e hv => by rcases own_apart G5.out.row O5.out neLE_u8 with h1 | h1; rw [h1] at hv; cases hv; exact h1 (hv.trans e.symm)) (fun r e u hu hv => AP2.out u hu r hv e)); have O6 := hide (show w6.ownsRow (w.heap.size + 1) 5 1 (.slice a6 (RL + nb) c6) (RL + nb) ((rawsE E ++ bs).map (Value.int .u8)) by rw [List.map_append]; exact o6); clear o6 g6)
      | fail)
    refine (implLS_any (.slice a6 (RL + nb) c6) (rawsE E ++ bs) L' _ HS.out.1 (Rd.own O6.out) HS.out.2.1 (by rw [List.length_append, ← HRL.out]; omega)).mono ?_
    rintro e w7 ⟨v7, vg7, rfl, on7, b7⟩
    have hrow7 := on7.row
    rw [List.length_map] at hrow7
    obtain ⟨n7, hn7⟩ : ∃ n7, n7 = L'.length := ⟨_, rfl⟩
    rw [← hn7] at hrow7
    obtain ⟨a7, c7, rfl⟩ := shape_row hrow7
    have h7 : EL ≤ n7 := by rw [hn7]; exact HS.out.2.2.1
    have h72 : n7 ≤ 1000000 := by rw [hn7]; exact HS.out.2.2.2
    have F7 := hide (F6.out.below b7)
    have G7 := hide (G6.out.below b7)
    clear hn7 on7 b7 hrow7
    go_upto_region 22 with fail
    exact log_cmp w _ cv cs fr EL RL E la lc ea ec oa oc vs ga gc F7.out HE.out HEL.out HRL.out h9 HG.out hfr1 hfr2 vg n7 a7 c7 G7.out h7 h72 _ _ _ _ _ _ _ _ _ _ _ _ _ _ _ _ _ _ _ _ _ _ _ _ _ _ _ _ _ _ _ _ _ _ _ _ _ _ _ _ _ _ _ _ _ _ _ _ _ _ _ _ _ _ _ _ _ _ _ _ _ _ _ _ _ _ _ _ _ _ _ _ _ _ _ _ _ _ _ _ _ _ _ _ _ _ _ _ _ _ _ _ _ _ _ _ _ _ _ _ _ _ _ _ _ _ _ _ _ _ _ _ _ _ _ _ _ _ _ _ _ _ _ _ _ _ _ _ _ _ _ _ _ _ _ _ _ _ _ _ _ _ _ _ _ _ _ _ _ _ _ _ _ _ _ _ _ _ _ _ _ _ _ _ _ _ _ _ _ _ _ _ _ _ _ _ _ _ _ _ _ _ _ _ _ _ _ _ _ _ _ _ _ _ _ _ _ _ _ _ _ _ _ _ _ _ _ _ _ _ _ _ _ _ _ _ _ _ _ _ _ _ _ _ _ _ _ _ _ _ _ _ _ _ _ _ _ _ _ _ _ _ _ _ _ _ _ _ _ _ _ _ _ _ (by assumption) _ (by assumption)
end Go.Proofs.YtohmjfagbhnieaaGreatDoor
