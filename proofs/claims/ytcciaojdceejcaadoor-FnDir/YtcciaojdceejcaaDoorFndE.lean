/- The law on directories, walked. -/
import Derived.Test.YtcciaojdceejcaaDoorJfA
import Derived.BigQuiet
import Derived.Deep.RegionHeld3
import Derived.Deep.MidRow
import Derived.Deep.Cut
import Derived.Deep.CutRange
import Derived.Laws.BytesArg
namespace Go.Proofs.YtcciaojdceejcaaDoor
set_option linter.unusedVariables false
set_option linter.unusedSimpArgs false
open Go.RowKit

theorem FD.start {w w1 : World} {v : Value} {cs : List Int} (hs : Src w1 w.heap.size v cs.length) (hb : Below w.heap.size w w1) : FD w ((w1.alloc (.cells #[] 5)).alloc (.cells #[] 34)) w.heap.size v cs (.slice (some ⟨w1.heap.size, 0, none⟩) 0 0) (.slice (some ⟨w1.heap.size + 1, 0, none⟩) 0 0) [] [] := by
  have hB : Below w1.heap.size w1 ((w1.alloc (.cells #[] 5)).alloc (.cells #[] 34)) := ((Below.refl _ _).alloc (Nat.le_refl _) _).alloc (by simp) _
  refine ⟨hs.below hB hs.lt, Nat.le_refl _, own_mono ((own_empty1 w1 5).alloc _) hb.size, ?_, DirM.none, List.Perm.refl _, hb.trans (hB.mono hb.size)⟩
  have h := own_emptyD (w1.alloc (.cells #[] 5)) 34 3
  rw [World.size_alloc] at h
  exact own_mono h (by have := hb.size; omega)

theorem FD.added {w0 W w3 : World} {b : Nat} {cv : Value} {cs : List Int} {vc vl vN v3 : Value} {M L Z : List EI} {e : EI} {o : Obj} {zs : List Int} (h : FD w0 W b cv cs vc vl M L) (hN : W.ownsRow w0.heap.size 5 1 vN zs.length (zs.map (Value.int .u8))) (hz : zs = bytesE Z) (hd : DirM Z) (hp : (entsOf Z).Perm (e :: entsOf M)) (o3 : w3.ownsRow w0.heap.size 34 3 v3 (L.length + 1) (entsI L ++ (entC e.1 e.2.1 e.2.2).toList)) (g3 : (W.alloc o).grownBy w3 vl.ownBlock) : FD w0 w3 b cv cs vN v3 Z (L ++ [e]) := by
  have hs : W.heap.size ≤ (W.alloc o).heap.size := by simp
  have hB : Below W.heap.size W (W.alloc o) := (Below.refl _ _).alloc (Nat.le_refl _) _
  have hsrc := h.src.below hB h.src.lt
  have hlst := h.lst.alloc o
  obtain ⟨i, x, h1, h2, h3, h4⟩ := hsrc
  subst hz
  refine ⟨⟨i, x, h1, h2, h3, (g3.block b h4.lt (fun e => (own_ne_src hlst ⟨i, x, h1, h2, h3, h4⟩ (by decide)) e.symm)).trans h4⟩, h.hb, (hN.alloc o).kept g3 (own_ne_own (hN.alloc o) hlst (by decide)), ?_, hd, ?_, ?_⟩
  · rw [List.length_append, entsI_append]
    exact o3
  · exact (List.perm_append_comm.trans (h.per.cons e)).trans hp.symm
  · exact (h.low.trans (hB.mono h.low.size)).grown g3 (by have := h.low.size; simp; omega) (fun j hj => (hlst.lt j hj).1)
theorem yieldsIf_neqD {P : Program} {ops : Array Oper} {S : World → Prop} {o : Oper} {a : Act} (hw : Region.wanted o (yielded ops a.tmps) = true) (t u : TypeId) (x y : Operand) (ho : o.op = .binOp .neq t x y u)
    (cs ds : Array Value) (hx : a.eval x = .agg cs) (hy : a.eval y = .agg ds) (hm : P.eqGuardType P.depth t = false) (b : Bool) (hE : ∀ w, (Op.equalIn 10000 t (.agg cs) (.agg ds)).run P w = .ok b w) : YieldsIf P ops S o (.bool (!b)) a :=
  .inl ⟨hw, fun w hw' => by simp [execOp, ho, hx, hy, run_eqGuard_agg w _ _ _ _ _ _ hm, run_neq_struct, hE w, Result.andThen]⟩
theorem entEq_self (n : ByteArray) (i k : Int) : entEq n i k n i k = true := by simp [entEq]
theorem chk_of {M : List EI} (h : DirM M) {k : Nat} {x : EI} {nm : ByteArray} (hk : M[k]? = some x) (hz : zE x = false) (hn : x.1.data.toList = nm.data.toList) : Chk.chkS nm = 0 := by
  have hr := ((h.ok x (List.mem_of_getElem? hk)).right hz).1
  have e : x.1 = nm := by
    have h1 : x.1.data = nm.data := Array.toList_inj.1 hn
    cases hx : x.1 with
    | mk d1 =>
      cases hm : nm with
      | mk d2 =>
        rw [hx, hm] at h1
        exact congrArg ByteArray.mk h1
  rw [← e]
  exact hr
theorem FD.cutL {w0 W W2 W3 : World} {b : Nat} {cv : Value} {cs : List Int} {vc vl vN v2 v3 : Value} {M L Z L2 : List EI} {o : Obj} {zs : List Int} {n2 : Nat} {xs2 : List Value} (h : FD w0 W b cv cs vc vl M L) (hN : W.ownsRow w0.heap.size 5 1 vN zs.length (zs.map (Value.int .u8))) (hz : zs = bytesE Z) (hd : DirM Z) (hp : L2.Perm (entsOf Z)) (o2 : W2.ownsRow w0.heap.size 34 3 v2 n2 xs2) (g2 : (W.alloc o).grownBy W2 (some W.heap.size)) (o3 : W3.ownsRow w0.heap.size 34 3 v3 L2.length (entsI L2)) (g3 : W2.grownBy W3 v2.ownBlock) : FD w0 W3 b cv cs vN v3 Z L2 := by
  have hB : Below W.heap.size W (W.alloc o) := (Below.refl _ _).alloc (Nat.le_refl _) _
  have hbl := h.src.lt
  obtain ⟨i, x, h1, h2, h3, h4⟩ := h.src.below hB hbl
  have hs2 : Src W2 b cv cs.length := ⟨i, x, h1, h2, h3, (g2.block b h4.lt (fun e => by have := Option.some.inj e; omega)).trans h4⟩
  subst hz
  have hc2 : W2.ownsRow w0.heap.size 5 1 vN (bytesE Z).length ((bytesE Z).map (Value.int .u8)) := (hN.alloc o).kept g2 (by
    cases hv : vN.ownBlock with
    | none => exact .inl rfl
    | some k => exact .inr (fun e => by have := (hN.lt k hv).2; have := Option.some.inj e; omega))
  obtain ⟨i', x', k1, k2, k3, k4⟩ := hs2
  refine ⟨⟨i', x', k1, k2, k3, (g3.block b k4.lt (fun e => (own_ne_src o2 ⟨i', x', k1, k2, k3, k4⟩ (by decide)) e.symm)).trans k4⟩, h.hb, hc2.kept g3 (own_ne_own hc2 o2 (by decide)), o3, hd, hp, ?_⟩
  have hl := h.low.size
  have hs := g2.size
  rw [World.size_alloc] at hs
  exact ((h.low.trans (hB.mono hl)).grown g2 (by simp; omega) (fun j hj => by cases hj; exact hl)).grown g3 (by omega) (fun j hj => (o2.lt j hj).1)
theorem wpList_eqlE {P : Program} {ops : Array Oper} {rest : List Oper} {o : Oper} {a : Act} {w : World} {Q : Exit → Act → World → Prop} (hgd : o.guard = none) (t u : TypeId) (x y : Operand) (ho : o.op = .binOp .eql t x y u)
    (cs ds : Array Value) (hx : a.eval x = .agg cs) (hy : a.eval y = .agg ds) (hm : P.eqGuardType P.depth t = false) (b : Bool) (hE : (Op.equalIn 10000 t (.agg cs) (.agg ds)).run P w = .ok b w)
    (h : wpList P ops Q rest (a.put o.dst (.bool b)) w) : wpList P ops Q (o :: rest) a w := by
  refine wpList_plain hgd fun K hK => ?_
  have hrun : (execOp a.eval o).run P w = .ok (.value (.bool b)) w := by
    simp [execOp, ho, hx, hy, run_eqGuard_agg w _ _ _ _ _ _ hm, run_eql_struct, hE, Result.andThen]
  unfold Oper.wp
  rw [hrun, Oper.upon_value]
  exact hK _ _ h
theorem end_both {M L : List EI} (h : DirM M) (hp : L.Perm (entsOf M)) : dlC (bytesE M) = 0 ∧ dlL (bytesE M) = sortE (entsOf M) ∧ (sortE (entsOf M)).length = L.length ∧ (∀ x ∈ sortE (entsOf M), x ∈ L) ∧ ∀ p z x, (sortE (entsOf M))[p]? = some z → (sortE (entsOf M))[p + 1]? = some x → Op.bytesLess z.1.data.toList x.1.data.toList = true := by
  obtain ⟨es, hes, hei⟩ := h.entT
  have hd := dl_ok h.dirOk hes
  rw [hei] at hd
  refine ⟨hd.1, hd.2, by rw [sortE_length]; exact hp.length_eq.symm, fun x hx => ?_, fun p z x hz hx => ?_⟩
  · unfold sortE at hx
    rw [sortE_mem] at hx
    rcases hx with hx | hx
    · cases hx
    · exact hp.mem_iff.2 hx
  · have hs : (sortE (entsOf M)).Pairwise sLt := sortE_sorted List.Pairwise.nil (fun _ _ _ h => by cases h) h.nam
    obtain ⟨h1, e1⟩ := List.getElem?_eq_some_iff.1 hz
    obtain ⟨h2, e2⟩ := List.getElem?_eq_some_iff.1 hx
    rw [← e1, ← e2]
    exact List.pairwise_iff_getElem.1 hs p (p + 1) h1 h2 (by omega)
theorem conv3 (W : World) (x y : Int) : (convert 22 9 (.slice (some ⟨W.heap.size, 0, none⟩) 3 3)).run Tryd.prog (W.alloc (.cells #[.int .u8 102, .int .u8 x, .int .u8 y] 5)) = .ok (.string (strOfNums [102, x, y])) (W.alloc (.cells #[.int .u8 102, .int .u8 x, .int .u8 y] 5)) :=
  run_convert_bytes_arg _ 22 5 Tryd.underlying22 Tryd.underlying5 W.heap.size 0 3 3 [102, x, y] rfl (fun i hi => by
    have hi' : i < 3 := by simpa using hi
    match i, hi' with
    | 0, _ => simp
    | 1, _ => simp
    | 2, _ => simp) 9 Tryd.underlying9
def sndC : Code → Code
  | .seq _ b => b
  | c => c
def fstC : Code → Code
  | .seq a _ => a
  | c => c
def inC : Code → Code
  | .block _ c => c
  | .loop c => c
  | c => c
noncomputable def loopC : Code := sndC (sndC (sndC (sndC (sndC (Tryd.f4.body.getD .skip)))))
noncomputable def tailC : Code := sndC (sndC (sndC (sndC (inC (fstC (sndC (inC (inC (sndC (fstC loopC))))))))))
set_option maxRecDepth 1000000 in
/-- What one round leaves behind the search: the slots that no round writes, and the directory. -/
def TailPost (w : World) (a0 : Option Addr) (cap0 : Nat) (cs : List Int) (n : Nat) (x0 x1 x3 x6 x20 x21 x22 x23 x24 x25 x26 x27 x28 x29 x30 x31 x32 x33 x34 x35 x36 x37 x38 x214 x215 x216 x217 x218 x219 x220 x221 x222 x223 x224 x225 x226 x227 x228 x229 x230 x231 x232 x233 x234 x235 x236 x237 x238 x239 x240 x241 x242 x243 x244 x245 x246 x247 x248 x249 x250 x251 x252 x253 x254 x255 x256 x257 x258 x259 x260 x261 x262 x263 : Value) (act : Act) (w' : World) : Prop :=
  ∃ y2 y4 y5 y7 y8 y9 y10 y11 y12 y13 y14 y15 y16 y17 y18 y19 y39 y40 y41 y42 y43 y44 y45 y46 y47 y48 y49 y50 y51 y52 y53 y54 y55 y56 y57 y58 y59 y60 y61 y62 y63 y64 y65 y66 y67 y68 y69 y70 y71 y72 y73 y74 y75 y76 y77 y78 y79 y80 y81 y82 y83 y84 y85 y86 y87 y88 y89 y90 y91 y92 y93 y94 y95 y96 y97 y98 y99 y100 y101 y102 y103 y104 y105 y106 y107 y108 y109 y110 y111 y112 y113 y114 y115 y116 y117 y118 y119 y120 y121 y122 y123 y124 y125 y126 y127 y128 y129 y130 y131 y132 y133 y134 y135 y136 y137 y138 y139 y140 y141 y142 y143 y144 y145 y146 y147 y148 y149 y150 y151 y152 y153 y154 y155 y156 y157 y158 y159 y160 y161 y162 y163 y164 y165 y166 y167 y168 y169 y170 y171 y172 y173 y174 y175 y176 y177 y178 y179 y180 y181 y182 y183 y184 y185 y186 y187 y188 y189 y190 y191 y192 y193 y194 y195 y196 y197 y198 y199 y200 y201 y202 y203 y204 y205 y206 y207 y208 y209 y210 y211 y212 y213 : Value, act = ⟨#[x0, x1, y2, x3, y4, y5, x6, y7, y8, y9, y10, y11, y12, y13, y14, y15, y16, y17, y18, y19, x20, x21, x22, x23, x24, x25, x26, x27, x28, x29, x30, x31, x32, x33, x34, x35, x36, x37, x38, y39, y40, y41, y42, y43, y44, y45, y46, y47, y48, y49, y50, y51, y52, y53, y54, y55, y56, y57, y58, y59, y60, y61, y62, y63, y64, y65, y66, y67, y68, y69, y70, y71, y72, y73, y74, y75, y76, y77, y78, y79, y80, y81, y82, y83, y84, y85, y86, y87, y88, y89, y90, y91, y92, y93, y94, y95, y96, y97, y98, y99, y100, y101, y102, y103, y104, y105, y106, y107, y108, y109, y110, y111, y112, y113, y114, y115, y116, y117, y118, y119, y120, y121, y122, y123, y124, y125, y126, y127, y128, y129, y130, y131, y132, y133, y134, y135, y136, y137, y138, y139, y140, y141, y142, y143, y144, y145, y146, y147, y148, y149, y150, y151, y152, y153, y154, y155, y156, y157, y158, y159, y160, y161, y162, y163, y164, y165, y166, y167, y168, y169, y170, y171, y172, y173, y174, y175, y176, y177, y178, y179, y180, y181, y182, y183, y184, y185, y186, y187, y188, y189, y190, y191, y192, y193, y194, y195, y196, y197, y198, y199, y200, y201, y202, y203, y204, y205, y206, y207, y208, y209, y210, y211, y212, y213, x214, x215, x216, x217, x218, x219, x220, x221, x222, x223, x224, x225, x226, x227, x228, x229, x230, x231, x232, x233, x234, x235, x236, x237, x238, x239, x240, x241, x242, x243, x244, x245, x246, x247, x248, x249, x250, x251, x252, x253, x254, x255, x256, x257, x258, x259, x260, x261, x262, x263], []⟩ ∧ ∃ (M2 L2 : List EI), L2.length ≤ n + 1 ∧ FD w w' w.heap.size (.slice a0 cs.length cap0) cs y4 y5 M2 L2
set_option maxRecDepth 1000000 in
set_option maxHeartbeats 40000000 in
theorem tailN (w wr : World) (a0 : Option Addr) (cap0 : Nat) (cs : List Int) (M L : List EI) (ca : Option Addr) (cc : Nat) (la : Option Addr) (lc : Nat) (nm : ByteArray) (kk : Nat) (h : Rd .u8 w (.slice a0 cs.length cap0) cs) (hbd : ∀ z ∈ cs, 0 ≤ z ∧ z < 256) (hg : ErrT w) (hsm : cs.length ≤ 1048576) (hnm : nm.size ≤ 100) (hkk : L.length + kk ≤ 200) (hk0 : 0 < kk)
    (hF : FD w wr w.heap.size (.slice a0 cs.length cap0) cs (.slice ca (bytesE M).length cc) (.slice la L.length lc) M L) (hfk : firstK (bytesE M) nm ((bytesE M).length / 32) = none) (hno : ∀ x ∈ entsOf M, x.1.data.toList ≠ nm.data.toList) (x0 x1 x2 x6 x9 x10 x11 x12 x13 x14 x15 x16 x17 x18 x19 x20 x21 x22 x23 x24 x25 x26 x27 x28 x29 x30 x31 x32 x33 x34 x35 x36 x37 x38 x39 x40 x41 x42 x43 x44 x45 x46 x47 x48 x49 x50 x51 x52 x53 x54 x55 x56 x57 x58 x59 x60 x61 x62 x63 x64 x65 x66 x67 x68 x69 x70 x71 x72 x73 x74 x75 x76 x77 x78 x79 x80 x81 x82 x83 x84 x85 x86 x87 x88 x89 x90 x91 x92 x93 x94 x95 x96 x97 x98 x99 x100 x101 x102 x103 x104 x105 x106 x107 x108 x109 x110 x111 x112 x113 x114 x115 x116 x117 x118 x119 x120 x121 x122 x123 x124 x125 x126 x127 x128 x129 x130 x131 x132 x133 x134 x135 x136 x137 x138 x139 x140 x141 x142 x143 x144 x145 x146 x147 x148 x149 x150 x151 x152 x153 x154 x155 x156 x157 x158 x159 x160 x161 x162 x163 x164 x165 x166 x167 x168 x169 x170 x171 x172 x173 x174 x175 x176 x177 x178 x179 x180 x181 x182 x183 x184 x185 x186 x187 x188 x189 x190 x191 x192 x193 x194 x195 x196 x197 x198 x199 x200 x201 x202 x203 x204 x205 x206 x207 x208 x209 x210 x211 x212 x213 x214 x215 x216 x217 x218 x219 x220 x221 x222 x223 x224 x225 x226 x227 x228 x229 x230 x231 x232 x233 x234 x235 x236 x237 x238 x239 x240 x241 x242 x243 x244 x245 x246 x247 x248 x249 x250 x251 x252 x253 x254 x255 x256 x257 x258 x259 x260 x261 x262 x263 : Value) (Q : Exit → Act → World → Prop) (hQ : ∀ act w', TailPost w a0 cap0 cs L.length x0 x1 (.pointer (some ⟨w.heap.size, 0, none⟩)) x6 x20 x21 x22 x23 x24 x25 x26 x27 x28 x29 x30 x31 x32 x33 x34 x35 x36 x37 x38 x214 x215 x216 x217 x218 x219 x220 x221 x222 x223 x224 x225 x226 x227 x228 x229 x230 x231 x232 x233 x234 x235 x236 x237 x238 x239 x240 x241 x242 x243 x244 x245 x246 x247 x248 x249 x250 x251 x252 x253 x254 x255 x256 x257 x258 x259 x260 x261 x262 x263 act w' → Q .normal act w') (K : Act → World → Prop) (hK : ∀ a w', Code.wp Tryd.prog (sndC tailC) Q a w' → K a w') :
    Code.wp Tryd.prog (fstC tailC) (Exit.then K Q) ⟨#[x0, x1, x2, .pointer (some ⟨w.heap.size, 0, none⟩), .slice ca (bytesE M).length cc, .slice la L.length lc, x6, .string nm, .int .i64 (-1), x9, x10, x11, x12, x13, x14, x15, x16, x17, x18, x19, x20, x21, x22, x23, x24, x25, x26, x27, x28, x29, x30, x31, x32, x33, x34, x35, x36, x37, x38, x39, x40, x41, x42, x43, x44, x45, x46, x47, x48, x49, x50, x51, x52, x53, x54, x55, x56, x57, x58, x59, x60, x61, x62, x63, x64, x65, x66, x67, x68, x69, x70, x71, x72, x73, x74, x75, x76, x77, x78, x79, x80, x81, x82, x83, x84, x85, x86, x87, x88, x89, x90, x91, x92, x93, x94, x95, x96, x97, x98, x99, x100, x101, x102, x103, x104, x105, x106, x107, x108, x109, x110, x111, x112, x113, x114, x115, x116, x117, x118, x119, x120, x121, x122, x123, x124, x125, x126, x127, x128, x129, x130, x131, x132, x133, x134, x135, x136, x137, x138, x139, x140, x141, x142, x143, x144, x145, x146, x147, x148, x149, x150, x151, x152, x153, x154, x155, x156, x157, x158, x159, x160, x161, x162, x163, x164, x165, x166, x167, x168, x169, x170, x171, x172, x173, x174, x175, x176, x177, x178, x179, x180, x181, x182, x183, x184, x185, x186, x187, x188, x189, x190, x191, x192, x193, x194, x195, x196, x197, x198, x199, x200, x201, x202, x203, x204, x205, x206, x207, x208, x209, x210, x211, x212, x213, x214, x215, x216, x217, x218, x219, x220, x221, x222, x223, x224, x225, x226, x227, x228, x229, x230, x231, x232, x233, x234, x235, x236, x237, x238, x239, x240, x241, x242, x243, x244, x245, x246, x247, x248, x249, x250, x251, x252, x253, x254, x255, x256, x257, x258, x259, x260, x261, x262, x263], []⟩ wr := by
  have H := hide (And.intro h (And.intro hbd hg))
  have FA := hide hF
  clear h hbd hg hF
  conv => arg 2; whnf
  conv at hK => enter [a, w', 1, 2]; whnf
  go_wp2_with (go_at_call 18; fail)
  refine (cp_any _ (bytesE M) _ (Rd.own FA.out.con) FA.out.dir.small).mono ?_
  rintro e wA ⟨vA, rfl, o, b⟩
  have FB := hide (FA.out.below b)
  have RA := hide (Rd.own o)
  clear o b FA
  go_wp2_with (go_at_call 17; fail)
  refine (implDF_any vA (bytesE M) nm _ RA.out (bytesE_bdF M) (by unfold maxLen; omega) (H.out.2.2.below FB.out.low)).mono ?_
  rintro e wB ⟨rfl, b⟩
  have FC := hide (FB.out.below b)
  clear b FB RA
  have HKn := hide (show Blk (wB.alloc (.cells (entC ⟨#[]⟩ 0 0) 34)) wB.heap.size (entC ⟨#[]⟩ 0 0) 34 ∧ Below wB.heap.size wB (wB.alloc (.cells (entC ⟨#[]⟩ 0 0) 34)) from ⟨Blk.new _ _ _, (Below.refl _ _).alloc (Nat.le_refl _) _⟩)
  have HLM := hide (show L.length = (entsOf M).length from FC.out.per.length_eq)
  have hdf := df_none FC.out.dir.dirOk hfk
  rw [hdf.1, hdf.2.1, hdf.2.2]
  unfold dfV
  clear hdf
  go_wp2_with (refine wpList_store_newD wB.heap.size wB rfl 34 _ _ rfl wB.heap.size (entC ⟨#[]⟩ 0 0) rfl rfl 34 (entC ⟨#[]⟩ 0 0) HKn.out.1 infoD3 rfl entC_one HKn.out.2 (Nat.le_refl _) ?_; intro wC kC bC; have FG0 := hide (FC.out.below bC); clear kC bC)
  go_quiet (fail)
  have FE := hide (fun n => FG0.out.below (belD (Below.refl wC.heap.size wC) n))
  clear FG0
  go_wp2_with (go_at_call 14; fail)
  refine ((FE.out _).N H.out.1 H.out.2.1 hsm 3 (by omega) (by omega)).mono ?_
  rintro e wF ⟨r9, rfl, hr9, f, _⟩
  have FG := hide f
  clear f FE
  go_upto_if 110 with fail
  go_cut [4, 5] from 39 to 213 (fun c4 l5 wx => ∃ (M2 L2 : List EI), L2.length ≤ L.length + 1 ∧ FD w wx w.heap.size (.slice a0 cs.length cap0) cs c4 l5 M2 L2)
  case first =>
    by_cases h9 : 0 < r9
    · have h9b : decide ((0 : Int) < (r9 : Int)) = true := by simp; omega
      go_wp2_with (go_at_call 14; fail)
      refine (FG.out.N H.out.1 H.out.2.1 hsm 500 (by omega) (by omega)).mono ?_
      rintro e wH ⟨r1, rfl, hr1, f, _⟩
      have FH := hide f
      clear f FG
      go_wp2_with (go_at_call 14; fail)
      refine (FH.out.N H.out.1 H.out.2.1 hsm 3 (by omega) (by omega)).mono ?_
      rintro e wI ⟨r2, rfl, hr2, f, _⟩
      have FI := hide f
      clear f FH
      have HKn := hide (show Blk (wI.alloc (.cells (entC ⟨#[]⟩ 0 0) 34)) wI.heap.size (entC ⟨#[]⟩ 0 0) 34 ∧ Below wI.heap.size wI (wI.alloc (.cells (entC ⟨#[]⟩ 0 0) 34)) from ⟨Blk.new _ _ _, (Below.refl _ _).alloc (Nat.le_refl _) _⟩)
      obtain ⟨ino, hino⟩ : ∃ i : Int, i = 1 + (r1 : Int) := ⟨_, rfl⟩
      obtain ⟨kd, hkd⟩ : ∃ i : Int, i = 1 + (r2 : Int) := ⟨_, rfl⟩
      have HWi := hide (show (wi ino 1 1000 && wi kd 1 3) = true from by rw [hino, hkd, wi_pos hr1, wi_pos3 hr2]; rfl)
      have HIK := hide (And.intro hino hkd)
      go_wp2_with (refine wpList_store_newD wI.heap.size wI rfl 34 _ _ rfl wI.heap.size (entC nm (1 + (r1 : Int)) (1 + (r2 : Int))) rfl rfl 34 (entC ⟨#[]⟩ 0 0) HKn.out.1 infoD3 rfl entC_one HKn.out.2 (Nat.le_refl _) ?_; intro wJ kJ bJ; rw [← hino, ← hkd] at kJ ⊢; have KJ := hide kJ; have FJ := hide (FI.out.below bJ); clear kJ bJ hino hkd FI)
      refine wp_region_noPanic ?_
      refine wp_region_held_drew (S := fun w' => Blk w' wI.heap.size (entC nm ino kd) 34) (by kernel_rfl) KJ.out (fun hH => ?_)
      refine wpAnyH_take (i := 0) (oi := _) (v := .slice ca (bytesE M).length cc) rfl (by as_aux_lemma => kernel_rfl) (by as_aux_lemma => kernel_rfl) (by as_aux_lemma => kernel_rfl) (fun _ _ _ h => h) (Or.inl ⟨by rfl, fun w' hw' => by go_simp⟩) hH ?_
      try simp only [Act.put, List.getElem_toArray, List.getElem_cons_zero, List.getElem_cons_succ, List.setIfInBounds_toArray, List.set_cons_zero, List.set_cons_succ]
      refine wpAnyH_take (i := 2) (oi := _) (v := .agg (entC nm ino kd)) rfl (by as_aux_lemma => kernel_rfl) (by as_aux_lemma => kernel_rfl) (by as_aux_lemma => kernel_rfl) (fun _ _ _ h => h) (yieldsIf_load_mid (by rfl) 34 _ rfl wI.heap.size 0 rfl (entC nm ino kd).toList _ (fun w' h => ent_range h) Tryd.underlying34 rfl infoD3) hH ?_
      try simp only [Act.put, List.getElem_toArray, List.getElem_cons_zero, List.getElem_cons_succ, List.setIfInBounds_toArray, List.set_cons_zero, List.set_cons_succ]
      refine wpAnyH_ready (rs := [1]) (by kernel_rfl) (by simp) ?_
      refine AllReadyH.cons (o := _) rfl (fun K hK => ?_) AllReadyH.nil
      go_simp
      have FJd := hide (FJ.out.below ((Below.refl _ _).drew))
      refine (cp_any _ (bytesE M) _ (Rd.own FJd.out.con) FJd.out.dir.small).mono ?_
      rintro e wK ⟨vK, rfl, o, b⟩
      have FK := hide (FJd.out.below b)
      have KK := hide (KJ.out.below (((Below.refl _ _).drew).trans b) KJ.out.lt)
      have RK := hide (Rd.own o)
      clear o b FJ FJd
      refine hK.out _ _ KK.out (fun hH => ?_)
      clear hK K
      try simp only [Act.put, List.getElem_toArray, List.getElem_cons_zero, List.getElem_cons_succ, List.setIfInBounds_toArray, List.set_cons_zero, List.set_cons_succ]
      refine wpAnyH_ready (rs := [3]) (by kernel_rfl) (by simp) ?_
      refine AllReadyH.cons (o := _) rfl (fun K hK => ?_) AllReadyH.nil
      go_simp
      refine (implDA_any vK (bytesE M) nm ino kd _ RK.out (bytesE_bdF M) (by unfold maxLen; omega) (H.out.2.2.below FK.out.low)).mono ?_
      rintro e wL ⟨vL, rfl, o, b⟩
      have FL := hide (FK.out.below b)
      have KL := hide (KK.out.below b KK.out.lt)
      have OL := hide (own_mono o FK.out.low.size)
      clear o b FK KK RK
      refine hK.out _ _ KL.out (fun hH => ?_)
      clear hK K
      try simp only [Act.put, List.getElem_toArray, List.getElem_cons_zero, List.getElem_cons_succ, List.setIfInBounds_toArray, List.set_cons_zero, List.set_cons_succ]
      refine wpAnyH_take (i := 4) (oi := _) (v := .tuple #[vL, .int .i64 (daC (bytesE M) nm ino kd)]) rfl (by as_aux_lemma => kernel_rfl) (by as_aux_lemma => kernel_rfl) (by as_aux_lemma => kernel_rfl) (fun _ _ _ h => h) (Or.inl ⟨by rfl, fun w' hw' => by go_simp⟩) hH ?_
      try simp only [Act.put, List.getElem_toArray, List.getElem_cons_zero, List.getElem_cons_succ, List.setIfInBounds_toArray, List.set_cons_zero, List.set_cons_succ]
      refine wpAnyH_take (i := 5) (oi := _) (v := vL) rfl (by as_aux_lemma => kernel_rfl) (by as_aux_lemma => kernel_rfl) (by as_aux_lemma => kernel_rfl) (fun _ _ _ h => h) (Or.inl ⟨by rfl, fun w' hw' => by go_simp⟩) hH ?_
      try simp only [Act.put, List.getElem_toArray, List.getElem_cons_zero, List.getElem_cons_succ, List.setIfInBounds_toArray, List.set_cons_zero, List.set_cons_succ]
      refine wpAnyH_take (i := 6) (oi := _) (v := .int .i64 (daC (bytesE M) nm ino kd)) rfl (by as_aux_lemma => kernel_rfl) (by as_aux_lemma => kernel_rfl) (by as_aux_lemma => kernel_rfl) (fun _ _ _ h => h) (Or.inl ⟨by rfl, fun w' hw' => by go_simp⟩) hH ?_
      try simp only [Act.put, List.getElem_toArray, List.getElem_cons_zero, List.getElem_cons_succ, List.setIfInBounds_toArray, List.set_cons_zero, List.set_cons_succ]
      refine wpAnyH_take (i := 7) (oi := _) (v := vL) rfl (by as_aux_lemma => kernel_rfl) (by as_aux_lemma => kernel_rfl) (by as_aux_lemma => kernel_rfl) (fun _ _ _ h => h) (Or.inl ⟨by rfl, fun w' hw' => by go_simp⟩) hH ?_
      try simp only [Act.put, List.getElem_toArray, List.getElem_cons_zero, List.getElem_cons_succ, List.setIfInBounds_toArray, List.set_cons_zero, List.set_cons_succ]
      refine wpAnyH_take (i := 8) (oi := _) (v := .int .i64 (daC (bytesE M) nm ino kd)) rfl (by as_aux_lemma => kernel_rfl) (by as_aux_lemma => kernel_rfl) (by as_aux_lemma => kernel_rfl) (fun _ _ _ h => h) (Or.inl ⟨by rfl, fun w' hw' => by go_simp⟩) hH ?_
      try simp only [Act.put, List.getElem_toArray, List.getElem_cons_zero, List.getElem_cons_succ, List.setIfInBounds_toArray, List.set_cons_zero, List.set_cons_succ]
      refine wpAnyH_done (by kernel_rfl) (NoPanic.normal ?_) _
      clear hH
      go_wp2_with (go_at_call 20; fail)
      refine (Chk.spec_any nm _ (by unfold maxLen; omega)).mono ?_
      rintro e wq ⟨rfl, hwq⟩
      rw [hwq]
      clear hwq wq
      by_cases hck : Chk.chkS nm = 0
      · have hda := da_ok FL.out.dir hck HWi.out hfk hno (by have := HLM.out; omega)
        have HDa := hide hda
        rw [hda.1, hck]
        clear hda
        obtain ⟨i0, hi, hz0, hz1, hz2⟩ := info_parts infoD
        go_wp2_with (first | (refine wpList_load_row rfl 34 _ rfl wI.heap.size rfl 34 (entC nm ino kd) (0, 0) _ KL.out Tryd.underlying34 rfl infoD3 ?_) | (refine wpList_build1D rfl 29 34 _ rfl (entC nm ino kd) rfl i0 _ Tryd.underlying29 hi hz0 hz1 (show 0 < 3 by omega) (show 3 ≤ 1000 by omega) ?_) | (at_builtin; refine append_fresh _ rfl (.tmp 162) (.tmp 164) 29 rfl w.heap.size 34 i0 (.agg #[.string ⟨#[]⟩, .int .i64 0, .int .i64 0]) 3 32 Tryd.underlying29 hi hz0 hz1 hz2 rfl (by decide) _ _ _ rfl (FL.out.lst.alloc _) ⟨wL.heap.size, 0, none⟩ 1 1 (entC nm ino kd).toList rfl rfl (cells_newD wL _ _) (by intro u hu; simp [entC] at hu; rcases hu with rfl | rfl | rfl <;> rfl) (by omega) (by unfold maxLen; omega) (by omega) (by have := FL.out.low.size; simp; omega) ?_; intro v3 w3 o3 g3 f3; have F3 := hide (FD.added FL.out OL.out HDa.out.2.1 HDa.out.2.2.1 HDa.out.2.2.2 o3 g3); clear o3 g3 f3))
        go_meet
        exact ⟨addE M (nm, ino, kd), L ++ [(nm, ino, kd)], by rw [List.length_append]; exact Nat.le_refl _, F3.out⟩
      · rw [da_chk FL.out.dir hck]
        obtain ⟨c, hc⟩ : ∃ c, c = Chk.chkS nm := ⟨_, rfl⟩
        rw [← hc]
        have hc0 : ¬ c = 0 := by rw [hc]; exact hck
        have hc1 : (c != 0) = true := by simpa using hc0
        have hc2 : (c == 0) = false := by simpa using hc0
        have hc3 : (c != c) = false := by simp
        clear hc
        go_wp2
        go_meet
        exact ⟨M, L, by omega, FL.out⟩
    · have h9b : decide ((0 : Int) < (r9 : Int)) = false := by simp; omega
      go_wp2_with (go_at_call 18; fail)
      refine (cp_any _ (bytesE M) _ (Rd.own FG.out.con) FG.out.dir.small).mono ?_
      rintro e wH ⟨vH, rfl, o, b⟩
      have FH := hide (FG.out.below b)
      have RH := hide (Rd.own o)
      clear o b FG
      go_wp2_with (go_at_call 21; fail)
      refine (implDR_any vH (bytesE M) nm _ RH.out (bytesE_bdF M) (by unfold maxLen; omega) (H.out.2.2.below FH.out.low)).mono ?_
      rintro e wI ⟨vI, rfl, _, b⟩
      rw [(df_none FH.out.dir.dirOk hfk).2.2]
      have FI := hide (FH.out.below b)
      clear b FH RH
      go_wp2
      go_meet
      exact ⟨M, L, by omega, FI.out⟩
  case rest =>
    obtain ⟨M2, L2, hL2, f⟩ := hcut
    obtain ⟨ca2, cc2, rfl⟩ := ownD_shape f.con
    obtain ⟨la2, lc2, rfl⟩ := ownD_shape f.lst
    have FX := hide f
    clear f
    go_wp2_with (go_at_call 18; fail)
    refine (cp_any _ (bytesE M2) _ (Rd.own FX.out.con) FX.out.dir.small).mono ?_
    rintro e wY ⟨vY, rfl, o, b⟩
    have FY := hide (FX.out.below b)
    have RY := hide (Rd.own o)
    clear o b FX
    go_wp2_with (go_at_call 11; fail)
    refine (implDC_any vY (bytesE M2) _ RY.out (bytesE_bdF M2) (H.out.2.2.below FY.out.low)).mono ?_
    rintro e wZ ⟨rfl, b⟩
    rw [FY.out.dir.code]
    have FZ := hide (FY.out.below b)
    clear b FY RY
    by_cases hl0 : L2.length = 0
    · have h1 : ((L2.length : Int) == 0) = true := by simp [hl0]
      have h2 : (((bytesE M2).length : Int) != 0) = false := by rw [ents_nil FZ.out.dir FZ.out.per hl0]; rfl
      have HL0 := hide hl0
      clear hl0
      go_wp2_with fail
      first | exact hQ _ _ (show TailPost w a0 cap0 cs L.length x0 x1 (.pointer (some ⟨w.heap.size, 0, none⟩)) x6 x20 x21 x22 x23 x24 x25 x26 x27 x28 x29 x30 x31 x32 x33 x34 x35 x36 x37 x38 x214 x215 x216 x217 x218 x219 x220 x221 x222 x223 x224 x225 x226 x227 x228 x229 x230 x231 x232 x233 x234 x235 x236 x237 x238 x239 x240 x241 x242 x243 x244 x245 x246 x247 x248 x249 x250 x251 x252 x253 x254 x255 x256 x257 x258 x259 x260 x261 x262 x263 _ _ from (by unfold TailPost; exact ⟨_, _, _, _, _, _, _, _, _, _, _, _, _, _, _, _, _, _, _, _, _, _, _, _, _, _, _, _, _, _, _, _, _, _, _, _, _, _, _, _, _, _, _, _, _, _, _, _, _, _, _, _, _, _, _, _, _, _, _, _, _, _, _, _, _, _, _, _, _, _, _, _, _, _, _, _, _, _, _, _, _, _, _, _, _, _, _, _, _, _, _, _, _, _, _, _, _, _, _, _, _, _, _, _, _, _, _, _, _, _, _, _, _, _, _, _, _, _, _, _, _, _, _, _, _, _, _, _, _, _, _, _, _, _, _, _, _, _, _, _, _, _, _, _, _, _, _, _, _, _, _, _, _, _, _, _, _, _, _, _, _, _, _, _, _, _, _, _, _, _, _, _, _, _, _, _, _, _, _, _, _, _, _, _, _, _, _, _, _, _, _, rfl, M2, L2, hL2, FZ.out⟩)) | exact (show TailPost w a0 cap0 cs L.length x0 x1 (.pointer (some ⟨w.heap.size, 0, none⟩)) x6 x20 x21 x22 x23 x24 x25 x26 x27 x28 x29 x30 x31 x32 x33 x34 x35 x36 x37 x38 x214 x215 x216 x217 x218 x219 x220 x221 x222 x223 x224 x225 x226 x227 x228 x229 x230 x231 x232 x233 x234 x235 x236 x237 x238 x239 x240 x241 x242 x243 x244 x245 x246 x247 x248 x249 x250 x251 x252 x253 x254 x255 x256 x257 x258 x259 x260 x261 x262 x263 _ _ from (by unfold TailPost; exact ⟨_, _, _, _, _, _, _, _, _, _, _, _, _, _, _, _, _, _, _, _, _, _, _, _, _, _, _, _, _, _, _, _, _, _, _, _, _, _, _, _, _, _, _, _, _, _, _, _, _, _, _, _, _, _, _, _, _, _, _, _, _, _, _, _, _, _, _, _, _, _, _, _, _, _, _, _, _, _, _, _, _, _, _, _, _, _, _, _, _, _, _, _, _, _, _, _, _, _, _, _, _, _, _, _, _, _, _, _, _, _, _, _, _, _, _, _, _, _, _, _, _, _, _, _, _, _, _, _, _, _, _, _, _, _, _, _, _, _, _, _, _, _, _, _, _, _, _, _, _, _, _, _, _, _, _, _, _, _, _, _, _, _, _, _, _, _, _, _, _, _, _, _, _, _, _, _, _, _, _, _, _, _, _, _, _, _, _, _, _, _, _, rfl, M2, L2, hL2, FZ.out⟩))
    · have h1 : ((L2.length : Int) == 0) = false := by rw [beq_eq_false_iff_ne]; omega
      have HL0 := hide hl0
      clear hl0
      go_wp2_with fail
      first | exact hQ _ _ (show TailPost w a0 cap0 cs L.length x0 x1 (.pointer (some ⟨w.heap.size, 0, none⟩)) x6 x20 x21 x22 x23 x24 x25 x26 x27 x28 x29 x30 x31 x32 x33 x34 x35 x36 x37 x38 x214 x215 x216 x217 x218 x219 x220 x221 x222 x223 x224 x225 x226 x227 x228 x229 x230 x231 x232 x233 x234 x235 x236 x237 x238 x239 x240 x241 x242 x243 x244 x245 x246 x247 x248 x249 x250 x251 x252 x253 x254 x255 x256 x257 x258 x259 x260 x261 x262 x263 _ _ from (by unfold TailPost; exact ⟨_, _, _, _, _, _, _, _, _, _, _, _, _, _, _, _, _, _, _, _, _, _, _, _, _, _, _, _, _, _, _, _, _, _, _, _, _, _, _, _, _, _, _, _, _, _, _, _, _, _, _, _, _, _, _, _, _, _, _, _, _, _, _, _, _, _, _, _, _, _, _, _, _, _, _, _, _, _, _, _, _, _, _, _, _, _, _, _, _, _, _, _, _, _, _, _, _, _, _, _, _, _, _, _, _, _, _, _, _, _, _, _, _, _, _, _, _, _, _, _, _, _, _, _, _, _, _, _, _, _, _, _, _, _, _, _, _, _, _, _, _, _, _, _, _, _, _, _, _, _, _, _, _, _, _, _, _, _, _, _, _, _, _, _, _, _, _, _, _, _, _, _, _, _, _, _, _, _, _, _, _, _, _, _, _, _, _, _, _, _, _, rfl, M2, L2, hL2, FZ.out⟩)) | exact (show TailPost w a0 cap0 cs L.length x0 x1 (.pointer (some ⟨w.heap.size, 0, none⟩)) x6 x20 x21 x22 x23 x24 x25 x26 x27 x28 x29 x30 x31 x32 x33 x34 x35 x36 x37 x38 x214 x215 x216 x217 x218 x219 x220 x221 x222 x223 x224 x225 x226 x227 x228 x229 x230 x231 x232 x233 x234 x235 x236 x237 x238 x239 x240 x241 x242 x243 x244 x245 x246 x247 x248 x249 x250 x251 x252 x253 x254 x255 x256 x257 x258 x259 x260 x261 x262 x263 _ _ from (by unfold TailPost; exact ⟨_, _, _, _, _, _, _, _, _, _, _, _, _, _, _, _, _, _, _, _, _, _, _, _, _, _, _, _, _, _, _, _, _, _, _, _, _, _, _, _, _, _, _, _, _, _, _, _, _, _, _, _, _, _, _, _, _, _, _, _, _, _, _, _, _, _, _, _, _, _, _, _, _, _, _, _, _, _, _, _, _, _, _, _, _, _, _, _, _, _, _, _, _, _, _, _, _, _, _, _, _, _, _, _, _, _, _, _, _, _, _, _, _, _, _, _, _, _, _, _, _, _, _, _, _, _, _, _, _, _, _, _, _, _, _, _, _, _, _, _, _, _, _, _, _, _, _, _, _, _, _, _, _, _, _, _, _, _, _, _, _, _, _, _, _, _, _, _, _, _, _, _, _, _, _, _, _, _, _, _, _, _, _, _, _, _, _, _, _, _, _, rfl, M2, L2, hL2, FZ.out⟩))
set_option maxRecDepth 1000000 in
set_option maxHeartbeats 40000000 in
theorem tailS (w wr : World) (a0 : Option Addr) (cap0 : Nat) (cs : List Int) (M L : List EI) (ca : Option Addr) (cc : Nat) (la : Option Addr) (lc : Nat) (nm : ByteArray) (kk : Nat) (h : Rd .u8 w (.slice a0 cs.length cap0) cs) (hbd : ∀ z ∈ cs, 0 ≤ z ∧ z < 256) (hg : ErrT w) (hsm : cs.length ≤ 1048576) (hnm : nm.size ≤ 100) (hkk : L.length + kk ≤ 200) (hk0 : 0 < kk)
    (hF : FD w wr w.heap.size (.slice a0 cs.length cap0) cs (.slice ca (bytesE M).length cc) (.slice la L.length lc) M L) (t k : Nat) (x : EI) (ht : t < L.length) (hLt : L[t]? = some x) (hfk : firstK (bytesE M) nm ((bytesE M).length / 32) = some k) (hkM : k < M.length) (hMk : M[k]? = some x) (hzx : zE x = false) (hsl : slotE (bytesE M) k = x) (hxn : x.1.data.toList = nm.data.toList) (x0 x1 x2 x6 x9 x10 x11 x12 x13 x14 x15 x16 x17 x18 x19 x20 x21 x22 x23 x24 x25 x26 x27 x28 x29 x30 x31 x32 x33 x34 x35 x36 x37 x38 x39 x40 x41 x42 x43 x44 x45 x46 x47 x48 x49 x50 x51 x52 x53 x54 x55 x56 x57 x58 x59 x60 x61 x62 x63 x64 x65 x66 x67 x68 x69 x70 x71 x72 x73 x74 x75 x76 x77 x78 x79 x80 x81 x82 x83 x84 x85 x86 x87 x88 x89 x90 x91 x92 x93 x94 x95 x96 x97 x98 x99 x100 x101 x102 x103 x104 x105 x106 x107 x108 x109 x110 x111 x112 x113 x114 x115 x116 x117 x118 x119 x120 x121 x122 x123 x124 x125 x126 x127 x128 x129 x130 x131 x132 x133 x134 x135 x136 x137 x138 x139 x140 x141 x142 x143 x144 x145 x146 x147 x148 x149 x150 x151 x152 x153 x154 x155 x156 x157 x158 x159 x160 x161 x162 x163 x164 x165 x166 x167 x168 x169 x170 x171 x172 x173 x174 x175 x176 x177 x178 x179 x180 x181 x182 x183 x184 x185 x186 x187 x188 x189 x190 x191 x192 x193 x194 x195 x196 x197 x198 x199 x200 x201 x202 x203 x204 x205 x206 x207 x208 x209 x210 x211 x212 x213 x214 x215 x216 x217 x218 x219 x220 x221 x222 x223 x224 x225 x226 x227 x228 x229 x230 x231 x232 x233 x234 x235 x236 x237 x238 x239 x240 x241 x242 x243 x244 x245 x246 x247 x248 x249 x250 x251 x252 x253 x254 x255 x256 x257 x258 x259 x260 x261 x262 x263 : Value) (Q : Exit → Act → World → Prop) (hQ : ∀ act w', TailPost w a0 cap0 cs L.length x0 x1 (.pointer (some ⟨w.heap.size, 0, none⟩)) x6 x20 x21 x22 x23 x24 x25 x26 x27 x28 x29 x30 x31 x32 x33 x34 x35 x36 x37 x38 x214 x215 x216 x217 x218 x219 x220 x221 x222 x223 x224 x225 x226 x227 x228 x229 x230 x231 x232 x233 x234 x235 x236 x237 x238 x239 x240 x241 x242 x243 x244 x245 x246 x247 x248 x249 x250 x251 x252 x253 x254 x255 x256 x257 x258 x259 x260 x261 x262 x263 act w' → Q .normal act w') (K : Act → World → Prop) (hK : ∀ a w', Code.wp Tryd.prog (sndC tailC) Q a w' → K a w') :
    Code.wp Tryd.prog (fstC tailC) (Exit.then K Q) ⟨#[x0, x1, x2, .pointer (some ⟨w.heap.size, 0, none⟩), .slice ca (bytesE M).length cc, .slice la L.length lc, x6, .string nm, .int .i64 (t : Int), x9, x10, x11, x12, x13, x14, x15, x16, x17, x18, x19, x20, x21, x22, x23, x24, x25, x26, x27, x28, x29, x30, x31, x32, x33, x34, x35, x36, x37, x38, x39, x40, x41, x42, x43, x44, x45, x46, x47, x48, x49, x50, x51, x52, x53, x54, x55, x56, x57, x58, x59, x60, x61, x62, x63, x64, x65, x66, x67, x68, x69, x70, x71, x72, x73, x74, x75, x76, x77, x78, x79, x80, x81, x82, x83, x84, x85, x86, x87, x88, x89, x90, x91, x92, x93, x94, x95, x96, x97, x98, x99, x100, x101, x102, x103, x104, x105, x106, x107, x108, x109, x110, x111, x112, x113, x114, x115, x116, x117, x118, x119, x120, x121, x122, x123, x124, x125, x126, x127, x128, x129, x130, x131, x132, x133, x134, x135, x136, x137, x138, x139, x140, x141, x142, x143, x144, x145, x146, x147, x148, x149, x150, x151, x152, x153, x154, x155, x156, x157, x158, x159, x160, x161, x162, x163, x164, x165, x166, x167, x168, x169, x170, x171, x172, x173, x174, x175, x176, x177, x178, x179, x180, x181, x182, x183, x184, x185, x186, x187, x188, x189, x190, x191, x192, x193, x194, x195, x196, x197, x198, x199, x200, x201, x202, x203, x204, x205, x206, x207, x208, x209, x210, x211, x212, x213, x214, x215, x216, x217, x218, x219, x220, x221, x222, x223, x224, x225, x226, x227, x228, x229, x230, x231, x232, x233, x234, x235, x236, x237, x238, x239, x240, x241, x242, x243, x244, x245, x246, x247, x248, x249, x250, x251, x252, x253, x254, x255, x256, x257, x258, x259, x260, x261, x262, x263], []⟩ wr := by
  have H := hide (And.intro h (And.intro hbd hg))
  have FA := hide hF
  clear h hbd hg hF
  conv => arg 2; whnf
  conv at hK => enter [a, w', 1, 2]; whnf
  go_wp2_with (go_at_call 18; fail)
  refine (cp_any _ (bytesE M) _ (Rd.own FA.out.con) FA.out.dir.small).mono ?_
  rintro e wA ⟨vA, rfl, o, b⟩
  have FB := hide (FA.out.below b)
  have RA := hide (Rd.own o)
  clear o b FA
  go_wp2_with (go_at_call 17; fail)
  refine (implDF_any vA (bytesE M) nm _ RA.out (bytesE_bdF M) (by unfold maxLen; omega) (H.out.2.2.below FB.out.low)).mono ?_
  rintro e wB ⟨rfl, b⟩
  have FC := hide (FB.out.below b)
  clear b FB RA
  have HKn := hide (show Blk (wB.alloc (.cells (entC ⟨#[]⟩ 0 0) 34)) wB.heap.size (entC ⟨#[]⟩ 0 0) 34 ∧ Below wB.heap.size wB (wB.alloc (.cells (entC ⟨#[]⟩ 0 0) 34)) from ⟨Blk.new _ _ _, (Below.refl _ _).alloc (Nat.le_refl _) _⟩)
  have HLM := hide (show L.length = (entsOf M).length from FC.out.per.length_eq)
  have hdf := df_some FC.out.dir.dirOk hfk
  rw [hdf.1, hdf.2.1, hdf.2.2, hsl]
  unfold dfV
  clear hdf
  obtain ⟨gl, cl, ee, hgl1, hgl2, hcl⟩ := own_sliceD FC.out.lst (by omega)
  injection ee with e1 e2 e3
  subst e1
  subst e3
  have HRt := hide (ents_range hcl hLt)
  clear hcl e2
  have hk32 : 32 * k < (bytesE M).length := by have := FC.out.dir.bytes_len; omega
  have hkS : k ≤ 8192 := by have := FC.out.dir.len.2; omega
  have HMk := hide (And.intro hMk (And.intro hzx (And.intro hxn hLt)))
  clear hMk hzx hxn hLt hsl
  go_wp2_with (refine wpList_store_newD wB.heap.size wB rfl 34 _ _ rfl wB.heap.size (entC x.1 x.2.1 x.2.2) rfl rfl 34 (entC ⟨#[]⟩ 0 0) HKn.out.1 infoD3 rfl entC_one HKn.out.2 (Nat.le_refl _) ?_; intro wC kC bC; have FG0 := hide (FC.out.below bC); have KC := hide kC; have HRu := hide (show wC.rangeAt gl (t * 3) (entC x.1 x.2.1 x.2.2).toList from fun j u hu => (bC.cell (p := ⟨gl, t * 3 + j, none⟩) hgl2).trans (HRt.out j u hu)); clear kC bC HRt)
  refine wp_region_noPanic ?_
  refine wp_region_held_drew (S := fun w' => Blk w' wB.heap.size (entC x.1 x.2.1 x.2.2) 34 ∧ w'.rangeAt gl (t * 3) (entC x.1 x.2.1 x.2.2).toList) (by kernel_rfl) ⟨KC.out, HRu.out⟩ (fun hH => ?_)
  refine wpAnyH_take (i := 0) (oi := _) (v := .int .i64 (t : Int)) rfl (by as_aux_lemma => kernel_rfl) (by as_aux_lemma => kernel_rfl) (by as_aux_lemma => kernel_rfl) (fun _ _ _ h => h) (Or.inl ⟨by rfl, fun w' hw' => by go_simp⟩) hH ?_
  try simp only [Act.put, List.getElem_toArray, List.getElem_cons_zero, List.getElem_cons_succ, List.setIfInBounds_toArray, List.set_cons_zero, List.set_cons_succ]
  refine wpAnyH_take (i := 1) (oi := _) (v := .bool false) rfl (by as_aux_lemma => kernel_rfl) (by as_aux_lemma => kernel_rfl) (by as_aux_lemma => kernel_rfl) (fun _ _ _ h => h) (Or.inl ⟨by rfl, fun w' hw' => by have hq : decide ((t : Int) < 0) = false := (by simp); go_simp⟩) hH ?_
  try simp only [Act.put, List.getElem_toArray, List.getElem_cons_zero, List.getElem_cons_succ, List.setIfInBounds_toArray, List.set_cons_zero, List.set_cons_succ]
  refine wpAnyH_take (i := 2) (oi := _) (v := .bool false) rfl (by as_aux_lemma => kernel_rfl) (by as_aux_lemma => kernel_rfl) (by as_aux_lemma => kernel_rfl) (fun _ _ _ h => h) (Or.inl ⟨by rfl, fun w' hw' => by go_simp⟩) hH ?_
  try simp only [Act.put, List.getElem_toArray, List.getElem_cons_zero, List.getElem_cons_succ, List.setIfInBounds_toArray, List.set_cons_zero, List.set_cons_succ]
  refine wpAnyH_take (i := 3) (oi := _) (v := undef) rfl (by as_aux_lemma => kernel_rfl) (by as_aux_lemma => kernel_rfl) (by as_aux_lemma => kernel_rfl) (fun _ _ _ h => h) (Or.inr ⟨by rfl, rfl⟩) hH ?_
  try simp only [Act.put, List.getElem_toArray, List.getElem_cons_zero, List.getElem_cons_succ, List.setIfInBounds_toArray, List.set_cons_zero, List.set_cons_succ]
  refine wpAnyH_take (i := 4) (oi := _) (v := undef) rfl (by as_aux_lemma => kernel_rfl) (by as_aux_lemma => kernel_rfl) (by as_aux_lemma => kernel_rfl) (fun _ _ _ h => h) (Or.inr ⟨by rfl, rfl⟩) hH ?_
  try simp only [Act.put, List.getElem_toArray, List.getElem_cons_zero, List.getElem_cons_succ, List.setIfInBounds_toArray, List.set_cons_zero, List.set_cons_succ]
  refine wpAnyH_take (i := 5) (oi := _) (v := .bool false) rfl (by as_aux_lemma => kernel_rfl) (by as_aux_lemma => kernel_rfl) (by as_aux_lemma => kernel_rfl) (fun _ _ _ h => h) (Or.inl ⟨by rfl, fun w' hw' => by go_simp⟩) hH ?_
  try simp only [Act.put, List.getElem_toArray, List.getElem_cons_zero, List.getElem_cons_succ, List.setIfInBounds_toArray, List.set_cons_zero, List.set_cons_succ]
  refine wpAnyH_take (i := 6) (oi := _) (v := .bool false) rfl (by as_aux_lemma => kernel_rfl) (by as_aux_lemma => kernel_rfl) (by as_aux_lemma => kernel_rfl) (fun _ _ _ h => h) (Or.inl ⟨by rfl, fun w' hw' => by go_simp⟩) hH ?_
  try simp only [Act.put, List.getElem_toArray, List.getElem_cons_zero, List.getElem_cons_succ, List.setIfInBounds_toArray, List.set_cons_zero, List.set_cons_succ]
  refine wpAnyH_take (i := 7) (oi := _) (v := .int .i64 (t : Int)) rfl (by as_aux_lemma => kernel_rfl) (by as_aux_lemma => kernel_rfl) (by as_aux_lemma => kernel_rfl) (fun _ _ _ h => h) (Or.inl ⟨by rfl, fun w' hw' => by go_simp⟩) hH ?_
  try simp only [Act.put, List.getElem_toArray, List.getElem_cons_zero, List.getElem_cons_succ, List.setIfInBounds_toArray, List.set_cons_zero, List.set_cons_succ]
  refine wpAnyH_take (i := 8) (oi := _) (v := .bool true) rfl (by as_aux_lemma => kernel_rfl) (by as_aux_lemma => kernel_rfl) (by as_aux_lemma => kernel_rfl) (fun _ _ _ h => h) (Or.inl ⟨by rfl, fun w' hw' => by have hq : decide ((0 : Int) ≤ (t : Int)) = true := (by simp); go_simp⟩) hH ?_
  try simp only [Act.put, List.getElem_toArray, List.getElem_cons_zero, List.getElem_cons_succ, List.setIfInBounds_toArray, List.set_cons_zero, List.set_cons_succ]
  refine wpAnyH_take (i := 9) (oi := _) (v := .bool true) rfl (by as_aux_lemma => kernel_rfl) (by as_aux_lemma => kernel_rfl) (by as_aux_lemma => kernel_rfl) (fun _ _ _ h => h) (Or.inl ⟨by rfl, fun w' hw' => by go_simp⟩) hH ?_
  try simp only [Act.put, List.getElem_toArray, List.getElem_cons_zero, List.getElem_cons_succ, List.setIfInBounds_toArray, List.set_cons_zero, List.set_cons_succ]
  refine wpAnyH_take (i := 10) (oi := _) (v := .int .i64 0) rfl (by as_aux_lemma => kernel_rfl) (by as_aux_lemma => kernel_rfl) (by as_aux_lemma => kernel_rfl) (fun _ _ _ h => h) (Or.inl ⟨by rfl, fun w' hw' => by go_simp⟩) hH ?_
  try simp only [Act.put, List.getElem_toArray, List.getElem_cons_zero, List.getElem_cons_succ, List.setIfInBounds_toArray, List.set_cons_zero, List.set_cons_succ]
  refine wpAnyH_take (i := 11) (oi := _) (v := .bool false) rfl (by as_aux_lemma => kernel_rfl) (by as_aux_lemma => kernel_rfl) (by as_aux_lemma => kernel_rfl) (fun _ _ _ h => h) (Or.inl ⟨by rfl, fun w' hw' => by go_simp⟩) hH ?_
  try simp only [Act.put, List.getElem_toArray, List.getElem_cons_zero, List.getElem_cons_succ, List.setIfInBounds_toArray, List.set_cons_zero, List.set_cons_succ]
  refine wpAnyH_take (i := 12) (oi := _) (v := .bool false) rfl (by as_aux_lemma => kernel_rfl) (by as_aux_lemma => kernel_rfl) (by as_aux_lemma => kernel_rfl) (fun _ _ _ h => h) (Or.inl ⟨by rfl, fun w' hw' => by go_simp⟩) hH ?_
  try simp only [Act.put, List.getElem_toArray, List.getElem_cons_zero, List.getElem_cons_succ, List.setIfInBounds_toArray, List.set_cons_zero, List.set_cons_succ]
  refine wpAnyH_take (i := 13) (oi := _) (v := .agg (entC x.1 x.2.1 x.2.2)) rfl (by as_aux_lemma => kernel_rfl) (by as_aux_lemma => kernel_rfl) (by as_aux_lemma => kernel_rfl) (fun _ _ _ h => h) (yieldsIf_load_mid (by rfl) 34 _ rfl wB.heap.size 0 rfl (entC x.1 x.2.1 x.2.2).toList _ (fun w' h => ent_range h.1) Tryd.underlying34 rfl infoD3) hH ?_
  try simp only [Act.put, List.getElem_toArray, List.getElem_cons_zero, List.getElem_cons_succ, List.setIfInBounds_toArray, List.set_cons_zero, List.set_cons_succ]
  refine wpAnyH_take (i := 14) (oi := _) (v := .slice (some ⟨gl, 0, none⟩) L.length lc) rfl (by as_aux_lemma => kernel_rfl) (by as_aux_lemma => kernel_rfl) (by as_aux_lemma => kernel_rfl) (fun _ _ _ h => h) (Or.inl ⟨by rfl, fun w' hw' => by go_simp⟩) hH ?_
  try simp only [Act.put, List.getElem_toArray, List.getElem_cons_zero, List.getElem_cons_succ, List.setIfInBounds_toArray, List.set_cons_zero, List.set_cons_succ]
  refine wpAnyH_take (i := 15) (oi := _) (v := .int .i64 (t : Int)) rfl (by as_aux_lemma => kernel_rfl) (by as_aux_lemma => kernel_rfl) (by as_aux_lemma => kernel_rfl) (fun _ _ _ h => h) (Or.inl ⟨by rfl, fun w' hw' => by go_simp⟩) hH ?_
  try simp only [Act.put, List.getElem_toArray, List.getElem_cons_zero, List.getElem_cons_succ, List.setIfInBounds_toArray, List.set_cons_zero, List.set_cons_succ]
  refine wpAnyH_take (i := 16) (oi := _) (v := .pointer (some ⟨gl, t * 3, none⟩)) rfl (by as_aux_lemma => kernel_rfl) (by as_aux_lemma => kernel_rfl) (by as_aux_lemma => kernel_rfl) (fun _ _ _ h => h) (Or.inl ⟨by rfl, fun w' hw' => by go_simp⟩) hH ?_
  try simp only [Act.put, List.getElem_toArray, List.getElem_cons_zero, List.getElem_cons_succ, List.setIfInBounds_toArray, List.set_cons_zero, List.set_cons_succ]
  refine wpAnyH_take (i := 17) (oi := _) (v := .agg (entC x.1 x.2.1 x.2.2)) rfl (by as_aux_lemma => kernel_rfl) (by as_aux_lemma => kernel_rfl) (by as_aux_lemma => kernel_rfl) (fun _ _ _ h => h) (yieldsIf_load_mid (by rfl) 34 _ rfl gl (t * 3) rfl (entC x.1 x.2.1 x.2.2).toList _ (fun w' h => h.2) Tryd.underlying34 rfl infoD3) hH ?_
  try simp only [Act.put, List.getElem_toArray, List.getElem_cons_zero, List.getElem_cons_succ, List.setIfInBounds_toArray, List.set_cons_zero, List.set_cons_succ]
  refine wpAnyH_take (i := 18) (oi := _) (v := .bool false) rfl (by as_aux_lemma => kernel_rfl) (by as_aux_lemma => kernel_rfl) (by as_aux_lemma => kernel_rfl) (fun _ _ _ h => h) (yieldsIf_neqD (by rfl) 34 _ _ _ rfl (entC x.1 x.2.1 x.2.2) (entC x.1 x.2.1 x.2.2) rfl rfl guardEnt true (fun w => by rw [show (10000 : Nat) = 9998 + 2 from rfl, eqEnt w 9998, entEq_self])) hH ?_
  try simp only [Act.put, List.getElem_toArray, List.getElem_cons_zero, List.getElem_cons_succ, List.setIfInBounds_toArray, List.set_cons_zero, List.set_cons_succ]
  refine wpAnyH_take (i := 19) (oi := _) (v := .bool false) rfl (by as_aux_lemma => kernel_rfl) (by as_aux_lemma => kernel_rfl) (by as_aux_lemma => kernel_rfl) (fun _ _ _ h => h) (Or.inl ⟨by rfl, fun w' hw' => by go_simp⟩) hH ?_
  try simp only [Act.put, List.getElem_toArray, List.getElem_cons_zero, List.getElem_cons_succ, List.setIfInBounds_toArray, List.set_cons_zero, List.set_cons_succ]
  refine wpAnyH_take (i := 20) (oi := _) (v := .bool false) rfl (by as_aux_lemma => kernel_rfl) (by as_aux_lemma => kernel_rfl) (by as_aux_lemma => kernel_rfl) (fun _ _ _ h => h) (Or.inl ⟨by rfl, fun w' hw' => by go_simp⟩) hH ?_
  try simp only [Act.put, List.getElem_toArray, List.getElem_cons_zero, List.getElem_cons_succ, List.setIfInBounds_toArray, List.set_cons_zero, List.set_cons_succ]
  refine wpAnyH_take (i := 21) (oi := _) (v := .int .i64 (k : Int)) rfl (by as_aux_lemma => kernel_rfl) (by as_aux_lemma => kernel_rfl) (by as_aux_lemma => kernel_rfl) (fun _ _ _ h => h) (Or.inl ⟨by rfl, fun w' hw' => by go_simp⟩) hH ?_
  try simp only [Act.put, List.getElem_toArray, List.getElem_cons_zero, List.getElem_cons_succ, List.setIfInBounds_toArray, List.set_cons_zero, List.set_cons_succ]
  refine wpAnyH_take (i := 22) (oi := _) (v := .int .i64 (32 * (k : Int))) rfl (by as_aux_lemma => kernel_rfl) (by as_aux_lemma => kernel_rfl) (by as_aux_lemma => kernel_rfl) (fun _ _ _ h => h) (Or.inl ⟨by rfl, fun w' hw' => by have hq : IntKind.i64.wrap (32 * (k : Int)) = 32 * (k : Int) := (by simp [IntKind.wrap, IntKind.bits, IntKind.signed]; omega); go_simp⟩) hH ?_
  try simp only [Act.put, List.getElem_toArray, List.getElem_cons_zero, List.getElem_cons_succ, List.setIfInBounds_toArray, List.set_cons_zero, List.set_cons_succ]
  refine wpAnyH_take (i := 23) (oi := _) (v := .slice ca (bytesE M).length cc) rfl (by as_aux_lemma => kernel_rfl) (by as_aux_lemma => kernel_rfl) (by as_aux_lemma => kernel_rfl) (fun _ _ _ h => h) (Or.inl ⟨by rfl, fun w' hw' => by go_simp⟩) hH ?_
  try simp only [Act.put, List.getElem_toArray, List.getElem_cons_zero, List.getElem_cons_succ, List.setIfInBounds_toArray, List.set_cons_zero, List.set_cons_succ]
  refine wpAnyH_take (i := 24) (oi := _) (v := .int .i64 ((bytesE M).length : Int)) rfl (by as_aux_lemma => kernel_rfl) (by as_aux_lemma => kernel_rfl) (by as_aux_lemma => kernel_rfl) (fun _ _ _ h => h) (Or.inl ⟨by rfl, fun w' hw' => by go_simp⟩) hH ?_
  try simp only [Act.put, List.getElem_toArray, List.getElem_cons_zero, List.getElem_cons_succ, List.setIfInBounds_toArray, List.set_cons_zero, List.set_cons_succ]
  refine wpAnyH_take (i := 25) (oi := _) (v := .bool false) rfl (by as_aux_lemma => kernel_rfl) (by as_aux_lemma => kernel_rfl) (by as_aux_lemma => kernel_rfl) (fun _ _ _ h => h) (Or.inl ⟨by rfl, fun w' hw' => by have hq : decide (((bytesE M).length : Int) ≤ 32 * (k : Int)) = false := (by simp; omega); go_simp⟩) hH ?_
  try simp only [Act.put, List.getElem_toArray, List.getElem_cons_zero, List.getElem_cons_succ, List.setIfInBounds_toArray, List.set_cons_zero, List.set_cons_succ]
  refine wpAnyH_take (i := 26) (oi := _) (v := .bool false) rfl (by as_aux_lemma => kernel_rfl) (by as_aux_lemma => kernel_rfl) (by as_aux_lemma => kernel_rfl) (fun _ _ _ h => h) (Or.inl ⟨by rfl, fun w' hw' => by go_simp⟩) hH ?_
  try simp only [Act.put, List.getElem_toArray, List.getElem_cons_zero, List.getElem_cons_succ, List.setIfInBounds_toArray, List.set_cons_zero, List.set_cons_succ]
  refine wpAnyH_take (i := 27) (oi := _) (v := .bool false) rfl (by as_aux_lemma => kernel_rfl) (by as_aux_lemma => kernel_rfl) (by as_aux_lemma => kernel_rfl) (fun _ _ _ h => h) (Or.inl ⟨by rfl, fun w' hw' => by go_simp⟩) hH ?_
  try simp only [Act.put, List.getElem_toArray, List.getElem_cons_zero, List.getElem_cons_succ, List.setIfInBounds_toArray, List.set_cons_zero, List.set_cons_succ]
  refine wpAnyH_take (i := 28) (oi := _) (v := .bool false) rfl (by as_aux_lemma => kernel_rfl) (by as_aux_lemma => kernel_rfl) (by as_aux_lemma => kernel_rfl) (fun _ _ _ h => h) (Or.inl ⟨by rfl, fun w' hw' => by go_simp⟩) hH ?_
  try simp only [Act.put, List.getElem_toArray, List.getElem_cons_zero, List.getElem_cons_succ, List.setIfInBounds_toArray, List.set_cons_zero, List.set_cons_succ]
  refine wpAnyH_done (by kernel_rfl) (NoPanic.normal ?_) _
  clear hH
  have FE := hide (FG0.out.below ((Below.refl _ _).drew))
  clear FG0 KC HRu FC
  go_wp2_with (go_at_call 14; fail)
  refine (FE.out.N H.out.1 H.out.2.1 hsm 3 (by omega) (by omega)).mono ?_
  rintro e wF ⟨r9, rfl, hr9, f, _⟩
  have FG := hide f
  clear f FE
  go_upto_if 110 with fail
  go_cut [4, 5] from 39 to 213 (fun c4 l5 wx => ∃ (M2 L2 : List EI), L2.length ≤ L.length + 1 ∧ FD w wx w.heap.size (.slice a0 cs.length cap0) cs c4 l5 M2 L2)
  case first =>
    by_cases h9 : 0 < r9
    · have h9b : decide ((0 : Int) < (r9 : Int)) = true := by simp; omega
      go_wp2_with (go_at_call 14; fail)
      refine (FG.out.N H.out.1 H.out.2.1 hsm 500 (by omega) (by omega)).mono ?_
      rintro e wH ⟨r1, rfl, hr1, f, _⟩
      have FH := hide f
      clear f FG
      go_wp2_with (go_at_call 14; fail)
      refine (FH.out.N H.out.1 H.out.2.1 hsm 3 (by omega) (by omega)).mono ?_
      rintro e wI ⟨r2, rfl, hr2, f, _⟩
      have FI := hide f
      clear f FH
      have HKn := hide (show Blk (wI.alloc (.cells (entC ⟨#[]⟩ 0 0) 34)) wI.heap.size (entC ⟨#[]⟩ 0 0) 34 ∧ Below wI.heap.size wI (wI.alloc (.cells (entC ⟨#[]⟩ 0 0) 34)) from ⟨Blk.new _ _ _, (Below.refl _ _).alloc (Nat.le_refl _) _⟩)
      obtain ⟨ino, hino⟩ : ∃ i : Int, i = 1 + (r1 : Int) := ⟨_, rfl⟩
      obtain ⟨kd, hkd⟩ : ∃ i : Int, i = 1 + (r2 : Int) := ⟨_, rfl⟩
      have HWi := hide (show (wi ino 1 1000 && wi kd 1 3) = true from by rw [hino, hkd, wi_pos hr1, wi_pos3 hr2]; rfl)
      have HIK := hide (And.intro hino hkd)
      go_wp2_with (refine wpList_store_newD wI.heap.size wI rfl 34 _ _ rfl wI.heap.size (entC nm (1 + (r1 : Int)) (1 + (r2 : Int))) rfl rfl 34 (entC ⟨#[]⟩ 0 0) HKn.out.1 infoD3 rfl entC_one HKn.out.2 (Nat.le_refl _) ?_; intro wJ kJ bJ; rw [← hino, ← hkd] at kJ ⊢; have KJ := hide kJ; have FJ := hide (FI.out.below bJ); clear kJ bJ hino hkd FI)
      refine wp_region_noPanic ?_
      refine wp_region_held_drew (S := fun w' => Blk w' wI.heap.size (entC nm ino kd) 34) (by kernel_rfl) KJ.out (fun hH => ?_)
      refine wpAnyH_take (i := 0) (oi := _) (v := .slice ca (bytesE M).length cc) rfl (by as_aux_lemma => kernel_rfl) (by as_aux_lemma => kernel_rfl) (by as_aux_lemma => kernel_rfl) (fun _ _ _ h => h) (Or.inl ⟨by rfl, fun w' hw' => by go_simp⟩) hH ?_
      try simp only [Act.put, List.getElem_toArray, List.getElem_cons_zero, List.getElem_cons_succ, List.setIfInBounds_toArray, List.set_cons_zero, List.set_cons_succ]
      refine wpAnyH_take (i := 2) (oi := _) (v := .agg (entC nm ino kd)) rfl (by as_aux_lemma => kernel_rfl) (by as_aux_lemma => kernel_rfl) (by as_aux_lemma => kernel_rfl) (fun _ _ _ h => h) (yieldsIf_load_mid (by rfl) 34 _ rfl wI.heap.size 0 rfl (entC nm ino kd).toList _ (fun w' h => ent_range h) Tryd.underlying34 rfl infoD3) hH ?_
      try simp only [Act.put, List.getElem_toArray, List.getElem_cons_zero, List.getElem_cons_succ, List.setIfInBounds_toArray, List.set_cons_zero, List.set_cons_succ]
      refine wpAnyH_ready (rs := [1]) (by kernel_rfl) (by simp) ?_
      refine AllReadyH.cons (o := _) rfl (fun K hK => ?_) AllReadyH.nil
      go_simp
      have FJd := hide (FJ.out.below ((Below.refl _ _).drew))
      refine (cp_any _ (bytesE M) _ (Rd.own FJd.out.con) FJd.out.dir.small).mono ?_
      rintro e wK ⟨vK, rfl, o, b⟩
      have FK := hide (FJd.out.below b)
      have KK := hide (KJ.out.below (((Below.refl _ _).drew).trans b) KJ.out.lt)
      have RK := hide (Rd.own o)
      clear o b FJ FJd
      refine hK.out _ _ KK.out (fun hH => ?_)
      clear hK K
      try simp only [Act.put, List.getElem_toArray, List.getElem_cons_zero, List.getElem_cons_succ, List.setIfInBounds_toArray, List.set_cons_zero, List.set_cons_succ]
      refine wpAnyH_ready (rs := [3]) (by kernel_rfl) (by simp) ?_
      refine AllReadyH.cons (o := _) rfl (fun K hK => ?_) AllReadyH.nil
      go_simp
      refine (implDA_any vK (bytesE M) nm ino kd _ RK.out (bytesE_bdF M) (by unfold maxLen; omega) (H.out.2.2.below FK.out.low)).mono ?_
      rintro e wL ⟨vL, rfl, o, b⟩
      have FL := hide (FK.out.below b)
      have KL := hide (KK.out.below b KK.out.lt)
      have OL := hide (own_mono o FK.out.low.size)
      clear o b FK KK RK
      refine hK.out _ _ KL.out (fun hH => ?_)
      clear hK K
      try simp only [Act.put, List.getElem_toArray, List.getElem_cons_zero, List.getElem_cons_succ, List.setIfInBounds_toArray, List.set_cons_zero, List.set_cons_succ]
      refine wpAnyH_take (i := 4) (oi := _) (v := .tuple #[vL, .int .i64 (daC (bytesE M) nm ino kd)]) rfl (by as_aux_lemma => kernel_rfl) (by as_aux_lemma => kernel_rfl) (by as_aux_lemma => kernel_rfl) (fun _ _ _ h => h) (Or.inl ⟨by rfl, fun w' hw' => by go_simp⟩) hH ?_
      try simp only [Act.put, List.getElem_toArray, List.getElem_cons_zero, List.getElem_cons_succ, List.setIfInBounds_toArray, List.set_cons_zero, List.set_cons_succ]
      refine wpAnyH_take (i := 5) (oi := _) (v := vL) rfl (by as_aux_lemma => kernel_rfl) (by as_aux_lemma => kernel_rfl) (by as_aux_lemma => kernel_rfl) (fun _ _ _ h => h) (Or.inl ⟨by rfl, fun w' hw' => by go_simp⟩) hH ?_
      try simp only [Act.put, List.getElem_toArray, List.getElem_cons_zero, List.getElem_cons_succ, List.setIfInBounds_toArray, List.set_cons_zero, List.set_cons_succ]
      refine wpAnyH_take (i := 6) (oi := _) (v := .int .i64 (daC (bytesE M) nm ino kd)) rfl (by as_aux_lemma => kernel_rfl) (by as_aux_lemma => kernel_rfl) (by as_aux_lemma => kernel_rfl) (fun _ _ _ h => h) (Or.inl ⟨by rfl, fun w' hw' => by go_simp⟩) hH ?_
      try simp only [Act.put, List.getElem_toArray, List.getElem_cons_zero, List.getElem_cons_succ, List.setIfInBounds_toArray, List.set_cons_zero, List.set_cons_succ]
      refine wpAnyH_take (i := 7) (oi := _) (v := vL) rfl (by as_aux_lemma => kernel_rfl) (by as_aux_lemma => kernel_rfl) (by as_aux_lemma => kernel_rfl) (fun _ _ _ h => h) (Or.inl ⟨by rfl, fun w' hw' => by go_simp⟩) hH ?_
      try simp only [Act.put, List.getElem_toArray, List.getElem_cons_zero, List.getElem_cons_succ, List.setIfInBounds_toArray, List.set_cons_zero, List.set_cons_succ]
      refine wpAnyH_take (i := 8) (oi := _) (v := .int .i64 (daC (bytesE M) nm ino kd)) rfl (by as_aux_lemma => kernel_rfl) (by as_aux_lemma => kernel_rfl) (by as_aux_lemma => kernel_rfl) (fun _ _ _ h => h) (Or.inl ⟨by rfl, fun w' hw' => by go_simp⟩) hH ?_
      try simp only [Act.put, List.getElem_toArray, List.getElem_cons_zero, List.getElem_cons_succ, List.setIfInBounds_toArray, List.set_cons_zero, List.set_cons_succ]
      refine wpAnyH_done (by kernel_rfl) (NoPanic.normal ?_) _
      clear hH
      go_wp2_with (go_at_call 20; fail)
      refine (Chk.spec_any nm _ (by unfold maxLen; omega)).mono ?_
      rintro e wq ⟨rfl, hwq⟩
      rw [hwq]
      clear hwq wq
      have hck : Chk.chkS nm = 0 := chk_of FL.out.dir HMk.out.1 HMk.out.2.1 HMk.out.2.2.1
      rw [da_exist FL.out.dir hck HWi.out hfk, hck]
      have hq2 : decide ((0 : Int) ≤ (t : Int)) = true := by simp
      have hq3 : decide ((t : Int) < 0) = false := by simp
      go_wp2
      go_meet
      exact ⟨M, L, by omega, FL.out⟩
    · have h9b : decide ((0 : Int) < (r9 : Int)) = false := by simp; omega
      go_wp2_with (go_at_call 18; fail)
      refine (cp_any _ (bytesE M) _ (Rd.own FG.out.con) FG.out.dir.small).mono ?_
      rintro e wH ⟨vH, rfl, o, b⟩
      have FH := hide (FG.out.below b)
      have RH := hide (Rd.own o)
      clear o b FG
      go_wp2_with (go_at_call 21; fail)
      refine (implDR_any vH (bytesE M) nm _ RH.out (bytesE_bdF M) (by unfold maxLen; omega) (H.out.2.2.below FH.out.low)).mono ?_
      rintro e wI ⟨vI, rfl, o, b⟩
      have HDr := hide (dr_ok FH.out.dir hfk HMk.out.1 HMk.out.2.1)
      rw [HDr.out.1]
      have FI := hide (FH.out.below b)
      have OI := hide (own_mono o FH.out.low.size)
      clear o b FH RH
      have hq2 : decide ((0 : Int) ≤ (t : Int)) = true := by simp
      have hq3 : decide ((t : Int) < 0) = false := by simp
      obtain ⟨i0, hi, hz0, hz1, hz2⟩ := info_parts infoD
      have hlc : L.length ≤ lc ∧ lc ≤ 9223372036854775807 := by
        rcases FI.out.lst.2 with ⟨e4, _⟩ | ⟨g1, cp1, cur, e4, _, _, hn1, hn2, _⟩
        · cases e4
        · injection e4 with e5 e6 e7
          subst e7
          exact ⟨hn1, hn2⟩
      have hdw : (World.drew wI).heap.size = wI.heap.size := rfl
      have hgl9 : gl < wI.heap.size := (FI.out.lst.lt gl rfl).2
      have hw9 : w.heap.size ≤ wI.heap.size := FI.out.low.size
      have FJ := hide (FI.out.below ((Below.refl _ _).drew))
      have OJ := hide (own_below OI.out ((Below.refl _ _).drew))
      clear FI OI
      obtain ⟨ad8, had8⟩ : ∃ ad : Addr, (if lc = t + 1 then some (⟨gl, 0, none⟩ : Addr) else some ⟨gl, (t + 1) * 3, none⟩) = some ad ∧ (lc ≠ t + 1 → ad = ⟨gl, (t + 1) * 3, none⟩) := by
        by_cases hc : lc = t + 1
        · exact ⟨_, by rw [if_pos hc], fun h => absurd hc h⟩
        · exact ⟨_, by rw [if_neg hc], fun _ => rfl⟩
      have H8 := hide had8
      clear had8
      go_wp2_with fail
      refine wp_region_noPanic ?_
      refine wp_region_held_drew (S := fun _ => True) (by kernel_rfl) trivial (fun hH => ?_)
      refine wpAnyH_take (i := 1) (oi := _) (v := .slice (some ⟨gl, 0, none⟩) L.length lc) rfl (by as_aux_lemma => kernel_rfl) (by as_aux_lemma => kernel_rfl) (by as_aux_lemma => kernel_rfl) (fun _ _ _ h => h) (Or.inl ⟨by rfl, fun w' hw' => by go_simp⟩) hH ?_
      try simp only [Act.put, List.getElem_toArray, List.getElem_cons_zero, List.getElem_cons_succ, List.setIfInBounds_toArray, List.set_cons_zero, List.set_cons_succ]
      refine wpAnyH_take (i := 2) (oi := _) (v := .int .i64 (t : Int)) rfl (by as_aux_lemma => kernel_rfl) (by as_aux_lemma => kernel_rfl) (by as_aux_lemma => kernel_rfl) (fun _ _ _ h => h) (Or.inl ⟨by rfl, fun w' hw' => by go_simp⟩) hH ?_
      try simp only [Act.put, List.getElem_toArray, List.getElem_cons_zero, List.getElem_cons_succ, List.setIfInBounds_toArray, List.set_cons_zero, List.set_cons_succ]
      refine wpAnyH_take (i := 3) (oi := _) (v := .slice (some ⟨gl, 0, none⟩) t lc) rfl (by as_aux_lemma => kernel_rfl) (by as_aux_lemma => kernel_rfl) (by as_aux_lemma => kernel_rfl) (fun _ _ _ h => h) (Or.inl ⟨by rfl, fun w' hw' => by have hq : t ≤ lc := (by omega); go_simp⟩) hH ?_
      try simp only [Act.put, List.getElem_toArray, List.getElem_cons_zero, List.getElem_cons_succ, List.setIfInBounds_toArray, List.set_cons_zero, List.set_cons_succ]
      refine wpAnyH_take (i := 5) (oi := _) (v := .slice (some ⟨gl, 0, none⟩) L.length lc) rfl (by as_aux_lemma => kernel_rfl) (by as_aux_lemma => kernel_rfl) (by as_aux_lemma => kernel_rfl) (fun _ _ _ h => h) (Or.inl ⟨by rfl, fun w' hw' => by go_simp⟩) hH ?_
      try simp only [Act.put, List.getElem_toArray, List.getElem_cons_zero, List.getElem_cons_succ, List.setIfInBounds_toArray, List.set_cons_zero, List.set_cons_succ]
      refine wpAnyH_take (i := 6) (oi := _) (v := .int .i64 (t : Int)) rfl (by as_aux_lemma => kernel_rfl) (by as_aux_lemma => kernel_rfl) (by as_aux_lemma => kernel_rfl) (fun _ _ _ h => h) (Or.inl ⟨by rfl, fun w' hw' => by go_simp⟩) hH ?_
      try simp only [Act.put, List.getElem_toArray, List.getElem_cons_zero, List.getElem_cons_succ, List.setIfInBounds_toArray, List.set_cons_zero, List.set_cons_succ]
      refine wpAnyH_take (i := 7) (oi := _) (v := .int .i64 ((t + 1 : Nat) : Int)) rfl (by as_aux_lemma => kernel_rfl) (by as_aux_lemma => kernel_rfl) (by as_aux_lemma => kernel_rfl) (fun _ _ _ h => h) (Or.inl ⟨by rfl, fun w' hw' => by have hq : ((t + 1 : Nat) : Int) = (t : Int) + 1 := (by omega); rw [hq]; have hq4 : IntKind.i64.wrap ((t : Int) + 1) = (t : Int) + 1 := (by simp [IntKind.wrap, IntKind.bits, IntKind.signed]; omega); go_simp⟩) hH ?_
      try simp only [Act.put, List.getElem_toArray, List.getElem_cons_zero, List.getElem_cons_succ, List.setIfInBounds_toArray, List.set_cons_zero, List.set_cons_succ]
      refine wpAnyH_take (i := 8) (oi := _) (v := .slice (some ad8) (L.length - (t + 1)) (lc - (t + 1))) rfl (by as_aux_lemma => kernel_rfl) (by as_aux_lemma => kernel_rfl) (by as_aux_lemma => kernel_rfl) (fun _ _ _ h => h) (Or.inl ⟨by rfl, fun w' hw' => by go_simp; rw [if_pos ⟨by omega, by omega⟩, H8.out.1]⟩) hH ?_
      try simp only [Act.put, List.getElem_toArray, List.getElem_cons_zero, List.getElem_cons_succ, List.setIfInBounds_toArray, List.set_cons_zero, List.set_cons_succ]
      refine wpAnyH_ready (rs := [0]) (by kernel_rfl) (by simp) ?_
      refine AllReadyH.cons (o := _) rfl (fun K hK => ?_) AllReadyH.nil
      go_simp
      refine hK.out _ _ trivial (fun hH => ?_)
      clear hK K
      try simp only [Act.put, List.getElem_toArray, List.getElem_cons_zero, List.getElem_cons_succ, List.setIfInBounds_toArray, List.set_cons_zero, List.set_cons_succ]
      have OE := hide (own_mono (own_emptyD (World.drew wI) 34 3) FJ.out.low.size)
      have LE := hide (FJ.out.lst.alloc (.cells #[] 34))
      have hsL : entsI L = entsI (L.take t) ++ entsI (L.drop t) := by rw [← entsI_append, List.take_append_drop]
      have HsL := hide hsL
      clear hsL
      have HC1 := hide (show ∀ j u, (entsI (L.take t))[j]? = some u → ((World.drew wI).alloc (.cells #[] 34)).cell? ((⟨gl, 0, none⟩ : Addr).add j) = some u from fun j u hu => LE.out.cells rfl j u (by rw [HsL.out, List.getElem?_append_left (List.getElem?_eq_some_iff.1 hu).1]; exact hu))
      refine wpAnyH_ready (rs := [4]) (by kernel_rfl) (by simp) ?_
      refine AllReadyH.cons (o := _) rfl (fun K hK => ?_) AllReadyH.nil
      rw [if_pos (by rfl)]
      refine wp_append_own _ (.tmp 190) (.tmp 193) 29 rfl w.heap.size 34 i0 (.agg #[.string ⟨#[]⟩, .int .i64 0, .int .i64 0]) 3 32 Tryd.underlying29 hi hz0 hz1 hz2 rfl (by decide) _ 0 [] rfl OE.out ⟨gl, 0, none⟩ t lc (entsI (L.take t)) rfl (by rw [entsI_len, List.length_take]; congr 1; omega) HC1.out (entsI_one _) (by unfold maxLen; omega) (by omega) (by show w.heap.size ≤ (wI.alloc _).heap.size; rw [World.size_alloc]; omega) ?_
      intro v2 W2 o2 g2 _
      rw [Nat.zero_add, List.nil_append] at o2
      have O2 := hide o2
      have G2 := hide g2
      have L2r := hide (LE.out.kept g2 (Or.inr (fun e => by have e2 : gl = (World.drew wI).heap.size := Option.some.inj e; omega)))
      have hs2 : (wI.alloc (.cells #[] 34)).heap.size ≤ W2.heap.size := g2.size
      rw [World.size_alloc] at hs2
      clear o2 g2
      refine hK.out _ _ trivial (fun hH => ?_)
      clear hK K
      try simp only [Act.put, List.getElem_toArray, List.getElem_cons_zero, List.getElem_cons_succ, List.setIfInBounds_toArray, List.set_cons_zero, List.set_cons_succ]
      have HC2 := hide (show ∀ j u, (entsI (L.drop (t + 1)))[j]? = some u → W2.cell? (ad8.add j) = some u from fun j u hu => by
        have hjl := (List.getElem?_eq_some_iff.1 hu).1
        rw [entsI_len, List.length_drop] at hjl
        rw [H8.out.2 (by omega)]
        have h1 := L2r.out.cells rfl ((t + 1) * 3 + j) u (by
          have e : entsI L = entsI (L.take (t + 1)) ++ entsI (L.drop (t + 1)) := by rw [← entsI_append, List.take_append_drop]
          rw [e, List.getElem?_append_right (by rw [entsI_len, List.length_take]; omega), entsI_len, List.length_take, show (t + 1) * 3 + j - min (t + 1) L.length * 3 = j by omega]
          exact hu)
        rw [Addr.add_mid, Nat.zero_add] at h1
        rw [Addr.add_mid]
        exact h1)
      refine wpAnyH_ready (rs := [9]) (by kernel_rfl) (by simp) ?_
      refine AllReadyH.cons (o := _) rfl (fun K hK => ?_) AllReadyH.nil
      rw [if_pos (by rfl)]
      refine wp_append_own _ (.tmp 194) (.tmp 198) 29 rfl w.heap.size 34 i0 (.agg #[.string ⟨#[]⟩, .int .i64 0, .int .i64 0]) 3 32 Tryd.underlying29 hi hz0 hz1 hz2 rfl (by decide) _ _ _ rfl O2.out ad8 (L.length - (t + 1)) (lc - (t + 1)) (entsI (L.drop (t + 1))) rfl (by rw [entsI_len, List.length_drop]) HC2.out (entsI_one _) (by unfold maxLen; omega) (by omega) (by omega) ?_
      intro v3 W3 o3 g3 _
      have F3 := hide (FD.cutL FJ.out OJ.out HDr.out.2.1 HDr.out.2.2.1 (cut_perm HMk.out.2.2.2 (HDr.out.2.2.2.trans FJ.out.per.symm)) O2.out G2.out (show W3.ownsRow w.heap.size 34 3 v3 (L.take t ++ L.drop (t + 1)).length (entsI (L.take t ++ L.drop (t + 1))) from by rw [List.length_append, List.length_take, List.length_drop, Nat.min_eq_left (by omega), entsI_append]; exact o3) g3)
      clear o3 g3
      refine hK.out _ _ trivial (fun hH => ?_)
      clear hK K
      try simp only [Act.put, List.getElem_toArray, List.getElem_cons_zero, List.getElem_cons_succ, List.setIfInBounds_toArray, List.set_cons_zero, List.set_cons_succ]
      refine wpAnyH_take (i := 10) (oi := _) (v := v3) rfl (by as_aux_lemma => kernel_rfl) (by as_aux_lemma => kernel_rfl) (by as_aux_lemma => kernel_rfl) (fun _ _ _ h => h) (Or.inl ⟨by rfl, fun w' hw' => by go_simp⟩) hH ?_
      try simp only [Act.put, List.getElem_toArray, List.getElem_cons_zero, List.getElem_cons_succ, List.setIfInBounds_toArray, List.set_cons_zero, List.set_cons_succ]
      refine wpAnyH_done (by kernel_rfl) (NoPanic.normal ?_) _
      clear hH
      go_wp2_with fail
      go_meet
      exact ⟨trimE (M.set k zeroI), L.take t ++ L.drop (t + 1), by rw [List.length_append, List.length_take, List.length_drop]; omega, F3.out⟩
  case rest =>
    obtain ⟨M2, L2, hL2, f⟩ := hcut
    obtain ⟨ca2, cc2, rfl⟩ := ownD_shape f.con
    obtain ⟨la2, lc2, rfl⟩ := ownD_shape f.lst
    have FX := hide f
    clear f
    go_wp2_with (go_at_call 18; fail)
    refine (cp_any _ (bytesE M2) _ (Rd.own FX.out.con) FX.out.dir.small).mono ?_
    rintro e wY ⟨vY, rfl, o, b⟩
    have FY := hide (FX.out.below b)
    have RY := hide (Rd.own o)
    clear o b FX
    go_wp2_with (go_at_call 11; fail)
    refine (implDC_any vY (bytesE M2) _ RY.out (bytesE_bdF M2) (H.out.2.2.below FY.out.low)).mono ?_
    rintro e wZ ⟨rfl, b⟩
    rw [FY.out.dir.code]
    have FZ := hide (FY.out.below b)
    clear b FY RY
    by_cases hl0 : L2.length = 0
    · have h1 : ((L2.length : Int) == 0) = true := by simp [hl0]
      have h2 : (((bytesE M2).length : Int) != 0) = false := by rw [ents_nil FZ.out.dir FZ.out.per hl0]; rfl
      have HL0 := hide hl0
      clear hl0
      go_wp2_with fail
      first | exact hQ _ _ (show TailPost w a0 cap0 cs L.length x0 x1 (.pointer (some ⟨w.heap.size, 0, none⟩)) x6 x20 x21 x22 x23 x24 x25 x26 x27 x28 x29 x30 x31 x32 x33 x34 x35 x36 x37 x38 x214 x215 x216 x217 x218 x219 x220 x221 x222 x223 x224 x225 x226 x227 x228 x229 x230 x231 x232 x233 x234 x235 x236 x237 x238 x239 x240 x241 x242 x243 x244 x245 x246 x247 x248 x249 x250 x251 x252 x253 x254 x255 x256 x257 x258 x259 x260 x261 x262 x263 _ _ from (by unfold TailPost; exact ⟨_, _, _, _, _, _, _, _, _, _, _, _, _, _, _, _, _, _, _, _, _, _, _, _, _, _, _, _, _, _, _, _, _, _, _, _, _, _, _, _, _, _, _, _, _, _, _, _, _, _, _, _, _, _, _, _, _, _, _, _, _, _, _, _, _, _, _, _, _, _, _, _, _, _, _, _, _, _, _, _, _, _, _, _, _, _, _, _, _, _, _, _, _, _, _, _, _, _, _, _, _, _, _, _, _, _, _, _, _, _, _, _, _, _, _, _, _, _, _, _, _, _, _, _, _, _, _, _, _, _, _, _, _, _, _, _, _, _, _, _, _, _, _, _, _, _, _, _, _, _, _, _, _, _, _, _, _, _, _, _, _, _, _, _, _, _, _, _, _, _, _, _, _, _, _, _, _, _, _, _, _, _, _, _, _, _, _, _, _, _, _, rfl, M2, L2, hL2, FZ.out⟩)) | exact (show TailPost w a0 cap0 cs L.length x0 x1 (.pointer (some ⟨w.heap.size, 0, none⟩)) x6 x20 x21 x22 x23 x24 x25 x26 x27 x28 x29 x30 x31 x32 x33 x34 x35 x36 x37 x38 x214 x215 x216 x217 x218 x219 x220 x221 x222 x223 x224 x225 x226 x227 x228 x229 x230 x231 x232 x233 x234 x235 x236 x237 x238 x239 x240 x241 x242 x243 x244 x245 x246 x247 x248 x249 x250 x251 x252 x253 x254 x255 x256 x257 x258 x259 x260 x261 x262 x263 _ _ from (by unfold TailPost; exact ⟨_, _, _, _, _, _, _, _, _, _, _, _, _, _, _, _, _, _, _, _, _, _, _, _, _, _, _, _, _, _, _, _, _, _, _, _, _, _, _, _, _, _, _, _, _, _, _, _, _, _, _, _, _, _, _, _, _, _, _, _, _, _, _, _, _, _, _, _, _, _, _, _, _, _, _, _, _, _, _, _, _, _, _, _, _, _, _, _, _, _, _, _, _, _, _, _, _, _, _, _, _, _, _, _, _, _, _, _, _, _, _, _, _, _, _, _, _, _, _, _, _, _, _, _, _, _, _, _, _, _, _, _, _, _, _, _, _, _, _, _, _, _, _, _, _, _, _, _, _, _, _, _, _, _, _, _, _, _, _, _, _, _, _, _, _, _, _, _, _, _, _, _, _, _, _, _, _, _, _, _, _, _, _, _, _, _, _, _, _, _, _, rfl, M2, L2, hL2, FZ.out⟩))
    · have h1 : ((L2.length : Int) == 0) = false := by rw [beq_eq_false_iff_ne]; omega
      have HL0 := hide hl0
      clear hl0
      go_wp2_with fail
      first | exact hQ _ _ (show TailPost w a0 cap0 cs L.length x0 x1 (.pointer (some ⟨w.heap.size, 0, none⟩)) x6 x20 x21 x22 x23 x24 x25 x26 x27 x28 x29 x30 x31 x32 x33 x34 x35 x36 x37 x38 x214 x215 x216 x217 x218 x219 x220 x221 x222 x223 x224 x225 x226 x227 x228 x229 x230 x231 x232 x233 x234 x235 x236 x237 x238 x239 x240 x241 x242 x243 x244 x245 x246 x247 x248 x249 x250 x251 x252 x253 x254 x255 x256 x257 x258 x259 x260 x261 x262 x263 _ _ from (by unfold TailPost; exact ⟨_, _, _, _, _, _, _, _, _, _, _, _, _, _, _, _, _, _, _, _, _, _, _, _, _, _, _, _, _, _, _, _, _, _, _, _, _, _, _, _, _, _, _, _, _, _, _, _, _, _, _, _, _, _, _, _, _, _, _, _, _, _, _, _, _, _, _, _, _, _, _, _, _, _, _, _, _, _, _, _, _, _, _, _, _, _, _, _, _, _, _, _, _, _, _, _, _, _, _, _, _, _, _, _, _, _, _, _, _, _, _, _, _, _, _, _, _, _, _, _, _, _, _, _, _, _, _, _, _, _, _, _, _, _, _, _, _, _, _, _, _, _, _, _, _, _, _, _, _, _, _, _, _, _, _, _, _, _, _, _, _, _, _, _, _, _, _, _, _, _, _, _, _, _, _, _, _, _, _, _, _, _, _, _, _, _, _, _, _, _, _, rfl, M2, L2, hL2, FZ.out⟩)) | exact (show TailPost w a0 cap0 cs L.length x0 x1 (.pointer (some ⟨w.heap.size, 0, none⟩)) x6 x20 x21 x22 x23 x24 x25 x26 x27 x28 x29 x30 x31 x32 x33 x34 x35 x36 x37 x38 x214 x215 x216 x217 x218 x219 x220 x221 x222 x223 x224 x225 x226 x227 x228 x229 x230 x231 x232 x233 x234 x235 x236 x237 x238 x239 x240 x241 x242 x243 x244 x245 x246 x247 x248 x249 x250 x251 x252 x253 x254 x255 x256 x257 x258 x259 x260 x261 x262 x263 _ _ from (by unfold TailPost; exact ⟨_, _, _, _, _, _, _, _, _, _, _, _, _, _, _, _, _, _, _, _, _, _, _, _, _, _, _, _, _, _, _, _, _, _, _, _, _, _, _, _, _, _, _, _, _, _, _, _, _, _, _, _, _, _, _, _, _, _, _, _, _, _, _, _, _, _, _, _, _, _, _, _, _, _, _, _, _, _, _, _, _, _, _, _, _, _, _, _, _, _, _, _, _, _, _, _, _, _, _, _, _, _, _, _, _, _, _, _, _, _, _, _, _, _, _, _, _, _, _, _, _, _, _, _, _, _, _, _, _, _, _, _, _, _, _, _, _, _, _, _, _, _, _, _, _, _, _, _, _, _, _, _, _, _, _, _, _, _, _, _, _, _, _, _, _, _, _, _, _, _, _, _, _, _, _, _, _, _, _, _, _, _, _, _, _, _, _, _, _, _, _, rfl, M2, L2, hL2, FZ.out⟩))
noncomputable def lastC : Code := sndC loopC
set_option maxRecDepth 1000000 in
set_option maxHeartbeats 40000000 in
/-- What stands behind the law's loop, walked. -/
theorem lastDir (w wr : World) (a0 : Option Addr) (cap0 : Nat) (cs : List Int) (M L : List EI) (ca : Option Addr) (cc : Nat) (la : Option Addr) (lc : Nat) (h : Rd .u8 w (.slice a0 cs.length cap0) cs) (hbd : ∀ z ∈ cs, 0 ≤ z ∧ z < 256) (hg : ErrT w) (hsm : cs.length ≤ 1048576) (hkk : L.length + 0 ≤ 200)
    (hF : FD w wr w.heap.size (.slice a0 cs.length cap0) cs (.slice ca (bytesE M).length cc) (.slice la L.length lc) M L) (x0 x1 x2 x3 x6 x7 x8 x9 x10 x11 x12 x13 x14 x15 x16 x17 x18 x19 x20 x21 x22 x23 x24 x25 x26 x27 x28 x29 x30 x31 x32 x33 x34 x35 x36 x37 x38 x39 x40 x41 x42 x43 x44 x45 x46 x47 x48 x49 x50 x51 x52 x53 x54 x55 x56 x57 x58 x59 x60 x61 x62 x63 x64 x65 x66 x67 x68 x69 x70 x71 x72 x73 x74 x75 x76 x77 x78 x79 x80 x81 x82 x83 x84 x85 x86 x87 x88 x89 x90 x91 x92 x93 x94 x95 x96 x97 x98 x99 x100 x101 x102 x103 x104 x105 x106 x107 x108 x109 x110 x111 x112 x113 x114 x115 x116 x117 x118 x119 x120 x121 x122 x123 x124 x125 x126 x127 x128 x129 x130 x131 x132 x133 x134 x135 x136 x137 x138 x139 x140 x141 x142 x143 x144 x145 x146 x147 x148 x149 x150 x151 x152 x153 x154 x155 x156 x157 x158 x159 x160 x161 x162 x163 x164 x165 x166 x167 x168 x169 x170 x171 x172 x173 x174 x175 x176 x177 x178 x179 x180 x181 x182 x183 x184 x185 x186 x187 x188 x189 x190 x191 x192 x193 x194 x195 x196 x197 x198 x199 x200 x201 x202 x203 x204 x205 x206 x207 x208 x209 x210 x211 x212 x213 x214 x215 x216 x217 x218 x219 x220 x221 x222 x223 x224 x225 x226 x227 x228 x229 x230 x231 x232 x233 x234 x235 x236 x237 x238 x239 x240 x241 x242 x243 x244 x245 x246 x247 x248 x249 x250 x251 x252 x253 x254 x255 x256 x257 x258 x259 x260 x261 x262 x263 : Value) (K : Act → World → Prop) (hK : ∀ a w', Code.wp Tryd.prog (sndC lastC) (bodyPost Tryd.prog Tryd.f4 (fun e w' => e = .returned (.bool true) ∧ Below w.heap.size w w')) a w' → K a w') :
    Code.wp Tryd.prog (fstC lastC) (Exit.then K (bodyPost Tryd.prog Tryd.f4 (fun e w' => e = .returned (.bool true) ∧ Below w.heap.size w w'))) ⟨#[x0, x1, x2, x3, .slice ca (bytesE M).length cc, .slice la L.length lc, x6, x7, x8, x9, x10, x11, x12, x13, x14, x15, x16, x17, x18, x19, x20, x21, x22, x23, x24, x25, x26, x27, x28, x29, x30, x31, x32, x33, x34, x35, x36, x37, x38, x39, x40, x41, x42, x43, x44, x45, x46, x47, x48, x49, x50, x51, x52, x53, x54, x55, x56, x57, x58, x59, x60, x61, x62, x63, x64, x65, x66, x67, x68, x69, x70, x71, x72, x73, x74, x75, x76, x77, x78, x79, x80, x81, x82, x83, x84, x85, x86, x87, x88, x89, x90, x91, x92, x93, x94, x95, x96, x97, x98, x99, x100, x101, x102, x103, x104, x105, x106, x107, x108, x109, x110, x111, x112, x113, x114, x115, x116, x117, x118, x119, x120, x121, x122, x123, x124, x125, x126, x127, x128, x129, x130, x131, x132, x133, x134, x135, x136, x137, x138, x139, x140, x141, x142, x143, x144, x145, x146, x147, x148, x149, x150, x151, x152, x153, x154, x155, x156, x157, x158, x159, x160, x161, x162, x163, x164, x165, x166, x167, x168, x169, x170, x171, x172, x173, x174, x175, x176, x177, x178, x179, x180, x181, x182, x183, x184, x185, x186, x187, x188, x189, x190, x191, x192, x193, x194, x195, x196, x197, x198, x199, x200, x201, x202, x203, x204, x205, x206, x207, x208, x209, x210, x211, x212, x213, x214, x215, x216, x217, x218, x219, x220, x221, x222, x223, x224, x225, x226, x227, x228, x229, x230, x231, x232, x233, x234, x235, x236, x237, x238, x239, x240, x241, x242, x243, x244, x245, x246, x247, x248, x249, x250, x251, x252, x253, x254, x255, x256, x257, x258, x259, x260, x261, x262, x263], []⟩ wr := by
  have H := hide (And.intro h (And.intro hbd hg))
  have F4 := hide hF
  clear h hbd hg hF
  conv => arg 2; whnf
  conv at hK => enter [a, w', 1, 2]; whnf
  go_wp2_with (go_at_call 18; fail)
  refine (cp_any _ (bytesE M) _ (Rd.own F4.out.con) F4.out.dir.small).mono ?_
  rintro e wA ⟨vA, rfl, o, b⟩
  have FB := hide (F4.out.below b)
  have RA := hide (Rd.own o)
  clear o b F4
  go_wp2_with (go_at_call 22; fail)
  refine (implDL_any vA (bytesE M) _ RA.out (bytesE_bdF M) (H.out.2.2.below FB.out.low)).mono ?_
  rintro e wB ⟨vB, rfl, o, b⟩
  have HE := hide (end_both FB.out.dir FB.out.per)
  rw [HE.out.1]
  rw [HE.out.2.1] at o
  obtain ⟨R, hR⟩ : ∃ R, R = sortE (entsOf M) := ⟨_, rfl⟩
  rw [← hR] at o HE
  rw [HE.out.2.2.1] at o
  have OB := hide (own_mono o FB.out.low.size)
  have FC := hide (FB.out.below b)
  clear o b FB RA hR
  obtain ⟨ra, rc, rfl⟩ := ownD_shape OB.out
  have hcc : ((L.length : Int) != (L.length : Int)) = false := by simp
  go_wp2
  go_loopw [231] (fun i wr => ∃ j : Nat, i = .int .i64 (j : Int) ∧ j ≤ L.length ∧ FD w wr w.heap.size (.slice a0 cs.length cap0) cs (.slice ca (bytesE M).length cc) (.slice la L.length lc) M L ∧ wr.ownsRow w.heap.size 34 3 (.slice ra L.length rc) L.length (entsI R)) (fun i _ => L.length - (intOf i).toNat)
  case atStart => exact ⟨0, rfl, Nat.zero_le _, FC.out, OB.out⟩
  case round =>
    clear FC OB
    obtain ⟨j, rfl, hj, hf, ho⟩ := hrel
    have F5 := hide hf
    have O5 := hide ho
    clear hf ho
    by_cases hlt : j < L.length
    · obtain ⟨x, hx⟩ : ∃ x, R[j]? = some x := ⟨_, List.getElem?_eq_getElem (by rw [HE.out.2.2.1]; exact hlt)⟩
      have HX := hide hx
      obtain ⟨gr, cr, ee, hgr1, hgr2, hcr⟩ := own_sliceD O5.out (by omega)
      injection ee with e1 e2 e3
      subst e1
      subst e3
      have HRg := hide (ents_range hcr hx)
      have HKn := hide (show Blk (wr.alloc (.cells (entC ⟨#[]⟩ 0 0) 34)) wr.heap.size (entC ⟨#[]⟩ 0 0) 34 ∧ Below wr.heap.size wr (wr.alloc (.cells (entC ⟨#[]⟩ 0 0) 34)) from ⟨Blk.new _ _ _, (Below.refl _ _).alloc (Nat.le_refl _) _⟩)
      clear hcr e2 hx
      go_wp2_with (first | (refine wpList_load_midD (by first | rfl | (simp [Region.wanted, yielded]; done)) 34 _ rfl gr (j * 3) rfl (entC x.1 x.2.1 x.2.2).toList _ HRg.out Tryd.underlying34 rfl infoD3 ?_) | (refine wpList_store_newD wr.heap.size wr rfl 34 _ _ rfl wr.heap.size (entC x.1 x.2.1 x.2.2) rfl rfl 34 (entC ⟨#[]⟩ 0 0) HKn.out.1 infoD3 rfl entC_one HKn.out.2 (Nat.le_refl _) ?_; intro w8 k8 b8; have F8 := hide (F5.out.below b8); have O8 := hide (own_below O5.out b8); have K8 := hide k8; clear k8 b8))
      obtain ⟨b8, hb8⟩ : ∃ b, b = wr.heap.size := ⟨_, rfl⟩
      rw [← hb8] at K8 ⊢
      have HB8 := hide hb8
      clear hb8
      have hl8 : b8 < w8.heap.size := K8.out.lt
      go_loopw [24, 238] (fun q24 i wj => ∃ q : Nat, i = .int .i64 (q : Int) ∧ q ≤ L.length ∧ q24 = .bool ((L.take q).any fun y => entEq y.1 y.2.1 y.2.2 x.1 x.2.1 x.2.2) ∧ Below w8.heap.size w8 wj) (fun _ i _ => L.length - (intOf i).toNat)
      case atStart => exact ⟨0, rfl, Nat.zero_le _, by simp, Below.refl _ _⟩
      case round =>
        obtain ⟨q, rfl, hq, rfl, hbj⟩ := hrel
        have F9 := hide (F8.out.below hbj)
        have O9 := hide (own_below O8.out hbj)
        have K9 := hide (K8.out.below hbj hl8)
        have B9 := hide hbj
        clear hbj
        by_cases hlq : q < L.length
        · obtain ⟨y, hy⟩ : ∃ y, L[q]? = some y := ⟨_, List.getElem?_eq_getElem hlq⟩
          obtain ⟨gl, cl, ee, hgl1, hgl2, hcl⟩ := own_sliceD F9.out.lst (by omega)
          injection ee with e1 e2 e3
          subst e1
          subst e3
          have HRy := hide (ents_range hcl hy)
          have HTk := hide (show (L.take (q + 1)).any (fun y => entEq y.1 y.2.1 y.2.2 x.1 x.2.1 x.2.2) = ((L.take q).any (fun y => entEq y.1 y.2.1 y.2.2 x.1 x.2.1 x.2.2) || entEq y.1 y.2.1 y.2.2 x.1 x.2.1 x.2.2) from by rw [List.take_add_one, hy, List.any_append]; simp)
          have HKn := hide (show Blk (wr.alloc (.cells (entC ⟨#[]⟩ 0 0) 34)) wr.heap.size (entC ⟨#[]⟩ 0 0) 34 ∧ Below wr.heap.size wr (wr.alloc (.cells (entC ⟨#[]⟩ 0 0) 34)) from ⟨Blk.new _ _ _, (Below.refl _ _).alloc (Nat.le_refl _) _⟩)
          have HEq := hide (fun w => eqEnt w 9998 y.1 y.2.1 y.2.2 x.1 x.2.1 x.2.2)
          clear hcl e2 hy
          cases hb : entEq y.1 y.2.1 y.2.2 x.1 x.2.1 x.2.2 with
          | true =>
            have HEb := hide (fun w => (HEq.out w).trans (by rw [hb]))
            have HT2 := hide (HTk.out.trans (by rw [hb]))
            clear hb
            go_wp2_with (first | (refine wpList_load_midD (by first | rfl | (simp [Region.wanted, yielded]; done)) 34 _ rfl gl (q * 3) rfl (entC y.1 y.2.1 y.2.2).toList _ HRy.out Tryd.underlying34 rfl infoD3 ?_) | (refine wpList_store_newD wr.heap.size wr rfl 34 _ _ rfl wr.heap.size (entC y.1 y.2.1 y.2.2) rfl rfl 34 (entC ⟨#[]⟩ 0 0) HKn.out.1 infoD3 rfl entC_one HKn.out.2 (Nat.le_refl _) ?_; intro wN kN bN; have KN := hide kN; have KX := hide (K9.out.below bN K9.out.lt); have BN := hide (B9.out.trans (bN.mono B9.out.size)); clear kN bN) | (refine wpList_load_row rfl 34 _ rfl wr.heap.size rfl 34 (entC y.1 y.2.1 y.2.2) (0, 0) _ KN.out Tryd.underlying34 rfl infoD3 ?_) | (refine wpList_load_row rfl 34 _ rfl b8 rfl 34 (entC x.1 x.2.1 x.2.2) (0, 0) _ KX.out Tryd.underlying34 rfl infoD3 ?_) | (refine wpList_eqlE rfl 34 _ _ _ rfl (entC y.1 y.2.1 y.2.2) (entC x.1 x.2.1 x.2.2) rfl rfl guardEnt true (HEb.out _) ?_))
            go_roundw
            case rel => exact ⟨q + 1, by go_num, by omega, by rw [HT2.out]; simp, BN.out⟩
            case measure => simp [intOf]; omega
          | false =>
            have HEb := hide (fun w => (HEq.out w).trans (by rw [hb]))
            have HT2 := hide (HTk.out.trans (by rw [hb]))
            clear hb
            go_wp2_with (first | (refine wpList_load_midD (by first | rfl | (simp [Region.wanted, yielded]; done)) 34 _ rfl gl (q * 3) rfl (entC y.1 y.2.1 y.2.2).toList _ HRy.out Tryd.underlying34 rfl infoD3 ?_) | (refine wpList_store_newD wr.heap.size wr rfl 34 _ _ rfl wr.heap.size (entC y.1 y.2.1 y.2.2) rfl rfl 34 (entC ⟨#[]⟩ 0 0) HKn.out.1 infoD3 rfl entC_one HKn.out.2 (Nat.le_refl _) ?_; intro wN kN bN; have KN := hide kN; have KX := hide (K9.out.below bN K9.out.lt); have BN := hide (B9.out.trans (bN.mono B9.out.size)); clear kN bN) | (refine wpList_load_row rfl 34 _ rfl wr.heap.size rfl 34 (entC y.1 y.2.1 y.2.2) (0, 0) _ KN.out Tryd.underlying34 rfl infoD3 ?_) | (refine wpList_load_row rfl 34 _ rfl b8 rfl 34 (entC x.1 x.2.1 x.2.2) (0, 0) _ KX.out Tryd.underlying34 rfl infoD3 ?_) | (refine wpList_eqlE rfl 34 _ _ _ rfl (entC y.1 y.2.1 y.2.2) (entC x.1 x.2.1 x.2.2) rfl rfl guardEnt false (HEb.out _) ?_))
            go_roundw
            case rel => exact ⟨q + 1, by go_num, by omega, by rw [HT2.out]; simp, BN.out⟩
            case measure => simp [intOf]; omega
        · obtain rfl : q = L.length := by omega
          have hin : (L.take L.length).any (fun y => entEq y.1 y.2.1 y.2.2 x.1 x.2.1 x.2.2) = true := by
            rw [List.take_length, List.any_eq_true]
            exact ⟨x, HE.out.2.2.2.1 x (List.mem_of_getElem? HX.out), entEq_self _ _ _⟩
          rw [hin]
          clear hin
          have cX := (K9.out.cell 0).trans (show (entC x.1 x.2.1 x.2.2)[0]? = some (.string x.1) from rfl)
          by_cases hj0 : j = 0
          · subst hj0
            go_wp2
            go_quiet (fail)
            go_wp2
            go_roundw
            case rel => exact ⟨1, by go_num, by omega, F9.out.below (belD (Below.refl _ _) _), own_below O9.out (belD (Below.refl _ _) _)⟩
            case measure => simp [intOf]; omega
          · obtain ⟨p, rfl⟩ : ∃ p, j = p + 1 := ⟨j - 1, by omega⟩
            obtain ⟨z, hz⟩ : ∃ z, R[p]? = some z := ⟨_, List.getElem?_eq_getElem (by rw [HE.out.2.2.1]; omega)⟩
            obtain ⟨gr2, cr2, ee, hgs1, hgs2, hcs⟩ := own_sliceD O9.out (by omega)
            injection ee with e1 e2 e3
            injection e1 with e1
            injection e1 with e1 e4 e5
            subst e1
            subst e3
            have cZ := hcs (p * 3) (.string z.1) (entsI_at hz 0 _ rfl)
            rw [Addr.add_mid, Nat.zero_add] at cZ
            have hle : Op.bytesLess z.1.toList x.1.toList = true := by
              have h1 := HE.out.2.2.2.2 p z x hz HX.out
              rw [ByteArray.toList_eq, ByteArray.toList_eq]
              exact h1
            clear hcs e2 hz
            go_wp2
            go_quiet (fail)
            go_wp2
            go_roundw
            case rel =>
              exact ⟨p + 1 + 1, by go_num, by omega, F9.out.below (belD (Below.refl _ _) _), own_below O9.out (belD (Below.refl _ _) _)⟩
            case measure => simp [intOf]; omega
    · go_wp2
      go_ret
      exact ⟨rfl, F5.out.low⟩
set_option maxRecDepth 100000 in
set_option maxHeartbeats 40000000 in
theorem lawDir (v : Value) (cs : List Int) (w : World) (h : Rd .u8 w v cs) (hbd : ∀ z ∈ cs, 0 ≤ z ∧ z < 256) (hg : ErrT w) :
    Calls Tryd.prog 4 #[v] w fun e w' => e = .returned (.bool true) ∧ Below w.heap.size w w' := by
  have hm := h.len
  unfold maxLen at hm
  have hsh : ∃ a cap, v = .slice a cs.length cap := by obtain ⟨a, cap, h1, _⟩ := h; exact ⟨a, cap, h1⟩
  obtain ⟨a0, cap0, rfl⟩ := hsh
  have H := hide (And.intro h (And.intro hbd hg))
  clear h hg hbd
  by_cases hbig : (1048576 : Int) < (cs.length : Int)
  · go_enter Tryd.func4, Tryd.ntmps4
    go_wp2
    go_ret
    exact ⟨rfl, Below.refl _ _⟩
  have hsm : cs.length ≤ 1048576 := by omega
  clear hbig hm
  go_enter Tryd.func4, Tryd.ntmps4
  go_wp2_with (go_at_call 13; fail)
  refine (draw_any _ cs _ H.out.1 hsm).mono ?_
  rintro e w1 ⟨rfl, s1, b1, hs1⟩
  have F1 := hide (FD.start s1 b1)
  clear s1 b1 hs1
  go_wp2_with (go_at_call 15; fail)
  refine (size_any _ cs 199 _ (H.out.1.below F1.out.low) hsm (by omega) (by omega)).mono ?_
  rintro e w2 ⟨r, rfl, hr1, hr2, hw2⟩
  rw [hw2]
  clear hw2 w2
  go_wp2_with (go_at_call 14; fail)
  refine (F1.out.N H.out.1 H.out.2.1 hsm r (by omega) (by omega)).mono ?_
  rintro e w3 ⟨r2, rfl, hr3, f3, _⟩
  have F3 := hide f3
  clear f3 F1
  go_wp2
  go_loopw [4, 5, 6] (fun c l k wr => ∃ (M L : List EI) (kk : Nat), k = .int .i64 (kk : Int) ∧ L.length + kk ≤ 200 ∧ FD w wr w.heap.size (.slice a0 cs.length cap0) cs c l M L) (fun _ _ k _ => (intOf k).toNat)
  case atStart => exact ⟨[], [], r2 + 1, by go_num, by simp; omega, F3.out⟩
  case round =>
    clear F3
    obtain ⟨M, L, kk, rfl, hkk, hF⟩ := hrel
    obtain ⟨ca, cc, rfl⟩ := ownD_shape hF.con
    obtain ⟨la, lc, rfl⟩ := ownD_shape hF.lst
    have F4 := hide hF
    clear hF
    by_cases hk0 : 0 < kk
    · go_wp2_with (go_at_call 16; fail)
      refine (name_any F4.out H.out.1 H.out.2.1 hsm).mono ?_
      rintro e w5 ⟨nm, rfl, hnm, f5⟩
      have F5 := hide f5
      clear f5 F4
      go_wp2_with (go_at_call 14; fail)
      refine (F5.out.N H.out.1 H.out.2.1 hsm 2 (by omega) (by omega)).mono ?_
      rintro e w6 ⟨r6, rfl, hr6, f6, _⟩
      have F6 := hide f6
      clear f6 F5
      go_upto_if 47 with fail
      go_cut [7] from 39 to 213 (fun s7 wx => ∃ nm : ByteArray, s7 = .string nm ∧ nm.size ≤ 100 ∧ FD w wx w.heap.size (.slice a0 cs.length cap0) cs (.slice ca (bytesE M).length cc) (.slice la L.length lc) M L)
      case first =>
        by_cases h6 : r6 = 0
        · have h6b : ((r6 : Int) == 0) = true := by simp [h6]
          go_wp2_with (go_at_call 14; fail)
          refine (F6.out.N H.out.1 H.out.2.1 hsm 26 (by omega) (by omega)).mono ?_
          rintro e w7 ⟨r7, rfl, hr7, f7, _⟩
          have F7 := hide f7
          clear f7 F6
          go_wp2_with (go_at_call 14; fail)
          refine (F7.out.N H.out.1 H.out.2.1 hsm 3 (by omega) (by omega)).mono ?_
          rintro e w8 ⟨r8, rfl, hr8, f8, _⟩
          have F8 := hide f8
          have hcv := conv3 w8 (97 + (r7 : Int)) (97 + (r8 : Int))
          have F9 := hide (F8.out.below (show Below w8.heap.size w8 (w8.alloc (.cells #[.int .u8 102, .int .u8 (97 + (r7 : Int)), .int .u8 (97 + (r8 : Int))] 5)) from (Below.refl _ _).alloc (Nat.le_refl _) _))
          have HSz := hide (show (strOfNums [102, 97 + (r7 : Int), 97 + (r8 : Int)]).size ≤ 100 from by rw [strOfNums_size]; simp)
          clear f8 F7 F8
          go_wp2_with fail
          go_meet
          exact ⟨_, rfl, HSz.out, F9.out⟩
        · have h6b : ((r6 : Int) == 0) = false := by simp; omega
          go_wp2
          go_meet
          exact ⟨nm, rfl, hnm, F6.out⟩
      case rest =>
        obtain ⟨nm, rfl, hnm, f9⟩ := hcut
        have F9 := hide f9
        clear f9 F6
        go_wp2
        go_loopw [8, 60] (fun at8 i wj => ∃ j : Nat, i = .int .i64 (j : Int) ∧ j ≤ L.length ∧ AtR L nm j at8 ∧ FD w wj w.heap.size (.slice a0 cs.length cap0) cs (.slice ca (bytesE M).length cc) (.slice la L.length lc) M L) (fun _ i _ => L.length - (intOf i).toNat)
        case atStart => exact ⟨0, rfl, Nat.zero_le _, AtR.start L nm, F9.out⟩
        case round =>
          clear F9
          obtain ⟨j, rfl, hj, hat, hf⟩ := hrel
          have FA := hide hf
          have HAt := hide hat
          clear hf hat
          by_cases hlt : j < L.length
          · obtain ⟨gl, cl, ee, hgl1, hgl2, hcl⟩ := own_sliceD FA.out.lst (by omega)
            injection ee with e1 e2 e3
            subst e1
            subst e3
            obtain ⟨x, hx⟩ : ∃ x, L[j]? = some x := ⟨_, List.getElem?_eq_getElem hlt⟩
            have HX := hide hx
            have HRg := hide (ents_range hcl hx)
            have HKn := hide (show Blk (wr.alloc (.cells (entC ⟨#[]⟩ 0 0) 34)) wr.heap.size (entC ⟨#[]⟩ 0 0) 34 ∧ Below wr.heap.size wr (wr.alloc (.cells (entC ⟨#[]⟩ 0 0) 34)) from ⟨Blk.new _ _ _, (Below.refl _ _).alloc (Nat.le_refl _) _⟩)
            clear hcl e2 hx
            cases hq : (x.1.toList == nm.toList) with
            | true =>
              have HQ := hide (show x.1.data.toList = nm.data.toList from by rw [← ByteArray.toList_eq, ← ByteArray.toList_eq]; exact beq_iff_eq.1 hq)
              go_wp2_with (first | (refine wpList_load_midD (by first | rfl | (simp [Region.wanted, yielded]; done)) 34 _ rfl gl (j * 3) rfl (entC x.1 x.2.1 x.2.2).toList _ HRg.out Tryd.underlying34 rfl infoD3 ?_) | (refine wpList_store_newD wr.heap.size wr rfl 34 _ _ rfl wr.heap.size (entC x.1 x.2.1 x.2.2) rfl rfl 34 (entC ⟨#[]⟩ 0 0) HKn.out.1 infoD3 rfl entC_one HKn.out.2 (Nat.le_refl _) ?_; intro w8 k8 b8; have c8 := (k8.cell 0).trans (show (entC x.1 x.2.1 x.2.2)[0]? = some (.string x.1) from rfl); have FB := hide (FA.out.below b8); clear k8 b8))
              go_roundw
              case rel => exact ⟨j + 1, by go_num, by omega, AtR.hit HX.out HQ.out, FB.out⟩
              case measure => simp [intOf]; omega
            | false =>
              have HQ := hide (show x.1.data.toList ≠ nm.data.toList from by
                intro e
                rw [← ByteArray.toList_eq, ← ByteArray.toList_eq] at e
                rw [e] at hq
                simp at hq)
              go_wp2_with (first | (refine wpList_load_midD (by first | rfl | (simp [Region.wanted, yielded]; done)) 34 _ rfl gl (j * 3) rfl (entC x.1 x.2.1 x.2.2).toList _ HRg.out Tryd.underlying34 rfl infoD3 ?_) | (refine wpList_store_newD wr.heap.size wr rfl 34 _ _ rfl wr.heap.size (entC x.1 x.2.1 x.2.2) rfl rfl 34 (entC ⟨#[]⟩ 0 0) HKn.out.1 infoD3 rfl entC_one HKn.out.2 (Nat.le_refl _) ?_; intro w8 k8 b8; have c8 := (k8.cell 0).trans (show (entC x.1 x.2.1 x.2.2)[0]? = some (.string x.1) from rfl); have FB := hide (FA.out.below b8); clear k8 b8))
              go_roundw
              case rel => exact ⟨j + 1, by go_num, by omega, HAt.out.keep HX.out HQ.out, FB.out⟩
              case measure => simp [intOf]; omega
          · obtain rfl : j = L.length := by omega
            rcases find_both FA.out.dir FA.out.per HAt.out with ⟨rfl, hfk, hno⟩ | ⟨t, k, x, ht, rfl, hLt, hfk, hkM, hMk, hzx, hsl, hxn⟩
            · go_upto_region 19 with fail
              refine tailN w _ a0 cap0 cs M L ca cc la lc nm kk H.out.1 H.out.2.1 H.out.2.2 hsm hnm hkk hk0 FA.out hfk hno _ _ _ _ _ _ _ _ _ _ _ _ _ _ _ _ _ _ _ _ _ _ _ _ _ _ _ _ _ _ _ _ _ _ _ _ _ _ _ _ _ _ _ _ _ _ _ _ _ _ _ _ _ _ _ _ _ _ _ _ _ _ _ _ _ _ _ _ _ _ _ _ _ _ _ _ _ _ _ _ _ _ _ _ _ _ _ _ _ _ _ _ _ _ _ _ _ _ _ _ _ _ _ _ _ _ _ _ _ _ _ _ _ _ _ _ _ _ _ _ _ _ _ _ _ _ _ _ _ _ _ _ _ _ _ _ _ _ _ _ _ _ _ _ _ _ _ _ _ _ _ _ _ _ _ _ _ _ _ _ _ _ _ _ _ _ _ _ _ _ _ _ _ _ _ _ _ _ _ _ _ _ _ _ _ _ _ _ _ _ _ _ _ _ _ _ _ _ _ _ _ _ _ _ _ _ _ _ _ _ _ _ _ _ _ _ _ _ _ _ _ _ _ _ _ _ _ _ _ _ _ _ _ _ _ _ _ _ _ _ _ _ _ _ _ _ _ _ _ _ _ _ _ _ _ _ _ _ _ _ (fun act w2 hP => ?_) _ (by assumption)
              unfold TailPost at hP
              obtain ⟨y2, hP⟩ := hP
              obtain ⟨y4, hP⟩ := hP
              obtain ⟨y5, hP⟩ := hP
              obtain ⟨y7, hP⟩ := hP
              obtain ⟨y8, hP⟩ := hP
              obtain ⟨y9, hP⟩ := hP
              obtain ⟨y10, hP⟩ := hP
              obtain ⟨y11, hP⟩ := hP
              obtain ⟨y12, hP⟩ := hP
              obtain ⟨y13, hP⟩ := hP
              obtain ⟨y14, hP⟩ := hP
              obtain ⟨y15, hP⟩ := hP
              obtain ⟨y16, hP⟩ := hP
              obtain ⟨y17, hP⟩ := hP
              obtain ⟨y18, hP⟩ := hP
              obtain ⟨y19, hP⟩ := hP
              obtain ⟨y39, hP⟩ := hP
              obtain ⟨y40, hP⟩ := hP
              obtain ⟨y41, hP⟩ := hP
              obtain ⟨y42, hP⟩ := hP
              obtain ⟨y43, hP⟩ := hP
              obtain ⟨y44, hP⟩ := hP
              obtain ⟨y45, hP⟩ := hP
              obtain ⟨y46, hP⟩ := hP
              obtain ⟨y47, hP⟩ := hP
              obtain ⟨y48, hP⟩ := hP
              obtain ⟨y49, hP⟩ := hP
              obtain ⟨y50, hP⟩ := hP
              obtain ⟨y51, hP⟩ := hP
              obtain ⟨y52, hP⟩ := hP
              obtain ⟨y53, hP⟩ := hP
              obtain ⟨y54, hP⟩ := hP
              obtain ⟨y55, hP⟩ := hP
              obtain ⟨y56, hP⟩ := hP
              obtain ⟨y57, hP⟩ := hP
              obtain ⟨y58, hP⟩ := hP
              obtain ⟨y59, hP⟩ := hP
              obtain ⟨y60, hP⟩ := hP
              obtain ⟨y61, hP⟩ := hP
              obtain ⟨y62, hP⟩ := hP
              obtain ⟨y63, hP⟩ := hP
              obtain ⟨y64, hP⟩ := hP
              obtain ⟨y65, hP⟩ := hP
              obtain ⟨y66, hP⟩ := hP
              obtain ⟨y67, hP⟩ := hP
              obtain ⟨y68, hP⟩ := hP
              obtain ⟨y69, hP⟩ := hP
              obtain ⟨y70, hP⟩ := hP
              obtain ⟨y71, hP⟩ := hP
              obtain ⟨y72, hP⟩ := hP
              obtain ⟨y73, hP⟩ := hP
              obtain ⟨y74, hP⟩ := hP
              obtain ⟨y75, hP⟩ := hP
              obtain ⟨y76, hP⟩ := hP
              obtain ⟨y77, hP⟩ := hP
              obtain ⟨y78, hP⟩ := hP
              obtain ⟨y79, hP⟩ := hP
              obtain ⟨y80, hP⟩ := hP
              obtain ⟨y81, hP⟩ := hP
              obtain ⟨y82, hP⟩ := hP
              obtain ⟨y83, hP⟩ := hP
              obtain ⟨y84, hP⟩ := hP
              obtain ⟨y85, hP⟩ := hP
              obtain ⟨y86, hP⟩ := hP
              obtain ⟨y87, hP⟩ := hP
              obtain ⟨y88, hP⟩ := hP
              obtain ⟨y89, hP⟩ := hP
              obtain ⟨y90, hP⟩ := hP
              obtain ⟨y91, hP⟩ := hP
              obtain ⟨y92, hP⟩ := hP
              obtain ⟨y93, hP⟩ := hP
              obtain ⟨y94, hP⟩ := hP
              obtain ⟨y95, hP⟩ := hP
              obtain ⟨y96, hP⟩ := hP
              obtain ⟨y97, hP⟩ := hP
              obtain ⟨y98, hP⟩ := hP
              obtain ⟨y99, hP⟩ := hP
              obtain ⟨y100, hP⟩ := hP
              obtain ⟨y101, hP⟩ := hP
              obtain ⟨y102, hP⟩ := hP
              obtain ⟨y103, hP⟩ := hP
              obtain ⟨y104, hP⟩ := hP
              obtain ⟨y105, hP⟩ := hP
              obtain ⟨y106, hP⟩ := hP
              obtain ⟨y107, hP⟩ := hP
              obtain ⟨y108, hP⟩ := hP
              obtain ⟨y109, hP⟩ := hP
              obtain ⟨y110, hP⟩ := hP
              obtain ⟨y111, hP⟩ := hP
              obtain ⟨y112, hP⟩ := hP
              obtain ⟨y113, hP⟩ := hP
              obtain ⟨y114, hP⟩ := hP
              obtain ⟨y115, hP⟩ := hP
              obtain ⟨y116, hP⟩ := hP
              obtain ⟨y117, hP⟩ := hP
              obtain ⟨y118, hP⟩ := hP
              obtain ⟨y119, hP⟩ := hP
              obtain ⟨y120, hP⟩ := hP
              obtain ⟨y121, hP⟩ := hP
              obtain ⟨y122, hP⟩ := hP
              obtain ⟨y123, hP⟩ := hP
              obtain ⟨y124, hP⟩ := hP
              obtain ⟨y125, hP⟩ := hP
              obtain ⟨y126, hP⟩ := hP
              obtain ⟨y127, hP⟩ := hP
              obtain ⟨y128, hP⟩ := hP
              obtain ⟨y129, hP⟩ := hP
              obtain ⟨y130, hP⟩ := hP
              obtain ⟨y131, hP⟩ := hP
              obtain ⟨y132, hP⟩ := hP
              obtain ⟨y133, hP⟩ := hP
              obtain ⟨y134, hP⟩ := hP
              obtain ⟨y135, hP⟩ := hP
              obtain ⟨y136, hP⟩ := hP
              obtain ⟨y137, hP⟩ := hP
              obtain ⟨y138, hP⟩ := hP
              obtain ⟨y139, hP⟩ := hP
              obtain ⟨y140, hP⟩ := hP
              obtain ⟨y141, hP⟩ := hP
              obtain ⟨y142, hP⟩ := hP
              obtain ⟨y143, hP⟩ := hP
              obtain ⟨y144, hP⟩ := hP
              obtain ⟨y145, hP⟩ := hP
              obtain ⟨y146, hP⟩ := hP
              obtain ⟨y147, hP⟩ := hP
              obtain ⟨y148, hP⟩ := hP
              obtain ⟨y149, hP⟩ := hP
              obtain ⟨y150, hP⟩ := hP
              obtain ⟨y151, hP⟩ := hP
              obtain ⟨y152, hP⟩ := hP
              obtain ⟨y153, hP⟩ := hP
              obtain ⟨y154, hP⟩ := hP
              obtain ⟨y155, hP⟩ := hP
              obtain ⟨y156, hP⟩ := hP
              obtain ⟨y157, hP⟩ := hP
              obtain ⟨y158, hP⟩ := hP
              obtain ⟨y159, hP⟩ := hP
              obtain ⟨y160, hP⟩ := hP
              obtain ⟨y161, hP⟩ := hP
              obtain ⟨y162, hP⟩ := hP
              obtain ⟨y163, hP⟩ := hP
              obtain ⟨y164, hP⟩ := hP
              obtain ⟨y165, hP⟩ := hP
              obtain ⟨y166, hP⟩ := hP
              obtain ⟨y167, hP⟩ := hP
              obtain ⟨y168, hP⟩ := hP
              obtain ⟨y169, hP⟩ := hP
              obtain ⟨y170, hP⟩ := hP
              obtain ⟨y171, hP⟩ := hP
              obtain ⟨y172, hP⟩ := hP
              obtain ⟨y173, hP⟩ := hP
              obtain ⟨y174, hP⟩ := hP
              obtain ⟨y175, hP⟩ := hP
              obtain ⟨y176, hP⟩ := hP
              obtain ⟨y177, hP⟩ := hP
              obtain ⟨y178, hP⟩ := hP
              obtain ⟨y179, hP⟩ := hP
              obtain ⟨y180, hP⟩ := hP
              obtain ⟨y181, hP⟩ := hP
              obtain ⟨y182, hP⟩ := hP
              obtain ⟨y183, hP⟩ := hP
              obtain ⟨y184, hP⟩ := hP
              obtain ⟨y185, hP⟩ := hP
              obtain ⟨y186, hP⟩ := hP
              obtain ⟨y187, hP⟩ := hP
              obtain ⟨y188, hP⟩ := hP
              obtain ⟨y189, hP⟩ := hP
              obtain ⟨y190, hP⟩ := hP
              obtain ⟨y191, hP⟩ := hP
              obtain ⟨y192, hP⟩ := hP
              obtain ⟨y193, hP⟩ := hP
              obtain ⟨y194, hP⟩ := hP
              obtain ⟨y195, hP⟩ := hP
              obtain ⟨y196, hP⟩ := hP
              obtain ⟨y197, hP⟩ := hP
              obtain ⟨y198, hP⟩ := hP
              obtain ⟨y199, hP⟩ := hP
              obtain ⟨y200, hP⟩ := hP
              obtain ⟨y201, hP⟩ := hP
              obtain ⟨y202, hP⟩ := hP
              obtain ⟨y203, hP⟩ := hP
              obtain ⟨y204, hP⟩ := hP
              obtain ⟨y205, hP⟩ := hP
              obtain ⟨y206, hP⟩ := hP
              obtain ⟨y207, hP⟩ := hP
              obtain ⟨y208, hP⟩ := hP
              obtain ⟨y209, hP⟩ := hP
              obtain ⟨y210, hP⟩ := hP
              obtain ⟨y211, hP⟩ := hP
              obtain ⟨y212, hP⟩ := hP
              obtain ⟨y213, hP⟩ := hP
              obtain ⟨rfl, M2, L2, hL2, f⟩ := hP
              have F2 := hide f
              clear f FA
              go_wp2_with fail
              go_roundw
              case rel => exact ⟨M2, L2, kk - 1, by go_num, by omega, F2.out⟩
              case measure => simp [intOf]; omega
            · go_upto_region 19 with fail
              refine tailS w _ a0 cap0 cs M L ca cc la lc nm kk H.out.1 H.out.2.1 H.out.2.2 hsm hnm hkk hk0 FA.out t k x ht hLt hfk hkM hMk hzx hsl hxn _ _ _ _ _ _ _ _ _ _ _ _ _ _ _ _ _ _ _ _ _ _ _ _ _ _ _ _ _ _ _ _ _ _ _ _ _ _ _ _ _ _ _ _ _ _ _ _ _ _ _ _ _ _ _ _ _ _ _ _ _ _ _ _ _ _ _ _ _ _ _ _ _ _ _ _ _ _ _ _ _ _ _ _ _ _ _ _ _ _ _ _ _ _ _ _ _ _ _ _ _ _ _ _ _ _ _ _ _ _ _ _ _ _ _ _ _ _ _ _ _ _ _ _ _ _ _ _ _ _ _ _ _ _ _ _ _ _ _ _ _ _ _ _ _ _ _ _ _ _ _ _ _ _ _ _ _ _ _ _ _ _ _ _ _ _ _ _ _ _ _ _ _ _ _ _ _ _ _ _ _ _ _ _ _ _ _ _ _ _ _ _ _ _ _ _ _ _ _ _ _ _ _ _ _ _ _ _ _ _ _ _ _ _ _ _ _ _ _ _ _ _ _ _ _ _ _ _ _ _ _ _ _ _ _ _ _ _ _ _ _ _ _ _ _ _ _ _ _ _ _ _ _ _ _ _ _ _ _ _ (fun act w2 hP => ?_) _ (by assumption)
              unfold TailPost at hP
              obtain ⟨y2, hP⟩ := hP
              obtain ⟨y4, hP⟩ := hP
              obtain ⟨y5, hP⟩ := hP
              obtain ⟨y7, hP⟩ := hP
              obtain ⟨y8, hP⟩ := hP
              obtain ⟨y9, hP⟩ := hP
              obtain ⟨y10, hP⟩ := hP
              obtain ⟨y11, hP⟩ := hP
              obtain ⟨y12, hP⟩ := hP
              obtain ⟨y13, hP⟩ := hP
              obtain ⟨y14, hP⟩ := hP
              obtain ⟨y15, hP⟩ := hP
              obtain ⟨y16, hP⟩ := hP
              obtain ⟨y17, hP⟩ := hP
              obtain ⟨y18, hP⟩ := hP
              obtain ⟨y19, hP⟩ := hP
              obtain ⟨y39, hP⟩ := hP
              obtain ⟨y40, hP⟩ := hP
              obtain ⟨y41, hP⟩ := hP
              obtain ⟨y42, hP⟩ := hP
              obtain ⟨y43, hP⟩ := hP
              obtain ⟨y44, hP⟩ := hP
              obtain ⟨y45, hP⟩ := hP
              obtain ⟨y46, hP⟩ := hP
              obtain ⟨y47, hP⟩ := hP
              obtain ⟨y48, hP⟩ := hP
              obtain ⟨y49, hP⟩ := hP
              obtain ⟨y50, hP⟩ := hP
              obtain ⟨y51, hP⟩ := hP
              obtain ⟨y52, hP⟩ := hP
              obtain ⟨y53, hP⟩ := hP
              obtain ⟨y54, hP⟩ := hP
              obtain ⟨y55, hP⟩ := hP
              obtain ⟨y56, hP⟩ := hP
              obtain ⟨y57, hP⟩ := hP
              obtain ⟨y58, hP⟩ := hP
              obtain ⟨y59, hP⟩ := hP
              obtain ⟨y60, hP⟩ := hP
              obtain ⟨y61, hP⟩ := hP
              obtain ⟨y62, hP⟩ := hP
              obtain ⟨y63, hP⟩ := hP
              obtain ⟨y64, hP⟩ := hP
              obtain ⟨y65, hP⟩ := hP
              obtain ⟨y66, hP⟩ := hP
              obtain ⟨y67, hP⟩ := hP
              obtain ⟨y68, hP⟩ := hP
              obtain ⟨y69, hP⟩ := hP
              obtain ⟨y70, hP⟩ := hP
              obtain ⟨y71, hP⟩ := hP
              obtain ⟨y72, hP⟩ := hP
              obtain ⟨y73, hP⟩ := hP
              obtain ⟨y74, hP⟩ := hP
              obtain ⟨y75, hP⟩ := hP
              obtain ⟨y76, hP⟩ := hP
              obtain ⟨y77, hP⟩ := hP
              obtain ⟨y78, hP⟩ := hP
              obtain ⟨y79, hP⟩ := hP
              obtain ⟨y80, hP⟩ := hP
              obtain ⟨y81, hP⟩ := hP
              obtain ⟨y82, hP⟩ := hP
              obtain ⟨y83, hP⟩ := hP
              obtain ⟨y84, hP⟩ := hP
              obtain ⟨y85, hP⟩ := hP
              obtain ⟨y86, hP⟩ := hP
              obtain ⟨y87, hP⟩ := hP
              obtain ⟨y88, hP⟩ := hP
              obtain ⟨y89, hP⟩ := hP
              obtain ⟨y90, hP⟩ := hP
              obtain ⟨y91, hP⟩ := hP
              obtain ⟨y92, hP⟩ := hP
              obtain ⟨y93, hP⟩ := hP
              obtain ⟨y94, hP⟩ := hP
              obtain ⟨y95, hP⟩ := hP
              obtain ⟨y96, hP⟩ := hP
              obtain ⟨y97, hP⟩ := hP
              obtain ⟨y98, hP⟩ := hP
              obtain ⟨y99, hP⟩ := hP
              obtain ⟨y100, hP⟩ := hP
              obtain ⟨y101, hP⟩ := hP
              obtain ⟨y102, hP⟩ := hP
              obtain ⟨y103, hP⟩ := hP
              obtain ⟨y104, hP⟩ := hP
              obtain ⟨y105, hP⟩ := hP
              obtain ⟨y106, hP⟩ := hP
              obtain ⟨y107, hP⟩ := hP
              obtain ⟨y108, hP⟩ := hP
              obtain ⟨y109, hP⟩ := hP
              obtain ⟨y110, hP⟩ := hP
              obtain ⟨y111, hP⟩ := hP
              obtain ⟨y112, hP⟩ := hP
              obtain ⟨y113, hP⟩ := hP
              obtain ⟨y114, hP⟩ := hP
              obtain ⟨y115, hP⟩ := hP
              obtain ⟨y116, hP⟩ := hP
              obtain ⟨y117, hP⟩ := hP
              obtain ⟨y118, hP⟩ := hP
              obtain ⟨y119, hP⟩ := hP
              obtain ⟨y120, hP⟩ := hP
              obtain ⟨y121, hP⟩ := hP
              obtain ⟨y122, hP⟩ := hP
              obtain ⟨y123, hP⟩ := hP
              obtain ⟨y124, hP⟩ := hP
              obtain ⟨y125, hP⟩ := hP
              obtain ⟨y126, hP⟩ := hP
              obtain ⟨y127, hP⟩ := hP
              obtain ⟨y128, hP⟩ := hP
              obtain ⟨y129, hP⟩ := hP
              obtain ⟨y130, hP⟩ := hP
              obtain ⟨y131, hP⟩ := hP
              obtain ⟨y132, hP⟩ := hP
              obtain ⟨y133, hP⟩ := hP
              obtain ⟨y134, hP⟩ := hP
              obtain ⟨y135, hP⟩ := hP
              obtain ⟨y136, hP⟩ := hP
              obtain ⟨y137, hP⟩ := hP
              obtain ⟨y138, hP⟩ := hP
              obtain ⟨y139, hP⟩ := hP
              obtain ⟨y140, hP⟩ := hP
              obtain ⟨y141, hP⟩ := hP
              obtain ⟨y142, hP⟩ := hP
              obtain ⟨y143, hP⟩ := hP
              obtain ⟨y144, hP⟩ := hP
              obtain ⟨y145, hP⟩ := hP
              obtain ⟨y146, hP⟩ := hP
              obtain ⟨y147, hP⟩ := hP
              obtain ⟨y148, hP⟩ := hP
              obtain ⟨y149, hP⟩ := hP
              obtain ⟨y150, hP⟩ := hP
              obtain ⟨y151, hP⟩ := hP
              obtain ⟨y152, hP⟩ := hP
              obtain ⟨y153, hP⟩ := hP
              obtain ⟨y154, hP⟩ := hP
              obtain ⟨y155, hP⟩ := hP
              obtain ⟨y156, hP⟩ := hP
              obtain ⟨y157, hP⟩ := hP
              obtain ⟨y158, hP⟩ := hP
              obtain ⟨y159, hP⟩ := hP
              obtain ⟨y160, hP⟩ := hP
              obtain ⟨y161, hP⟩ := hP
              obtain ⟨y162, hP⟩ := hP
              obtain ⟨y163, hP⟩ := hP
              obtain ⟨y164, hP⟩ := hP
              obtain ⟨y165, hP⟩ := hP
              obtain ⟨y166, hP⟩ := hP
              obtain ⟨y167, hP⟩ := hP
              obtain ⟨y168, hP⟩ := hP
              obtain ⟨y169, hP⟩ := hP
              obtain ⟨y170, hP⟩ := hP
              obtain ⟨y171, hP⟩ := hP
              obtain ⟨y172, hP⟩ := hP
              obtain ⟨y173, hP⟩ := hP
              obtain ⟨y174, hP⟩ := hP
              obtain ⟨y175, hP⟩ := hP
              obtain ⟨y176, hP⟩ := hP
              obtain ⟨y177, hP⟩ := hP
              obtain ⟨y178, hP⟩ := hP
              obtain ⟨y179, hP⟩ := hP
              obtain ⟨y180, hP⟩ := hP
              obtain ⟨y181, hP⟩ := hP
              obtain ⟨y182, hP⟩ := hP
              obtain ⟨y183, hP⟩ := hP
              obtain ⟨y184, hP⟩ := hP
              obtain ⟨y185, hP⟩ := hP
              obtain ⟨y186, hP⟩ := hP
              obtain ⟨y187, hP⟩ := hP
              obtain ⟨y188, hP⟩ := hP
              obtain ⟨y189, hP⟩ := hP
              obtain ⟨y190, hP⟩ := hP
              obtain ⟨y191, hP⟩ := hP
              obtain ⟨y192, hP⟩ := hP
              obtain ⟨y193, hP⟩ := hP
              obtain ⟨y194, hP⟩ := hP
              obtain ⟨y195, hP⟩ := hP
              obtain ⟨y196, hP⟩ := hP
              obtain ⟨y197, hP⟩ := hP
              obtain ⟨y198, hP⟩ := hP
              obtain ⟨y199, hP⟩ := hP
              obtain ⟨y200, hP⟩ := hP
              obtain ⟨y201, hP⟩ := hP
              obtain ⟨y202, hP⟩ := hP
              obtain ⟨y203, hP⟩ := hP
              obtain ⟨y204, hP⟩ := hP
              obtain ⟨y205, hP⟩ := hP
              obtain ⟨y206, hP⟩ := hP
              obtain ⟨y207, hP⟩ := hP
              obtain ⟨y208, hP⟩ := hP
              obtain ⟨y209, hP⟩ := hP
              obtain ⟨y210, hP⟩ := hP
              obtain ⟨y211, hP⟩ := hP
              obtain ⟨y212, hP⟩ := hP
              obtain ⟨y213, hP⟩ := hP
              obtain ⟨rfl, M2, L2, hL2, f⟩ := hP
              have F2 := hide f
              clear f FA
              go_wp2_with fail
              go_roundw
              case rel => exact ⟨M2, L2, kk - 1, by go_num, by omega, F2.out⟩
              case measure => simp [intOf]; omega
    · obtain rfl : kk = 0 := by omega
      go_upto_region 39 with fail
      exact lastDir w wr a0 cap0 cs M L ca cc la lc H.out.1 H.out.2.1 H.out.2.2 hsm hkk F4.out _ _ _ _ _ _ _ _ _ _ _ _ _ _ _ _ _ _ _ _ _ _ _ _ _ _ _ _ _ _ _ _ _ _ _ _ _ _ _ _ _ _ _ _ _ _ _ _ _ _ _ _ _ _ _ _ _ _ _ _ _ _ _ _ _ _ _ _ _ _ _ _ _ _ _ _ _ _ _ _ _ _ _ _ _ _ _ _ _ _ _ _ _ _ _ _ _ _ _ _ _ _ _ _ _ _ _ _ _ _ _ _ _ _ _ _ _ _ _ _ _ _ _ _ _ _ _ _ _ _ _ _ _ _ _ _ _ _ _ _ _ _ _ _ _ _ _ _ _ _ _ _ _ _ _ _ _ _ _ _ _ _ _ _ _ _ _ _ _ _ _ _ _ _ _ _ _ _ _ _ _ _ _ _ _ _ _ _ _ _ _ _ _ _ _ _ _ _ _ _ _ _ _ _ _ _ _ _ _ _ _ _ _ _ _ _ _ _ _ _ _ _ _ _ _ _ _ _ _ _ _ _ _ _ _ _ _ _ _ _ _ _ _ _ _ _ _ _ _ _ _ _ _ _ _ _ _ _ _ _ _ _ _ (by assumption)
end Go.Proofs.YtcciaojdceejcaaDoor
