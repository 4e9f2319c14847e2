/- Two owned rows that lie apart. The law on EncodeRoot, walked: it answers true and turns nothing that was there. The program lays a root record down (layFsinfo), EncodeFsinfo of the program; a copy of a root record (toFsinfo). Bytes that are a root record, read by the program and by the model: the same. -/
import Derived.Test.YtfpfhmnmcjnmaaaDoorBase
import Derived.Test.YtfpfhmnmcjnmaaaDoorRootI
import Derived.Test.YtfpfhmnmcjnmaaaDoorFsA
import Derived.Test.YtfpfhmnmcjnmaaaDoorKfD
import Derived.Test.YtfpfhmnmcjnmaaaDoorKfC
namespace Go.Proofs.YtfpfhmnmcjnmaaaDoor
open Go.RowKit

/-- Two owned rows, one below block m, one from m on. -/
theorem apart {v x : Value} (m : Nat) (h1 : ∀ k, v.ownBlock = some k → m ≤ k) (h2 : ∀ k, x.ownBlock = some k → k < m) : v.ownBlock = none ∨ v.ownBlock ≠ x.ownBlock := by
  cases hv : v.ownBlock with
  | none => exact .inl rfl
  | some k =>
    refine .inr fun h => ?_
    have a := h1 k hv
    have b := h2 k h.symm
    omega
theorem apart' {v x : Value} (m : Nat) (h1 : ∀ k, v.ownBlock = some k → k < m) (h2 : ∀ k, x.ownBlock = some k → m ≤ k) : v.ownBlock = none ∨ v.ownBlock ≠ x.ownBlock := by
  cases hv : v.ownBlock with
  | none => exact .inl rfl
  | some k =>
    refine .inr fun h => ?_
    have a := h1 k hv
    have b := h2 k h.symm
    omega
/-- Two rows of different calls. -/
theorem apart2 {v x : Value} {l1 h1 l2 h2 : Nat} (a : ∀ k, v.ownBlock = some k → l1 ≤ k ∧ k < h1) (b : ∀ k, x.ownBlock = some k → l2 ≤ k ∧ k < h2) (h : h1 ≤ l2 ∨ h2 ≤ l1) : v.ownBlock = none ∨ v.ownBlock ≠ x.ownBlock := by
  cases hv : v.ownBlock with
  | none => exact .inl rfl
  | some k =>
    refine .inr fun e => ?_
    have p := a k hv
    have q := b k e.symm
    omega
end Go.Proofs.YtfpfhmnmcjnmaaaDoor

namespace Go.Proofs.YtfpfhmnmcjnmaaaDoor
set_option linter.unusedVariables false
set_option linter.unusedSimpArgs false
open Go.RowKit


set_option maxRecDepth 100000 in
set_option maxHeartbeats 2000000 in
theorem lawEncR (s : Int) (ds : List Int) (p q : Int) (w : World) (hd : ds.length = 12) (hg : ErrT w) :
    Calls Tryd.prog 4 #[.agg (cellsI (rootI s ds p q))] w fun e w' => e = .returned (.bool true) ∧ Below w.heap.size w w' := by
  have HD := hide hd
  have HZ := hide (show (cellsI (rootI s ds p q)).size = 15 from by rw [cellsI_size]; exact rootI_len s ds p q HD.out)
  have hel := encR_len s ds p q hd
  have hcc : (codeR s ds p q != codeR s ds p q) = false := by simp
  have B0 := hide (show Below w.heap.size w (w.alloc (.cells (cellsI (rootI s ds p q)) 34)) from (Below.refl _ _).alloc (Nat.le_refl _) _)
  have HE := hide hg
  have K0 := hide (Blk.new w (cellsI (rootI s ds p q)) 34)
  clear hd hg
  go_enter Tryd.func4, Tryd.ntmps4
  go_wp2_with (first | (refine wpList_load_row rfl 34 _ rfl w.heap.size rfl 34 (cellsI (rootI s ds p q)) (0, 0) _ K0.out Tryd.underlying34 rfl (by rw [HZ.out]; exact infoL15) ?_) | (go_at_call 21; fail))
  refine (toRoot_any s ds p q _ HD.out).mono ?_
  rintro e w1 ⟨rfl, b1⟩
  have B1 := hide (B0.out.trans (b1.mono B0.out.size))
  have K1 := hide (K0.out.below b1 K0.out.lt)
  clear b1
  go_wp2_with fail
  refine (specR_any s ds p q _ HD.out).mono ?_
  rintro e w2 ⟨v2, rfl, o2, b2⟩
  have O2 := hide o2
  have B2 := hide (B1.out.trans (b2.mono B1.out.size))
  have K2 := hide (K1.out.below b2 K1.out.lt)
  clear o2 b2 K1 B1 K0 B0
  go_wp2_with (first | (refine wpList_load_row rfl 34 _ rfl w.heap.size rfl 34 (cellsI (rootI s ds p q)) (0, 0) _ K2.out Tryd.underlying34 rfl (by rw [HZ.out]; exact infoL15) ?_) | (go_at_call 21; fail))
  refine (toRoot_any s ds p q _ HD.out).mono ?_
  rintro e w3 ⟨rfl, b3⟩
  have B3 := hide (B2.out.trans (b3.mono B2.out.size))
  have K3 := hide (K2.out.below b3 K2.out.lt)
  have O3 := hide (own_below O2.out b3)
  have L2 := hide (fun k hk => (O3.out.lt k hk).2)
  clear b3 O2 K2 B2
  go_wp2_with fail
  refine (implR_any s ds p q _ HD.out (HE.out.below B3.out)).mono ?_
  rintro e w4 ⟨g0, rfl, o4, b4⟩
  have G4 := hide o4
  have O4 := hide (own_below O3.out b4)
  have B4 := hide (B3.out.trans (b4.mono B3.out.size))
  have K4 := hide (K3.out.below b4 K3.out.lt)
  have l34 := hide (K3.out.lt)
  clear o4 b4 O3 K3
  go_wp2_with fail
  refine (eqByteS_same g0 v2 (encR s ds p q) _ (Rd.own G4.out) (Rd.own O4.out)).mono ?_
  rintro e w5 ⟨rfl, b5⟩
  have G5 := hide (own_below G4.out b5)
  have O5 := hide (own_below O4.out b5)
  have B5 := hide (B4.out.trans (b5.mono B4.out.size))
  have K5 := hide (K4.out.below b5 K4.out.lt)
  clear b5 G4 O4 B4 K4
  go_wp2_with fail
  refine (markByteS_any g0 w3.heap.size (encR s ds p q).length 1 _ _ G5.out (by omega) (by omega)).mono ?_
  rintro e w6 ⟨rfl, o6, g6⟩
  have G6 := hide o6
  have O6 := hide (O5.out.kept g6 (apart' w3.heap.size L2.out (fun k hk => (G5.out.lt k hk).1)))
  have B6 := hide (B5.out.grown g6 B5.out.size (fun k hk => Nat.le_trans B3.out.size (G5.out.lt k hk).1))
  have K6 := hide (show Blk w6 w.heap.size (cellsI (rootI s ds p q)) 34 from (g6.block _ K5.out.lt (fun e => by have h1 := (G5.out.lt _ e.symm).1; have h2 := l34.out; omega)).trans K5.out)
  clear o6 g6 G5 O5 B5 K5
  go_wp2_with fail
  refine (heldByteS_any g0 (encR s ds p q).length 1 _ (Rd.own G6.out) (by omega) (by omega)).mono ?_
  rintro e wq ⟨rfl, hwq⟩
  rw [hwq]
  clear hwq
  go_wp2_with (first | (refine wpList_load_row rfl 34 _ rfl w.heap.size rfl 34 (cellsI (rootI s ds p q)) (0, 0) _ K6.out Tryd.underlying34 rfl (by rw [HZ.out]; exact infoL15) ?_) | (go_at_call 21; fail))
  refine (toRoot_any s ds p q _ HD.out).mono ?_
  rintro e w7 ⟨rfl, b7⟩
  have B7 := hide (B6.out.trans (b7.mono B6.out.size))
  have G7 := hide (own_below G6.out b7)
  have O7 := hide (own_below O6.out b7)
  clear b7 G6 O6 B6 K6
  go_wp2_with fail
  refine (implR_any s ds p q _ HD.out (HE.out.below B7.out)).mono ?_
  rintro e w8 ⟨h0, rfl, o8, b8⟩
  have H8 := hide (Rd.own o8)
  have G8 := hide (own_below G7.out b8)
  have O8 := hide (own_below O7.out b8)
  have B8 := hide (B7.out.trans (b8.mono B7.out.size))
  clear o8 b8 G7 O7 B7
  go_wp2_with fail
  refine (eqByteS_same h0 v2 (encR s ds p q) _ H8.out (Rd.own O8.out)).mono ?_
  rintro e w9 ⟨rfl, b9⟩
  have G9 := hide (own_below G8.out b9)
  have B9 := hide (B8.out.trans (b9.mono B8.out.size))
  clear b9 G8 O8 B8 H8
  go_wp2_with fail
  refine (heldByteS_any g0 (encR s ds p q).length 1 _ (Rd.own G9.out) (by omega) (by omega)).mono ?_
  rintro e wq ⟨rfl, hwq⟩
  rw [hwq]
  clear hwq
  go_wp2
  go_ret
  exact ⟨rfl, B9.out⟩

theorem root_of_list (rs : List Int) (h : rs.length = 15) : ∃ s ds p q, ds.length = 12 ∧ rs = rootI s ds p q := by
  match rs, h with
  | [s, d0, d1, d2, d3, d4, d5, d6, d7, d8, d9, d10, d11, p, q], _ => exact ⟨s, [d0, d1, d2, d3, d4, d5, d6, d7, d8, d9, d10, d11], p, q, rfl, rfl⟩
end Go.Proofs.YtfpfhmnmcjnmaaaDoor

namespace Go.Proofs.YtfpfhmnmcjnmaaaDoor
set_option linter.unusedVariables false
set_option linter.unusedSimpArgs false
open Go.RowKit

/-- The letters of a root record, where the program's own start lays them. -/
def fsLet : List Int := [114, 111, 111, 116, 114, 101, 99, 49]
def LetF (w : World) : Prop := w.rangeAt 1 0 (fsLet.map (Value.int .u8))
theorem LetF.below {w w' : World} (h : LetF w) (hb : Below w.heap.size w w') : LetF w' := fun j v hv => by
  have h1 := h j v hv
  exact (hb.cell (p := ⟨1, 0 + j, none⟩) (cell_lt h1)).trans h1
/-- The bytes of a root record ahead of its sum. -/
def headF (gen bl cu ck op ev lg : Nat) (s1 : Int) (ds1 : List Int) (p1 q1 s2 : Int) (ds2 : List Int) (p2 q2 : Int) : List Int := fsLet ++ le 8 gen ++ le 4 bl ++ le 4 cu ++ le 8 ck ++ le 8 op ++ le 4 ev ++ le 4 lg ++ bytesR s1 ds1 p1 q1 ++ bytesR s2 ds2 p2 q2
def bytesF (gen bl cu ck op ev lg : Nat) (s1 : Int) (ds1 : List Int) (p1 q1 s2 : Int) (ds2 : List Int) (p2 q2 : Int) (sn : List Int) : List Int := headF gen bl cu ck op ev lg s1 ds1 p1 q1 s2 ds2 p2 q2 ++ bytesW sn
theorem headF_len (gen bl cu ck op ev lg : Nat) (s1 : Int) (ds1 : List Int) (p1 q1 s2 : Int) (ds2 : List Int) (p2 q2 : Int) (h1 : ds1.length = 12) (h2 : ds2.length = 12) : (headF gen bl cu ck op ev lg s1 ds1 p1 q1 s2 ds2 p2 q2).length = 176 := by
  unfold headF
  simp only [List.length_append, le_len, bytesR_len s1 ds1 p1 q1 h1, bytesR_len s2 ds2 p2 q2 h2, fsLet, List.length_cons, List.length_nil]
theorem bytesF_len (gen bl cu ck op ev lg : Nat) (s1 : Int) (ds1 : List Int) (p1 q1 s2 : Int) (ds2 : List Int) (p2 q2 : Int) (sn : List Int) (h1 : ds1.length = 12) (h2 : ds2.length = 12) (h3 : sn.length = 31) : (bytesF gen bl cu ck op ev lg s1 ds1 p1 q1 s2 ds2 p2 q2 sn).length = 300 := by
  unfold bytesF
  rw [List.length_append, headF_len _ _ _ _ _ _ _ _ _ _ _ _ _ _ _ h1 h2, bytesW_len, h3]

set_option maxRecDepth 100000 in
set_option maxHeartbeats 2000000 in
theorem layFs_any (gen bl cu ck op ev lg : Nat) (s1 : Int) (ds1 : List Int) (p1 q1 s2 : Int) (ds2 : List Int) (p2 q2 : Int) (sn : List Int) (w : World) (hd1 : ds1.length = 12) (hd2 : ds2.length = 12) (hsn : sn.length = 31) (a0 : gen < 281474976710656) (a1 : bl < 2049) (a2 : cu < 2049) (a3 : ck < 281474976710656) (a4 : op < 281474976710656) (a5 : ev < 2049) (a6 : lg < 65537) (hs1 : 0 ≤ s1 ∧ s1 ≤ 262144) (hp1 : ∀ z ∈ ds1 ++ [p1, q1], 0 ≤ z ∧ z < 2048) (hs2 : 0 ≤ s2 ∧ s2 ≤ 262144) (hp2 : ∀ z ∈ ds2 ++ [p2, q2], 0 ≤ z ∧ z < 2048) (hps : ∀ z ∈ sn, 0 ≤ z ∧ z < 2048) (hbb : ∀ z ∈ bytesF gen bl cu ck op ev lg s1 ds1 p1 q1 s2 ds2 p2 q2 sn, 0 ≤ z ∧ z < 256) (hL : LetF w) :
    Calls Tryd.prog 76 #[.agg (cellsI (fsI (gen : Int) (bl : Int) (cu : Int) (ck : Int) (op : Int) (ev : Int) (lg : Int) s1 ds1 p1 q1 s2 ds2 p2 q2 sn))] w fun e w' => ∃ v', e = .returned v' ∧ w'.ownsRow w.heap.size 5 1 v' 512 ((sealed (bytesF gen bl cu ck op ev lg s1 ds1 p1 q1 s2 ds2 p2 q2 sn)).map (Value.int .u8)) ∧ Below w.heap.size w w' := by
  have HD := hide (And.intro hd1 (And.intro hd2 hsn))
  have HS1 := hide (And.intro hs1 hp1)
  have HS2 := hide (And.intro hs2 hp2)
  have HP := hide hps
  have HBB := hide hbb
  have HBL := hide (bytesF_len gen bl cu ck op ev lg s1 ds1 p1 q1 s2 ds2 p2 q2 sn hd1 hd2 hsn)
  have HLen1 := hide (show (cellsI (rootI s1 ds1 p1 q1)).size = 15 from by rw [cellsI_size]; exact rootI_len _ _ _ _ HD.out.1)
  have HLen2 := hide (show (cellsI (rootI s2 ds2 p2 q2)).size = 15 from by rw [cellsI_size]; exact rootI_len _ _ _ _ HD.out.2.1)
  have HX := hide (fun k hk w => index31 sn k HD.out.2.2 hk w)
  have hb0 : Below w.heap.size w (w.alloc (.cells (cellsI (fsI (gen : Int) (bl : Int) (cu : Int) (ck : Int) (op : Int) (ev : Int) (lg : Int) s1 ds1 p1 q1 s2 ds2 p2 q2 sn)) 59)) := (Below.refl _ _).alloc (Nat.le_refl _) _
  have K0 := hide (And.intro (Blk.new w (cellsI (fsI (gen : Int) (bl : Int) (cu : Int) (ck : Int) (op : Int) (ev : Int) (lg : Int) s1 ds1 p1 q1 s2 ds2 p2 q2 sn)) 59) (And.intro hb0 (hL.below hb0)))
  clear hd1 hd2 hsn hs1 hs2 hp1 hp2 hps hbb hb0 hL
  go_enter Tryd.func76, Tryd.ntmps76
  go_wp2_with (first | (refine wpList_load_mid rfl 121 _ rfl 1 0 rfl (fsLet.map (Value.int .u8)) _ K0.out.2.2 Tryd.underlying121 rfl info8 ?_) | (go_at_call 109; fail))
  refine (layLetters_any 114 111 111 116 114 101 99 49 _).mono ?_
  rintro e w1 ⟨rfl, o1, b1⟩
  rw [World.size_alloc] at o1 ⊢
  have L1 := hide (show Ls w w1 (w.heap.size + 1 + 1) 8 fsLet (cellsI (fsI (gen : Int) (bl : Int) (cu : Int) (ck : Int) (op : Int) (ev : Int) (lg : Int) s1 ds1 p1 q1 s2 ds2 p2 q2 sn)) 59 from ⟨own_mono o1 (by omega), K0.out.1.below b1 K0.out.1.lt, K0.out.2.1.trans (b1.mono K0.out.2.1.size), by omega⟩)
  clear o1 b1 K0
  have c := (L1.out.blk.cell 0).trans (show (cellsI (fsI (gen : Int) (bl : Int) (cu : Int) (ck : Int) (op : Int) (ev : Int) (lg : Int) s1 ds1 p1 q1 s2 ds2 p2 q2 sn))[0]? = some (.int .i64 (gen : Int)) from rfl)
  go_wp2_with (go_at_call 95; fail)
  refine (lay64_any (w.heap.size + 1 + 1) w.heap.size 8 512 gen _ _ L1.out.own (by omega) (by omega) (by omega)).mono ?_
  rintro e w2 ⟨rfl, o, g⟩
  have L2 := hide (L1.out.step o g)
  clear o g L1 c
  have c := (L2.out.blk.cell 1).trans (show (cellsI (fsI (gen : Int) (bl : Int) (cu : Int) (ck : Int) (op : Int) (ev : Int) (lg : Int) s1 ds1 p1 q1 s2 ds2 p2 q2 sn))[1]? = some (.int .i64 (bl : Int)) from rfl)
  go_wp2_with (go_at_call 50; fail)
  refine (lay32_any (w.heap.size + 1 + 1) w.heap.size 16 512 bl _ _ L2.out.own (by omega) (by omega) (by omega)).mono ?_
  rintro e w3 ⟨rfl, o, g⟩
  have L3 := hide (L2.out.step o g)
  clear o g L2 c
  have c := (L3.out.blk.cell 2).trans (show (cellsI (fsI (gen : Int) (bl : Int) (cu : Int) (ck : Int) (op : Int) (ev : Int) (lg : Int) s1 ds1 p1 q1 s2 ds2 p2 q2 sn))[2]? = some (.int .i64 (cu : Int)) from rfl)
  go_wp2_with (go_at_call 50; fail)
  refine (lay32_any (w.heap.size + 1 + 1) w.heap.size 20 512 cu _ _ L3.out.own (by omega) (by omega) (by omega)).mono ?_
  rintro e w4 ⟨rfl, o, g⟩
  have L4 := hide (L3.out.step o g)
  clear o g L3 c
  have c := (L4.out.blk.cell 3).trans (show (cellsI (fsI (gen : Int) (bl : Int) (cu : Int) (ck : Int) (op : Int) (ev : Int) (lg : Int) s1 ds1 p1 q1 s2 ds2 p2 q2 sn))[3]? = some (.int .i64 (ck : Int)) from rfl)
  go_wp2_with (go_at_call 95; fail)
  refine (lay64_any (w.heap.size + 1 + 1) w.heap.size 24 512 ck _ _ L4.out.own (by omega) (by omega) (by omega)).mono ?_
  rintro e w5 ⟨rfl, o, g⟩
  have L5 := hide (L4.out.step o g)
  clear o g L4 c
  have c := (L5.out.blk.cell 4).trans (show (cellsI (fsI (gen : Int) (bl : Int) (cu : Int) (ck : Int) (op : Int) (ev : Int) (lg : Int) s1 ds1 p1 q1 s2 ds2 p2 q2 sn))[4]? = some (.int .i64 (op : Int)) from rfl)
  go_wp2_with (go_at_call 95; fail)
  refine (lay64_any (w.heap.size + 1 + 1) w.heap.size 32 512 op _ _ L5.out.own (by omega) (by omega) (by omega)).mono ?_
  rintro e w6 ⟨rfl, o, g⟩
  have L6 := hide (L5.out.step o g)
  clear o g L5 c
  have c := (L6.out.blk.cell 5).trans (show (cellsI (fsI (gen : Int) (bl : Int) (cu : Int) (ck : Int) (op : Int) (ev : Int) (lg : Int) s1 ds1 p1 q1 s2 ds2 p2 q2 sn))[5]? = some (.int .i64 (ev : Int)) from rfl)
  go_wp2_with (go_at_call 50; fail)
  refine (lay32_any (w.heap.size + 1 + 1) w.heap.size 40 512 ev _ _ L6.out.own (by omega) (by omega) (by omega)).mono ?_
  rintro e w7 ⟨rfl, o, g⟩
  have L7 := hide (L6.out.step o g)
  clear o g L6 c
  have c := (L7.out.blk.cell 6).trans (show (cellsI (fsI (gen : Int) (bl : Int) (cu : Int) (ck : Int) (op : Int) (ev : Int) (lg : Int) s1 ds1 p1 q1 s2 ds2 p2 q2 sn))[6]? = some (.int .i64 (lg : Int)) from rfl)
  go_wp2_with (go_at_call 50; fail)
  refine (lay32_any (w.heap.size + 1 + 1) w.heap.size 44 512 lg _ _ L7.out.own (by omega) (by omega) (by omega)).mono ?_
  rintro e w8 ⟨rfl, o, g⟩
  have L8 := hide (L7.out.step o g)
  clear o g L7 c
  have HR := hide (fs_range1 (gen : Int) (bl : Int) (cu : Int) (ck : Int) (op : Int) (ev : Int) (lg : Int) s1 ds1 p1 q1 s2 ds2 p2 q2 sn HD.out.1 L8.out.blk)
  go_wp2_with (first | (refine wpList_load_mid rfl 36 _ rfl w.heap.size 7 rfl ((rootI s1 ds1 p1 q1).map (Value.int .i64)) _ HR.out Tryd.underlying36 rfl (by rw [List.length_map, ← cellsI_size, HLen1.out]; exact info15) ?_) | (go_at_call 56; fail))
  refine (layRoot_any (w.heap.size + 1 + 1) w.heap.size 48 512 _ s1 ds1 p1 q1 _ L8.out.own (by omega) (by omega) HD.out.1 HS1.out.1 HS1.out.2).mono ?_
  rintro e w9 ⟨rfl, o, g⟩
  have L9 := hide (L8.out.step o g)
  clear o g L8 HR
  have HR := hide (fs_range2 (gen : Int) (bl : Int) (cu : Int) (ck : Int) (op : Int) (ev : Int) (lg : Int) s1 ds1 p1 q1 s2 ds2 p2 q2 sn HD.out.1 HD.out.2.1 L9.out.blk)
  go_wp2_with (first | (refine wpList_load_mid rfl 36 _ rfl w.heap.size 22 rfl ((rootI s2 ds2 p2 q2).map (Value.int .i64)) _ HR.out Tryd.underlying36 rfl (by rw [List.length_map, ← cellsI_size, HLen2.out]; exact info15) ?_) | (go_at_call 56; fail))
  refine (layRoot_any (w.heap.size + 1 + 1) w.heap.size 112 512 _ s2 ds2 p2 q2 _ L9.out.own (by omega) (by omega) HD.out.2.1 HS2.out.1 HS2.out.2).mono ?_
  rintro e w10 ⟨rfl, o, g⟩
  have L10 := hide (L9.out.step o g)
  clear o g L9 HR
  have LH := hide (show Ls w w10 (w.heap.size + 1 + 1) 176 (headF gen bl cu ck op ev lg s1 ds1 p1 q1 s2 ds2 p2 q2) (cellsI (fsI (gen : Int) (bl : Int) (cu : Int) (ck : Int) (op : Int) (ev : Int) (lg : Int) s1 ds1 p1 q1 s2 ds2 p2 q2 sn)) 59 from L10.out)
  have HBF := hide (show bytesF gen bl cu ck op ev lg s1 ds1 p1 q1 s2 ds2 p2 q2 sn = headF gen bl cu ck op ev lg s1 ds1 p1 q1 s2 ds2 p2 q2 ++ bytesW sn from rfl)
  generalize headF gen bl cu ck op ev lg s1 ds1 p1 q1 s2 ds2 p2 q2 = hf at LH HBF
  obtain ⟨bf, hbf⟩ : ∃ bf, bf = bytesF gen bl cu ck op ev lg s1 ds1 p1 q1 s2 ds2 p2 q2 sn := ⟨_, rfl⟩
  have HBG := hide hbf
  rw [← hbf] at HBF HBL HBB
  clear hbf
  clear L10
  have HR := hide (fs_range3 (gen : Int) (bl : Int) (cu : Int) (ck : Int) (op : Int) (ev : Int) (lg : Int) s1 ds1 p1 q1 s2 ds2 p2 q2 sn HD.out.1 HD.out.2.1 HD.out.2.2 LH.out.blk)
  go_wp2_with (refine wpList_load_mid rfl 54 _ rfl w.heap.size 37 rfl (sn.map (Value.int .i64)) _ HR.out Tryd.underlying54 rfl (by rw [List.length_map, HD.out.2.2]; exact info31) ?_)
  go_loopw [3, 53] (fun o i wr => ∃ j : Nat, j ≤ 31 ∧ i = .int .i64 j ∧ o = .slice (some ⟨w.heap.size + 1 + 1, 0, none⟩) (176 + 4 * j) 512 ∧ Ls w wr (w.heap.size + 1 + 1) (176 + 4 * j) (hf ++ bytesW (sn.take j)) (cellsI (fsI (gen : Int) (bl : Int) (cu : Int) (ck : Int) (op : Int) (ev : Int) (lg : Int) s1 ds1 p1 q1 s2 ds2 p2 q2 sn)) 59) (fun _ i _ => 31 - (intOf i).toNat)
  case atStart => exact ⟨0, by omega, rfl, rfl, by simpa [bytesW] using LH.out⟩
  case round =>
    clear LH HR
    obtain ⟨j, hj, rfl, rfl, hls⟩ := hrel
    have HC := hide hls
    clear hls
    by_cases hlt : j < 31
    · have hjl : j < sn.length := by rw [HD.out.2.2]; exact hlt
      have hix : ∀ w, (Instr.index 54 (.agg (sn.map (Value.int .i64)).toArray) (.int .i64 j)).run Tryd.prog w = .ok (.int .i64 (sn.getD j 0)) w := fun w => HX.out j hlt w
      have hz1 := HP.out (sn.getD j 0) (by simp [List.getD, hjl])
      have HT := hide (bytesW_take sn j hjl)
      clear hjl
      generalize sn.getD j 0 = z at hix HT hz1
      obtain ⟨y, rfl⟩ := Int.eq_ofNat_of_zero_le hz1.1
      obtain ⟨_, hy2⟩ := hz1
      have hy : y < 2048 := by omega
      clear hy2
      rw [Int.toNat_natCast] at HT
      go_wp2_with (go_at_call 50; fail)
      refine (lay32_any (w.heap.size + 1 + 1) w.heap.size (176 + 4 * j) 512 y _ _ HC.out.own (by omega) (by omega) (by omega)).mono ?_
      rintro e w2 ⟨rfl, o2, g2⟩
      have HW := hide (show Ls w w2 (w.heap.size + 1 + 1) (176 + 4 * (j + 1)) (hf ++ bytesW (sn.take (j + 1))) (cellsI (fsI (gen : Int) (bl : Int) (cu : Int) (ck : Int) (op : Int) (ev : Int) (lg : Int) s1 ds1 p1 q1 s2 ds2 p2 q2 sn)) 59 from by
        rw [HT.out, ← List.append_assoc, show 176 + 4 * (j + 1) = 176 + 4 * j + 4 from by omega]
        exact HC.out.step o2 g2)
      clear o2 g2
      go_wp2
      go_roundw
      case rel => exact ⟨j + 1, by omega, by go_num, by rw [show 176 + 4 * (j + 1) = 176 + 4 * j + 4 from by omega], HW.out⟩
      case measure => simp [intOf]; omega
    · have e31 : j = 31 := by omega
      subst e31
      rw [List.take_of_length_le (by rw [HD.out.2.2]; omega), ← HBF.out] at HC
      have LF := hide (show Ls w wr (w.heap.size + 1 + 1) bf.length bf (cellsI (fsI (gen : Int) (bl : Int) (cu : Int) (ck : Int) (op : Int) (ev : Int) (lg : Int) s1 ds1 p1 q1 s2 ds2 p2 q2 sn)) 59 from by rw [HBL.out]; exact HC.out)
      go_wp2_with (go_at_call 110; fail)
      have hS := laySum_any (w.heap.size + 1 + 1) w.heap.size bf _ LF.out.own (by rw [HBL.out]; omega) HBB.out
      rw [HBL.out] at hS
      refine hS.mono ?_
      clear hS
      rintro e w9 ⟨rfl, o9, g9⟩
      have H9 := hide (And.intro o9 (LF.out.old.grown g9 LF.out.old.size (fun k e => by cases e; exact Nat.le_of_lt LF.out.lt)))
      clear o9 g9
      go_wp2
      go_ret
      exact ⟨.slice (some ⟨w.heap.size + 1 + 1, 0, none⟩) 512 512, rfl, by rw [← HBG.out]; exact H9.out.1, H9.out.2⟩

def encFs (gen bl cu ck op ev lg s1 : Int) (ds1 : List Int) (p1 q1 s2 : Int) (ds2 : List Int) (p2 q2 : Int) (sn : List Int) : List Int := if rightF gen bl cu ck op ev lg s1 ds1 p1 q1 s2 ds2 p2 q2 sn = true then sealed (bytesF gen.toNat bl.toNat cu.toNat ck.toNat op.toNat ev.toNat lg.toNat s1 ds1 p1 q1 s2 ds2 p2 q2 sn) else []
def codeFs (gen bl cu ck op ev lg s1 : Int) (ds1 : List Int) (p1 q1 s2 : Int) (ds2 : List Int) (p2 q2 : Int) (sn : List Int) : Int := if rightF gen bl cu ck op ev lg s1 ds1 p1 q1 s2 ds2 p2 q2 sn = true then 0 else 7
theorem bytesR_bd (s : Int) (ds : List Int) (p q : Int) : ∀ z ∈ bytesR s ds p q, 0 ≤ z ∧ z < 256 := by
  intro z h
  unfold bytesR bytesW at h
  rw [List.mem_append] at h
  rcases h with h | h
  · exact le_few _ _ z h
  · obtain ⟨v, _, hv⟩ := List.mem_flatMap.1 h
    exact le_few _ _ z hv
theorem bytesF_bd (gen bl cu ck op ev lg : Nat) (s1 : Int) (ds1 : List Int) (p1 q1 s2 : Int) (ds2 : List Int) (p2 q2 : Int) (sn : List Int) : ∀ z ∈ bytesF gen bl cu ck op ev lg s1 ds1 p1 q1 s2 ds2 p2 q2 sn, 0 ≤ z ∧ z < 256 := by
  intro z h
  unfold bytesF headF at h
  simp only [List.mem_append] at h
  rcases h with (((((((((h | h) | h) | h) | h) | h) | h) | h) | h) | h) | h
  · simp only [fsLet, List.mem_cons, List.not_mem_nil, or_false] at h
    omega
  · exact le_few _ _ z h
  · exact le_few _ _ z h
  · exact le_few _ _ z h
  · exact le_few _ _ z h
  · exact le_few _ _ z h
  · exact le_few _ _ z h
  · exact le_few _ _ z h
  · exact bytesR_bd _ _ _ _ z h
  · exact bytesR_bd _ _ _ _ z h
  · unfold bytesW at h
    obtain ⟨v, _, hv⟩ := List.mem_flatMap.1 h
    exact le_few _ _ z hv
/-- What a right root record holds. -/
structure FsBd (gen bl cu ck op ev lg s1 : Int) (ds1 : List Int) (p1 q1 s2 : Int) (ds2 : List Int) (p2 q2 : Int) (sn : List Int) : Prop where
  g0 : 0 ≤ gen ∧ gen < 281474976710656
  g1 : 0 ≤ bl ∧ bl < 2049
  g2 : 0 ≤ cu ∧ cu < 2049
  g3 : 0 ≤ ck ∧ ck < 281474976710656
  g4 : 0 ≤ op ∧ op < 281474976710656
  g5 : 0 ≤ ev ∧ ev < 2049
  g6 : 0 ≤ lg ∧ lg < 65537
  r1 : 0 ≤ s1 ∧ s1 ≤ 262144
  q1 : ∀ z ∈ ds1 ++ [p1, q1], 0 ≤ z ∧ z < 2048
  r2 : 0 ≤ s2 ∧ s2 ≤ 262144
  q2 : ∀ z ∈ ds2 ++ [p2, q2], 0 ≤ z ∧ z < 2048
  sn : ∀ z ∈ sn, 0 ≤ z ∧ z < 2048
theorem fs_bd (gen bl cu ck op ev lg s1 : Int) (ds1 : List Int) (p1 q1 s2 : Int) (ds2 : List Int) (p2 q2 : Int) (sn : List Int) (hd1 : ds1.length = 12) (hd2 : ds2.length = 12) (h : rightF gen bl cu ck op ev lg s1 ds1 p1 q1 s2 ds2 p2 q2 sn = true) : FsBd gen bl cu ck op ev lg s1 ds1 p1 q1 s2 ds2 p2 q2 sn := by
  unfold rightF at h
  simp only [Bool.and_eq_true, decide_eq_true_eq] at h
  obtain ⟨⟨⟨⟨⟨⟨⟨⟨⟨⟨⟨⟨h1, h2⟩, h3⟩, h4⟩, h5⟩, h6⟩, h7⟩, h8, _⟩, _⟩, h10⟩, _⟩, _⟩, h13⟩ := h
  have g1 := wi_true h1
  have g2 := wi_true h2
  have g3 := wi_true h3
  have g4 := wi_true h4
  have g6 := wi_true h6
  have e1 := right_bd hd1 h8
  have e2 := right_bd hd2 h10
  have g7 : lg = 0 ∨ (8192 ≤ lg ∧ lg ≤ 65536) := by unfold logB at h7; simpa using h7
  refine ⟨by omega, by omega, by omega, by omega, by omega, by omega, by omega, e1.1, e1.2, e2.1, e2.2, fun z hz => ?_⟩
  unfold snB at h13
  have := List.all_eq_true.1 h13 z hz
  unfold ptrB at this
  simp at this
  omega

set_option maxRecDepth 100000 in
set_option maxHeartbeats 1000000 in
theorem implFs_false (gen bl cu ck op ev lg s1 : Int) (ds1 : List Int) (p1 q1 s2 : Int) (ds2 : List Int) (p2 q2 : Int) (sn : List Int) (w : World) (hd1 : ds1.length = 12) (hd2 : ds2.length = 12) (hsn : sn.length = 31) (hr : rightF gen bl cu ck op ev lg s1 ds1 p1 q1 s2 ds2 p2 q2 sn = false) (hg : ErrT w) :
    Calls Tryd.prog 35 #[.agg (cellsI (fsI gen bl cu ck op ev lg s1 ds1 p1 q1 s2 ds2 p2 q2 sn))] w fun e w' => e = .returned (.tuple #[.slice none 0 0, .int .i64 7]) ∧ Below w.heap.size w w' := by
  have HR := hide hr
  have HE := hide hg
  have HZ := hide (show (cellsI (fsI gen bl cu ck op ev lg s1 ds1 p1 q1 s2 ds2 p2 q2 sn)).size = 68 from by rw [cellsI_size]; exact fsI_len _ _ _ _ _ _ _ _ _ _ _ _ _ _ _ _ hd1 hd2 hsn)
  have HC := hide (fun w => fsFault_any gen bl cu ck op ev lg s1 ds1 p1 q1 s2 ds2 p2 q2 sn 7 w hd1 hd2 hsn)
  have K0 := hide (And.intro (Blk.new w (cellsI (fsI gen bl cu ck op ev lg s1 ds1 p1 q1 s2 ds2 p2 q2 sn)) 59) (show Below w.heap.size w (w.alloc (.cells (cellsI (fsI gen bl cu ck op ev lg s1 ds1 p1 q1 s2 ds2 p2 q2 sn)) 59)) from (Below.refl _ _).alloc (Nat.le_refl _) _))
  clear hd1 hd2 hsn hr hg
  go_enter Tryd.func35, Tryd.ntmps35
  go_wp2_with (first | (refine wpList_load_row rfl 59 _ rfl w.heap.size rfl 59 (cellsI (fsI gen bl cu ck op ev lg s1 ds1 p1 q1 s2 ds2 p2 q2 sn)) (0, 0) _ K0.out.1 Tryd.underlying59 rfl (by rw [HZ.out]; exact info68) ?_) | (go_at_call 75; fail))
  refine (HC.out _).mono ?_
  rintro e w1 ⟨ev', rfl, hf, b1⟩
  have B1 := hide (K0.out.2.trans (b1.mono K0.out.2.size))
  clear b1
  rcases hf with ⟨hr, rfl⟩ | ⟨hr, m, hm⟩
  · rw [HR.out] at hr; cases hr
  · obtain ⟨t', x', rfl⟩ := hm.iface
    have H4 := hide hm
    clear hr hm
    go_wp2_with (go_at_call 48; refine (codeOf_any m _ 7 _ _ H4.out (HE.out.below B1.out)).mono ?_; rintro e w2 ⟨rfl, hb2⟩)
    go_ret2
    exact ⟨rfl, B1.out.trans (hb2.mono B1.out.size)⟩

set_option maxRecDepth 100000 in
set_option maxHeartbeats 1000000 in
theorem implFs_true (gen bl cu ck op ev lg : Nat) (s1 : Int) (ds1 : List Int) (p1 q1 s2 : Int) (ds2 : List Int) (p2 q2 : Int) (sn : List Int) (w : World) (hd1 : ds1.length = 12) (hd2 : ds2.length = 12) (hsn : sn.length = 31) (hB : FsBd (gen : Int) (bl : Int) (cu : Int) (ck : Int) (op : Int) (ev : Int) (lg : Int) s1 ds1 p1 q1 s2 ds2 p2 q2 sn) (hr : rightF (gen : Int) (bl : Int) (cu : Int) (ck : Int) (op : Int) (ev : Int) (lg : Int) s1 ds1 p1 q1 s2 ds2 p2 q2 sn = true) (hL : LetF w) :
    Calls Tryd.prog 35 #[.agg (cellsI (fsI (gen : Int) (bl : Int) (cu : Int) (ck : Int) (op : Int) (ev : Int) (lg : Int) s1 ds1 p1 q1 s2 ds2 p2 q2 sn))] w fun e w' => ∃ v', e = .returned (.tuple #[v', .int .i64 0]) ∧ w'.ownsRow w.heap.size 5 1 v' 512 ((sealed (bytesF gen bl cu ck op ev lg s1 ds1 p1 q1 s2 ds2 p2 q2 sn)).map (Value.int .u8)) ∧ Below w.heap.size w w' := by
  have HR := hide hr
  have HL := hide hL
  have HZ := hide (show (cellsI (fsI (gen : Int) (bl : Int) (cu : Int) (ck : Int) (op : Int) (ev : Int) (lg : Int) s1 ds1 p1 q1 s2 ds2 p2 q2 sn)).size = 68 from by rw [cellsI_size]; exact fsI_len _ _ _ _ _ _ _ _ _ _ _ _ _ _ _ _ hd1 hd2 hsn)
  have HF := hide (fun w => fsFault_any (gen : Int) (bl : Int) (cu : Int) (ck : Int) (op : Int) (ev : Int) (lg : Int) s1 ds1 p1 q1 s2 ds2 p2 q2 sn 7 w hd1 hd2 hsn)
  have HC := hide (fun w hL => layFs_any gen bl cu ck op ev lg s1 ds1 p1 q1 s2 ds2 p2 q2 sn w hd1 hd2 hsn (by have := hB.g0; omega) (by have := hB.g1; omega) (by have := hB.g2; omega) (by have := hB.g3; omega) (by have := hB.g4; omega) (by have := hB.g5; omega) (by have := hB.g6; omega) hB.r1 hB.q1 hB.r2 hB.q2 hB.sn (bytesF_bd _ _ _ _ _ _ _ _ _ _ _ _ _ _ _ _) hL)
  have K0 := hide (And.intro (Blk.new w (cellsI (fsI (gen : Int) (bl : Int) (cu : Int) (ck : Int) (op : Int) (ev : Int) (lg : Int) s1 ds1 p1 q1 s2 ds2 p2 q2 sn)) 59) (show Below w.heap.size w (w.alloc (.cells (cellsI (fsI (gen : Int) (bl : Int) (cu : Int) (ck : Int) (op : Int) (ev : Int) (lg : Int) s1 ds1 p1 q1 s2 ds2 p2 q2 sn)) 59)) from (Below.refl _ _).alloc (Nat.le_refl _) _))
  clear hd1 hd2 hsn hr hB hL
  go_enter Tryd.func35, Tryd.ntmps35
  go_wp2_with (first | (refine wpList_load_row rfl 59 _ rfl w.heap.size rfl 59 (cellsI (fsI (gen : Int) (bl : Int) (cu : Int) (ck : Int) (op : Int) (ev : Int) (lg : Int) s1 ds1 p1 q1 s2 ds2 p2 q2 sn)) (0, 0) _ K0.out.1 Tryd.underlying59 rfl (by rw [HZ.out]; exact info68) ?_) | (go_at_call 75; fail))
  refine (HF.out _).mono ?_
  rintro e w1 ⟨ev', rfl, hf, b1⟩
  have K1 := hide (And.intro (K0.out.1.below b1 K0.out.1.lt) (K0.out.2.trans (b1.mono K0.out.2.size)))
  clear b1
  rcases hf with ⟨hr, rfl⟩ | ⟨hr, m, hm⟩
  · clear hr
    go_wp2_with (first | (refine wpList_load_row rfl 59 _ rfl w.heap.size rfl 59 (cellsI (fsI (gen : Int) (bl : Int) (cu : Int) (ck : Int) (op : Int) (ev : Int) (lg : Int) s1 ds1 p1 q1 s2 ds2 p2 q2 sn)) (0, 0) _ K1.out.1 Tryd.underlying59 rfl (by rw [HZ.out]; exact info68) ?_) | (go_at_call 76; fail))
    refine (HC.out _ (HL.out.below K1.out.2)).mono ?_
    rintro e w2 ⟨v2, rfl, o2, b2⟩
    have H2 := hide (And.intro (own_mono o2 K1.out.2.size) (K1.out.2.trans (b2.mono K1.out.2.size)))
    clear o2 b2
    go_wp2
    go_ret2
    exact ⟨_, rfl, H2.out.1, H2.out.2⟩
  · rw [HR.out] at hr; cases hr

theorem encFs_len (gen bl cu ck op ev lg s1 : Int) (ds1 : List Int) (p1 q1 s2 : Int) (ds2 : List Int) (p2 q2 : Int) (sn : List Int) (hd1 : ds1.length = 12) (hd2 : ds2.length = 12) (hsn : sn.length = 31) : (encFs gen bl cu ck op ev lg s1 ds1 p1 q1 s2 ds2 p2 q2 sn).length ≤ 512 := by
  unfold encFs
  split
  · rename_i h
    rw [sealed_len _ (by rw [bytesF_len _ _ _ _ _ _ _ _ _ _ _ _ _ _ _ _ hd1 hd2 hsn]; omega)]
    omega
  · simp
theorem implFs_any (gen bl cu ck op ev lg s1 : Int) (ds1 : List Int) (p1 q1 s2 : Int) (ds2 : List Int) (p2 q2 : Int) (sn : List Int) (w : World) (hd1 : ds1.length = 12) (hd2 : ds2.length = 12) (hsn : sn.length = 31) (hg : ErrT w) (hL : LetF w) :
    Calls Tryd.prog 35 #[.agg (cellsI (fsI gen bl cu ck op ev lg s1 ds1 p1 q1 s2 ds2 p2 q2 sn))] w fun e w' => ∃ v', e = .returned (.tuple #[v', .int .i64 (codeFs gen bl cu ck op ev lg s1 ds1 p1 q1 s2 ds2 p2 q2 sn)]) ∧ w'.ownsRow w.heap.size 5 1 v' (encFs gen bl cu ck op ev lg s1 ds1 p1 q1 s2 ds2 p2 q2 sn).length ((encFs gen bl cu ck op ev lg s1 ds1 p1 q1 s2 ds2 p2 q2 sn).map (Value.int .u8)) ∧ Below w.heap.size w w' := by
  cases hr : rightF gen bl cu ck op ev lg s1 ds1 p1 q1 s2 ds2 p2 q2 sn with
  | false =>
    refine (implFs_false gen bl cu ck op ev lg s1 ds1 p1 q1 s2 ds2 p2 q2 sn w hd1 hd2 hsn hr hg).mono ?_
    rintro e w' ⟨rfl, hb⟩
    refine ⟨_, by unfold codeFs; rw [hr]; rfl, ?_, hb⟩
    unfold encFs
    rw [hr]
    exact World.ownsRow_nil _ _ _ _
  | true =>
    have hB := fs_bd gen bl cu ck op ev lg s1 ds1 p1 q1 s2 ds2 p2 q2 sn hd1 hd2 hr
    obtain ⟨a0, rfl⟩ := Int.eq_ofNat_of_zero_le hB.g0.1
    obtain ⟨a1, rfl⟩ := Int.eq_ofNat_of_zero_le hB.g1.1
    obtain ⟨a2, rfl⟩ := Int.eq_ofNat_of_zero_le hB.g2.1
    obtain ⟨a3, rfl⟩ := Int.eq_ofNat_of_zero_le hB.g3.1
    obtain ⟨a4, rfl⟩ := Int.eq_ofNat_of_zero_le hB.g4.1
    obtain ⟨a5, rfl⟩ := Int.eq_ofNat_of_zero_le hB.g5.1
    obtain ⟨a6, rfl⟩ := Int.eq_ofNat_of_zero_le hB.g6.1
    refine (implFs_true a0 a1 a2 a3 a4 a5 a6 s1 ds1 p1 q1 s2 ds2 p2 q2 sn w hd1 hd2 hsn hB hr hL).mono ?_
    rintro e w' ⟨v', rfl, ho, hb⟩
    refine ⟨v', by unfold codeFs; rw [hr]; rfl, ?_, hb⟩
    unfold encFs
    rw [if_pos hr]
    simp only [Int.toNat_natCast]
    rw [sealed_len _ (by rw [bytesF_len _ _ _ _ _ _ _ _ _ _ _ _ _ _ _ _ hd1 hd2 hsn]; omega)]
    exact ho

set_option maxRecDepth 100000 in
set_option maxHeartbeats 400000 in
theorem toIntA31_any (ds : List Int) (w : World) (hd : ds.length = 31) :
    Calls Tryd.prog 74 #[.agg (cellsI ds)] w fun e w' => e = .returned (.agg (cellsI ds)) ∧ Below w.heap.size w w' := by
  have HD := hide hd
  clear hd
  go_enter Tryd.func74, Tryd.ntmps74
  go_wp2
  go_loopw [4] (fun i wr => ∃ k : Nat, k ≤ 31 ∧ i = .int .i64 k ∧ Blk wr w.heap.size (cellsI ds) 54 ∧ Blk wr (w.heap.size + 1) (cellsI (List.replicate 31 0)) 54 ∧ Blk wr (w.heap.size + 1 + 1) (cellsI (ds.take k ++ List.replicate (31 - k) 0)) 54 ∧ Below w.heap.size w wr) (fun i _ => 31 - (intOf i).toNat)
  case atStart =>
    refine ⟨0, by omega, rfl, ((Blk.new w _ _).alloc _).alloc _, ?_, ?_, (((Below.refl _ _).alloc (Nat.le_refl _) _).alloc (by simp) _).alloc (by simp; omega) _⟩
    · have h := (Blk.new (w.alloc (.cells (cellsI ds) 54)) (cellsI (List.replicate 31 0)) 54).alloc (.cells (cellsI (List.replicate 31 0)) 54)
      rw [World.size_alloc] at h
      exact h
    · have h := Blk.new ((w.alloc (.cells (cellsI ds) 54)).alloc (.cells (cellsI (List.replicate 31 0)) 54)) (cellsI (List.replicate 31 0)) 54
      rw [World.size_alloc, World.size_alloc] at h
      exact h
  case round =>
    obtain ⟨k, hk, rfl, h1, h2, h3, hb⟩ := hrel
    by_cases hlt : k < 31
    · have c1 := h1.cell k
      rw [cellsI_get ds k (by rw [HD.out]; exact hlt)] at c1
      obtain ⟨old, c3⟩ : ∃ u, wr.cell? ⟨w.heap.size + 1 + 1, k, none⟩ = some u := by
        rw [h3.cell k]
        exact ⟨_, Array.getElem?_eq_getElem (by rw [cellsI_size]; have := HD.out; simp; omega)⟩
      have f3 := h3.frozen k
      have HS := hide (set_cells ds k 31 hlt HD.out)
      generalize ds.getD k 0 = z at c1 HS
      have HW := hide (show Blk (wr.setCell ⟨w.heap.size + 1 + 1, k, none⟩ (.int .i64 z)) w.heap.size (cellsI ds) 54 ∧ Blk (wr.setCell ⟨w.heap.size + 1 + 1, k, none⟩ (.int .i64 z)) (w.heap.size + 1) (cellsI (List.replicate 31 0)) 54 ∧ Blk (wr.setCell ⟨w.heap.size + 1 + 1, k, none⟩ (.int .i64 z)) (w.heap.size + 1 + 1) (cellsI (ds.take (k + 1) ++ List.replicate (31 - (k + 1)) 0)) 54 ∧ Below w.heap.size w (wr.setCell ⟨w.heap.size + 1 + 1, k, none⟩ (.int .i64 z)) from by
        refine ⟨h1.other _ _ (by show _ ≠ w.heap.size + 1 + 1; omega), h2.other _ _ (by show _ ≠ w.heap.size + 1 + 1; omega), ?_, hb.setCell (by show _ ≤ w.heap.size + 1 + 1; omega) _⟩
        rw [← HS.out]
        exact h3.set k _)
      clear h1 h2 h3 hb
      go_wp2
      go_roundw
      case rel => exact ⟨k + 1, by omega, by go_num, HW.out.1, HW.out.2.1, HW.out.2.2.1, HW.out.2.2.2⟩
      case measure => simp [intOf]; omega
    · have hk31 : k = 31 := by omega
      subst hk31
      rw [List.take_of_length_le (by rw [HD.out]; omega), Nat.sub_self, List.replicate_zero, List.append_nil] at h3
      have hsz : (cellsI ds).size = 31 := by rw [cellsI_size]; exact HD.out
      have HB := hide (And.intro h2 (And.intro h3 hb))
      have HZ := hide hsz
      clear h1 h2 h3 hb hsz
      go_wp2_with (first | (refine wpList_load_row rfl 54 _ rfl (w.heap.size + 1 + 1) rfl 54 (cellsI ds) (0, 0) _ HB.out.2.1 Tryd.underlying54 rfl (by rw [HZ.out]; exact info31) ?_) | (refine wpList_store_row rfl 54 _ _ rfl (w.heap.size + 1) (cellsI ds) rfl rfl 54 _ HB.out.1 (by rw [HZ.out]; exact info31) (by rw [HZ.out]; rfl) (cellsI_one ds) ?_))
      refine bodyPost_ret (v := .agg (cellsI ds)) ?_ rfl ⟨rfl, ?_⟩
      · exact results_cell_row rfl _ _ (w.heap.size + 1) 54 (cellsI ds) (0, 0) _ rfl (HB.out.1.row _) Tryd.underlying54 rfl (by rw [HZ.out]; exact info31)
      · exact below_setRow HB.out.2.2 (by omega) _

theorem over_part (A B Z D : List Int) (o : Nat) (hA : A.length = o) (hB : B.length = Z.length) : over (A ++ (B ++ D)) o Z = A ++ (Z ++ D) := by
  unfold over
  subst hA
  simp [← hB, List.drop_append]
/-- What the copying keeps: the record that came in, the place of the answer, the record under way, all that is older. -/
structure To (w wr : World) (C : Array Value) (X : List Int) : Prop where
  arg : Blk wr w.heap.size C 56
  ans : Blk wr (w.heap.size + 1) (cellsI (List.replicate 68 0)) 59
  out : Blk wr (w.heap.size + 1 + 1) (cellsI X) 59
  old : Below w.heap.size w wr
theorem To.below {w wr w' : World} {C : Array Value} {X : List Int} (h : To w wr C X) (hb : Below wr.heap.size wr w') : To w w' C X :=
  ⟨h.arg.below hb h.arg.lt, h.ans.below hb h.ans.lt, h.out.below hb h.out.lt, h.old.trans (hb.mono h.old.size)⟩
theorem To.store {w wr : World} {C : Array Value} {X : List Int} (h : To w wr C X) (o : Nat) (zs : List Int) (hl : o + zs.length ≤ X.length) : To w (wr.setCells (w.heap.size + 1 + 1) o (cellsI zs).toList) C (over X o zs) :=
  ⟨Blk.cells_other _ o h.arg (by omega), Blk.cells_other _ o h.ans (by omega), Blk.cells zs o h.out hl, below_cells (by omega) _ o h.old⟩

set_option maxRecDepth 100000 in
set_option maxHeartbeats 2000000 in
theorem toFs_any (gen bl cu ck op ev lg s1 : Int) (ds1 : List Int) (p1 q1 s2 : Int) (ds2 : List Int) (p2 q2 : Int) (sn : List Int) (w : World) (hd1 : ds1.length = 12) (hd2 : ds2.length = 12) (hsn : sn.length = 31) :
    Calls Tryd.prog 34 #[.agg (cellsI (fsI gen bl cu ck op ev lg s1 ds1 p1 q1 s2 ds2 p2 q2 sn))] w fun e w' => e = .returned (.agg (cellsI (fsI gen bl cu ck op ev lg s1 ds1 p1 q1 s2 ds2 p2 q2 sn))) ∧ Below w.heap.size w w' := by
  have HD := hide (And.intro hd1 (And.intro hd2 hsn))
  have HL1 := hide (rootI_len s1 ds1 p1 q1 hd1)
  have HL2 := hide (rootI_len s2 ds2 p2 q2 hd2)
  have HZ := hide (show (cellsI (fsI gen bl cu ck op ev lg s1 ds1 p1 q1 s2 ds2 p2 q2 sn)).size = 68 from by rw [cellsI_size]; exact fsI_len _ _ _ _ _ _ _ _ _ _ _ _ _ _ _ _ hd1 hd2 hsn)
  have c0 : ∀ o1 o2, (((w.alloc (.cells (cellsI (fsI gen bl cu ck op ev lg s1 ds1 p1 q1 s2 ds2 p2 q2 sn)) 56)).alloc o1).alloc o2).cell? ⟨w.heap.size, 0, none⟩ = some (.int .i64 gen) := fun o1 o2 => by rw [(((Blk.new w _ _).alloc o1).alloc o2).cell 0]; rfl
  have c1 : ∀ o1 o2, (((w.alloc (.cells (cellsI (fsI gen bl cu ck op ev lg s1 ds1 p1 q1 s2 ds2 p2 q2 sn)) 56)).alloc o1).alloc o2).cell? ⟨w.heap.size, 1, none⟩ = some (.int .i64 bl) := fun o1 o2 => by rw [(((Blk.new w _ _).alloc o1).alloc o2).cell 1]; rfl
  have c2 : ∀ o1 o2, (((w.alloc (.cells (cellsI (fsI gen bl cu ck op ev lg s1 ds1 p1 q1 s2 ds2 p2 q2 sn)) 56)).alloc o1).alloc o2).cell? ⟨w.heap.size, 2, none⟩ = some (.int .i64 cu) := fun o1 o2 => by rw [(((Blk.new w _ _).alloc o1).alloc o2).cell 2]; rfl
  have c3 : ∀ o1 o2, (((w.alloc (.cells (cellsI (fsI gen bl cu ck op ev lg s1 ds1 p1 q1 s2 ds2 p2 q2 sn)) 56)).alloc o1).alloc o2).cell? ⟨w.heap.size, 3, none⟩ = some (.int .i64 ck) := fun o1 o2 => by rw [(((Blk.new w _ _).alloc o1).alloc o2).cell 3]; rfl
  have c4 : ∀ o1 o2, (((w.alloc (.cells (cellsI (fsI gen bl cu ck op ev lg s1 ds1 p1 q1 s2 ds2 p2 q2 sn)) 56)).alloc o1).alloc o2).cell? ⟨w.heap.size, 4, none⟩ = some (.int .i64 op) := fun o1 o2 => by rw [(((Blk.new w _ _).alloc o1).alloc o2).cell 4]; rfl
  have c5 : ∀ o1 o2, (((w.alloc (.cells (cellsI (fsI gen bl cu ck op ev lg s1 ds1 p1 q1 s2 ds2 p2 q2 sn)) 56)).alloc o1).alloc o2).cell? ⟨w.heap.size, 5, none⟩ = some (.int .i64 ev) := fun o1 o2 => by rw [(((Blk.new w _ _).alloc o1).alloc o2).cell 5]; rfl
  have c6 : ∀ o1 o2, (((w.alloc (.cells (cellsI (fsI gen bl cu ck op ev lg s1 ds1 p1 q1 s2 ds2 p2 q2 sn)) 56)).alloc o1).alloc o2).cell? ⟨w.heap.size, 6, none⟩ = some (.int .i64 lg) := fun o1 o2 => by rw [(((Blk.new w _ _).alloc o1).alloc o2).cell 6]; rfl
  clear hd1 hd2 hsn
  go_enter Tryd.func34, Tryd.ntmps34
  go_wp2_with (first
    | (refine wpList_load_mid rfl 34 _ rfl w.heap.size 7 rfl ((rootI s1 ds1 p1 q1).map (Value.int .i64)) _ (fs_range1 gen bl cu ck op ev lg s1 ds1 p1 q1 s2 ds2 p2 q2 sn HD.out.1 (((Blk.new w (cellsI (fsI gen bl cu ck op ev lg s1 ds1 p1 q1 s2 ds2 p2 q2 sn)) 56).alloc _).alloc _)) Tryd.underlying34 rfl (by rw [List.length_map, HL1.out]; exact infoL15) ?_)
    | (go_at_call 21; fail))
  refine (toRoot_any s1 ds1 p1 q1 _ HD.out.1).mono ?_
  rintro e w1 ⟨rfl, hb1⟩
  have T0 := hide (show To w w1 (cellsI (fsI gen bl cu ck op ev lg s1 ds1 p1 q1 s2 ds2 p2 q2 sn)) (([gen, bl, cu, ck, op, ev, lg] : List Int) ++ (List.replicate 15 (0 : Int) ++ (List.replicate 15 (0 : Int) ++ List.replicate 31 (0 : Int)))) from by
    have kz : Blk w1 (w.heap.size + 1) (cellsI (List.replicate 68 0)) 59 := by
      have h := ((Blk.new (w.alloc (.cells (cellsI (fsI gen bl cu ck op ev lg s1 ds1 p1 q1 s2 ds2 p2 q2 sn)) 56)) (cellsI (List.replicate 68 0)) 59).alloc (.cells (cellsI (([gen, bl, cu, ck, op, ev, lg] : List Int) ++ (List.replicate 15 (0 : Int) ++ (List.replicate 15 (0 : Int) ++ List.replicate 31 (0 : Int))))) 59)).below hb1 (by simp)
      rw [World.size_alloc] at h
      exact h
    have ko : Blk w1 (w.heap.size + 1 + 1) (cellsI (([gen, bl, cu, ck, op, ev, lg] : List Int) ++ (List.replicate 15 (0 : Int) ++ (List.replicate 15 (0 : Int) ++ List.replicate 31 (0 : Int))))) 59 := by
      have h := (Blk.new ((w.alloc (.cells (cellsI (fsI gen bl cu ck op ev lg s1 ds1 p1 q1 s2 ds2 p2 q2 sn)) 56)).alloc (.cells (cellsI (List.replicate 68 0)) 59)) (cellsI (([gen, bl, cu, ck, op, ev, lg] : List Int) ++ (List.replicate 15 (0 : Int) ++ (List.replicate 15 (0 : Int) ++ List.replicate 31 (0 : Int))))) 59).below hb1 (by simp)
      rw [World.size_alloc, World.size_alloc] at h
      exact h
    exact ⟨(((Blk.new w (cellsI (fsI gen bl cu ck op ev lg s1 ds1 p1 q1 s2 ds2 p2 q2 sn)) 56).alloc _).alloc _).below hb1 (by simp; omega), kz, ko, ((((Below.refl w.heap.size w).alloc (Nat.le_refl _) (.cells (cellsI (fsI gen bl cu ck op ev lg s1 ds1 p1 q1 s2 ds2 p2 q2 sn)) 56)).alloc (by simp) (.cells (cellsI (List.replicate 68 0)) 59)).alloc (by simp; omega) (.cells (cellsI (([gen, bl, cu, ck, op, ev, lg] : List Int) ++ (List.replicate 15 (0 : Int) ++ (List.replicate 15 (0 : Int) ++ List.replicate 31 (0 : Int))))) 59)).trans (hb1.mono (by simp; omega))⟩)
  clear hb1 c0 c1 c2 c3 c4 c5 c6
  have T1 := hide (show To w (w1.setCells (w.heap.size + 1 + 1) 7 (cellsI (rootI s1 ds1 p1 q1)).toList) (cellsI (fsI gen bl cu ck op ev lg s1 ds1 p1 q1 s2 ds2 p2 q2 sn)) (([gen, bl, cu, ck, op, ev, lg] : List Int) ++ (rootI s1 ds1 p1 q1 ++ (List.replicate 15 (0 : Int) ++ List.replicate 31 (0 : Int)))) from by
    have h := T0.out.store 7 (rootI s1 ds1 p1 q1) (by rw [HL1.out]; simp)
    rw [over_part _ _ _ _ 7 rfl (by rw [HL1.out]; rfl)] at h
    exact h)
  go_wp2_with (first
    | (refine wpList_store_mid rfl 36 _ _ rfl (w.heap.size + 1 + 1) 7 (cellsI (rootI s1 ds1 p1 q1)) rfl rfl (T0.out.out.there 7 _ (by rw [cellsI_size, cellsI_size, HL1.out]; simp)) (by rw [cellsI_size, HL1.out]; exact info15) (cellsI_one _) ?_; generalize w1.setCells (w.heap.size + 1 + 1) 7 (cellsI (rootI s1 ds1 p1 q1)).toList = w2 at T1 ⊢)
    | (refine wpList_load_mid rfl 34 _ rfl w.heap.size 22 rfl ((rootI s2 ds2 p2 q2).map (Value.int .i64)) _ (fs_range2 gen bl cu ck op ev lg s1 ds1 p1 q1 s2 ds2 p2 q2 sn HD.out.1 HD.out.2.1 T1.out.arg) Tryd.underlying34 rfl (by rw [List.length_map, HL2.out]; exact infoL15) ?_)
    | (go_at_call 21; fail))
  refine (toRoot_any s2 ds2 p2 q2 _ HD.out.2.1).mono ?_
  rintro e w3 ⟨rfl, hb3⟩
  have T2 := hide (T1.out.below hb3)
  clear hb3 T0 T1
  have T3 := hide (show To w (w3.setCells (w.heap.size + 1 + 1) 22 (cellsI (rootI s2 ds2 p2 q2)).toList) (cellsI (fsI gen bl cu ck op ev lg s1 ds1 p1 q1 s2 ds2 p2 q2 sn)) (([gen, bl, cu, ck, op, ev, lg] : List Int) ++ (rootI s1 ds1 p1 q1 ++ (rootI s2 ds2 p2 q2 ++ List.replicate 31 (0 : Int)))) from by
    have h := T2.out.store 22 (rootI s2 ds2 p2 q2) (by simp [HL1.out, HL2.out])
    rw [← List.append_assoc, over_part _ _ _ _ 22 (by simp [HL1.out]) (by rw [HL2.out]; rfl), List.append_assoc] at h
    exact h)
  go_wp2_with (first
    | (refine wpList_store_mid rfl 36 _ _ rfl (w.heap.size + 1 + 1) 22 (cellsI (rootI s2 ds2 p2 q2)) rfl rfl (T2.out.out.there 22 _ (by rw [cellsI_size, cellsI_size, HL2.out]; simp [HL1.out])) (by rw [cellsI_size, HL2.out]; exact info15) (cellsI_one _) ?_; generalize w3.setCells (w.heap.size + 1 + 1) 22 (cellsI (rootI s2 ds2 p2 q2)).toList = w4 at T3 ⊢)
    | (refine wpList_load_mid rfl 54 _ rfl w.heap.size 37 rfl (sn.map (Value.int .i64)) _ (fs_range3 gen bl cu ck op ev lg s1 ds1 p1 q1 s2 ds2 p2 q2 sn HD.out.1 HD.out.2.1 HD.out.2.2 T3.out.arg) Tryd.underlying54 rfl (by rw [List.length_map, HD.out.2.2]; exact info31) ?_)
    | (go_at_call 74; fail))
  refine (toIntA31_any sn _ HD.out.2.2).mono ?_
  rintro e w5 ⟨rfl, hb5⟩
  have T4 := hide (T3.out.below hb5)
  clear hb5 T2 T3
  have T5 := hide (show To w (w5.setCells (w.heap.size + 1 + 1) 37 (cellsI sn).toList) (cellsI (fsI gen bl cu ck op ev lg s1 ds1 p1 q1 s2 ds2 p2 q2 sn)) (fsI gen bl cu ck op ev lg s1 ds1 p1 q1 s2 ds2 p2 q2 sn) from by
    have h := T4.out.store 37 sn (by simp [HL1.out, HL2.out, HD.out.2.2])
    rw [← List.append_assoc, ← List.append_assoc, ← List.append_nil (List.replicate 31 (0 : Int)), over_part _ _ _ _ 37 (by simp [HL1.out, HL2.out]) (by rw [HD.out.2.2]; rfl), List.append_nil, List.append_assoc, List.append_assoc] at h
    exact h)
  go_wp2_with (first
    | (refine wpList_store_mid rfl 54 _ _ rfl (w.heap.size + 1 + 1) 37 (cellsI sn) rfl rfl (T4.out.out.there 37 _ (by rw [cellsI_size, cellsI_size, HD.out.2.2]; simp [HL1.out, HL2.out])) (by rw [cellsI_size, HD.out.2.2]; exact info31) (cellsI_one _) ?_; generalize w5.setCells (w.heap.size + 1 + 1) 37 (cellsI sn).toList = w6 at T5 ⊢)
    | (refine wpList_load_row rfl 59 _ rfl (w.heap.size + 1 + 1) rfl 59 (cellsI (fsI gen bl cu ck op ev lg s1 ds1 p1 q1 s2 ds2 p2 q2 sn)) (0, 0) _ T5.out.out Tryd.underlying59 rfl (by rw [HZ.out]; exact info68) ?_)
    | (refine wpList_store_row rfl 59 _ _ rfl (w.heap.size + 1) (cellsI (fsI gen bl cu ck op ev lg s1 ds1 p1 q1 s2 ds2 p2 q2 sn)) rfl rfl 59 _ T5.out.ans (by rw [HZ.out]; exact info68) (by rw [HZ.out]; rfl) (cellsI_one _) ?_))
  refine bodyPost_ret (v := .agg (cellsI (fsI gen bl cu ck op ev lg s1 ds1 p1 q1 s2 ds2 p2 q2 sn))) ?_ rfl ⟨rfl, ?_⟩
  · exact results_cell_row rfl _ _ (w.heap.size + 1) 59 (cellsI (fsI gen bl cu ck op ev lg s1 ds1 p1 q1 s2 ds2 p2 q2 sn)) (0, 0) _ rfl (T5.out.ans.row _) Tryd.underlying59 rfl (by rw [HZ.out]; exact info68)
  · exact below_setRow T5.out.old (by omega) _
end Go.Proofs.YtfpfhmnmcjnmaaaDoor

namespace Go.Proofs.YtfpfhmnmcjnmaaaDoor
set_option linter.unusedVariables false
set_option linter.unusedSimpArgs false
open Go.RowKit

/-- What was read as a root record. -/
def FsAt (zs : List Int) (gen bl cu ck op ev lg s1 : Int) (ds1 : List Int) (p1 q1 s2 : Int) (ds2 : List Int) (p2 q2 : Int) (sn : List Int) : Prop :=
  gen = wrap64 ((unle ((zs.drop 8).take 8) : Nat) : Int) ∧ bl = ((unle ((zs.drop 16).take 4) : Nat) : Int) ∧ cu = ((unle ((zs.drop 20).take 4) : Nat) : Int) ∧ ck = wrap64 ((unle ((zs.drop 24).take 8) : Nat) : Int) ∧ op = wrap64 ((unle ((zs.drop 32).take 8) : Nat) : Int) ∧ ev = ((unle ((zs.drop 40).take 4) : Nat) : Int) ∧ lg = ((unle ((zs.drop 44).take 4) : Nat) : Int) ∧ RootAt zs 48 s1 ds1 p1 q1 ∧ RootAt zs 112 s2 ds2 p2 q2 ∧ sn = wordsFrom zs 176 31
/-- The model's number of n bytes from lo on. -/
def mg (zs : List Int) (lo n : Nat) : Int := ((gval ((zs.drop lo).take n) : Nat) : Int)
def mR (zs : List Int) (lo : Nat) : List Int := (zs.drop lo).take 64
def mS (rb : List Int) : Int := ((gval (rb.take 8) : Nat) : Int)
def mP (rb : List Int) : Int := ((gval ((rb.drop 56).take 4) : Nat) : Int)
def mQ (rb : List Int) : Int := ((gval ((rb.drop 60).take 4) : Nat) : Int)
def mSn (zs : List Int) (n : Nat) : List Int := (List.range n).map fun k => mg zs (176 + 4 * k) 4
theorem mSn_succ (zs : List Int) (n : Nat) : mSn zs (n + 1) = mSn zs n ++ [mg zs (176 + 4 * n) 4] := by simp [mSn, List.range_succ]
theorem mSn_len (zs : List Int) (n : Nat) : (mSn zs n).length = n := by simp [mSn]
theorem mSn_words (zs : List Int) (h : ∀ z ∈ zs, 0 ≤ z ∧ z < 256) (n : Nat) : mSn zs n = wordsFrom zs 176 n := by
  unfold mSn wordsFrom mg
  congr 1
  funext i
  rw [gval4 zs h]
theorem root_shiftL {zs : List Int} {lo : Nat} {s : Int} {ds : List Int} {p q : Int} (h : RootAt zs lo s ds p q) : RootAt (mR zs lo) 0 s ds p q := by
  obtain ⟨h1, h2⟩ := h
  refine ⟨?_, ?_⟩
  · unfold mR
    rw [h1, List.drop_zero, List.take_take]
    rfl
  · unfold mR
    rw [h2, wordsFrom_shift zs lo 64 (0 + 8) 14 (by omega)]
/-- A number of eight bytes: the same for both, or out of all bounds for both. -/
theorem eightB (ts : List Int) (hX : unle ts < 18446744073709551616) : (wrap64 ((unle ts : Nat) : Int) = ((gval ts : Nat) : Int) ∧ gval ts = unle ts) ∨ ∀ lo : Int, 0 ≤ lo → wi (wrap64 ((unle ts : Nat) : Int)) lo 1099511627776 = false ∧ wi ((gval ts : Nat) : Int) lo 1099511627776 = false := by
  by_cases hs : unle ts < 18014398509481984
  · left
    rw [gval_small _ hs]
    refine ⟨?_, rfl⟩
    unfold wrap64
    omega
  · right
    intro lo hlo
    have hg : gval ts = 4611686018427387904 := by
      unfold gval
      rw [if_pos (by omega)]
    rw [hg]
    have hw : wrap64 ((unle ts : Nat) : Int) < 0 ∨ 18014398509481984 ≤ wrap64 ((unle ts : Nat) : Int) := by
      unfold wrap64
      omega
    unfold wi
    refine ⟨?_, ?_⟩
    · rcases hw with hw | hw
      · rw [decide_eq_false (show ¬ lo ≤ wrap64 ((unle ts : Nat) : Int) by omega), Bool.false_and]
      · rw [decide_eq_false (show ¬ wrap64 ((unle ts : Nat) : Int) ≤ 1099511627776 by omega), Bool.and_false]
    · rw [decide_eq_false (show ¬ ((4611686018427387904 : Nat) : Int) ≤ 1099511627776 by omega), Bool.and_false]
theorem cut_take (zs : List Int) (lo a b : Nat) : (zs.drop lo).take (a + b) = (zs.drop lo).take a ++ (zs.drop (lo + a)).take b := by
  rw [List.take_add, List.drop_drop]
theorem le_at {zs : List Int} (h : ∀ z ∈ zs, 0 ≤ z ∧ z < 256) (lo n : Nat) (hn : lo + n ≤ zs.length) : le n (unle ((zs.drop lo).take n)) = (zs.drop lo).take n := by
  have h1 := le_unle _ (bytes_cut h lo n)
  rw [show ((zs.drop lo).take n).length = n by simp; omega] at h1
  exact h1
theorem fs_bytes (zs : List Int) (h : ∀ z ∈ zs, 0 ≤ z ∧ z < 256) (hz : 300 ≤ zs.length) (a0 a1 a2 a3 a4 a5 a6 : Nat) (h0 : a0 = unle ((zs.drop 8).take 8)) (h1 : a1 = unle ((zs.drop 16).take 4)) (h2 : a2 = unle ((zs.drop 20).take 4)) (h3 : a3 = unle ((zs.drop 24).take 8)) (h4 : a4 = unle ((zs.drop 32).take 8)) (h5 : a5 = unle ((zs.drop 40).take 4)) (h6 : a6 = unle ((zs.drop 44).take 4))
    (s1 : Int) (ds1 : List Int) (p1 q1 s2 : Int) (ds2 : List Int) (p2 q2 : Int) (r1 : bytesR s1 ds1 p1 q1 = mR zs 48) (r2 : bytesR s2 ds2 p2 q2 = mR zs 112) : bytesF a0 a1 a2 a3 a4 a5 a6 s1 ds1 p1 q1 s2 ds2 p2 q2 (wordsFrom zs 176 31) = fsLet ++ (zs.drop 8).take 292 := by
  unfold bytesF headF
  rw [r1, r2, h0, h1, h2, h3, h4, h5, h6, le_at h 8 8 (by omega), le_at h 16 4 (by omega), le_at h 20 4 (by omega), le_at h 24 8 (by omega), le_at h 32 8 (by omega), le_at h 40 4 (by omega), le_at h 44 4 (by omega), bytesW_words zs 176 h 31 (by omega)]
  unfold mR
  rw [show (292 : Nat) = 8 + (4 + (4 + (8 + (8 + (4 + (4 + (64 + (64 + 4 * 31)))))))) from rfl]
  rw [cut_take zs 8 8, cut_take zs (8 + 8) 4, cut_take zs (8 + 8 + 4) 4, cut_take zs (8 + 8 + 4 + 4) 8, cut_take zs (8 + 8 + 4 + 4 + 8) 8, cut_take zs (8 + 8 + 4 + 4 + 8 + 8) 4, cut_take zs (8 + 8 + 4 + 4 + 8 + 8 + 4) 4, cut_take zs (8 + 8 + 4 + 4 + 8 + 8 + 4 + 4) 64, cut_take zs (8 + 8 + 4 + 4 + 8 + 8 + 4 + 4 + 64) 64]
  simp only [List.append_assoc]

/-- What the program reads is what the model reads. -/
theorem fs_agree (zs : List Int) (h : ∀ z ∈ zs, 0 ≤ z ∧ z < 256) (hz : 300 ≤ zs.length) (gen bl cu ck op ev lg s1 : Int) (ds1 : List Int) (p1 q1 s2 : Int) (ds2 : List Int) (p2 q2 : Int) (sn : List Int) (hd1 : ds1.length = 12) (hd2 : ds2.length = 12) (hr : FsAt zs gen bl cu ck op ev lg s1 ds1 p1 q1 s2 ds2 p2 q2 sn) :
    rightF gen bl cu ck op ev lg s1 ds1 p1 q1 s2 ds2 p2 q2 sn = rightF (mg zs 8 8) (mg zs 16 4) (mg zs 20 4) (mg zs 24 8) (mg zs 32 8) (mg zs 40 4) (mg zs 44 4) (mS (mR zs 48)) (gwords (mR zs 48) 12) (mP (mR zs 48)) (mQ (mR zs 48)) (mS (mR zs 112)) (gwords (mR zs 112) 12) (mP (mR zs 112)) (mQ (mR zs 112)) (mSn zs 31) ∧
    (rightF gen bl cu ck op ev lg s1 ds1 p1 q1 s2 ds2 p2 q2 sn = true → fsI gen bl cu ck op ev lg s1 ds1 p1 q1 s2 ds2 p2 q2 sn = fsI (mg zs 8 8) (mg zs 16 4) (mg zs 20 4) (mg zs 24 8) (mg zs 32 8) (mg zs 40 4) (mg zs 44 4) (mS (mR zs 48)) (gwords (mR zs 48) 12) (mP (mR zs 48)) (mQ (mR zs 48)) (mS (mR zs 112)) (gwords (mR zs 112) 12) (mP (mR zs 112)) (mQ (mR zs 112)) (mSn zs 31) ∧
      bytesF (mg zs 8 8).toNat (mg zs 16 4).toNat (mg zs 20 4).toNat (mg zs 24 8).toNat (mg zs 32 8).toNat (mg zs 40 4).toNat (mg zs 44 4).toNat (mS (mR zs 48)) (gwords (mR zs 48) 12) (mP (mR zs 48)) (mQ (mR zs 48)) (mS (mR zs 112)) (gwords (mR zs 112) 12) (mP (mR zs 112)) (mQ (mR zs 112)) (mSn zs 31) = fsLet ++ (zs.drop 8).take 292) := by
  obtain ⟨e0, e1, e2, e3, e4, e5, e6, R1, R2, e7⟩ := hr
  have L1 : (mR zs 48).length = 64 := by unfold mR; simp; omega
  have L2 : (mR zs 112).length = 64 := by unfold mR; simp; omega
  have B1 : ∀ z ∈ mR zs 48, 0 ≤ z ∧ z < 256 := bytes_cut h 48 64
  have B2 : ∀ z ∈ mR zs 112, 0 ≤ z ∧ z < 256 := bytes_cut h 112 64
  obtain ⟨a1, a2, a3, a4, a5⟩ := root_agree (mR zs 48) s1 ds1 p1 q1 B1 L1 hd1 (root_shiftL R1)
  obtain ⟨b1, b2, b3, b4, b5⟩ := root_agree (mR zs 112) s2 ds2 p2 q2 B2 L2 hd2 (root_shiftL R2)
  have f1 : mg zs 16 4 = bl := by rw [e1]; unfold mg; rw [gval_few zs h 16 4 (by omega)]
  have f2 : mg zs 20 4 = cu := by rw [e2]; unfold mg; rw [gval_few zs h 20 4 (by omega)]
  have f5 : mg zs 40 4 = ev := by rw [e5]; unfold mg; rw [gval_few zs h 40 4 (by omega)]
  have f6 : mg zs 44 4 = lg := by rw [e6]; unfold mg; rw [gval_few zs h 44 4 (by omega)]
  have f7 : mSn zs 31 = sn := by rw [e7, mSn_words zs h]
  have E0 := eightB _ (unle8_lt zs h 8)
  have E3 := eightB _ (unle8_lt zs h 24)
  have E4 := eightB _ (unle8_lt zs h 32)
  rw [← e0] at E0
  rw [← e3] at E3
  rw [← e4] at E4
  have t1 : ∀ (n : Nat) (x : Int), x = ((n : Nat) : Int) → x.toNat = n := fun n x e => by rw [e]; simp
  have N1 := t1 _ _ e1
  have N2 := t1 _ _ e2
  have N5 := t1 _ _ e5
  have N6 := t1 _ _ e6
  rw [f1, f2, f5, f6, f7]
  change rightR s1 ds1 p1 q1 = rightR (mS (mR zs 48)) ds1 p1 q1 at a4
  change rightR s2 ds2 p2 q2 = rightR (mS (mR zs 112)) ds2 p2 q2 at b4
  change rightR s1 ds1 p1 q1 = true → s1 = mS (mR zs 48) ∧ bytesR s1 ds1 p1 q1 = mR zs 48 at a5
  change rightR s2 ds2 p2 q2 = true → s2 = mS (mR zs 112) ∧ bytesR s2 ds2 p2 q2 = mR zs 112 at b5
  change p1 = mP (mR zs 48) at a2
  change q1 = mQ (mR zs 48) at a3
  change p2 = mP (mR zs 112) at b2
  change q2 = mQ (mR zs 112) at b3
  rw [← a1, ← a2, ← a3, ← b1, ← b2, ← b3]
  clear a1 a2 a3 b1 b2 b3 f1 f2 f5 f6 f7
  generalize mS (mR zs 48) = y1 at a4 a5 ⊢
  generalize mS (mR zs 112) = y2 at b4 b5 ⊢
  have M0 : mg zs 8 8 = ((gval ((zs.drop 8).take 8) : Nat) : Int) := rfl
  have M3 : mg zs 24 8 = ((gval ((zs.drop 24).take 8) : Nat) : Int) := rfl
  have M4 : mg zs 32 8 = ((gval ((zs.drop 32).take 8) : Nat) : Int) := rfl
  rw [M0, M3, M4]
  rcases E0 with ⟨g0, k0⟩ | g0
  · rcases E3 with ⟨g3, k3⟩ | g3
    · rcases E4 with ⟨g4, k4⟩ | g4
      · rw [← g0, ← g3, ← g4]
        cases c1 : rightR s1 ds1 p1 q1 with
        | false =>
          rw [c1] at a4
          have hA : rightF gen bl cu ck op ev lg s1 ds1 p1 q1 s2 ds2 p2 q2 sn = false := by simp [rightF, c1]
          have hB : rightF gen bl cu ck op ev lg y1 ds1 p1 q1 y2 ds2 p2 q2 sn = false := by simp [rightF, ← a4]
          exact ⟨by rw [hA, hB], fun hh => by rw [hA] at hh; cases hh⟩
        | true =>
          obtain ⟨d1, d2⟩ := a5 c1
          subst d1
          cases c2 : rightR s2 ds2 p2 q2 with
          | false =>
            rw [c2] at b4
            have hA : rightF gen bl cu ck op ev lg s1 ds1 p1 q1 s2 ds2 p2 q2 sn = false := by simp [rightF, c2]
            have hB : rightF gen bl cu ck op ev lg s1 ds1 p1 q1 y2 ds2 p2 q2 sn = false := by simp [rightF, ← b4]
            exact ⟨by rw [hA, hB], fun hh => by rw [hA] at hh; cases hh⟩
          | true =>
            obtain ⟨d3, d4⟩ := b5 c2
            subst d3
            refine ⟨rfl, fun _ => ⟨rfl, ?_⟩⟩
            rw [e7]
            exact fs_bytes zs h hz _ _ _ _ _ _ _ (by rw [g0, k0]; simp) N1 N2 (by rw [g3, k3]; simp) (by rw [g4, k4]; simp) N5 N6 s1 ds1 p1 q1 s2 ds2 p2 q2 d2 d4
      · have hA : rightF gen bl cu ck op ev lg s1 ds1 p1 q1 s2 ds2 p2 q2 sn = false := by simp [rightF, (g4 0 (by omega)).1]
        refine ⟨?_, fun hh => by rw [hA] at hh; cases hh⟩
        rw [hA]
        simp [rightF, (g4 0 (by omega)).2]
    · have hA : rightF gen bl cu ck op ev lg s1 ds1 p1 q1 s2 ds2 p2 q2 sn = false := by simp [rightF, (g3 1 (by omega)).1]
      refine ⟨?_, fun hh => by rw [hA] at hh; cases hh⟩
      rw [hA]
      simp [rightF, (g3 1 (by omega)).2]
  · have hA : rightF gen bl cu ck op ev lg s1 ds1 p1 q1 s2 ds2 p2 q2 sn = false := by simp [rightF, (g0 1 (by omega)).1]
    refine ⟨?_, fun hh => by rw [hA] at hh; cases hh⟩
    rw [hA]
    simp [rightF, (g0 1 (by omega)).2]

theorem unle_le : ∀ (n c : Nat), unle (le n c) = c % 256 ^ n
  | 0, c => by simp [le, unle, Nat.mod_one]
  | n + 1, c => by
    rw [le, unle, unle_le n (c / 256), Int.toNat_natCast, Nat.pow_succ, Nat.mul_comm (256 ^ n) 256]
    exact (Nat.mod_mul (x := c) (a := 256) (b := 256 ^ n)).symm
/-- A block that is sealed is just this: its letters, its bytes, zeros, its sum. -/
theorem sealed_iff (zs L : List Int) (m : Nat) (h : ∀ z ∈ zs, 0 ≤ z ∧ z < 256) (hz : zs.length = 512) (hL : L.length = 8) (hLb : ∀ z ∈ L, 0 ≤ z ∧ z < 256) (hm : 8 + m ≤ 508) :
    sealed (L ++ (zs.drop 8).take m) = zs ↔ (zs.take 8 = L ∧ allz ((zs.drop (8 + m)).take (500 - m)) = true ∧ unle ((zs.drop 508).take 4) = Crc.crc (zs.take 508)) := by
  have hBl : (L ++ (zs.drop 8).take m).length = 8 + m := by simp; omega
  have hBb : ∀ z ∈ L ++ (zs.drop 8).take m, 0 ≤ z ∧ z < 256 := fun z hz => by
    rw [List.mem_append] at hz
    rcases hz with hz | hz
    · exact hLb z hz
    · exact bytes_cut h 8 m z hz
  have hp : pad (L ++ (zs.drop 8).take m) = L ++ ((zs.drop 8).take m ++ List.replicate (500 - m) 0) := by
    unfold pad
    rw [hBl, show 508 - (8 + m) = 500 - m by omega, List.append_assoc]
  have hpl : (pad (L ++ (zs.drop 8).take m)).length = 508 := pad_len _ (by omega)
  have hcl := crc_lt _ (pad_bd _ hBb)
  have hzz : zs = zs.take 8 ++ ((zs.drop 8).take m ++ ((zs.drop (8 + m)).take (500 - m) ++ (zs.drop 508).take 4)) := by
    have e : zs = (zs.drop 0).take (8 + (m + ((500 - m) + 4))) := by rw [List.drop_zero, List.take_of_length_le (by omega)]
    conv => lhs; rw [e]
    rw [cut_take zs 0 8, cut_take zs (0 + 8) m, cut_take zs (0 + 8 + m) (500 - m)]
    rw [show 0 + 8 + m + (500 - m) = 508 by omega, show 0 + 8 + m = 8 + m by omega]
    simp
  have ht508 : zs.take 508 = zs.take 8 ++ ((zs.drop 8).take m ++ (zs.drop (8 + m)).take (500 - m)) := by
    have e : zs.take 508 = (zs.drop 0).take (8 + (m + (500 - m))) := by rw [List.drop_zero]; congr 1; omega
    rw [e, cut_take zs 0 8, cut_take zs (0 + 8) m, show 0 + 8 + m = 8 + m by omega]
    simp
  have hzl : ((zs.drop (8 + m)).take (500 - m)).length = 500 - m := by simp; omega
  constructor
  · intro e
    unfold sealed at e
    have e1 : pad (L ++ (zs.drop 8).take m) = zs.take 508 := by
      have := congrArg (List.take 508) e
      rw [List.take_append_of_le_length (by omega), List.take_of_length_le (by omega)] at this
      exact this
    have e2 : le 4 (Crc.crc (pad (L ++ (zs.drop 8).take m))) = (zs.drop 508).take 4 := by
      have := congrArg (List.drop 508) e
      rw [List.drop_append_of_le_length (by omega), List.drop_of_length_le (by omega), List.nil_append] at this
      rw [this, List.take_of_length_le (by simp; omega)]
    rw [hp, ht508] at e1
    obtain ⟨x1, x2⟩ := List.append_inj e1 (by rw [hL]; simp; omega)
    have x3 := List.append_cancel_left x2
    refine ⟨x1.symm, ?_, ?_⟩
    · rw [← x3]; exact allz_of_rep _
    · rw [← e2, unle_le, ht508, ← e1, ← hp]
      exact Nat.mod_eq_of_lt hcl
  · rintro ⟨x1, x2, x3⟩
    have r := allz_rep _ x2
    rw [hzl] at r
    have e1 : pad (L ++ (zs.drop 8).take m) = zs.take 508 := by
      rw [hp, ht508, x1, ← r]
    unfold sealed
    rw [e1, ← x3, le_at h 508 4 (by omega), ht508]
    conv => rhs; rw [hzz]
    simp only [List.append_assoc]
end Go.Proofs.YtfpfhmnmcjnmaaaDoor
