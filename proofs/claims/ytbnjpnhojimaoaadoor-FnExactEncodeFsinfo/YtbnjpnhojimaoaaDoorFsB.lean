/- The program lays a root record down: layFsinfo. -/
import Derived.Test.YtbnjpnhojimaoaaDoorFsA
import Derived.Test.YtbnjpnhojimaoaaDoorSnapD
namespace Go.Proofs.YtbnjpnhojimaoaaDoor
set_option linter.unusedVariables false
set_option linter.unusedSimpArgs false
open Go.RowKit

/-- The letters of a root record, where the program's own start lays them. -/
def fsLet : List Int := [114, 111, 111, 116, 114, 101, 99, 49]
def LetF (w : World) : Prop := w.rangeAt 1 0 (fsLet.map (Value.int .u8))
theorem LetF.below {w w' : World} (h : LetF w) (hb : Below w.heap.size w w') : LetF w' := fun j v hv => by
  have h1 := h j v hv
  exact (hb.cell (p := ⟨1, 0 + j, none⟩) (cell_lt h1)).trans h1
/-- The bytes of a root record ahead of its sum. -/
def headF (gen bl cu ck op ev lg : Nat) (s1 : Int) (ds1 : List Int) (p1 q1 s2 : Int) (ds2 : List Int) (p2 q2 : Int) : List Int := fsLet ++ le 8 gen ++ le 4 bl ++ le 4 cu ++ le 8 ck ++ le 8 op ++ le 4 ev ++ le 4 lg ++ bytesR s1 ds1 p1 q1 ++ bytesR s2 ds2 p2 q2
def bytesF (gen bl cu ck op ev lg : Nat) (s1 : Int) (ds1 : List Int) (p1 q1 s2 : Int) (ds2 : List Int) (p2 q2 : Int) (sn : List Int) : List Int := headF gen bl cu ck op ev lg s1 ds1 p1 q1 s2 ds2 p2 q2 ++ bytesW sn
theorem headF_len (gen bl cu ck op ev lg : Nat) (s1 : Int) (ds1 : List Int) (p1 q1 s2 : Int) (ds2 : List Int) (p2 q2 : Int) (h1 : ds1.length = 12) (h2 : ds2.length = 12) : (headF gen bl cu ck op ev lg s1 ds1 p1 q1 s2 ds2 p2 q2).length = 176 := by
  unfold headF
  simp only [List.length_append, le_len, bytesR_len s1 ds1 p1 q1 h1, bytesR_len s2 ds2 p2 q2 h2, fsLet, List.length_cons, List.length_nil]
theorem bytesF_len (gen bl cu ck op ev lg : Nat) (s1 : Int) (ds1 : List Int) (p1 q1 s2 : Int) (ds2 : List Int) (p2 q2 : Int) (sn : List Int) (h1 : ds1.length = 12) (h2 : ds2.length = 12) (h3 : sn.length = 31) : (bytesF gen bl cu ck op ev lg s1 ds1 p1 q1 s2 ds2 p2 q2 sn).length = 300 := by
  unfold bytesF
  rw [List.length_append, headF_len _ _ _ _ _ _ _ _ _ _ _ _ _ _ _ h1 h2, bytesW_len, h3]

set_option maxRecDepth 100000 in
set_option maxHeartbeats 2000000 in
theorem layFs_any (gen bl cu ck op ev lg : Nat) (s1 : Int) (ds1 : List Int) (p1 q1 s2 : Int) (ds2 : List Int) (p2 q2 : Int) (sn : List Int) (w : World) (hd1 : ds1.length = 12) (hd2 : ds2.length = 12) (hsn : sn.length = 31) (a0 : gen < 281474976710656) (a1 : bl < 2049) (a2 : cu < 2049) (a3 : ck < 281474976710656) (a4 : op < 281474976710656) (a5 : ev < 2049) (a6 : lg < 65537) (hs1 : 0 ≤ s1 ∧ s1 ≤ 262144) (hp1 : ∀ z ∈ ds1 ++ [p1, q1], 0 ≤ z ∧ z < 2048) (hs2 : 0 ≤ s2 ∧ s2 ≤ 262144) (hp2 : ∀ z ∈ ds2 ++ [p2, q2], 0 ≤ z ∧ z < 2048) (hps : ∀ z ∈ sn, 0 ≤ z ∧ z < 2048) (hbb : ∀ z ∈ bytesF gen bl cu ck op ev lg s1 ds1 p1 q1 s2 ds2 p2 q2 sn, 0 ≤ z ∧ z < 256) (hL : LetF w) :
    Calls Tryd.prog 76 #[.agg (cellsI (fsI (gen : Int) (bl : Int) (cu : Int) (ck : Int) (op : Int) (ev : Int) (lg : Int) s1 ds1 p1 q1 s2 ds2 p2 q2 sn))] w fun e w' => ∃ v', e = .returned v' ∧ w'.ownsRow w.heap.size 5 1 v' 512 ((sealed (bytesF gen bl cu ck op ev lg s1 ds1 p1 q1 s2 ds2 p2 q2 sn)).map (Value.int .u8)) ∧ Below w.heap.size w w' := by
  have HD := hide (And.intro hd1 (And.intro hd2 hsn))
  have HS1 := hide (And.intro hs1 hp1)
  have HS2 := hide (And.intro hs2 hp2)
  have HP := hide hps
  have HBB := hide hbb
  have HBL := hide (bytesF_len gen bl cu ck op ev lg s1 ds1 p1 q1 s2 ds2 p2 q2 sn hd1 hd2 hsn)
  have HLen1 := hide (show (cellsI (rootI s1 ds1 p1 q1)).size = 15 from by rw [cellsI_size]; exact rootI_len _ _ _ _ HD.out.1)
  have HLen2 := hide (show (cellsI (rootI s2 ds2 p2 q2)).size = 15 from by rw [cellsI_size]; exact rootI_len _ _ _ _ HD.out.2.1)
  have HX := hide (fun k hk w => index31 sn k HD.out.2.2 hk w)
  have hb0 : Below w.heap.size w (w.alloc (.cells (cellsI (fsI (gen : Int) (bl : Int) (cu : Int) (ck : Int) (op : Int) (ev : Int) (lg : Int) s1 ds1 p1 q1 s2 ds2 p2 q2 sn)) 59)) := (Below.refl _ _).alloc (Nat.le_refl _) _
  have K0 := hide (And.intro (Blk.new w (cellsI (fsI (gen : Int) (bl : Int) (cu : Int) (ck : Int) (op : Int) (ev : Int) (lg : Int) s1 ds1 p1 q1 s2 ds2 p2 q2 sn)) 59) (And.intro hb0 (hL.below hb0)))
  clear hd1 hd2 hsn hs1 hs2 hp1 hp2 hps hbb hb0 hL
  go_enter Tryd.func76, Tryd.ntmps76
  go_wp2_with (first | (refine wpList_load_mid rfl 121 _ rfl 1 0 rfl (fsLet.map (Value.int .u8)) _ K0.out.2.2 Tryd.underlying121 rfl info8 ?_) | (go_at_call 108; fail))
  refine (layLetters_any 114 111 111 116 114 101 99 49 _).mono ?_
  rintro e w1 ⟨rfl, o1, b1⟩
  rw [World.size_alloc] at o1 ⊢
  have L1 := hide (show Ls w w1 (w.heap.size + 1 + 1) 8 fsLet (cellsI (fsI (gen : Int) (bl : Int) (cu : Int) (ck : Int) (op : Int) (ev : Int) (lg : Int) s1 ds1 p1 q1 s2 ds2 p2 q2 sn)) 59 from ⟨own_mono o1 (by omega), K0.out.1.below b1 K0.out.1.lt, K0.out.2.1.trans (b1.mono K0.out.2.1.size), by omega⟩)
  clear o1 b1 K0
  have c := (L1.out.blk.cell 0).trans (show (cellsI (fsI (gen : Int) (bl : Int) (cu : Int) (ck : Int) (op : Int) (ev : Int) (lg : Int) s1 ds1 p1 q1 s2 ds2 p2 q2 sn))[0]? = some (.int .i64 (gen : Int)) from rfl)
  go_wp2_with (go_at_call 95; fail)
  refine (lay64_any (w.heap.size + 1 + 1) w.heap.size 8 512 gen _ _ L1.out.own (by omega) (by omega) (by omega)).mono ?_
  rintro e w2 ⟨rfl, o, g⟩
  have L2 := hide (L1.out.step o g)
  clear o g L1 c
  have c := (L2.out.blk.cell 1).trans (show (cellsI (fsI (gen : Int) (bl : Int) (cu : Int) (ck : Int) (op : Int) (ev : Int) (lg : Int) s1 ds1 p1 q1 s2 ds2 p2 q2 sn))[1]? = some (.int .i64 (bl : Int)) from rfl)
  go_wp2_with (go_at_call 50; fail)
  refine (lay32_any (w.heap.size + 1 + 1) w.heap.size 16 512 bl _ _ L2.out.own (by omega) (by omega) (by omega)).mono ?_
  rintro e w3 ⟨rfl, o, g⟩
  have L3 := hide (L2.out.step o g)
  clear o g L2 c
  have c := (L3.out.blk.cell 2).trans (show (cellsI (fsI (gen : Int) (bl : Int) (cu : Int) (ck : Int) (op : Int) (ev : Int) (lg : Int) s1 ds1 p1 q1 s2 ds2 p2 q2 sn))[2]? = some (.int .i64 (cu : Int)) from rfl)
  go_wp2_with (go_at_call 50; fail)
  refine (lay32_any (w.heap.size + 1 + 1) w.heap.size 20 512 cu _ _ L3.out.own (by omega) (by omega) (by omega)).mono ?_
  rintro e w4 ⟨rfl, o, g⟩
  have L4 := hide (L3.out.step o g)
  clear o g L3 c
  have c := (L4.out.blk.cell 3).trans (show (cellsI (fsI (gen : Int) (bl : Int) (cu : Int) (ck : Int) (op : Int) (ev : Int) (lg : Int) s1 ds1 p1 q1 s2 ds2 p2 q2 sn))[3]? = some (.int .i64 (ck : Int)) from rfl)
  go_wp2_with (go_at_call 95; fail)
  refine (lay64_any (w.heap.size + 1 + 1) w.heap.size 24 512 ck _ _ L4.out.own (by omega) (by omega) (by omega)).mono ?_
  rintro e w5 ⟨rfl, o, g⟩
  have L5 := hide (L4.out.step o g)
  clear o g L4 c
  have c := (L5.out.blk.cell 4).trans (show (cellsI (fsI (gen : Int) (bl : Int) (cu : Int) (ck : Int) (op : Int) (ev : Int) (lg : Int) s1 ds1 p1 q1 s2 ds2 p2 q2 sn))[4]? = some (.int .i64 (op : Int)) from rfl)
  go_wp2_with (go_at_call 95; fail)
  refine (lay64_any (w.heap.size + 1 + 1) w.heap.size 32 512 op _ _ L5.out.own (by omega) (by omega) (by omega)).mono ?_
  rintro e w6 ⟨rfl, o, g⟩
  have L6 := hide (L5.out.step o g)
  clear o g L5 c
  have c := (L6.out.blk.cell 5).trans (show (cellsI (fsI (gen : Int) (bl : Int) (cu : Int) (ck : Int) (op : Int) (ev : Int) (lg : Int) s1 ds1 p1 q1 s2 ds2 p2 q2 sn))[5]? = some (.int .i64 (ev : Int)) from rfl)
  go_wp2_with (go_at_call 50; fail)
  refine (lay32_any (w.heap.size + 1 + 1) w.heap.size 40 512 ev _ _ L6.out.own (by omega) (by omega) (by omega)).mono ?_
  rintro e w7 ⟨rfl, o, g⟩
  have L7 := hide (L6.out.step o g)
  clear o g L6 c
  have c := (L7.out.blk.cell 6).trans (show (cellsI (fsI (gen : Int) (bl : Int) (cu : Int) (ck : Int) (op : Int) (ev : Int) (lg : Int) s1 ds1 p1 q1 s2 ds2 p2 q2 sn))[6]? = some (.int .i64 (lg : Int)) from rfl)
  go_wp2_with (go_at_call 50; fail)
  refine (lay32_any (w.heap.size + 1 + 1) w.heap.size 44 512 lg _ _ L7.out.own (by omega) (by omega) (by omega)).mono ?_
  rintro e w8 ⟨rfl, o, g⟩
  have L8 := hide (L7.out.step o g)
  clear o g L7 c
  have HR := hide (fs_range1 (gen : Int) (bl : Int) (cu : Int) (ck : Int) (op : Int) (ev : Int) (lg : Int) s1 ds1 p1 q1 s2 ds2 p2 q2 sn HD.out.1 L8.out.blk)
  go_wp2_with (first | (refine wpList_load_mid rfl 36 _ rfl w.heap.size 7 rfl ((rootI s1 ds1 p1 q1).map (Value.int .i64)) _ HR.out Tryd.underlying36 rfl (by rw [List.length_map, ← cellsI_size, HLen1.out]; exact info15) ?_) | (go_at_call 56; fail))
  refine (layRoot_any (w.heap.size + 1 + 1) w.heap.size 48 512 _ s1 ds1 p1 q1 _ L8.out.own (by omega) (by omega) HD.out.1 HS1.out.1 HS1.out.2).mono ?_
  rintro e w9 ⟨rfl, o, g⟩
  have L9 := hide (L8.out.step o g)
  clear o g L8 HR
  have HR := hide (fs_range2 (gen : Int) (bl : Int) (cu : Int) (ck : Int) (op : Int) (ev : Int) (lg : Int) s1 ds1 p1 q1 s2 ds2 p2 q2 sn HD.out.1 HD.out.2.1 L9.out.blk)
  go_wp2_with (first | (refine wpList_load_mid rfl 36 _ rfl w.heap.size 22 rfl ((rootI s2 ds2 p2 q2).map (Value.int .i64)) _ HR.out Tryd.underlying36 rfl (by rw [List.length_map, ← cellsI_size, HLen2.out]; exact info15) ?_) | (go_at_call 56; fail))
  refine (layRoot_any (w.heap.size + 1 + 1) w.heap.size 112 512 _ s2 ds2 p2 q2 _ L9.out.own (by omega) (by omega) HD.out.2.1 HS2.out.1 HS2.out.2).mono ?_
  rintro e w10 ⟨rfl, o, g⟩
  have L10 := hide (L9.out.step o g)
  clear o g L9 HR
  have LH := hide (show Ls w w10 (w.heap.size + 1 + 1) 176 (headF gen bl cu ck op ev lg s1 ds1 p1 q1 s2 ds2 p2 q2) (cellsI (fsI (gen : Int) (bl : Int) (cu : Int) (ck : Int) (op : Int) (ev : Int) (lg : Int) s1 ds1 p1 q1 s2 ds2 p2 q2 sn)) 59 from L10.out)
  have HBF := hide (show bytesF gen bl cu ck op ev lg s1 ds1 p1 q1 s2 ds2 p2 q2 sn = headF gen bl cu ck op ev lg s1 ds1 p1 q1 s2 ds2 p2 q2 ++ bytesW sn from rfl)
  generalize headF gen bl cu ck op ev lg s1 ds1 p1 q1 s2 ds2 p2 q2 = hf at LH HBF
  obtain ⟨bf, hbf⟩ : ∃ bf, bf = bytesF gen bl cu ck op ev lg s1 ds1 p1 q1 s2 ds2 p2 q2 sn := ⟨_, rfl⟩
  have HBG := hide hbf
  rw [← hbf] at HBF HBL HBB
  clear hbf
  clear L10
  have HR := hide (fs_range3 (gen : Int) (bl : Int) (cu : Int) (ck : Int) (op : Int) (ev : Int) (lg : Int) s1 ds1 p1 q1 s2 ds2 p2 q2 sn HD.out.1 HD.out.2.1 HD.out.2.2 LH.out.blk)
  go_wp2_with (refine wpList_load_mid rfl 54 _ rfl w.heap.size 37 rfl (sn.map (Value.int .i64)) _ HR.out Tryd.underlying54 rfl (by rw [List.length_map, HD.out.2.2]; exact info31) ?_)
  go_loopw [3, 53] (fun o i wr => ∃ j : Nat, j ≤ 31 ∧ i = .int .i64 j ∧ o = .slice (some ⟨w.heap.size + 1 + 1, 0, none⟩) (176 + 4 * j) 512 ∧ Ls w wr (w.heap.size + 1 + 1) (176 + 4 * j) (hf ++ bytesW (sn.take j)) (cellsI (fsI (gen : Int) (bl : Int) (cu : Int) (ck : Int) (op : Int) (ev : Int) (lg : Int) s1 ds1 p1 q1 s2 ds2 p2 q2 sn)) 59) (fun _ i _ => 31 - (intOf i).toNat)
  case atStart => exact ⟨0, by omega, rfl, rfl, by simpa [bytesW] using LH.out⟩
  case round =>
    clear LH HR
    obtain ⟨j, hj, rfl, rfl, hls⟩ := hrel
    have HC := hide hls
    clear hls
    by_cases hlt : j < 31
    · have hjl : j < sn.length := by rw [HD.out.2.2]; exact hlt
      have hix : ∀ w, (Instr.index 54 (.agg (sn.map (Value.int .i64)).toArray) (.int .i64 j)).run Tryd.prog w = .ok (.int .i64 (sn.getD j 0)) w := fun w => HX.out j hlt w
      have hz1 := HP.out (sn.getD j 0) (by simp [List.getD, hjl])
      have HT := hide (bytesW_take sn j hjl)
      clear hjl
      generalize sn.getD j 0 = z at hix HT hz1
      obtain ⟨y, rfl⟩ := Int.eq_ofNat_of_zero_le hz1.1
      obtain ⟨_, hy2⟩ := hz1
      have hy : y < 2048 := by omega
      clear hy2
      rw [Int.toNat_natCast] at HT
      go_wp2_with (go_at_call 50; fail)
      refine (lay32_any (w.heap.size + 1 + 1) w.heap.size (176 + 4 * j) 512 y _ _ HC.out.own (by omega) (by omega) (by omega)).mono ?_
      rintro e w2 ⟨rfl, o2, g2⟩
      have HW := hide (show Ls w w2 (w.heap.size + 1 + 1) (176 + 4 * (j + 1)) (hf ++ bytesW (sn.take (j + 1))) (cellsI (fsI (gen : Int) (bl : Int) (cu : Int) (ck : Int) (op : Int) (ev : Int) (lg : Int) s1 ds1 p1 q1 s2 ds2 p2 q2 sn)) 59 from by
        rw [HT.out, ← List.append_assoc, show 176 + 4 * (j + 1) = 176 + 4 * j + 4 from by omega]
        exact HC.out.step o2 g2)
      clear o2 g2
      go_wp2
      go_roundw
      case rel => exact ⟨j + 1, by omega, by go_num, by rw [show 176 + 4 * (j + 1) = 176 + 4 * j + 4 from by omega], HW.out⟩
      case measure => simp [intOf]; omega
    · have e31 : j = 31 := by omega
      subst e31
      rw [List.take_of_length_le (by rw [HD.out.2.2]; omega), ← HBF.out] at HC
      have LF := hide (show Ls w wr (w.heap.size + 1 + 1) bf.length bf (cellsI (fsI (gen : Int) (bl : Int) (cu : Int) (ck : Int) (op : Int) (ev : Int) (lg : Int) s1 ds1 p1 q1 s2 ds2 p2 q2 sn)) 59 from by rw [HBL.out]; exact HC.out)
      go_wp2_with (go_at_call 109; fail)
      have hS := laySum_any (w.heap.size + 1 + 1) w.heap.size bf _ LF.out.own (by rw [HBL.out]; omega) HBB.out
      rw [HBL.out] at hS
      refine hS.mono ?_
      clear hS
      rintro e w9 ⟨rfl, o9, g9⟩
      have H9 := hide (And.intro o9 (LF.out.old.grown g9 LF.out.old.size (fun k e => by cases e; exact Nat.le_of_lt LF.out.lt)))
      clear o9 g9
      go_wp2
      go_ret
      exact ⟨.slice (some ⟨w.heap.size + 1 + 1, 0, none⟩) 512 512, rfl, by rw [← HBG.out]; exact H9.out.1, H9.out.2⟩
end Go.Proofs.YtbnjpnhojimaoaaDoor
