/- The program lays a root record down (layFsinfo), EncodeFsinfo of the program; a copy of a root record (toFsinfo). -/
import Derived.Test.YtmmhkjpkidljlaaDoorZc21
import Derived.Test.YtmmhkjpkidljlaaDoorZc28
import Derived.Test.YtmmhkjpkidljlaaDoorZc29
namespace Go.Proofs.YtmmhkjpkidljlaaDoor
set_option linter.unusedVariables false
set_option linter.unusedSimpArgs false
open Go.RowKit

/-- The letters of a root record, where the program's own start lays them. -/
def fsLet : List Int := [114, 111, 111, 116, 114, 101, 99, 49]
def LetF (w : World) : Prop := w.rangeAt 1 0 (fsLet.map (Value.int .u8))
theorem LetF.below {w w' : World} (h : LetF w) (hb : Below w.heap.size w w') : LetF w' := fun j v hv => by
  have h1 := h j v hv
  exact (hb.cell (p := ⟨1, 0 + j, none⟩) (cell_lt h1)).trans h1
/-- The bytes of a root record ahead of its sum. -/
def headF (gen bl cu ck op ev lg : Nat) (s1 : Int) (ds1 : List Int) (p1 q1 s2 : Int) (ds2 : List Int) (p2 q2 : Int) : List Int := fsLet ++ le 8 gen ++ le 4 bl ++ le 4 cu ++ le 8 ck ++ le 8 op ++ le 4 ev ++ le 4 lg ++ bytesR s1 ds1 p1 q1 ++ bytesR s2 ds2 p2 q2
def bytesF (gen bl cu ck op ev lg : Nat) (s1 : Int) (ds1 : List Int) (p1 q1 s2 : Int) (ds2 : List Int) (p2 q2 : Int) (sn : List Int) : List Int := headF gen bl cu ck op ev lg s1 ds1 p1 q1 s2 ds2 p2 q2 ++ bytesW sn
theorem headF_len (gen bl cu ck op ev lg : Nat) (s1 : Int) (ds1 : List Int) (p1 q1 s2 : Int) (ds2 : List Int) (p2 q2 : Int) (h1 : ds1.length = 12) (h2 : ds2.length = 12) : (headF gen bl cu ck op ev lg s1 ds1 p1 q1 s2 ds2 p2 q2).length = 176 := by
  unfold headF
  simp only [List.length_append, le_len, bytesR_len s1 ds1 p1 q1 h1, bytesR_len s2 ds2 p2 q2 h2, fsLet, List.length_cons, List.length_nil]
theorem bytesF_len (gen bl cu ck op ev lg : Nat) (s1 : Int) (ds1 : List Int) (p1 q1 s2 : Int) (ds2 : List Int) (p2 q2 : Int) (sn : List Int) (h1 : ds1.length = 12) (h2 : ds2.length = 12) (h3 : sn.length = 31) : (bytesF gen bl cu ck op ev lg s1 ds1 p1 q1 s2 ds2 p2 q2 sn).length = 300 := by
  unfold bytesF
  rw [List.length_append, headF_len _ _ _ _ _ _ _ _ _ _ _ _ _ _ _ h1 h2, bytesW_len, h3]

set_option maxRecDepth 100000 in
set_option maxHeartbeats 2000000 in
theorem layFs_any (gen bl cu ck op ev lg : Nat) (s1 : Int) (ds1 : List Int) (p1 q1 s2 : Int) (ds2 : List Int) (p2 q2 : Int) (sn : List Int) (w : World) (hd1 : ds1.length = 12) (hd2 : ds2.length = 12) (hsn : sn.length = 31) (a0 : gen < 281474976710656) (a1 : bl < 2049) (a2 : cu < 2049) (a3 : ck < 281474976710656) (a4 : op < 281474976710656) (a5 : ev < 2049) (a6 : lg < 65537) (hs1 : 0 ≤ s1 ∧ s1 ≤ 262144) (hp1 : ∀ z ∈ ds1 ++ [p1, q1], 0 ≤ z ∧ z < 2048) (hs2 : 0 ≤ s2 ∧ s2 ≤ 262144) (hp2 : ∀ z ∈ ds2 ++ [p2, q2], 0 ≤ z ∧ z < 2048) (hps : ∀ z ∈ sn, 0 ≤ z ∧ z < 2048) (hbb : ∀ z ∈ bytesF gen bl cu ck op ev lg s1 ds1 p1 q1 s2 ds2 p2 q2 sn, 0 ≤ z ∧ z < 256) (hL : LetF w) :
    Calls Tryd.prog 46 #[.agg (cellsI (fsI (gen : Int) (bl : Int) (cu : Int) (ck : Int) (op : Int) (ev : Int) (lg : Int) s1 ds1 p1 q1 s2 ds2 p2 q2 sn))] w fun e w' => ∃ v', e = .returned v' ∧ w'.ownsRow w.heap.size 5 1 v' 512 ((sealed (bytesF gen bl cu ck op ev lg s1 ds1 p1 q1 s2 ds2 p2 q2 sn)).map (Value.int .u8)) ∧ Below w.heap.size w w' := by
  have HD := hide (And.intro hd1 (And.intro hd2 hsn))
  have HS1 := hide (And.intro hs1 hp1)
  have HS2 := hide (And.intro hs2 hp2)
  have HP := hide hps
  have HBB := hide hbb
  have HBL := hide (bytesF_len gen bl cu ck op ev lg s1 ds1 p1 q1 s2 ds2 p2 q2 sn hd1 hd2 hsn)
  have HLen1 := hide (show (cellsI (rootI s1 ds1 p1 q1)).size = 15 from by rw [cellsI_size]; exact rootI_len _ _ _ _ HD.out.1)
  have HLen2 := hide (show (cellsI (rootI s2 ds2 p2 q2)).size = 15 from by rw [cellsI_size]; exact rootI_len _ _ _ _ HD.out.2.1)
  have HX := hide (fun k hk w => index31 sn k HD.out.2.2 hk w)
  have hb0 : Below w.heap.size w (w.alloc (.cells (cellsI (fsI (gen : Int) (bl : Int) (cu : Int) (ck : Int) (op : Int) (ev : Int) (lg : Int) s1 ds1 p1 q1 s2 ds2 p2 q2 sn)) 38)) := (Below.refl _ _).alloc (Nat.le_refl _) _
  have K0 := hide (And.intro (Blk.new w (cellsI (fsI (gen : Int) (bl : Int) (cu : Int) (ck : Int) (op : Int) (ev : Int) (lg : Int) s1 ds1 p1 q1 s2 ds2 p2 q2 sn)) 38) (And.intro hb0 (hL.below hb0)))
  clear hd1 hd2 hsn hs1 hs2 hp1 hp2 hps hbb hb0 hL
  go_enter Tryd.func46, Tryd.ntmps46
  go_wp2_with (first | (refine wpList_load_mid rfl 125 _ rfl 1 0 rfl (fsLet.map (Value.int .u8)) _ K0.out.2.2 Tryd.underlying125 rfl info8 ?_) | (go_at_call 66; fail))
  refine (layLetters_any 114 111 111 116 114 101 99 49 _).mono ?_
  rintro e w1 ⟨rfl, o1, b1⟩
  rw [World.size_alloc] at o1 ⊢
  have L1 := hide (show Ls w w1 (w.heap.size + 1 + 1) 8 fsLet (cellsI (fsI (gen : Int) (bl : Int) (cu : Int) (ck : Int) (op : Int) (ev : Int) (lg : Int) s1 ds1 p1 q1 s2 ds2 p2 q2 sn)) 38 from ⟨own_mono o1 (by omega), K0.out.1.below b1 K0.out.1.lt, K0.out.2.1.trans (b1.mono K0.out.2.1.size), by omega⟩)
  clear o1 b1 K0
  have c := (L1.out.blk.cell 0).trans (show (cellsI (fsI (gen : Int) (bl : Int) (cu : Int) (ck : Int) (op : Int) (ev : Int) (lg : Int) s1 ds1 p1 q1 s2 ds2 p2 q2 sn))[0]? = some (.int .i64 (gen : Int)) from rfl)
  go_wp2_with (go_at_call 67; fail)
  refine (lay64_any (w.heap.size + 1 + 1) w.heap.size 8 512 gen _ _ L1.out.own (by omega) (by omega) (by omega)).mono ?_
  rintro e w2 ⟨rfl, o, g⟩
  have L2 := hide (L1.out.step o g)
  clear o g L1 c
  have c := (L2.out.blk.cell 1).trans (show (cellsI (fsI (gen : Int) (bl : Int) (cu : Int) (ck : Int) (op : Int) (ev : Int) (lg : Int) s1 ds1 p1 q1 s2 ds2 p2 q2 sn))[1]? = some (.int .i64 (bl : Int)) from rfl)
  go_wp2_with (go_at_call 68; fail)
  refine (lay32_any (w.heap.size + 1 + 1) w.heap.size 16 512 bl _ _ L2.out.own (by omega) (by omega) (by omega)).mono ?_
  rintro e w3 ⟨rfl, o, g⟩
  have L3 := hide (L2.out.step o g)
  clear o g L2 c
  have c := (L3.out.blk.cell 2).trans (show (cellsI (fsI (gen : Int) (bl : Int) (cu : Int) (ck : Int) (op : Int) (ev : Int) (lg : Int) s1 ds1 p1 q1 s2 ds2 p2 q2 sn))[2]? = some (.int .i64 (cu : Int)) from rfl)
  go_wp2_with (go_at_call 68; fail)
  refine (lay32_any (w.heap.size + 1 + 1) w.heap.size 20 512 cu _ _ L3.out.own (by omega) (by omega) (by omega)).mono ?_
  rintro e w4 ⟨rfl, o, g⟩
  have L4 := hide (L3.out.step o g)
  clear o g L3 c
  have c := (L4.out.blk.cell 3).trans (show (cellsI (fsI (gen : Int) (bl : Int) (cu : Int) (ck : Int) (op : Int) (ev : Int) (lg : Int) s1 ds1 p1 q1 s2 ds2 p2 q2 sn))[3]? = some (.int .i64 (ck : Int)) from rfl)
  go_wp2_with (go_at_call 67; fail)
  refine (lay64_any (w.heap.size + 1 + 1) w.heap.size 24 512 ck _ _ L4.out.own (by omega) (by omega) (by omega)).mono ?_
  rintro e w5 ⟨rfl, o, g⟩
  have L5 := hide (L4.out.step o g)
  clear o g L4 c
  have c := (L5.out.blk.cell 4).trans (show (cellsI (fsI (gen : Int) (bl : Int) (cu : Int) (ck : Int) (op : Int) (ev : Int) (lg : Int) s1 ds1 p1 q1 s2 ds2 p2 q2 sn))[4]? = some (.int .i64 (op : Int)) from rfl)
  go_wp2_with (go_at_call 67; fail)
  refine (lay64_any (w.heap.size + 1 + 1) w.heap.size 32 512 op _ _ L5.out.own (by omega) (by omega) (by omega)).mono ?_
  rintro e w6 ⟨rfl, o, g⟩
  have L6 := hide (L5.out.step o g)
  clear o g L5 c
  have c := (L6.out.blk.cell 5).trans (show (cellsI (fsI (gen : Int) (bl : Int) (cu : Int) (ck : Int) (op : Int) (ev : Int) (lg : Int) s1 ds1 p1 q1 s2 ds2 p2 q2 sn))[5]? = some (.int .i64 (ev : Int)) from rfl)
  go_wp2_with (go_at_call 68; fail)
  refine (lay32_any (w.heap.size + 1 + 1) w.heap.size 40 512 ev _ _ L6.out.own (by omega) (by omega) (by omega)).mono ?_
  rintro e w7 ⟨rfl, o, g⟩
  have L7 := hide (L6.out.step o g)
  clear o g L6 c
  have c := (L7.out.blk.cell 6).trans (show (cellsI (fsI (gen : Int) (bl : Int) (cu : Int) (ck : Int) (op : Int) (ev : Int) (lg : Int) s1 ds1 p1 q1 s2 ds2 p2 q2 sn))[6]? = some (.int .i64 (lg : Int)) from rfl)
  go_wp2_with (go_at_call 68; fail)
  refine (lay32_any (w.heap.size + 1 + 1) w.heap.size 44 512 lg _ _ L7.out.own (by omega) (by omega) (by omega)).mono ?_
  rintro e w8 ⟨rfl, o, g⟩
  have L8 := hide (L7.out.step o g)
  clear o g L7 c
  have HR := hide (fs_range1 (gen : Int) (bl : Int) (cu : Int) (ck : Int) (op : Int) (ev : Int) (lg : Int) s1 ds1 p1 q1 s2 ds2 p2 q2 sn HD.out.1 L8.out.blk)
  go_wp2_with (first | (refine wpList_load_mid rfl 36 _ rfl w.heap.size 7 rfl ((rootI s1 ds1 p1 q1).map (Value.int .i64)) _ HR.out Tryd.underlying36 rfl (by rw [List.length_map, ← cellsI_size, HLen1.out]; exact info15) ?_) | (go_at_call 69; fail))
  refine (layRoot_any (w.heap.size + 1 + 1) w.heap.size 48 512 _ s1 ds1 p1 q1 _ L8.out.own (by omega) (by omega) HD.out.1 HS1.out.1 HS1.out.2).mono ?_
  rintro e w9 ⟨rfl, o, g⟩
  have L9 := hide (L8.out.step o g)
  clear o g L8 HR
  have HR := hide (fs_range2 (gen : Int) (bl : Int) (cu : Int) (ck : Int) (op : Int) (ev : Int) (lg : Int) s1 ds1 p1 q1 s2 ds2 p2 q2 sn HD.out.1 HD.out.2.1 L9.out.blk)
  go_wp2_with (first | (refine wpList_load_mid rfl 36 _ rfl w.heap.size 22 rfl ((rootI s2 ds2 p2 q2).map (Value.int .i64)) _ HR.out Tryd.underlying36 rfl (by rw [List.length_map, ← cellsI_size, HLen2.out]; exact info15) ?_) | (go_at_call 69; fail))
  refine (layRoot_any (w.heap.size + 1 + 1) w.heap.size 112 512 _ s2 ds2 p2 q2 _ L9.out.own (by omega) (by omega) HD.out.2.1 HS2.out.1 HS2.out.2).mono ?_
  rintro e w10 ⟨rfl, o, g⟩
  have L10 := hide (L9.out.step o g)
  clear o g L9 HR
  have LH := hide (show Ls w w10 (w.heap.size + 1 + 1) 176 (headF gen bl cu ck op ev lg s1 ds1 p1 q1 s2 ds2 p2 q2) (cellsI (fsI (gen : Int) (bl : Int) (cu : Int) (ck : Int) (op : Int) (ev : Int) (lg : Int) s1 ds1 p1 q1 s2 ds2 p2 q2 sn)) 38 from L10.out)
  have HBF := hide (show bytesF gen bl cu ck op ev lg s1 ds1 p1 q1 s2 ds2 p2 q2 sn = headF gen bl cu ck op ev lg s1 ds1 p1 q1 s2 ds2 p2 q2 ++ bytesW sn from rfl)
  generalize headF gen bl cu ck op ev lg s1 ds1 p1 q1 s2 ds2 p2 q2 = hf at LH HBF
  obtain ⟨bf, hbf⟩ : ∃ bf, bf = bytesF gen bl cu ck op ev lg s1 ds1 p1 q1 s2 ds2 p2 q2 sn := ⟨_, rfl⟩
  have HBG := hide hbf
  rw [← hbf] at HBF HBL HBB
  clear hbf
  clear L10
  have HR := hide (fs_range3 (gen : Int) (bl : Int) (cu : Int) (ck : Int) (op : Int) (ev : Int) (lg : Int) s1 ds1 p1 q1 s2 ds2 p2 q2 sn HD.out.1 HD.out.2.1 HD.out.2.2 LH.out.blk)
  go_wp2_with (refine wpList_load_mid rfl 26 _ rfl w.heap.size 37 rfl (sn.map (Value.int .i64)) _ HR.out Tryd.underlying26 rfl (by rw [List.length_map, HD.out.2.2]; exact info31) ?_)
  go_loopw [3, 53] (fun o i wr => ∃ j : Nat, j ≤ 31 ∧ i = .int .i64 j ∧ o = .slice (some ⟨w.heap.size + 1 + 1, 0, none⟩) (176 + 4 * j) 512 ∧ Ls w wr (w.heap.size + 1 + 1) (176 + 4 * j) (hf ++ bytesW (sn.take j)) (cellsI (fsI (gen : Int) (bl : Int) (cu : Int) (ck : Int) (op : Int) (ev : Int) (lg : Int) s1 ds1 p1 q1 s2 ds2 p2 q2 sn)) 38) (fun _ i _ => 31 - (intOf i).toNat)
  case atStart => exact ⟨0, by omega, rfl, rfl, by simpa [bytesW] using LH.out⟩
  case round =>
    clear LH HR
    obtain ⟨j, hj, rfl, rfl, hls⟩ := hrel
    have HC := hide hls
    clear hls
    by_cases hlt : j < 31
    · have hjl : j < sn.length := by rw [HD.out.2.2]; exact hlt
      have hix : ∀ w, (Instr.index 26 (.agg (sn.map (Value.int .i64)).toArray) (.int .i64 j)).run Tryd.prog w = .ok (.int .i64 (sn.getD j 0)) w := fun w => HX.out j hlt w
      have hz1 := HP.out (sn.getD j 0) (by simp [List.getD, hjl])
      have HT := hide (bytesW_take sn j hjl)
      clear hjl
      generalize sn.getD j 0 = z at hix HT hz1
      obtain ⟨y, rfl⟩ := Int.eq_ofNat_of_zero_le hz1.1
      obtain ⟨_, hy2⟩ := hz1
      have hy : y < 2048 := by omega
      clear hy2
      rw [Int.toNat_natCast] at HT
      go_wp2_with (go_at_call 68; fail)
      refine (lay32_any (w.heap.size + 1 + 1) w.heap.size (176 + 4 * j) 512 y _ _ HC.out.own (by omega) (by omega) (by omega)).mono ?_
      rintro e w2 ⟨rfl, o2, g2⟩
      have HW := hide (show Ls w w2 (w.heap.size + 1 + 1) (176 + 4 * (j + 1)) (hf ++ bytesW (sn.take (j + 1))) (cellsI (fsI (gen : Int) (bl : Int) (cu : Int) (ck : Int) (op : Int) (ev : Int) (lg : Int) s1 ds1 p1 q1 s2 ds2 p2 q2 sn)) 38 from by
        rw [HT.out, ← List.append_assoc, show 176 + 4 * (j + 1) = 176 + 4 * j + 4 from by omega]
        exact HC.out.step o2 g2)
      clear o2 g2
      go_wp2
      go_roundw
      case rel => exact ⟨j + 1, by omega, by go_num, by rw [show 176 + 4 * (j + 1) = 176 + 4 * j + 4 from by omega], HW.out⟩
      case measure => simp [intOf]; omega
    · have e31 : j = 31 := by omega
      subst e31
      rw [List.take_of_length_le (by rw [HD.out.2.2]; omega), ← HBF.out] at HC
      have LF := hide (show Ls w wr (w.heap.size + 1 + 1) bf.length bf (cellsI (fsI (gen : Int) (bl : Int) (cu : Int) (ck : Int) (op : Int) (ev : Int) (lg : Int) s1 ds1 p1 q1 s2 ds2 p2 q2 sn)) 38 from by rw [HBL.out]; exact HC.out)
      go_wp2_with (go_at_call 70; fail)
      have hS := laySum_any (w.heap.size + 1 + 1) w.heap.size bf _ LF.out.own (by rw [HBL.out]; omega) HBB.out
      rw [HBL.out] at hS
      refine hS.mono ?_
      clear hS
      rintro e w9 ⟨rfl, o9, g9⟩
      have H9 := hide (And.intro o9 (LF.out.old.grown g9 LF.out.old.size (fun k e => by cases e; exact Nat.le_of_lt LF.out.lt)))
      clear o9 g9
      go_wp2
      go_ret
      exact ⟨.slice (some ⟨w.heap.size + 1 + 1, 0, none⟩) 512 512, rfl, by rw [← HBG.out]; exact H9.out.1, H9.out.2⟩

def encFs (gen bl cu ck op ev lg s1 : Int) (ds1 : List Int) (p1 q1 s2 : Int) (ds2 : List Int) (p2 q2 : Int) (sn : List Int) : List Int := if rightF gen bl cu ck op ev lg s1 ds1 p1 q1 s2 ds2 p2 q2 sn = true then sealed (bytesF gen.toNat bl.toNat cu.toNat ck.toNat op.toNat ev.toNat lg.toNat s1 ds1 p1 q1 s2 ds2 p2 q2 sn) else []
def codeFs (gen bl cu ck op ev lg s1 : Int) (ds1 : List Int) (p1 q1 s2 : Int) (ds2 : List Int) (p2 q2 : Int) (sn : List Int) : Int := if rightF gen bl cu ck op ev lg s1 ds1 p1 q1 s2 ds2 p2 q2 sn = true then 0 else 7
theorem bytesR_bd (s : Int) (ds : List Int) (p q : Int) : ∀ z ∈ bytesR s ds p q, 0 ≤ z ∧ z < 256 := by
  intro z h
  unfold bytesR bytesW at h
  rw [List.mem_append] at h
  rcases h with h | h
  · exact le_few _ _ z h
  · obtain ⟨v, _, hv⟩ := List.mem_flatMap.1 h
    exact le_few _ _ z hv
theorem bytesF_bd (gen bl cu ck op ev lg : Nat) (s1 : Int) (ds1 : List Int) (p1 q1 s2 : Int) (ds2 : List Int) (p2 q2 : Int) (sn : List Int) : ∀ z ∈ bytesF gen bl cu ck op ev lg s1 ds1 p1 q1 s2 ds2 p2 q2 sn, 0 ≤ z ∧ z < 256 := by
  intro z h
  unfold bytesF headF at h
  simp only [List.mem_append] at h
  rcases h with (((((((((h | h) | h) | h) | h) | h) | h) | h) | h) | h) | h
  · simp only [fsLet, List.mem_cons, List.not_mem_nil, or_false] at h
    omega
  · exact le_few _ _ z h
  · exact le_few _ _ z h
  · exact le_few _ _ z h
  · exact le_few _ _ z h
  · exact le_few _ _ z h
  · exact le_few _ _ z h
  · exact le_few _ _ z h
  · exact bytesR_bd _ _ _ _ z h
  · exact bytesR_bd _ _ _ _ z h
  · unfold bytesW at h
    obtain ⟨v, _, hv⟩ := List.mem_flatMap.1 h
    exact le_few _ _ z hv
/-- What a right root record holds. -/
structure FsBd (gen bl cu ck op ev lg s1 : Int) (ds1 : List Int) (p1 q1 s2 : Int) (ds2 : List Int) (p2 q2 : Int) (sn : List Int) : Prop where
  g0 : 0 ≤ gen ∧ gen < 281474976710656
  g1 : 0 ≤ bl ∧ bl < 2049
  g2 : 0 ≤ cu ∧ cu < 2049
  g3 : 0 ≤ ck ∧ ck < 281474976710656
  g4 : 0 ≤ op ∧ op < 281474976710656
  g5 : 0 ≤ ev ∧ ev < 2049
  g6 : 0 ≤ lg ∧ lg < 65537
  r1 : 0 ≤ s1 ∧ s1 ≤ 262144
  q1 : ∀ z ∈ ds1 ++ [p1, q1], 0 ≤ z ∧ z < 2048
  r2 : 0 ≤ s2 ∧ s2 ≤ 262144
  q2 : ∀ z ∈ ds2 ++ [p2, q2], 0 ≤ z ∧ z < 2048
  sn : ∀ z ∈ sn, 0 ≤ z ∧ z < 2048
theorem fs_bd (gen bl cu ck op ev lg s1 : Int) (ds1 : List Int) (p1 q1 s2 : Int) (ds2 : List Int) (p2 q2 : Int) (sn : List Int) (hd1 : ds1.length = 12) (hd2 : ds2.length = 12) (h : rightF gen bl cu ck op ev lg s1 ds1 p1 q1 s2 ds2 p2 q2 sn = true) : FsBd gen bl cu ck op ev lg s1 ds1 p1 q1 s2 ds2 p2 q2 sn := by
  unfold rightF at h
  simp only [Bool.and_eq_true, decide_eq_true_eq] at h
  obtain ⟨⟨⟨⟨⟨⟨⟨⟨⟨⟨⟨⟨h1, h2⟩, h3⟩, h4⟩, h5⟩, h6⟩, h7⟩, h8, _⟩, _⟩, h10⟩, _⟩, _⟩, h13⟩ := h
  have g1 := wi_true h1
  have g2 := wi_true h2
  have g3 := wi_true h3
  have g4 := wi_true h4
  have g6 := wi_true h6
  have e1 := right_bd hd1 h8
  have e2 := right_bd hd2 h10
  have g7 : lg = 0 ∨ (8192 ≤ lg ∧ lg ≤ 65536) := by unfold logB at h7; simpa using h7
  refine ⟨by omega, by omega, by omega, by omega, by omega, by omega, by omega, e1.1, e1.2, e2.1, e2.2, fun z hz => ?_⟩
  unfold snB at h13
  have := List.all_eq_true.1 h13 z hz
  unfold ptrB at this
  simp at this
  omega

theorem encFs_len (gen bl cu ck op ev lg s1 : Int) (ds1 : List Int) (p1 q1 s2 : Int) (ds2 : List Int) (p2 q2 : Int) (sn : List Int) (hd1 : ds1.length = 12) (hd2 : ds2.length = 12) (hsn : sn.length = 31) : (encFs gen bl cu ck op ev lg s1 ds1 p1 q1 s2 ds2 p2 q2 sn).length ≤ 512 := by
  unfold encFs
  split
  · rename_i h
    rw [sealed_len _ (by rw [bytesF_len _ _ _ _ _ _ _ _ _ _ _ _ _ _ _ _ hd1 hd2 hsn]; omega)]
    omega
  · simp
set_option maxRecDepth 100000 in
set_option maxHeartbeats 400000 in
theorem toIntA31_any (ds : List Int) (w : World) (hd : ds.length = 31) :
    Calls Tryd.prog 35 #[.agg (cellsI ds)] w fun e w' => e = .returned (.agg (cellsI ds)) ∧ Below w.heap.size w w' := by
  have HD := hide hd
  clear hd
  go_enter Tryd.func35, Tryd.ntmps35
  go_wp2
  go_loopw [4] (fun i wr => ∃ k : Nat, k ≤ 31 ∧ i = .int .i64 k ∧ Blk wr w.heap.size (cellsI ds) 26 ∧ Blk wr (w.heap.size + 1) (cellsI (List.replicate 31 0)) 26 ∧ Blk wr (w.heap.size + 1 + 1) (cellsI (ds.take k ++ List.replicate (31 - k) 0)) 26 ∧ Below w.heap.size w wr) (fun i _ => 31 - (intOf i).toNat)
  case atStart =>
    refine ⟨0, by omega, rfl, ((Blk.new w _ _).alloc _).alloc _, ?_, ?_, (((Below.refl _ _).alloc (Nat.le_refl _) _).alloc (by simp) _).alloc (by simp; omega) _⟩
    · have h := (Blk.new (w.alloc (.cells (cellsI ds) 26)) (cellsI (List.replicate 31 0)) 26).alloc (.cells (cellsI (List.replicate 31 0)) 26)
      rw [World.size_alloc] at h
      exact h
    · have h := Blk.new ((w.alloc (.cells (cellsI ds) 26)).alloc (.cells (cellsI (List.replicate 31 0)) 26)) (cellsI (List.replicate 31 0)) 26
      rw [World.size_alloc, World.size_alloc] at h
      exact h
  case round =>
    obtain ⟨k, hk, rfl, h1, h2, h3, hb⟩ := hrel
    by_cases hlt : k < 31
    · have c1 := h1.cell k
      rw [cellsI_get ds k (by rw [HD.out]; exact hlt)] at c1
      obtain ⟨old, c3⟩ : ∃ u, wr.cell? ⟨w.heap.size + 1 + 1, k, none⟩ = some u := by
        rw [h3.cell k]
        exact ⟨_, Array.getElem?_eq_getElem (by rw [cellsI_size]; have := HD.out; simp; omega)⟩
      have f3 := h3.frozen k
      have HS := hide (set_cells ds k 31 hlt HD.out)
      generalize ds.getD k 0 = z at c1 HS
      have HW := hide (show Blk (wr.setCell ⟨w.heap.size + 1 + 1, k, none⟩ (.int .i64 z)) w.heap.size (cellsI ds) 26 ∧ Blk (wr.setCell ⟨w.heap.size + 1 + 1, k, none⟩ (.int .i64 z)) (w.heap.size + 1) (cellsI (List.replicate 31 0)) 26 ∧ Blk (wr.setCell ⟨w.heap.size + 1 + 1, k, none⟩ (.int .i64 z)) (w.heap.size + 1 + 1) (cellsI (ds.take (k + 1) ++ List.replicate (31 - (k + 1)) 0)) 26 ∧ Below w.heap.size w (wr.setCell ⟨w.heap.size + 1 + 1, k, none⟩ (.int .i64 z)) from by
        refine ⟨h1.other _ _ (by show _ ≠ w.heap.size + 1 + 1; omega), h2.other _ _ (by show _ ≠ w.heap.size + 1 + 1; omega), ?_, hb.setCell (by show _ ≤ w.heap.size + 1 + 1; omega) _⟩
        rw [← HS.out]
        exact h3.set k _)
      clear h1 h2 h3 hb
      go_wp2
      go_roundw
      case rel => exact ⟨k + 1, by omega, by go_num, HW.out.1, HW.out.2.1, HW.out.2.2.1, HW.out.2.2.2⟩
      case measure => simp [intOf]; omega
    · have hk31 : k = 31 := by omega
      subst hk31
      rw [List.take_of_length_le (by rw [HD.out]; omega), Nat.sub_self, List.replicate_zero, List.append_nil] at h3
      have hsz : (cellsI ds).size = 31 := by rw [cellsI_size]; exact HD.out
      have HB := hide (And.intro h2 (And.intro h3 hb))
      have HZ := hide hsz
      clear h1 h2 h3 hb hsz
      go_wp2_with (first | (refine wpList_load_row rfl 26 _ rfl (w.heap.size + 1 + 1) rfl 26 (cellsI ds) (0, 0) _ HB.out.2.1 Tryd.underlying26 rfl (by rw [HZ.out]; exact info31) ?_) | (refine wpList_store_row rfl 26 _ _ rfl (w.heap.size + 1) (cellsI ds) rfl rfl 26 _ HB.out.1 (by rw [HZ.out]; exact info31) (by rw [HZ.out]; rfl) (cellsI_one ds) ?_))
      refine bodyPost_ret (v := .agg (cellsI ds)) ?_ rfl ⟨rfl, ?_⟩
      · exact results_cell_row rfl _ _ (w.heap.size + 1) 26 (cellsI ds) (0, 0) _ rfl (HB.out.1.row _) Tryd.underlying26 rfl (by rw [HZ.out]; exact info31)
      · exact below_setRow HB.out.2.2 (by omega) _

theorem over_part (A B Z D : List Int) (o : Nat) (hA : A.length = o) (hB : B.length = Z.length) : over (A ++ (B ++ D)) o Z = A ++ (Z ++ D) := by
  unfold over
  subst hA
  simp [← hB, List.drop_append]
/-- What the copying keeps: the record that came in, the place of the answer, the record under way, all that is older. -/
structure To (w wr : World) (C : Array Value) (X : List Int) : Prop where
  arg : Blk wr w.heap.size C 28
  ans : Blk wr (w.heap.size + 1) (cellsI (List.replicate 68 0)) 38
  out : Blk wr (w.heap.size + 1 + 1) (cellsI X) 38
  old : Below w.heap.size w wr
theorem To.below {w wr w' : World} {C : Array Value} {X : List Int} (h : To w wr C X) (hb : Below wr.heap.size wr w') : To w w' C X :=
  ⟨h.arg.below hb h.arg.lt, h.ans.below hb h.ans.lt, h.out.below hb h.out.lt, h.old.trans (hb.mono h.old.size)⟩
theorem To.store {w wr : World} {C : Array Value} {X : List Int} (h : To w wr C X) (o : Nat) (zs : List Int) (hl : o + zs.length ≤ X.length) : To w (wr.setCells (w.heap.size + 1 + 1) o (cellsI zs).toList) C (over X o zs) :=
  ⟨Blk.cells_other _ o h.arg (by omega), Blk.cells_other _ o h.ans (by omega), Blk.cells zs o h.out hl, below_cells (by omega) _ o h.old⟩

set_option maxRecDepth 100000 in
set_option maxHeartbeats 2000000 in
theorem toFs_any (gen bl cu ck op ev lg s1 : Int) (ds1 : List Int) (p1 q1 s2 : Int) (ds2 : List Int) (p2 q2 : Int) (sn : List Int) (w : World) (hd1 : ds1.length = 12) (hd2 : ds2.length = 12) (hsn : sn.length = 31) :
    Calls Tryd.prog 16 #[.agg (cellsI (fsI gen bl cu ck op ev lg s1 ds1 p1 q1 s2 ds2 p2 q2 sn))] w fun e w' => e = .returned (.agg (cellsI (fsI gen bl cu ck op ev lg s1 ds1 p1 q1 s2 ds2 p2 q2 sn))) ∧ Below w.heap.size w w' := by
  have HD := hide (And.intro hd1 (And.intro hd2 hsn))
  have HL1 := hide (rootI_len s1 ds1 p1 q1 hd1)
  have HL2 := hide (rootI_len s2 ds2 p2 q2 hd2)
  have HZ := hide (show (cellsI (fsI gen bl cu ck op ev lg s1 ds1 p1 q1 s2 ds2 p2 q2 sn)).size = 68 from by rw [cellsI_size]; exact fsI_len _ _ _ _ _ _ _ _ _ _ _ _ _ _ _ _ hd1 hd2 hsn)
  have c0 : ∀ o1 o2, (((w.alloc (.cells (cellsI (fsI gen bl cu ck op ev lg s1 ds1 p1 q1 s2 ds2 p2 q2 sn)) 28)).alloc o1).alloc o2).cell? ⟨w.heap.size, 0, none⟩ = some (.int .i64 gen) := fun o1 o2 => by rw [(((Blk.new w _ _).alloc o1).alloc o2).cell 0]; rfl
  have c1 : ∀ o1 o2, (((w.alloc (.cells (cellsI (fsI gen bl cu ck op ev lg s1 ds1 p1 q1 s2 ds2 p2 q2 sn)) 28)).alloc o1).alloc o2).cell? ⟨w.heap.size, 1, none⟩ = some (.int .i64 bl) := fun o1 o2 => by rw [(((Blk.new w _ _).alloc o1).alloc o2).cell 1]; rfl
  have c2 : ∀ o1 o2, (((w.alloc (.cells (cellsI (fsI gen bl cu ck op ev lg s1 ds1 p1 q1 s2 ds2 p2 q2 sn)) 28)).alloc o1).alloc o2).cell? ⟨w.heap.size, 2, none⟩ = some (.int .i64 cu) := fun o1 o2 => by rw [(((Blk.new w _ _).alloc o1).alloc o2).cell 2]; rfl
  have c3 : ∀ o1 o2, (((w.alloc (.cells (cellsI (fsI gen bl cu ck op ev lg s1 ds1 p1 q1 s2 ds2 p2 q2 sn)) 28)).alloc o1).alloc o2).cell? ⟨w.heap.size, 3, none⟩ = some (.int .i64 ck) := fun o1 o2 => by rw [(((Blk.new w _ _).alloc o1).alloc o2).cell 3]; rfl
  have c4 : ∀ o1 o2, (((w.alloc (.cells (cellsI (fsI gen bl cu ck op ev lg s1 ds1 p1 q1 s2 ds2 p2 q2 sn)) 28)).alloc o1).alloc o2).cell? ⟨w.heap.size, 4, none⟩ = some (.int .i64 op) := fun o1 o2 => by rw [(((Blk.new w _ _).alloc o1).alloc o2).cell 4]; rfl
  have c5 : ∀ o1 o2, (((w.alloc (.cells (cellsI (fsI gen bl cu ck op ev lg s1 ds1 p1 q1 s2 ds2 p2 q2 sn)) 28)).alloc o1).alloc o2).cell? ⟨w.heap.size, 5, none⟩ = some (.int .i64 ev) := fun o1 o2 => by rw [(((Blk.new w _ _).alloc o1).alloc o2).cell 5]; rfl
  have c6 : ∀ o1 o2, (((w.alloc (.cells (cellsI (fsI gen bl cu ck op ev lg s1 ds1 p1 q1 s2 ds2 p2 q2 sn)) 28)).alloc o1).alloc o2).cell? ⟨w.heap.size, 6, none⟩ = some (.int .i64 lg) := fun o1 o2 => by rw [(((Blk.new w _ _).alloc o1).alloc o2).cell 6]; rfl
  clear hd1 hd2 hsn
  go_enter Tryd.func16, Tryd.ntmps16
  go_wp2_with (first
    | (refine wpList_load_mid rfl 25 _ rfl w.heap.size 7 rfl ((rootI s1 ds1 p1 q1).map (Value.int .i64)) _ (fs_range1 gen bl cu ck op ev lg s1 ds1 p1 q1 s2 ds2 p2 q2 sn HD.out.1 (((Blk.new w (cellsI (fsI gen bl cu ck op ev lg s1 ds1 p1 q1 s2 ds2 p2 q2 sn)) 28).alloc _).alloc _)) Tryd.underlying25 rfl (by rw [List.length_map, HL1.out]; exact infoL15) ?_)
    | (go_at_call 34; fail))
  refine (toRoot_any s1 ds1 p1 q1 _ HD.out.1).mono ?_
  rintro e w1 ⟨rfl, hb1⟩
  have T0 := hide (show To w w1 (cellsI (fsI gen bl cu ck op ev lg s1 ds1 p1 q1 s2 ds2 p2 q2 sn)) (([gen, bl, cu, ck, op, ev, lg] : List Int) ++ (List.replicate 15 (0 : Int) ++ (List.replicate 15 (0 : Int) ++ List.replicate 31 (0 : Int)))) from by
    have kz : Blk w1 (w.heap.size + 1) (cellsI (List.replicate 68 0)) 38 := by
      have h := ((Blk.new (w.alloc (.cells (cellsI (fsI gen bl cu ck op ev lg s1 ds1 p1 q1 s2 ds2 p2 q2 sn)) 28)) (cellsI (List.replicate 68 0)) 38).alloc (.cells (cellsI (([gen, bl, cu, ck, op, ev, lg] : List Int) ++ (List.replicate 15 (0 : Int) ++ (List.replicate 15 (0 : Int) ++ List.replicate 31 (0 : Int))))) 38)).below hb1 (by simp)
      rw [World.size_alloc] at h
      exact h
    have ko : Blk w1 (w.heap.size + 1 + 1) (cellsI (([gen, bl, cu, ck, op, ev, lg] : List Int) ++ (List.replicate 15 (0 : Int) ++ (List.replicate 15 (0 : Int) ++ List.replicate 31 (0 : Int))))) 38 := by
      have h := (Blk.new ((w.alloc (.cells (cellsI (fsI gen bl cu ck op ev lg s1 ds1 p1 q1 s2 ds2 p2 q2 sn)) 28)).alloc (.cells (cellsI (List.replicate 68 0)) 38)) (cellsI (([gen, bl, cu, ck, op, ev, lg] : List Int) ++ (List.replicate 15 (0 : Int) ++ (List.replicate 15 (0 : Int) ++ List.replicate 31 (0 : Int))))) 38).below hb1 (by simp)
      rw [World.size_alloc, World.size_alloc] at h
      exact h
    exact ⟨(((Blk.new w (cellsI (fsI gen bl cu ck op ev lg s1 ds1 p1 q1 s2 ds2 p2 q2 sn)) 28).alloc _).alloc _).below hb1 (by simp; omega), kz, ko, ((((Below.refl w.heap.size w).alloc (Nat.le_refl _) (.cells (cellsI (fsI gen bl cu ck op ev lg s1 ds1 p1 q1 s2 ds2 p2 q2 sn)) 28)).alloc (by simp) (.cells (cellsI (List.replicate 68 0)) 38)).alloc (by simp; omega) (.cells (cellsI (([gen, bl, cu, ck, op, ev, lg] : List Int) ++ (List.replicate 15 (0 : Int) ++ (List.replicate 15 (0 : Int) ++ List.replicate 31 (0 : Int))))) 38)).trans (hb1.mono (by simp; omega))⟩)
  clear hb1 c0 c1 c2 c3 c4 c5 c6
  have T1 := hide (show To w (w1.setCells (w.heap.size + 1 + 1) 7 (cellsI (rootI s1 ds1 p1 q1)).toList) (cellsI (fsI gen bl cu ck op ev lg s1 ds1 p1 q1 s2 ds2 p2 q2 sn)) (([gen, bl, cu, ck, op, ev, lg] : List Int) ++ (rootI s1 ds1 p1 q1 ++ (List.replicate 15 (0 : Int) ++ List.replicate 31 (0 : Int)))) from by
    have h := T0.out.store 7 (rootI s1 ds1 p1 q1) (by rw [HL1.out]; simp)
    rw [over_part _ _ _ _ 7 rfl (by rw [HL1.out]; rfl)] at h
    exact h)
  go_wp2_with (first
    | (refine wpList_store_mid rfl 36 _ _ rfl (w.heap.size + 1 + 1) 7 (cellsI (rootI s1 ds1 p1 q1)) rfl rfl (T0.out.out.there 7 _ (by rw [cellsI_size, cellsI_size, HL1.out]; simp)) (by rw [cellsI_size, HL1.out]; exact info15) (cellsI_one _) ?_; generalize w1.setCells (w.heap.size + 1 + 1) 7 (cellsI (rootI s1 ds1 p1 q1)).toList = w2 at T1 ⊢)
    | (refine wpList_load_mid rfl 25 _ rfl w.heap.size 22 rfl ((rootI s2 ds2 p2 q2).map (Value.int .i64)) _ (fs_range2 gen bl cu ck op ev lg s1 ds1 p1 q1 s2 ds2 p2 q2 sn HD.out.1 HD.out.2.1 T1.out.arg) Tryd.underlying25 rfl (by rw [List.length_map, HL2.out]; exact infoL15) ?_)
    | (go_at_call 34; fail))
  refine (toRoot_any s2 ds2 p2 q2 _ HD.out.2.1).mono ?_
  rintro e w3 ⟨rfl, hb3⟩
  have T2 := hide (T1.out.below hb3)
  clear hb3 T0 T1
  have T3 := hide (show To w (w3.setCells (w.heap.size + 1 + 1) 22 (cellsI (rootI s2 ds2 p2 q2)).toList) (cellsI (fsI gen bl cu ck op ev lg s1 ds1 p1 q1 s2 ds2 p2 q2 sn)) (([gen, bl, cu, ck, op, ev, lg] : List Int) ++ (rootI s1 ds1 p1 q1 ++ (rootI s2 ds2 p2 q2 ++ List.replicate 31 (0 : Int)))) from by
    have h := T2.out.store 22 (rootI s2 ds2 p2 q2) (by simp [HL1.out, HL2.out])
    rw [← List.append_assoc, over_part _ _ _ _ 22 (by simp [HL1.out]) (by rw [HL2.out]; rfl), List.append_assoc] at h
    exact h)
  go_wp2_with (first
    | (refine wpList_store_mid rfl 36 _ _ rfl (w.heap.size + 1 + 1) 22 (cellsI (rootI s2 ds2 p2 q2)) rfl rfl (T2.out.out.there 22 _ (by rw [cellsI_size, cellsI_size, HL2.out]; simp [HL1.out])) (by rw [cellsI_size, HL2.out]; exact info15) (cellsI_one _) ?_; generalize w3.setCells (w.heap.size + 1 + 1) 22 (cellsI (rootI s2 ds2 p2 q2)).toList = w4 at T3 ⊢)
    | (refine wpList_load_mid rfl 26 _ rfl w.heap.size 37 rfl (sn.map (Value.int .i64)) _ (fs_range3 gen bl cu ck op ev lg s1 ds1 p1 q1 s2 ds2 p2 q2 sn HD.out.1 HD.out.2.1 HD.out.2.2 T3.out.arg) Tryd.underlying26 rfl (by rw [List.length_map, HD.out.2.2]; exact info31) ?_)
    | (go_at_call 35; fail))
  refine (toIntA31_any sn _ HD.out.2.2).mono ?_
  rintro e w5 ⟨rfl, hb5⟩
  have T4 := hide (T3.out.below hb5)
  clear hb5 T2 T3
  have T5 := hide (show To w (w5.setCells (w.heap.size + 1 + 1) 37 (cellsI sn).toList) (cellsI (fsI gen bl cu ck op ev lg s1 ds1 p1 q1 s2 ds2 p2 q2 sn)) (fsI gen bl cu ck op ev lg s1 ds1 p1 q1 s2 ds2 p2 q2 sn) from by
    have h := T4.out.store 37 sn (by simp [HL1.out, HL2.out, HD.out.2.2])
    rw [← List.append_assoc, ← List.append_assoc, ← List.append_nil (List.replicate 31 (0 : Int)), over_part _ _ _ _ 37 (by simp [HL1.out, HL2.out]) (by rw [HD.out.2.2]; rfl), List.append_nil, List.append_assoc, List.append_assoc] at h
    exact h)
  go_wp2_with (first
    | (refine wpList_store_mid rfl 26 _ _ rfl (w.heap.size + 1 + 1) 37 (cellsI sn) rfl rfl (T4.out.out.there 37 _ (by rw [cellsI_size, cellsI_size, HD.out.2.2]; simp [HL1.out, HL2.out])) (by rw [cellsI_size, HD.out.2.2]; exact info31) (cellsI_one _) ?_; generalize w5.setCells (w.heap.size + 1 + 1) 37 (cellsI sn).toList = w6 at T5 ⊢)
    | (refine wpList_load_row rfl 38 _ rfl (w.heap.size + 1 + 1) rfl 38 (cellsI (fsI gen bl cu ck op ev lg s1 ds1 p1 q1 s2 ds2 p2 q2 sn)) (0, 0) _ T5.out.out Tryd.underlying38 rfl (by rw [HZ.out]; exact info68) ?_)
    | (refine wpList_store_row rfl 38 _ _ rfl (w.heap.size + 1) (cellsI (fsI gen bl cu ck op ev lg s1 ds1 p1 q1 s2 ds2 p2 q2 sn)) rfl rfl 38 _ T5.out.ans (by rw [HZ.out]; exact info68) (by rw [HZ.out]; rfl) (cellsI_one _) ?_))
  refine bodyPost_ret (v := .agg (cellsI (fsI gen bl cu ck op ev lg s1 ds1 p1 q1 s2 ds2 p2 q2 sn))) ?_ rfl ⟨rfl, ?_⟩
  · exact results_cell_row rfl _ _ (w.heap.size + 1) 38 (cellsI (fsI gen bl cu ck op ev lg s1 ds1 p1 q1 s2 ds2 p2 q2 sn)) (0, 0) _ rfl (T5.out.ans.row _) Tryd.underlying38 rfl (by rw [HZ.out]; exact info68)
  · exact below_setRow T5.out.old (by omega) _
end Go.Proofs.YtmmhkjpkidljlaaDoor
