/- Two roots that are the same, compared by the laws' own eqRoot. Two root records that are the same, compared by the laws' own eqFsinfo. A root record of sixty-eight integers: what each function makes of it, in one place. -/
import Derived.Test.YtmmhkjpkidljlaaDoorZc11
import Derived.Test.YtmmhkjpkidljlaaDoorZc35
import Derived.Deep.MidRow
import Derived.Deep.RegionHeld3
import Derived.Test.YtmmhkjpkidljlaaDoorZc30
namespace Go.Proofs.YtmmhkjpkidljlaaDoor
set_option linter.unusedVariables false
set_option linter.unusedSimpArgs false
open Go.RowKit

set_option maxRecDepth 100000 in
set_option maxHeartbeats 1000000 in
theorem eqIntA12_same (ds : List Int) (w : World) (hd : ds.length = 12) :
    Calls Tryd.prog 71 #[.agg (cellsI ds), .agg (cellsI ds)] w fun e w' => e = .returned (.bool true) ∧ Below w.heap.size w w' := by
  have HD := hide hd
  clear hd
  go_enter Tryd.func71, Tryd.ntmps71
  go_wp2
  go_loopw [5] (fun i wr => ∃ k : Nat, k ≤ 12 ∧ i = .int .i64 k ∧ Blk wr w.heap.size (cellsI ds) 23 ∧ Blk wr (w.heap.size + 1) (cellsI ds) 23 ∧ Below w.heap.size w wr) (fun i _ => 12 - (intOf i).toNat)
  case atStart =>
    refine ⟨0, by omega, rfl, (Blk.new w _ _).alloc _, ?_, ((Below.refl _ _).alloc (Nat.le_refl _) _).alloc (by simp) _⟩
    have h := Blk.new (w.alloc (.cells (cellsI ds) 23)) (cellsI ds) 23
    rw [World.size_alloc] at h
    exact h
  case round =>
    obtain ⟨k, hk, rfl, h1, h2, hb⟩ := hrel
    by_cases hlt : k < 12
    · have c1 := h1.cell k
      rw [cellsI_get ds k (by rw [HD.out]; exact hlt)] at c1
      have c2 := h2.cell k
      rw [cellsI_get ds k (by rw [HD.out]; exact hlt)] at c2
      generalize ds.getD k 0 = z at c1 c2
      have HW := hide (And.intro h1 (And.intro h2 hb))
      clear h1 h2 hb
      go_wp2
      go_region
      go_wp2
      go_roundw
      case rel => exact ⟨k + 1, by omega, by go_num, HW.out.1, HW.out.2.1, HW.out.2.2.drew⟩
      case measure => simp [intOf]; omega
    · have hk12 : k = 12 := by omega
      subst hk12
      have HB := hide hb
      clear h1 h2 hb
      go_wp2
      go_ret
      exact ⟨rfl, HB.out⟩

set_option maxRecDepth 100000 in
set_option maxHeartbeats 1000000 in
theorem eqRoot_same (s : Int) (ds : List Int) (p q : Int) (w : World) (hd : ds.length = 12) :
    Calls Tryd.prog 49 #[.agg (cellsI (rootI s ds p q)), .agg (cellsI (rootI s ds p q))] w fun e w' => e = .returned (.bool true) ∧ Below w.heap.size w w' := by
  have HD := hide hd
  have k0 : Blk ((w.alloc (.cells (cellsI (rootI s ds p q)) 36)).alloc (.cells (cellsI (rootI s ds p q)) 36)) w.heap.size (cellsI (rootI s ds p q)) 36 := (Blk.new w _ _).alloc _
  have k1 : Blk ((w.alloc (.cells (cellsI (rootI s ds p q)) 36)).alloc (.cells (cellsI (rootI s ds p q)) 36)) (w.heap.size + 1) (cellsI (rootI s ds p q)) 36 := by
    have h := Blk.new (w.alloc (.cells (cellsI (rootI s ds p q)) 36)) (cellsI (rootI s ds p q)) 36
    rw [World.size_alloc] at h
    exact h
  have hb : Below w.heap.size w ((w.alloc (.cells (cellsI (rootI s ds p q)) 36)).alloc (.cells (cellsI (rootI s ds p q)) 36)) := ((Below.refl _ _).alloc (Nat.le_refl _) _).alloc (by simp) _
  have K := hide (And.intro k0 (And.intro k1 hb))
  have a0 : ((w.alloc (.cells (cellsI (rootI s ds p q)) 36)).alloc (.cells (cellsI (rootI s ds p q)) 36)).cell? ⟨w.heap.size, 0, none⟩ = some (.int .i64 s) := k0.cell 0
  have b0 : ((w.alloc (.cells (cellsI (rootI s ds p q)) 36)).alloc (.cells (cellsI (rootI s ds p q)) 36)).cell? ⟨w.heap.size + 1, 0, none⟩ = some (.int .i64 s) := k1.cell 0
  clear hd k0 k1 hb
  go_enter Tryd.func49, Tryd.ntmps49
  go_wp2_with (first
    | (refine wpList_load_mid rfl 23 _ rfl w.heap.size 1 rfl (ds.map (Value.int .i64)) _ (by have h := K.out.1.range 1 12 (by rw [rootI_len _ _ _ _ HD.out]; omega); rw [root_range _ _ _ _ HD.out] at h; exact h) Tryd.underlying23 rfl (by rw [List.length_map, HD.out]; exact info12) ?_)
    | (refine wpList_load_mid rfl 23 _ rfl (w.heap.size + 1) 1 rfl (ds.map (Value.int .i64)) _ (by have h := K.out.2.1.range 1 12 (by rw [rootI_len _ _ _ _ HD.out]; omega); rw [root_range _ _ _ _ HD.out] at h; exact h) Tryd.underlying23 rfl (by rw [List.length_map, HD.out]; exact info12) ?_)
    | (go_at_call 71; fail))
  refine (eqIntA12_same ds _ HD.out).mono ?_
  rintro e w1 ⟨rfl, b1⟩
  have hs1 := b1.size
  rw [World.size_alloc, World.size_alloc] at hs1
  have q0 := K.out.1.below b1 (by simp; omega)
  have q1 := K.out.2.1.below b1 (by simp)
  have a13 := (q0.cell 13).trans (rootI_get13 s ds p q HD.out)
  have a14 := (q0.cell 14).trans (rootI_get14 s ds p q HD.out)
  have b13 := (q1.cell 13).trans (rootI_get13 s ds p q HD.out)
  have b14 := (q1.cell 14).trans (rootI_get14 s ds p q HD.out)
  have B1 := hide (K.out.2.2.trans (b1.mono K.out.2.2.size))
  clear b1 q0 q1 a0 b0 hs1
  go_wp2
  go_ret
  exact ⟨rfl, B1.out⟩
end Go.Proofs.YtmmhkjpkidljlaaDoor

namespace Go.Proofs.YtmmhkjpkidljlaaDoor
set_option linter.unusedVariables false
set_option linter.unusedSimpArgs false
open Go.RowKit

set_option maxRecDepth 100000 in
set_option maxHeartbeats 1000000 in
theorem eqIntA31_same (ds : List Int) (w : World) (hd : ds.length = 31) :
    Calls Tryd.prog 50 #[.agg (cellsI ds), .agg (cellsI ds)] w fun e w' => e = .returned (.bool true) ∧ Below w.heap.size w w' := by
  have HD := hide hd
  clear hd
  go_enter Tryd.func50, Tryd.ntmps50
  go_wp2
  go_loopw [5] (fun i wr => ∃ k : Nat, k ≤ 31 ∧ i = .int .i64 k ∧ Blk wr w.heap.size (cellsI ds) 26 ∧ Blk wr (w.heap.size + 1) (cellsI ds) 26 ∧ Below w.heap.size w wr) (fun i _ => 31 - (intOf i).toNat)
  case atStart =>
    refine ⟨0, by omega, rfl, (Blk.new w _ _).alloc _, ?_, ((Below.refl _ _).alloc (Nat.le_refl _) _).alloc (by simp) _⟩
    have h := Blk.new (w.alloc (.cells (cellsI ds) 26)) (cellsI ds) 26
    rw [World.size_alloc] at h
    exact h
  case round =>
    obtain ⟨k, hk, rfl, h1, h2, hb⟩ := hrel
    by_cases hlt : k < 31
    · have c1 := h1.cell k
      rw [cellsI_get ds k (by rw [HD.out]; exact hlt)] at c1
      have c2 := h2.cell k
      rw [cellsI_get ds k (by rw [HD.out]; exact hlt)] at c2
      generalize ds.getD k 0 = z at c1 c2
      have HW := hide (And.intro h1 (And.intro h2 hb))
      clear h1 h2 hb
      go_wp2
      go_region
      go_wp2
      go_roundw
      case rel => exact ⟨k + 1, by omega, by go_num, HW.out.1, HW.out.2.1, HW.out.2.2.drew⟩
      case measure => simp [intOf]; omega
    · have hk31 : k = 31 := by omega
      subst hk31
      have HB := hide hb
      clear h1 h2 hb
      go_wp2
      go_ret
      exact ⟨rfl, HB.out⟩

set_option maxRecDepth 100000 in
set_option maxHeartbeats 2000000 in
theorem eqFs_same (gen bl cu ck op ev lg s1 : Int) (ds1 : List Int) (p1 q1 s2 : Int) (ds2 : List Int) (p2 q2 : Int) (sn : List Int) (w : World) (hd1 : ds1.length = 12) (hd2 : ds2.length = 12) (hsn : sn.length = 31) :
    Calls Tryd.prog 23 #[.agg (cellsI (fsI gen bl cu ck op ev lg s1 ds1 p1 q1 s2 ds2 p2 q2 sn)), .agg (cellsI (fsI gen bl cu ck op ev lg s1 ds1 p1 q1 s2 ds2 p2 q2 sn))] w fun e w' => e = .returned (.bool true) ∧ Below w.heap.size w w' := by
  have HD := hide (And.intro hd1 (And.intro hd2 hsn))
  have HLen1 := hide (show (cellsI (rootI s1 ds1 p1 q1)).size = 15 from by rw [cellsI_size]; exact rootI_len _ _ _ _ hd1)
  have HLen2 := hide (show (cellsI (rootI s2 ds2 p2 q2)).size = 15 from by rw [cellsI_size]; exact rootI_len _ _ _ _ hd2)
  obtain ⟨W, hW⟩ : ∃ W, W = (w.alloc (.cells (cellsI (fsI gen bl cu ck op ev lg s1 ds1 p1 q1 s2 ds2 p2 q2 sn)) 38)).alloc (.cells (cellsI (fsI gen bl cu ck op ev lg s1 ds1 p1 q1 s2 ds2 p2 q2 sn)) 38) := ⟨_, rfl⟩
  have KK := hide (show Blk W w.heap.size (cellsI (fsI gen bl cu ck op ev lg s1 ds1 p1 q1 s2 ds2 p2 q2 sn)) 38 ∧ Blk W (w.heap.size + 1) (cellsI (fsI gen bl cu ck op ev lg s1 ds1 p1 q1 s2 ds2 p2 q2 sn)) 38 ∧ Below w.heap.size w W from by
    rw [hW]
    refine ⟨(Blk.new w _ _).alloc _, ?_, ((Below.refl _ _).alloc (Nat.le_refl _) _).alloc (by simp) _⟩
    have h := Blk.new (w.alloc (.cells (cellsI (fsI gen bl cu ck op ev lg s1 ds1 p1 q1 s2 ds2 p2 q2 sn)) 38)) (cellsI (fsI gen bl cu ck op ev lg s1 ds1 p1 q1 s2 ds2 p2 q2 sn)) 38
    rw [World.size_alloc] at h
    exact h)
  have HW9 := hide hW
  clear hd1 hd2 hsn hW
  go_enter Tryd.func23, Tryd.ntmps23
  have ca0 : W.cell? ⟨w.heap.size, 0, none⟩ = some (.int .i64 gen) := (KK.out.1.cell 0).trans rfl
  have cb0 : W.cell? ⟨w.heap.size + 1, 0, none⟩ = some (.int .i64 gen) := (KK.out.2.1.cell 0).trans rfl
  have ca1 : W.cell? ⟨w.heap.size, 1, none⟩ = some (.int .i64 bl) := (KK.out.1.cell 1).trans rfl
  have cb1 : W.cell? ⟨w.heap.size + 1, 1, none⟩ = some (.int .i64 bl) := (KK.out.2.1.cell 1).trans rfl
  have ca2 : W.cell? ⟨w.heap.size, 2, none⟩ = some (.int .i64 cu) := (KK.out.1.cell 2).trans rfl
  have cb2 : W.cell? ⟨w.heap.size + 1, 2, none⟩ = some (.int .i64 cu) := (KK.out.2.1.cell 2).trans rfl
  have ca3 : W.cell? ⟨w.heap.size, 3, none⟩ = some (.int .i64 ck) := (KK.out.1.cell 3).trans rfl
  have cb3 : W.cell? ⟨w.heap.size + 1, 3, none⟩ = some (.int .i64 ck) := (KK.out.2.1.cell 3).trans rfl
  have ca4 : W.cell? ⟨w.heap.size, 4, none⟩ = some (.int .i64 op) := (KK.out.1.cell 4).trans rfl
  have cb4 : W.cell? ⟨w.heap.size + 1, 4, none⟩ = some (.int .i64 op) := (KK.out.2.1.cell 4).trans rfl
  have ca5 : W.cell? ⟨w.heap.size, 5, none⟩ = some (.int .i64 ev) := (KK.out.1.cell 5).trans rfl
  have cb5 : W.cell? ⟨w.heap.size + 1, 5, none⟩ = some (.int .i64 ev) := (KK.out.2.1.cell 5).trans rfl
  have ca6 : W.cell? ⟨w.heap.size, 6, none⟩ = some (.int .i64 lg) := (KK.out.1.cell 6).trans rfl
  have cb6 : W.cell? ⟨w.heap.size + 1, 6, none⟩ = some (.int .i64 lg) := (KK.out.2.1.cell 6).trans rfl
  rw [HW9.out] at KK ca0 cb0 ca1 cb1 ca2 cb2 ca3 cb3 ca4 cb4 ca5 cb5 ca6 cb6
  have R1 := hide (fs_range1 gen bl cu ck op ev lg s1 ds1 p1 q1 s2 ds2 p2 q2 sn HD.out.1 KK.out.1)
  have R2 := hide (fs_range1 gen bl cu ck op ev lg s1 ds1 p1 q1 s2 ds2 p2 q2 sn HD.out.1 KK.out.2.1)
  go_wp2_with (first
    | (refine wpList_load_mid rfl 36 _ rfl w.heap.size 7 rfl ((rootI s1 ds1 p1 q1).map (Value.int .i64)) _ R1.out Tryd.underlying36 rfl (by rw [List.length_map, ← cellsI_size, HLen1.out]; exact info15) ?_)
    | (refine wpList_load_mid rfl 36 _ rfl (w.heap.size + 1) 7 rfl ((rootI s1 ds1 p1 q1).map (Value.int .i64)) _ R2.out Tryd.underlying36 rfl (by rw [List.length_map, ← cellsI_size, HLen1.out]; exact info15) ?_)
    | (go_at_call 49; fail))
  refine (eqRoot_same s1 ds1 p1 q1 _ HD.out.1).mono ?_
  rintro e w1 ⟨rfl, b1⟩
  have hl1 := KK.out.2.1.lt
  have K1 := hide (show Blk w1 w.heap.size (cellsI (fsI gen bl cu ck op ev lg s1 ds1 p1 q1 s2 ds2 p2 q2 sn)) 38 ∧ Blk w1 (w.heap.size + 1) (cellsI (fsI gen bl cu ck op ev lg s1 ds1 p1 q1 s2 ds2 p2 q2 sn)) 38 ∧ Below w.heap.size w w1 from ⟨KK.out.1.below b1 KK.out.1.lt, KK.out.2.1.below b1 KK.out.2.1.lt, KK.out.2.2.trans (b1.mono KK.out.2.2.size)⟩)
  clear b1 R1 R2 KK ca0 cb0 ca1 cb1 ca2 cb2 ca3 cb3 ca4 cb4 ca5 cb5 ca6 cb6
  have R1 := hide (fs_range2 gen bl cu ck op ev lg s1 ds1 p1 q1 s2 ds2 p2 q2 sn HD.out.1 HD.out.2.1 K1.out.1)
  have R2 := hide (fs_range2 gen bl cu ck op ev lg s1 ds1 p1 q1 s2 ds2 p2 q2 sn HD.out.1 HD.out.2.1 K1.out.2.1)
  go_wp2_with (first
    | (refine wpList_load_mid rfl 36 _ rfl w.heap.size 22 rfl ((rootI s2 ds2 p2 q2).map (Value.int .i64)) _ R1.out Tryd.underlying36 rfl (by rw [List.length_map, ← cellsI_size, HLen2.out]; exact info15) ?_)
    | (refine wpList_load_mid rfl 36 _ rfl (w.heap.size + 1) 22 rfl ((rootI s2 ds2 p2 q2).map (Value.int .i64)) _ R2.out Tryd.underlying36 rfl (by rw [List.length_map, ← cellsI_size, HLen2.out]; exact info15) ?_)
    | (go_at_call 49; fail))
  refine (eqRoot_same s2 ds2 p2 q2 _ HD.out.2.1).mono ?_
  rintro e w2 ⟨rfl, b2⟩
  have K2 := hide (show Blk w2 w.heap.size (cellsI (fsI gen bl cu ck op ev lg s1 ds1 p1 q1 s2 ds2 p2 q2 sn)) 38 ∧ Blk w2 (w.heap.size + 1) (cellsI (fsI gen bl cu ck op ev lg s1 ds1 p1 q1 s2 ds2 p2 q2 sn)) 38 ∧ Below w.heap.size w w2 from ⟨K1.out.1.below b2 K1.out.1.lt, K1.out.2.1.below b2 K1.out.2.1.lt, K1.out.2.2.trans (b2.mono K1.out.2.2.size)⟩)
  clear b2 R1 R2 K1
  have R1 := hide (fs_range3 gen bl cu ck op ev lg s1 ds1 p1 q1 s2 ds2 p2 q2 sn HD.out.1 HD.out.2.1 HD.out.2.2 K2.out.1)
  have R2 := hide (fs_range3 gen bl cu ck op ev lg s1 ds1 p1 q1 s2 ds2 p2 q2 sn HD.out.1 HD.out.2.1 HD.out.2.2 K2.out.2.1)
  go_wp2_with (first
    | (refine wpList_load_mid rfl 26 _ rfl w.heap.size 37 rfl (sn.map (Value.int .i64)) _ R1.out Tryd.underlying26 rfl (by rw [List.length_map, HD.out.2.2]; exact info31) ?_)
    | (refine wpList_load_mid rfl 26 _ rfl (w.heap.size + 1) 37 rfl (sn.map (Value.int .i64)) _ R2.out Tryd.underlying26 rfl (by rw [List.length_map, HD.out.2.2]; exact info31) ?_)
    | (go_at_call 50; fail))
  refine (eqIntA31_same sn _ HD.out.2.2).mono ?_
  rintro e w3 ⟨rfl, b3⟩
  have B3 := hide (K2.out.2.2.trans (b3.mono K2.out.2.2.size))
  clear b3 R1 R2 K2
  go_wp2
  go_ret
  exact ⟨rfl, B3.out⟩
end Go.Proofs.YtmmhkjpkidljlaaDoor

namespace Go.Proofs.YtmmhkjpkidljlaaDoor
set_option linter.unusedVariables false
set_option linter.unusedSimpArgs false
open Go.RowKit

/-- The record F: whether it is right, and its block. -/
structure FsK (F : List Int) (r : Bool) (enc : List Int) : Prop where
  len : F.length = 68
  fault : ∀ w : World, Calls Tryd.prog 17 #[.agg (cellsI F), .int .i64 7] w fun e w' => ∃ ev', e = .returned ev' ∧ FaultIs w' w.heap.size r ev' 7 ∧ Below w.heap.size w w'
  lay : r = true → ∀ w : World, LetF w → Calls Tryd.prog 46 #[.agg (cellsI F)] w fun e w' => ∃ v', e = .returned v' ∧ w'.ownsRow w.heap.size 5 1 v' enc.length (enc.map (Value.int .u8)) ∧ Below w.heap.size w w'
  spec : ∀ w : World, Calls Tryd.prog 14 #[.agg (cellsI F)] w fun e w' => ∃ v', e = .returned (.tuple #[v', .int .i64 (if r = true then 0 else 7)]) ∧ w'.ownsRow w.heap.size 5 1 v' enc.length (enc.map (Value.int .u8)) ∧ Below w.heap.size w w'
  copy : ∀ w : World, Calls Tryd.prog 16 #[.agg (cellsI F)] w fun e w' => e = .returned (.agg (cellsI F)) ∧ Below w.heap.size w w'
  same : ∀ w : World, Calls Tryd.prog 23 #[.agg (cellsI F), .agg (cellsI F)] w fun e w' => e = .returned (.bool true) ∧ Below w.heap.size w w'
  small : enc.length ≤ 512
theorem fsK_of (gen bl cu ck op ev lg s1 : Int) (ds1 : List Int) (p1 q1 s2 : Int) (ds2 : List Int) (p2 q2 : Int) (sn : List Int) (hd1 : ds1.length = 12) (hd2 : ds2.length = 12) (hsn : sn.length = 31) : FsK (fsI gen bl cu ck op ev lg s1 ds1 p1 q1 s2 ds2 p2 q2 sn) (rightF gen bl cu ck op ev lg s1 ds1 p1 q1 s2 ds2 p2 q2 sn) (encFs gen bl cu ck op ev lg s1 ds1 p1 q1 s2 ds2 p2 q2 sn) := by
  refine ⟨fsI_len _ _ _ _ _ _ _ _ _ _ _ _ _ _ _ _ hd1 hd2 hsn, fun w => fsFault_any gen bl cu ck op ev lg s1 ds1 p1 q1 s2 ds2 p2 q2 sn 7 w hd1 hd2 hsn, fun hr w hL => ?_, fun w => specFs_any gen bl cu ck op ev lg s1 ds1 p1 q1 s2 ds2 p2 q2 sn w hd1 hd2 hsn, fun w => toFs_any gen bl cu ck op ev lg s1 ds1 p1 q1 s2 ds2 p2 q2 sn w hd1 hd2 hsn, fun w => eqFs_same gen bl cu ck op ev lg s1 ds1 p1 q1 s2 ds2 p2 q2 sn w hd1 hd2 hsn, encFs_len gen bl cu ck op ev lg s1 ds1 p1 q1 s2 ds2 p2 q2 sn hd1 hd2 hsn⟩
  have hB := fs_bd gen bl cu ck op ev lg s1 ds1 p1 q1 s2 ds2 p2 q2 sn hd1 hd2 hr
  obtain ⟨a0, rfl⟩ := Int.eq_ofNat_of_zero_le hB.g0.1
  obtain ⟨a1, rfl⟩ := Int.eq_ofNat_of_zero_le hB.g1.1
  obtain ⟨a2, rfl⟩ := Int.eq_ofNat_of_zero_le hB.g2.1
  obtain ⟨a3, rfl⟩ := Int.eq_ofNat_of_zero_le hB.g3.1
  obtain ⟨a4, rfl⟩ := Int.eq_ofNat_of_zero_le hB.g4.1
  obtain ⟨a5, rfl⟩ := Int.eq_ofNat_of_zero_le hB.g5.1
  obtain ⟨a6, rfl⟩ := Int.eq_ofNat_of_zero_le hB.g6.1
  refine (layFs_any a0 a1 a2 a3 a4 a5 a6 s1 ds1 p1 q1 s2 ds2 p2 q2 sn w hd1 hd2 hsn (by have := hB.g0; omega) (by have := hB.g1; omega) (by have := hB.g2; omega) (by have := hB.g3; omega) (by have := hB.g4; omega) (by have := hB.g5; omega) (by have := hB.g6; omega) hB.r1 hB.q1 hB.r2 hB.q2 hB.sn (bytesF_bd _ _ _ _ _ _ _ _ _ _ _ _ _ _ _ _) hL).mono ?_
  rintro e w' ⟨v', rfl, ho, hb⟩
  refine ⟨v', rfl, ?_, hb⟩
  unfold encFs
  rw [if_pos hr]
  simp only [Int.toNat_natCast]
  rw [sealed_len _ (by rw [bytesF_len _ _ _ _ _ _ _ _ _ _ _ _ _ _ _ _ hd1 hd2 hsn]; omega)]
  exact ho
end Go.Proofs.YtmmhkjpkidljlaaDoor
