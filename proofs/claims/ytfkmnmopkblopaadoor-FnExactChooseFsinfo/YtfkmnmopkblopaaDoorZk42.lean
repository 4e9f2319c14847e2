/- Two roots that are the same, compared by the laws' own eqRoot. Two root records that are the same, compared by the laws' own eqFsinfo; what the program reads is what the model reads. -/
import Derived.Test.YtfkmnmopkblopaaDoorZk08
import Derived.Test.YtfkmnmopkblopaaDoorZk41
namespace Go.Proofs.YtfkmnmopkblopaaDoor
set_option linter.unusedVariables false
set_option linter.unusedSimpArgs false
open Go.RowKit

set_option maxRecDepth 100000 in
set_option maxHeartbeats 1000000 in
theorem eqIntA12_same (ds : List Int) (w : World) (hd : ds.length = 12) :
    Calls Tryd.prog 23 #[.agg (cellsI ds), .agg (cellsI ds)] w fun e w' => e = .returned (.bool true) ∧ Below w.heap.size w w' := by
  have HD := hide hd
  clear hd
  go_enter Tryd.func23, Tryd.ntmps23
  go_wp2
  go_loopw [5] (fun i wr => ∃ k : Nat, k ≤ 12 ∧ i = .int .i64 k ∧ Blk wr w.heap.size (cellsI ds) 23 ∧ Blk wr (w.heap.size + 1) (cellsI ds) 23 ∧ Below w.heap.size w wr) (fun i _ => 12 - (intOf i).toNat)
  case atStart =>
    refine ⟨0, by omega, rfl, (Blk.new w _ _).alloc _, ?_, ((Below.refl _ _).alloc (Nat.le_refl _) _).alloc (by simp) _⟩
    have h := Blk.new (w.alloc (.cells (cellsI ds) 23)) (cellsI ds) 23
    rw [World.size_alloc] at h
    exact h
  case round =>
    obtain ⟨k, hk, rfl, h1, h2, hb⟩ := hrel
    by_cases hlt : k < 12
    · have c1 := h1.cell k
      rw [cellsI_get ds k (by rw [HD.out]; exact hlt)] at c1
      have c2 := h2.cell k
      rw [cellsI_get ds k (by rw [HD.out]; exact hlt)] at c2
      generalize ds.getD k 0 = z at c1 c2
      have HW := hide (And.intro h1 (And.intro h2 hb))
      clear h1 h2 hb
      go_wp2
      go_region
      go_wp2
      go_roundw
      case rel => exact ⟨k + 1, by omega, by go_num, HW.out.1, HW.out.2.1, HW.out.2.2.drew⟩
      case measure => simp [intOf]; omega
    · have hk12 : k = 12 := by omega
      subst hk12
      have HB := hide hb
      clear h1 h2 hb
      go_wp2
      go_ret
      exact ⟨rfl, HB.out⟩

set_option maxRecDepth 100000 in
set_option maxHeartbeats 1000000 in
theorem eqRoot_same (s : Int) (ds : List Int) (p q : Int) (w : World) (hd : ds.length = 12) :
    Calls Tryd.prog 14 #[.agg (cellsI (rootI s ds p q)), .agg (cellsI (rootI s ds p q))] w fun e w' => e = .returned (.bool true) ∧ Below w.heap.size w w' := by
  have HD := hide hd
  have k0 : Blk ((w.alloc (.cells (cellsI (rootI s ds p q)) 25)).alloc (.cells (cellsI (rootI s ds p q)) 25)) w.heap.size (cellsI (rootI s ds p q)) 25 := (Blk.new w _ _).alloc _
  have k1 : Blk ((w.alloc (.cells (cellsI (rootI s ds p q)) 25)).alloc (.cells (cellsI (rootI s ds p q)) 25)) (w.heap.size + 1) (cellsI (rootI s ds p q)) 25 := by
    have h := Blk.new (w.alloc (.cells (cellsI (rootI s ds p q)) 25)) (cellsI (rootI s ds p q)) 25
    rw [World.size_alloc] at h
    exact h
  have hb : Below w.heap.size w ((w.alloc (.cells (cellsI (rootI s ds p q)) 25)).alloc (.cells (cellsI (rootI s ds p q)) 25)) := ((Below.refl _ _).alloc (Nat.le_refl _) _).alloc (by simp) _
  have K := hide (And.intro k0 (And.intro k1 hb))
  have a0 : ((w.alloc (.cells (cellsI (rootI s ds p q)) 25)).alloc (.cells (cellsI (rootI s ds p q)) 25)).cell? ⟨w.heap.size, 0, none⟩ = some (.int .i64 s) := k0.cell 0
  have b0 : ((w.alloc (.cells (cellsI (rootI s ds p q)) 25)).alloc (.cells (cellsI (rootI s ds p q)) 25)).cell? ⟨w.heap.size + 1, 0, none⟩ = some (.int .i64 s) := k1.cell 0
  clear hd k0 k1 hb
  go_enter Tryd.func14, Tryd.ntmps14
  go_wp2_with (first
    | (refine wpList_load_mid rfl 23 _ rfl w.heap.size 1 rfl (ds.map (Value.int .i64)) _ (by have h := K.out.1.range 1 12 (by rw [rootI_len _ _ _ _ HD.out]; omega); rw [root_range _ _ _ _ HD.out] at h; exact h) Tryd.underlying23 rfl (by rw [List.length_map, HD.out]; exact info12) ?_)
    | (refine wpList_load_mid rfl 23 _ rfl (w.heap.size + 1) 1 rfl (ds.map (Value.int .i64)) _ (by have h := K.out.2.1.range 1 12 (by rw [rootI_len _ _ _ _ HD.out]; omega); rw [root_range _ _ _ _ HD.out] at h; exact h) Tryd.underlying23 rfl (by rw [List.length_map, HD.out]; exact info12) ?_)
    | (go_at_call 23; fail))
  refine (eqIntA12_same ds _ HD.out).mono ?_
  rintro e w1 ⟨rfl, b1⟩
  have hs1 := b1.size
  rw [World.size_alloc, World.size_alloc] at hs1
  have q0 := K.out.1.below b1 (by simp; omega)
  have q1 := K.out.2.1.below b1 (by simp)
  have a13 := (q0.cell 13).trans (rootI_get13 s ds p q HD.out)
  have a14 := (q0.cell 14).trans (rootI_get14 s ds p q HD.out)
  have b13 := (q1.cell 13).trans (rootI_get13 s ds p q HD.out)
  have b14 := (q1.cell 14).trans (rootI_get14 s ds p q HD.out)
  have B1 := hide (K.out.2.2.trans (b1.mono K.out.2.2.size))
  clear b1 q0 q1 a0 b0 hs1
  go_wp2
  go_ret
  exact ⟨rfl, B1.out⟩
end Go.Proofs.YtfkmnmopkblopaaDoor

namespace Go.Proofs.YtfkmnmopkblopaaDoor
set_option linter.unusedVariables false
set_option linter.unusedSimpArgs false
open Go.RowKit

set_option maxRecDepth 100000 in
set_option maxHeartbeats 1000000 in
theorem eqIntA31_same (ds : List Int) (w : World) (hd : ds.length = 31) :
    Calls Tryd.prog 15 #[.agg (cellsI ds), .agg (cellsI ds)] w fun e w' => e = .returned (.bool true) ∧ Below w.heap.size w w' := by
  have HD := hide hd
  clear hd
  go_enter Tryd.func15, Tryd.ntmps15
  go_wp2
  go_loopw [5] (fun i wr => ∃ k : Nat, k ≤ 31 ∧ i = .int .i64 k ∧ Blk wr w.heap.size (cellsI ds) 26 ∧ Blk wr (w.heap.size + 1) (cellsI ds) 26 ∧ Below w.heap.size w wr) (fun i _ => 31 - (intOf i).toNat)
  case atStart =>
    refine ⟨0, by omega, rfl, (Blk.new w _ _).alloc _, ?_, ((Below.refl _ _).alloc (Nat.le_refl _) _).alloc (by simp) _⟩
    have h := Blk.new (w.alloc (.cells (cellsI ds) 26)) (cellsI ds) 26
    rw [World.size_alloc] at h
    exact h
  case round =>
    obtain ⟨k, hk, rfl, h1, h2, hb⟩ := hrel
    by_cases hlt : k < 31
    · have c1 := h1.cell k
      rw [cellsI_get ds k (by rw [HD.out]; exact hlt)] at c1
      have c2 := h2.cell k
      rw [cellsI_get ds k (by rw [HD.out]; exact hlt)] at c2
      generalize ds.getD k 0 = z at c1 c2
      have HW := hide (And.intro h1 (And.intro h2 hb))
      clear h1 h2 hb
      go_wp2
      go_region
      go_wp2
      go_roundw
      case rel => exact ⟨k + 1, by omega, by go_num, HW.out.1, HW.out.2.1, HW.out.2.2.drew⟩
      case measure => simp [intOf]; omega
    · have hk31 : k = 31 := by omega
      subst hk31
      have HB := hide hb
      clear h1 h2 hb
      go_wp2
      go_ret
      exact ⟨rfl, HB.out⟩

set_option maxRecDepth 100000 in
set_option maxHeartbeats 2000000 in
theorem eqFs_same (gen bl cu ck op ev lg s1 : Int) (ds1 : List Int) (p1 q1 s2 : Int) (ds2 : List Int) (p2 q2 : Int) (sn : List Int) (w : World) (hd1 : ds1.length = 12) (hd2 : ds2.length = 12) (hsn : sn.length = 31) :
    Calls Tryd.prog 7 #[.agg (cellsI (fsI gen bl cu ck op ev lg s1 ds1 p1 q1 s2 ds2 p2 q2 sn)), .agg (cellsI (fsI gen bl cu ck op ev lg s1 ds1 p1 q1 s2 ds2 p2 q2 sn))] w fun e w' => e = .returned (.bool true) ∧ Below w.heap.size w w' := by
  have HD := hide (And.intro hd1 (And.intro hd2 hsn))
  have HLen1 := hide (show (cellsI (rootI s1 ds1 p1 q1)).size = 15 from by rw [cellsI_size]; exact rootI_len _ _ _ _ hd1)
  have HLen2 := hide (show (cellsI (rootI s2 ds2 p2 q2)).size = 15 from by rw [cellsI_size]; exact rootI_len _ _ _ _ hd2)
  obtain ⟨W, hW⟩ : ∃ W, W = (w.alloc (.cells (cellsI (fsI gen bl cu ck op ev lg s1 ds1 p1 q1 s2 ds2 p2 q2 sn)) 28)).alloc (.cells (cellsI (fsI gen bl cu ck op ev lg s1 ds1 p1 q1 s2 ds2 p2 q2 sn)) 28) := ⟨_, rfl⟩
  have KK := hide (show Blk W w.heap.size (cellsI (fsI gen bl cu ck op ev lg s1 ds1 p1 q1 s2 ds2 p2 q2 sn)) 28 ∧ Blk W (w.heap.size + 1) (cellsI (fsI gen bl cu ck op ev lg s1 ds1 p1 q1 s2 ds2 p2 q2 sn)) 28 ∧ Below w.heap.size w W from by
    rw [hW]
    refine ⟨(Blk.new w _ _).alloc _, ?_, ((Below.refl _ _).alloc (Nat.le_refl _) _).alloc (by simp) _⟩
    have h := Blk.new (w.alloc (.cells (cellsI (fsI gen bl cu ck op ev lg s1 ds1 p1 q1 s2 ds2 p2 q2 sn)) 28)) (cellsI (fsI gen bl cu ck op ev lg s1 ds1 p1 q1 s2 ds2 p2 q2 sn)) 28
    rw [World.size_alloc] at h
    exact h)
  have HW9 := hide hW
  clear hd1 hd2 hsn hW
  go_enter Tryd.func7, Tryd.ntmps7
  have ca0 : W.cell? ⟨w.heap.size, 0, none⟩ = some (.int .i64 gen) := (KK.out.1.cell 0).trans rfl
  have cb0 : W.cell? ⟨w.heap.size + 1, 0, none⟩ = some (.int .i64 gen) := (KK.out.2.1.cell 0).trans rfl
  have ca1 : W.cell? ⟨w.heap.size, 1, none⟩ = some (.int .i64 bl) := (KK.out.1.cell 1).trans rfl
  have cb1 : W.cell? ⟨w.heap.size + 1, 1, none⟩ = some (.int .i64 bl) := (KK.out.2.1.cell 1).trans rfl
  have ca2 : W.cell? ⟨w.heap.size, 2, none⟩ = some (.int .i64 cu) := (KK.out.1.cell 2).trans rfl
  have cb2 : W.cell? ⟨w.heap.size + 1, 2, none⟩ = some (.int .i64 cu) := (KK.out.2.1.cell 2).trans rfl
  have ca3 : W.cell? ⟨w.heap.size, 3, none⟩ = some (.int .i64 ck) := (KK.out.1.cell 3).trans rfl
  have cb3 : W.cell? ⟨w.heap.size + 1, 3, none⟩ = some (.int .i64 ck) := (KK.out.2.1.cell 3).trans rfl
  have ca4 : W.cell? ⟨w.heap.size, 4, none⟩ = some (.int .i64 op) := (KK.out.1.cell 4).trans rfl
  have cb4 : W.cell? ⟨w.heap.size + 1, 4, none⟩ = some (.int .i64 op) := (KK.out.2.1.cell 4).trans rfl
  have ca5 : W.cell? ⟨w.heap.size, 5, none⟩ = some (.int .i64 ev) := (KK.out.1.cell 5).trans rfl
  have cb5 : W.cell? ⟨w.heap.size + 1, 5, none⟩ = some (.int .i64 ev) := (KK.out.2.1.cell 5).trans rfl
  have ca6 : W.cell? ⟨w.heap.size, 6, none⟩ = some (.int .i64 lg) := (KK.out.1.cell 6).trans rfl
  have cb6 : W.cell? ⟨w.heap.size + 1, 6, none⟩ = some (.int .i64 lg) := (KK.out.2.1.cell 6).trans rfl
  rw [HW9.out] at KK ca0 cb0 ca1 cb1 ca2 cb2 ca3 cb3 ca4 cb4 ca5 cb5 ca6 cb6
  have R1 := hide (fs_range1 gen bl cu ck op ev lg s1 ds1 p1 q1 s2 ds2 p2 q2 sn HD.out.1 KK.out.1)
  have R2 := hide (fs_range1 gen bl cu ck op ev lg s1 ds1 p1 q1 s2 ds2 p2 q2 sn HD.out.1 KK.out.2.1)
  go_wp2_with (first
    | (refine wpList_load_mid rfl 25 _ rfl w.heap.size 7 rfl ((rootI s1 ds1 p1 q1).map (Value.int .i64)) _ R1.out Tryd.underlying25 rfl (by rw [List.length_map, ← cellsI_size, HLen1.out]; exact info15) ?_)
    | (refine wpList_load_mid rfl 25 _ rfl (w.heap.size + 1) 7 rfl ((rootI s1 ds1 p1 q1).map (Value.int .i64)) _ R2.out Tryd.underlying25 rfl (by rw [List.length_map, ← cellsI_size, HLen1.out]; exact info15) ?_)
    | (go_at_call 14; fail))
  refine (eqRoot_same s1 ds1 p1 q1 _ HD.out.1).mono ?_
  rintro e w1 ⟨rfl, b1⟩
  have hl1 := KK.out.2.1.lt
  have K1 := hide (show Blk w1 w.heap.size (cellsI (fsI gen bl cu ck op ev lg s1 ds1 p1 q1 s2 ds2 p2 q2 sn)) 28 ∧ Blk w1 (w.heap.size + 1) (cellsI (fsI gen bl cu ck op ev lg s1 ds1 p1 q1 s2 ds2 p2 q2 sn)) 28 ∧ Below w.heap.size w w1 from ⟨KK.out.1.below b1 KK.out.1.lt, KK.out.2.1.below b1 KK.out.2.1.lt, KK.out.2.2.trans (b1.mono KK.out.2.2.size)⟩)
  clear b1 R1 R2 KK ca0 cb0 ca1 cb1 ca2 cb2 ca3 cb3 ca4 cb4 ca5 cb5 ca6 cb6
  have R1 := hide (fs_range2 gen bl cu ck op ev lg s1 ds1 p1 q1 s2 ds2 p2 q2 sn HD.out.1 HD.out.2.1 K1.out.1)
  have R2 := hide (fs_range2 gen bl cu ck op ev lg s1 ds1 p1 q1 s2 ds2 p2 q2 sn HD.out.1 HD.out.2.1 K1.out.2.1)
  go_wp2_with (first
    | (refine wpList_load_mid rfl 25 _ rfl w.heap.size 22 rfl ((rootI s2 ds2 p2 q2).map (Value.int .i64)) _ R1.out Tryd.underlying25 rfl (by rw [List.length_map, ← cellsI_size, HLen2.out]; exact info15) ?_)
    | (refine wpList_load_mid rfl 25 _ rfl (w.heap.size + 1) 22 rfl ((rootI s2 ds2 p2 q2).map (Value.int .i64)) _ R2.out Tryd.underlying25 rfl (by rw [List.length_map, ← cellsI_size, HLen2.out]; exact info15) ?_)
    | (go_at_call 14; fail))
  refine (eqRoot_same s2 ds2 p2 q2 _ HD.out.2.1).mono ?_
  rintro e w2 ⟨rfl, b2⟩
  have K2 := hide (show Blk w2 w.heap.size (cellsI (fsI gen bl cu ck op ev lg s1 ds1 p1 q1 s2 ds2 p2 q2 sn)) 28 ∧ Blk w2 (w.heap.size + 1) (cellsI (fsI gen bl cu ck op ev lg s1 ds1 p1 q1 s2 ds2 p2 q2 sn)) 28 ∧ Below w.heap.size w w2 from ⟨K1.out.1.below b2 K1.out.1.lt, K1.out.2.1.below b2 K1.out.2.1.lt, K1.out.2.2.trans (b2.mono K1.out.2.2.size)⟩)
  clear b2 R1 R2 K1
  have R1 := hide (fs_range3 gen bl cu ck op ev lg s1 ds1 p1 q1 s2 ds2 p2 q2 sn HD.out.1 HD.out.2.1 HD.out.2.2 K2.out.1)
  have R2 := hide (fs_range3 gen bl cu ck op ev lg s1 ds1 p1 q1 s2 ds2 p2 q2 sn HD.out.1 HD.out.2.1 HD.out.2.2 K2.out.2.1)
  go_wp2_with (first
    | (refine wpList_load_mid rfl 26 _ rfl w.heap.size 37 rfl (sn.map (Value.int .i64)) _ R1.out Tryd.underlying26 rfl (by rw [List.length_map, HD.out.2.2]; exact info31) ?_)
    | (refine wpList_load_mid rfl 26 _ rfl (w.heap.size + 1) 37 rfl (sn.map (Value.int .i64)) _ R2.out Tryd.underlying26 rfl (by rw [List.length_map, HD.out.2.2]; exact info31) ?_)
    | (go_at_call 15; fail))
  refine (eqIntA31_same sn _ HD.out.2.2).mono ?_
  rintro e w3 ⟨rfl, b3⟩
  have B3 := hide (K2.out.2.2.trans (b3.mono K2.out.2.2.size))
  clear b3 R1 R2 K2
  go_wp2
  go_ret
  exact ⟨rfl, B3.out⟩

theorem fsLet_bd : ∀ z ∈ fsLet, 0 ≤ z ∧ z < 256 := by decide
theorem at508 {zs : List Int} {gen bl cu ck op ev lg s1 : Int} {ds1 : List Int} {p1 q1 s2 : Int} {ds2 : List Int} {p2 q2 : Int} {sn : List Int} (h : FsAt (zs.take 508) gen bl cu ck op ev lg s1 ds1 p1 q1 s2 ds2 p2 q2 sn) : FsAt zs gen bl cu ck op ev lg s1 ds1 p1 q1 s2 ds2 p2 q2 sn := by
  obtain ⟨h0, h1, h2, h3, h4, h5, h6, ⟨h7, h8⟩, ⟨h9, h10⟩, h11⟩ := h
  have e : ∀ lo n, lo + n ≤ 508 → ((zs.take 508).drop lo).take n = (zs.drop lo).take n := fun lo n hn => by rw [List.drop_take, List.take_take, Nat.min_eq_left (by omega)]
  have ew : ∀ p n, p + 4 * n ≤ 508 → wordsFrom (zs.take 508) p n = wordsFrom zs p n := fun p n hn => by
    have := wordsFrom_shift zs 0 508 p n hn
    rw [List.drop_zero, Nat.zero_add] at this
    exact this
  rw [e 8 8 (by omega)] at h0
  rw [e 16 4 (by omega)] at h1
  rw [e 20 4 (by omega)] at h2
  rw [e 24 8 (by omega)] at h3
  rw [e 32 8 (by omega)] at h4
  rw [e 40 4 (by omega)] at h5
  rw [e 44 4 (by omega)] at h6
  rw [e 48 8 (by omega)] at h7
  rw [ew _ 14 (by omega)] at h8
  rw [e 112 8 (by omega)] at h9
  rw [ew _ 14 (by omega)] at h10
  rw [ew _ 31 (by omega)] at h11
  exact ⟨h0, h1, h2, h3, h4, h5, h6, ⟨h7, h8⟩, ⟨h9, h10⟩, h11⟩
/-- A record that is right is sealed as it was just where its letters, its zeros and its sum are right. -/
theorem frame_iff (zs : List Int) (h : ∀ z ∈ zs, 0 ≤ z ∧ z < 256) (hz : zs.length = 512) (B : List Int) (hB : B = fsLet ++ (zs.drop 8).take 292) : (sealed B = zs) ↔ frameF zs = true := by
  subst hB
  rw [sealed_iff zs fsLet 292 h hz rfl fsLet_bd (by omega)]
  unfold frameF sumB
  simp only [Bool.and_eq_true, decide_eq_true_eq]
  constructor
  · rintro ⟨a, b, c⟩; exact ⟨⟨c, a⟩, b⟩
  · rintro ⟨⟨c, a⟩, b⟩; exact ⟨a, b, c⟩
/-- What the model reads, laid down again, are its bytes. -/
theorem bytes_model (zs : List Int) (h : ∀ z ∈ zs, 0 ≤ z ∧ z < 256) (hz : zs.length = 512) (hr : rightF (mg zs 8 8) (mg zs 16 4) (mg zs 20 4) (mg zs 24 8) (mg zs 32 8) (mg zs 40 4) (mg zs 44 4) (mS (mR zs 48)) (gwords (mR zs 48) 12) (mP (mR zs 48)) (mQ (mR zs 48)) (mS (mR zs 112)) (gwords (mR zs 112) 12) (mP (mR zs 112)) (mQ (mR zs 112)) (mSn zs 31) = true) : bytesF (mg zs 8 8).toNat (mg zs 16 4).toNat (mg zs 20 4).toNat (mg zs 24 8).toNat (mg zs 32 8).toNat (mg zs 40 4).toNat (mg zs 44 4).toNat (mS (mR zs 48)) (gwords (mR zs 48) 12) (mP (mR zs 48)) (mQ (mR zs 48)) (mS (mR zs 112)) (gwords (mR zs 112) 12) (mP (mR zs 112)) (mQ (mR zs 112)) (mSn zs 31) = fsLet ++ (zs.drop 8).take 292 := by
  have hR : ∀ lo, lo + 64 ≤ 512 → RootAt zs lo (wrap64 ((unle ((zs.drop lo).take 8) : Nat) : Int)) (wordsFrom zs (lo + 8) 12) ((unle ((zs.drop (lo + 8 + 4 * 12)).take 4) : Nat) : Int) ((unle ((zs.drop (lo + 8 + 4 * 13)).take 4) : Nat) : Int) := fun lo hlo => ⟨rfl, by
    have e1 : wordsFrom zs (lo + 8) 13 = wordsFrom zs (lo + 8) 12 ++ [((unle ((zs.drop (lo + 8 + 4 * 12)).take 4) : Nat) : Int)] := wordsFrom_succ zs (lo + 8) 12
    have e2 : wordsFrom zs (lo + 8) 14 = wordsFrom zs (lo + 8) 13 ++ [((unle ((zs.drop (lo + 8 + 4 * 13)).take 4) : Nat) : Int)] := wordsFrom_succ zs (lo + 8) 13
    rw [e2, e1, List.append_assoc]
    rfl⟩
  have hat : FsAt zs (wrap64 ((unle ((zs.drop 8).take 8) : Nat) : Int)) ((unle ((zs.drop 16).take 4) : Nat) : Int) ((unle ((zs.drop 20).take 4) : Nat) : Int) (wrap64 ((unle ((zs.drop 24).take 8) : Nat) : Int)) (wrap64 ((unle ((zs.drop 32).take 8) : Nat) : Int)) ((unle ((zs.drop 40).take 4) : Nat) : Int) ((unle ((zs.drop 44).take 4) : Nat) : Int) _ _ _ _ _ _ _ _ (wordsFrom zs 176 31) := ⟨rfl, rfl, rfl, rfl, rfl, rfl, rfl, hR 48 (by omega), hR 112 (by omega), rfl⟩
  obtain ⟨e1, e2⟩ := fs_agree zs h (by omega) _ _ _ _ _ _ _ _ _ _ _ _ _ _ _ _ (wordsFrom_len _ _ _) (wordsFrom_len _ _ _) hat
  exact (e2 (by rw [e1]; exact hr)).2
theorem read_same (zs X : List Int) (ok : Bool) (h : ∀ z ∈ zs, 0 ≤ z ∧ z < 256) (hR : FsRead zs X ok) : (if ok = true then X else noFs) = decFs zs ∧ (if ok = true then (0 : Int) else 21) = codeDF zs := by
  obtain ⟨gen, bl, cu, ck, op, ev, lg, s1, ds1, p1, q1, s2, ds2, p2, q2, sn, hd1, hd2, hsn, rfl, h1, h2, h3⟩ := hR
  by_cases hz : zs.length = 512
  · cases hf : frameF zs with
    | true =>
      obtain ⟨hat, hok⟩ := h3 hz hf
      obtain ⟨e1, e2⟩ := fs_agree zs h (by omega) gen bl cu ck op ev lg s1 ds1 p1 q1 s2 ds2 p2 q2 sn hd1 hd2 (at508 hat)
      have e3 : okFs zs = ok := by
        unfold okFs
        rw [decide_eq_true hz, Bool.true_and, ← e1, hok]
        cases hr : rightF gen bl cu ck op ev lg s1 ds1 p1 q1 s2 ds2 p2 q2 sn with
        | false => rfl
        | true =>
          rw [Bool.true_and, decide_eq_true_eq]
          unfold encFs
          rw [← e1, hr, if_pos rfl]
          exact (frame_iff zs h hz _ (e2 hr).2).2 hf
      unfold decFs codeDF
      rw [e3]
      refine ⟨?_, rfl⟩
      cases hk : ok with
      | false => rfl
      | true => exact (e2 (by rw [← hok]; exact hk)).1
    | false =>
      have hk := h2 hz hf
      have e3 : okFs zs = false := by
        unfold okFs
        rw [decide_eq_true hz, Bool.true_and]
        cases hr : rightF (mg zs 8 8) (mg zs 16 4) (mg zs 20 4) (mg zs 24 8) (mg zs 32 8) (mg zs 40 4) (mg zs 44 4) (mS (mR zs 48)) (gwords (mR zs 48) 12) (mP (mR zs 48)) (mQ (mR zs 48)) (mS (mR zs 112)) (gwords (mR zs 112) 12) (mP (mR zs 112)) (mQ (mR zs 112)) (mSn zs 31) with
        | false => rfl
        | true =>
          rw [Bool.true_and, decide_eq_false_iff_not]
          intro he
          unfold encFs at he
          rw [hr, if_pos rfl] at he
          have hb := bytes_model zs h hz hr
          have := (frame_iff zs h hz _ hb).1 he
          rw [hf] at this
          cases this
      unfold decFs codeDF
      rw [e3, hk]
      exact ⟨rfl, rfl⟩
  · have hk := h1 hz
    have e3 : okFs zs = false := by unfold okFs; rw [decide_eq_false hz]; rfl
    unfold decFs codeDF
    rw [e3, hk]
    exact ⟨rfl, rfl⟩
theorem implDFs_same (v : Value) (zs : List Int) (w : World) (h : Rd .u8 w v zs) (hbd : ∀ z ∈ zs, 0 ≤ z ∧ z < 256) (hz : zs.length ≤ 140737488355328) (hg : ErrT w) (hL : LetF w) :
    Calls Tryd.prog 20 #[v] w fun e w' => e = .returned (.tuple #[.agg (cellsI (decFs zs)), .int .i64 (codeDF zs)]) ∧ Below w.heap.size w w' := by
  refine (implDFs_any v zs w h hbd hz hg hL).mono ?_
  rintro e w' ⟨X, ok, hR, rfl, hb⟩
  obtain ⟨e1, e2⟩ := read_same zs X ok hbd hR
  rw [e1, e2]
  exact ⟨rfl, hb⟩
theorem decFs_fs (zs : List Int) : ∃ gen bl cu ck op ev lg s1 ds1 p1 q1 s2 ds2 p2 q2 sn, ds1.length = 12 ∧ ds2.length = 12 ∧ sn.length = 31 ∧ decFs zs = fsI gen bl cu ck op ev lg s1 ds1 p1 q1 s2 ds2 p2 q2 sn := by
  unfold decFs
  split
  · exact ⟨_, _, _, _, _, _, _, _, _, _, _, _, _, _, _, _, gwords_len _ _, gwords_len _ _, mSn_len _ _, rfl⟩
  · exact ⟨0, 0, 0, 0, 0, 0, 0, 0, List.replicate 12 0, 0, 0, 0, List.replicate 12 0, 0, 0, List.replicate 31 0, rfl, rfl, rfl, rfl⟩
end Go.Proofs.YtfkmnmopkblopaaDoor
