/- EncodeInode, of the program and of the model. -/
import Derived.Test.YtlgafpjmifacmaaDoorZt27
namespace Go.Proofs.YtlgafpjmifacmaaDoor
set_option linter.unusedVariables false
set_option linter.unusedSimpArgs false
open Go.RowKit

def encI (k0 k1 k2 k3 k4 k5 k6 k7 k8 s : Int) (ds : List Int) (p q : Int) : List Int := if rightIno k0 k1 k2 k3 k4 k5 k6 k7 k8 s ds p q = true then bytesIno k0.toNat k1.toNat k2.toNat k3.toNat k4.toNat k5.toNat k6.toNat k7.toNat k8.toNat s ds p q else []
def codeI (k0 k1 k2 k3 k4 k5 k6 k7 k8 s : Int) (ds : List Int) (p q : Int) : Int := if rightIno k0 k1 k2 k3 k4 k5 k6 k7 k8 s ds p q = true then 0 else 7
theorem encI_len (k0 k1 k2 k3 k4 k5 k6 k7 k8 s : Int) (ds : List Int) (p q : Int) (hd : ds.length = 12) : (encI k0 k1 k2 k3 k4 k5 k6 k7 k8 s ds p q).length ≤ 128 := by
  unfold encI
  split
  · rw [bytesIno_len _ _ _ _ _ _ _ _ _ s ds p q hd]; omega
  · simp
theorem ino_bd {k0 k1 k2 k3 k4 k5 k6 k7 k8 s : Int} {ds : List Int} {p q : Int} (hd : ds.length = 12) (h : rightIno k0 k1 k2 k3 k4 k5 k6 k7 k8 s ds p q = true) :
    (0 ≤ k0 ∧ k0 < 256) ∧ (0 ≤ k1 ∧ k1 < 65536) ∧ (0 ≤ k2 ∧ k2 < 65536) ∧ (0 ≤ k3 ∧ k3 < 65536) ∧ (0 ≤ k4 ∧ k4 < 65536) ∧ (0 ≤ k5 ∧ k5 < 4294967296) ∧ (0 ≤ k6 ∧ k6 < 281474976710656) ∧ (0 ≤ k7 ∧ k7 < 281474976710656) ∧ (0 ≤ k8 ∧ k8 < 281474976710656) ∧ (0 ≤ s ∧ s ≤ 262144) ∧ ∀ z ∈ ds ++ [p, q], 0 ≤ z ∧ z < 2048 := by
  unfold rightIno at h
  rw [Bool.or_eq_true] at h
  rcases h with h | h
  · rw [zeroB_iff] at h
    have hz : ∀ x ∈ inoI [k0, k1, k2, k3, k4, k5, k6, k7, k8] s ds p q, x = 0 := h
    have e0 := hz k0 (by simp [inoI])
    have e1 := hz k1 (by simp [inoI])
    have e2 := hz k2 (by simp [inoI])
    have e3 := hz k3 (by simp [inoI])
    have e4 := hz k4 (by simp [inoI])
    have e5 := hz k5 (by simp [inoI])
    have e6 := hz k6 (by simp [inoI])
    have e7 := hz k7 (by simp [inoI])
    have e8 := hz k8 (by simp [inoI])
    have es := hz s (by simp [inoI, rootI])
    refine ⟨by omega, by omega, by omega, by omega, by omega, by omega, by omega, by omega, by omega, by omega, fun z hm => ?_⟩
    have ez := hz z (by unfold inoI rootI; exact List.mem_append_right _ (List.mem_cons_of_mem _ hm))
    omega
  · rw [Bool.and_eq_true] at h
    have hb := right_bd hd h.2
    have hf := h.1
    unfold fieldsB at hf
    simp only [Bool.and_eq_true] at hf
    obtain ⟨⟨⟨⟨⟨⟨⟨⟨f0, f1⟩, f2⟩, f3⟩, f4⟩, f5⟩, f6⟩, f7⟩, f8⟩ := hf
    have g0 := wi_true f0
    have g1 := wi_true f1
    have g2 := wi_true f2
    have g3 := wi_true f3
    have g4 := wi_true f4
    have g6 := wi_true f6
    have g7 := wi_true f7
    have g8 := wi_true f8
    have g5 : 0 ≤ k5 ∧ k5 ≤ 1000 := by
      unfold parB at f5
      split at f5
      · have := wi_true f5; omega
      · simp at f5; omega
    exact ⟨by omega, by omega, by omega, by omega, by omega, by omega, by omega, by omega, by omega, hb.1, hb.2⟩

set_option maxRecDepth 100000 in
set_option maxHeartbeats 1000000 in
theorem specI_false (k0 k1 k2 k3 k4 k5 k6 k7 k8 s : Int) (ds : List Int) (p q : Int) (w : World) (hd : ds.length = 12) (hr : rightIno k0 k1 k2 k3 k4 k5 k6 k7 k8 s ds p q = false) :
    Calls Tryd.prog 56 #[.agg (cellsI (inoI [k0, k1, k2, k3, k4, k5, k6, k7, k8] s ds p q))] w fun e w' => e = .returned (.tuple #[.slice none 0 0, .int .i64 7]) ∧ Below w.heap.size w w' := by
  have HR := hide hr
  have HD := hide hd
  have HZ := hide (show (cellsI (inoI [k0, k1, k2, k3, k4, k5, k6, k7, k8] s ds p q)).size = 24 from by rw [cellsI_size]; exact inoI_len _ _ _ _ _ rfl HD.out)
  have K0 := hide (And.intro (Blk.new w (cellsI (inoI [k0, k1, k2, k3, k4, k5, k6, k7, k8] s ds p q)) 44) (show Below w.heap.size w (w.alloc (.cells (cellsI (inoI [k0, k1, k2, k3, k4, k5, k6, k7, k8] s ds p q)) 44)) from (Below.refl _ _).alloc (Nat.le_refl _) _))
  clear hd hr
  go_enter Tryd.func56, Tryd.ntmps56
  go_wp2_with (first | (refine wpList_load_row rfl 44 _ rfl w.heap.size rfl 44 (cellsI (inoI [k0, k1, k2, k3, k4, k5, k6, k7, k8] s ds p q)) (0, 0) _ K0.out.1 Tryd.underlying44 rfl (by rw [HZ.out]; exact info24) ?_) | (go_at_call 23; fail))
  refine (l02Inode_any k0 k1 k2 k3 k4 k5 k6 k7 k8 s ds p q _ HD.out).mono ?_
  rintro e w1 ⟨rfl, b1⟩
  have B1 := hide (K0.out.2.trans (b1.mono K0.out.2.size))
  have hr := HR.out
  clear b1
  go_wp2
  go_ret2
  exact ⟨rfl, B1.out⟩

set_option maxRecDepth 100000 in
set_option maxHeartbeats 1000000 in
theorem specI_true (a0 a1 a2 a3 a4 a5 a6 a7 a8 : Nat) (s d0 d1 d2 d3 d4 d5 d6 d7 d8 d9 d10 d11 p q : Int) (w : World) (h0 : a0 < 256) (h1 : a1 < 65536) (h2 : a2 < 65536) (h3 : a3 < 65536) (h4 : a4 < 65536) (h5 : a5 < 4294967296) (h6 : a6 < 281474976710656) (h7 : a7 < 281474976710656) (h8 : a8 < 281474976710656) (hs : 0 ≤ s ∧ s ≤ 262144) (hp : ∀ z ∈ [d0, d1, d2, d3, d4, d5, d6, d7, d8, d9, d10, d11] ++ [p, q], 0 ≤ z ∧ z < 2048) (hr : rightIno (a0 : Int) (a1 : Int) (a2 : Int) (a3 : Int) (a4 : Int) (a5 : Int) (a6 : Int) (a7 : Int) (a8 : Int) s [d0, d1, d2, d3, d4, d5, d6, d7, d8, d9, d10, d11] p q = true) :
    Calls Tryd.prog 56 #[.agg (cellsI (inoI [(a0 : Int), (a1 : Int), (a2 : Int), (a3 : Int), (a4 : Int), (a5 : Int), (a6 : Int), (a7 : Int), (a8 : Int)] s [d0, d1, d2, d3, d4, d5, d6, d7, d8, d9, d10, d11] p q))] w fun e w' => ∃ v', e = .returned (.tuple #[v', .int .i64 0]) ∧ w'.ownsRow w.heap.size 5 1 v' 128 ((bytesIno a0 a1 a2 a3 a4 a5 a6 a7 a8 s [d0, d1, d2, d3, d4, d5, d6, d7, d8, d9, d10, d11] p q).map (Value.int .u8)) ∧ Below w.heap.size w w' := by
  have HR := hide hr
  have HZ := hide (show (cellsI (inoI [(a0 : Int), (a1 : Int), (a2 : Int), (a3 : Int), (a4 : Int), (a5 : Int), (a6 : Int), (a7 : Int), (a8 : Int)] s [d0, d1, d2, d3, d4, d5, d6, d7, d8, d9, d10, d11] p q)).size = 24 from rfl)
  have K0 := hide (And.intro (Blk.new w (cellsI (inoI [(a0 : Int), (a1 : Int), (a2 : Int), (a3 : Int), (a4 : Int), (a5 : Int), (a6 : Int), (a7 : Int), (a8 : Int)] s [d0, d1, d2, d3, d4, d5, d6, d7, d8, d9, d10, d11] p q)) 44) (show Below w.heap.size w (w.alloc (.cells (cellsI (inoI [(a0 : Int), (a1 : Int), (a2 : Int), (a3 : Int), (a4 : Int), (a5 : Int), (a6 : Int), (a7 : Int), (a8 : Int)] s [d0, d1, d2, d3, d4, d5, d6, d7, d8, d9, d10, d11] p q)) 44)) from (Below.refl _ _).alloc (Nat.le_refl _) _))
  have HC := hide (fun w => inodeBytes_any a0 a1 a2 a3 a4 a5 a6 a7 a8 s d0 d1 d2 d3 d4 d5 d6 d7 d8 d9 d10 d11 p q w h0 h1 h2 h3 h4 h5 h6 h7 h8 hs hp)
  clear hr h0 h1 h2 h3 h4 h5 h6 h7 h8 hs hp
  go_enter Tryd.func56, Tryd.ntmps56
  go_wp2_with (first | (refine wpList_load_row rfl 44 _ rfl w.heap.size rfl 44 (cellsI (inoI [(a0 : Int), (a1 : Int), (a2 : Int), (a3 : Int), (a4 : Int), (a5 : Int), (a6 : Int), (a7 : Int), (a8 : Int)] s [d0, d1, d2, d3, d4, d5, d6, d7, d8, d9, d10, d11] p q)) (0, 0) _ K0.out.1 Tryd.underlying44 rfl (by rw [HZ.out]; exact info24) ?_) | (go_at_call 23; fail))
  refine (l02Inode_any (a0 : Int) (a1 : Int) (a2 : Int) (a3 : Int) (a4 : Int) (a5 : Int) (a6 : Int) (a7 : Int) (a8 : Int) s [d0, d1, d2, d3, d4, d5, d6, d7, d8, d9, d10, d11] p q _ rfl).mono ?_
  rintro e w1 ⟨rfl, b1⟩
  have K1 := hide (And.intro (K0.out.1.below b1 K0.out.1.lt) (K0.out.2.trans (b1.mono K0.out.2.size)))
  have hr := HR.out
  clear b1
  go_wp2_with (first | (refine wpList_load_row rfl 44 _ rfl w.heap.size rfl 44 (cellsI (inoI [(a0 : Int), (a1 : Int), (a2 : Int), (a3 : Int), (a4 : Int), (a5 : Int), (a6 : Int), (a7 : Int), (a8 : Int)] s [d0, d1, d2, d3, d4, d5, d6, d7, d8, d9, d10, d11] p q)) (0, 0) _ K1.out.1 Tryd.underlying44 rfl (by rw [HZ.out]; exact info24) ?_) | (go_at_call 47; fail))
  refine (HC.out _).mono ?_
  rintro e w2 ⟨v2, rfl, o2, b2⟩
  have H2 := hide (And.intro (own_mono o2 K1.out.2.size) (K1.out.2.trans (b2.mono K1.out.2.size)))
  clear o2 b2
  go_wp2
  go_ret2
  exact ⟨_, rfl, H2.out.1, H2.out.2⟩

theorem openI {P : Prop} {k0 k1 k2 k3 k4 k5 k6 k7 k8 s : Int} {ds : List Int} {p q : Int} (hd : ds.length = 12) (hr : rightIno k0 k1 k2 k3 k4 k5 k6 k7 k8 s ds p q = true)
    (h : ∀ (a0 a1 a2 a3 a4 a5 a6 a7 a8 : Nat) (d0 d1 d2 d3 d4 d5 d6 d7 d8 d9 d10 d11 : Int), (k0 = (a0 : Int) ∧ k1 = (a1 : Int) ∧ k2 = (a2 : Int) ∧ k3 = (a3 : Int) ∧ k4 = (a4 : Int) ∧ k5 = (a5 : Int) ∧ k6 = (a6 : Int) ∧ k7 = (a7 : Int) ∧ k8 = (a8 : Int)) → ds = [d0, d1, d2, d3, d4, d5, d6, d7, d8, d9, d10, d11] → (a0 < 256 ∧ a1 < 65536 ∧ a2 < 65536 ∧ a3 < 65536 ∧ a4 < 65536 ∧ a5 < 4294967296 ∧ a6 < 281474976710656 ∧ a7 < 281474976710656 ∧ a8 < 281474976710656 ∧ (0 ≤ s ∧ s ≤ 262144) ∧ ∀ z ∈ ds ++ [p, q], 0 ≤ z ∧ z < 2048) → P) : P := by
  obtain ⟨b0, b1, b2, b3, b4, b5, b6, b7, b8, bs, bp⟩ := ino_bd hd hr
  obtain ⟨d0, d1, d2, d3, d4, d5, d6, d7, d8, d9, d10, d11, rfl⟩ := list12 hd
  exact h k0.toNat k1.toNat k2.toNat k3.toNat k4.toNat k5.toNat k6.toNat k7.toNat k8.toNat d0 d1 d2 d3 d4 d5 d6 d7 d8 d9 d10 d11 ⟨by omega, by omega, by omega, by omega, by omega, by omega, by omega, by omega, by omega⟩ rfl ⟨by omega, by omega, by omega, by omega, by omega, by omega, by omega, by omega, by omega, bs, bp⟩

theorem specI_any (k0 k1 k2 k3 k4 k5 k6 k7 k8 s : Int) (ds : List Int) (p q : Int) (w : World) (hd : ds.length = 12) :
    Calls Tryd.prog 56 #[.agg (cellsI (inoI [k0, k1, k2, k3, k4, k5, k6, k7, k8] s ds p q))] w fun e w' => ∃ v', e = .returned (.tuple #[v', .int .i64 (codeI k0 k1 k2 k3 k4 k5 k6 k7 k8 s ds p q)]) ∧ w'.ownsRow w.heap.size 5 1 v' (encI k0 k1 k2 k3 k4 k5 k6 k7 k8 s ds p q).length ((encI k0 k1 k2 k3 k4 k5 k6 k7 k8 s ds p q).map (Value.int .u8)) ∧ Below w.heap.size w w' := by
  cases hr : rightIno k0 k1 k2 k3 k4 k5 k6 k7 k8 s ds p q with
  | false =>
    refine (specI_false k0 k1 k2 k3 k4 k5 k6 k7 k8 s ds p q w hd hr).mono ?_
    rintro e w' ⟨rfl, hb⟩
    refine ⟨_, by unfold codeI; rw [hr]; rfl, ?_, hb⟩
    unfold encI
    rw [hr]
    exact World.ownsRow_nil _ _ _ _
  | true =>
    refine openI hd hr fun a0 a1 a2 a3 a4 a5 a6 a7 a8 d0 d1 d2 d3 d4 d5 d6 d7 d8 d9 d10 d11 hk hds hbd => ?_
    obtain ⟨rfl, rfl, rfl, rfl, rfl, rfl, rfl, rfl, rfl⟩ := hk
    subst hds
    obtain ⟨h0, h1, h2, h3, h4, h5, h6, h7, h8, hs, hp⟩ := hbd
    refine (specI_true a0 a1 a2 a3 a4 a5 a6 a7 a8 s d0 d1 d2 d3 d4 d5 d6 d7 d8 d9 d10 d11 p q w h0 h1 h2 h3 h4 h5 h6 h7 h8 hs hp hr).mono ?_
    rintro e w' ⟨v', rfl, ho, hb⟩
    refine ⟨v', by unfold codeI; rw [hr]; rfl, ?_, hb⟩
    unfold encI
    rw [if_pos hr, bytesIno_len _ _ _ _ _ _ _ _ _ s [d0, d1, d2, d3, d4, d5, d6, d7, d8, d9, d10, d11] p q rfl]
    exact ho

end Go.Proofs.YtlgafpjmifacmaaDoor
