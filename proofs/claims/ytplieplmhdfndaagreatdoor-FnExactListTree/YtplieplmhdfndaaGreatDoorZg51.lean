/- Nodes that are the call's own, marked; a state marked. Two owned rows that lie apart. -/
import Derived.Test.YtplieplmhdfndaaGreatDoorZg41
import Derived.Test.YtplieplmhdfndaaGreatDoorZg01
namespace Go.Proofs.YtplieplmhdfndaaGreatDoor
set_option linter.unusedVariables false
set_option linter.unusedSimpArgs false
open Go.RowKit

theorem OwnN.atM {W : World} {base g : Nat} {e : TypeId} {m : Nat} {v : Value} {L : List NE} {vs : List Value} (h : OwnN W base e m v L vs) {i : Nat} {l : NE} (hl : L[i]? = some l) (hv : v.ownBlock = some g) :
    ∃ u, vs[i]? = some u ∧ W.ownsRow base 5 1 u l.2.length (l.2.map (Value.int .u8)) ∧ ∀ (j : Nat) (x : Value), (l.1 ++ [u])[j]? = some x → W.cell? ⟨g, i * (m + 1) + j, none⟩ = some x ∧ W.frozen? ⟨g, i * (m + 1) + j, none⟩ = false := by
  have hi : i < L.length := (List.getElem?_eq_some_iff.1 hl).1
  obtain ⟨u, hu⟩ : ∃ x, vs[i]? = some x := ⟨_, List.getElem?_eq_getElem (by rw [h.len]; exact hi)⟩
  refine ⟨u, hu, h.dat i u l hu hl, fun j x hx => ?_⟩
  have hj : j < m + 1 := by
    have := (List.getElem?_eq_some_iff.1 hx).1
    simp [h.pre l (List.mem_of_getElem? hl)] at this
    omega
  have hc := (cellsN_get m vs L h.len h.pre i j u l hu hl hj).trans hx
  rcases h.row.2 with ⟨rfl, _⟩ | ⟨g', cap, cur, rfl, hb, hg, hn, hm, hs, ht⟩
  · cases hv
  · obtain rfl : g' = g := by simpa [Value.ownBlock] using hv
    have hB : Blk W g' cur e := hg
    refine ⟨?_, hB.frozen _⟩
    rw [hB.cell, ← Array.getElem?_toList]
    rw [← ht, List.getElem?_take] at hc
    split at hc
    · exact hc
    · cases hc
theorem OwnN.blkM {W : World} {base : Nat} {e : TypeId} {m n : Nat} {a : Option Addr} {cap : Nat} {L : List NE} {vs : List Value} (h : OwnN W base e m (.slice a n cap) L vs) (hn : 0 < L.length) : ∃ g, a = some ⟨g, 0, none⟩ := by
  rcases h.row.2 with ⟨_, h0⟩ | ⟨g, cap', cur, e, _⟩
  · omega
  · injection e with e1 e2 e3
    exact ⟨g, e1⟩
theorem mkE_Nd (kk : Nat) (x : Nd) : mkE 9 kk (ndE x) = ([.int .i64 (kk : Int), .int .i64 ((kk + 1 : Nat) : Int), .int .i64 ((kk + 2 : Nat) : Int), .int .i64 ((kk + 3 : Nat) : Int), .int .i64 ((kk + 4 : Nat) : Int), .int .i64 ((kk + 5 : Nat) : Int), .int .i64 ((kk + 6 : Nat) : Int), .int .i64 ((kk + 7 : Nat) : Int), .int .i64 ((kk + 8 : Nat) : Int)], mk8 (kk + 9) x.d.length) := rfl
set_option maxRecDepth 100000 in
set_option maxHeartbeats 4000000 in
theorem markNodeS_any (v : Value) (base k0 : Nat) (P : List Nd) (vs : List Value) (w : World) (h : OwnN w base 56 9 v (P.map ndE) vs) (hk0 : endN 9 k0 (P.map ndE) ≤ 140737488355328) :
    Calls Tryz.prog 41 #[v, .int .i64 k0] w fun e w' => e = .returned (.int .i64 (endN 9 k0 (P.map ndE) : Nat)) ∧ OwnN w' base 56 9 v (mkN 9 k0 (P.map ndE)) vs ∧ KpN w w' v vs := by
  obtain ⟨a, cap, rfl⟩ : ∃ a cap, v = .slice a P.length cap := by obtain ⟨a, cap, e⟩ := own_shape h.row; exact ⟨a, cap, by simpa using e⟩
  have hm : P.length ≤ 9223372036854775807 := by obtain ⟨a, cap, _, _, g1, g2⟩ := h.rd.row; unfold maxLen at g2; simp at g1; omega
  have HM := hide (fun i => endN_mono 9 (P.map ndE) k0 i)
  have H := hide h
  clear h
  go_enter Tryz.func41, Tryz.ntmps41
  go_wp2
  go_loopw [1, 5] (fun x i wr => ∃ k : Nat, k ≤ P.length ∧ i = .int .i64 k ∧ x = .int .i64 (endN 9 k0 ((P.map ndE).take k) : Nat) ∧ OwnN wr base 56 9 (.slice a P.length cap) (mkN 9 k0 ((P.map ndE).take k) ++ (P.map ndE).drop k) vs ∧ KpN w wr (.slice a P.length cap) vs) (fun _ i _ => P.length - (intOf i).toNat)
  case atStart => exact ⟨0, Nat.zero_le _, rfl, by simp [endN], by simpa [mkN] using H.out, KpN.refl _ _ _⟩
  case round =>
    clear H
    obtain ⟨k, hk, rfl, rfl, ho, hkp⟩ := hrel
    by_cases hlt : k < P.length
    · obtain ⟨p, hp⟩ : ∃ p, P[k]? = some p := ⟨_, List.getElem?_eq_getElem hlt⟩
      have hpl : (P.map ndE)[k]? = some (ndE p) := by rw [List.getElem?_map, hp]; rfl
      have hE := endN_take 9 (P.map ndE) k0 k _ hpl
      have hM := HM.out (k + 1)
      rw [hE] at hM
      have hST := mk_step 9 (P.map ndE) k0 k _ hpl
      have hAT := mk_at 9 (P.map ndE) k0 k _ hpl
      rw [mkE_Nd] at hST
      obtain ⟨g, rfl⟩ := ho.blkM (by rw [List.length_append, mkN_len]; simp; omega)
      generalize endN 9 k0 ((P.map ndE).take k) = kk at hE hM hST ⊢
      generalize hLL : mkN 9 k0 ((P.map ndE).take k) ++ (P.map ndE).drop k = LL at ho hST hAT
      have hkL : k < LL.length := (List.getElem?_eq_some_iff.1 hAT).1
      have hzs : (ndE p).2.length = p.d.length := rfl
      rw [hzs] at hM hE
      have o2 := OwnN.fields (g := g) (by decide) rfl k [.int .i64 (kk : Int), .int .i64 ((kk + 1 : Nat) : Int), .int .i64 ((kk + 2 : Nat) : Int), .int .i64 ((kk + 3 : Nat) : Int), .int .i64 ((kk + 4 : Nat) : Int), .int .i64 ((kk + 5 : Nat) : Int), .int .i64 ((kk + 6 : Nat) : Int), .int .i64 ((kk + 7 : Nat) : Int), .int .i64 ((kk + 8 : Nat) : Int)] 0 wr LL (ndE p) ho hAT (by simp)
      rw [putF_all _ (ndE p).1 (by rfl)] at o2
      obtain ⟨u, hu, hd, hc⟩ := ho.atM hAT (g := g) rfl
      obtain ⟨au, cu, rfl⟩ := own_shape hd
      have hd2 := o2.dat k _ _ hu (List.getElem?_set_self hkL)
      obtain ⟨c0, f0⟩ := hc 0 (.int .i64 p.k) rfl
      obtain ⟨c1, f1⟩ := hc 1 (.int .i64 p.l) rfl
      obtain ⟨c2, f2⟩ := hc 2 (.int .i64 p.m) rfl
      obtain ⟨c3, f3⟩ := hc 3 (.int .i64 p.u) rfl
      obtain ⟨c4, f4⟩ := hc 4 (.int .i64 p.g) rfl
      obtain ⟨c5, f5⟩ := hc 5 (.int .i64 p.p) rfl
      obtain ⟨c6, f6⟩ := hc 6 (.int .i64 p.e) rfl
      obtain ⟨c7, f7⟩ := hc 7 (.int .i64 p.t) rfl
      obtain ⟨c8, f8⟩ := hc 8 (.int .i64 p.c) rfl
      obtain ⟨c9, f9⟩ := hc 9 (.slice au (ndE p).2.length cu) rfl
      simp only [show (9 : Nat) + 1 = 10 from rfl, Nat.add_zero, hzs] at c0 f0 c1 f1 c2 f2 c3 f3 c4 f4 c5 f5 c6 f6 c7 f7 c8 f8 c9
      have O2 := hide (show OwnN (((((((((wr.setCell ⟨g, k * 10, none⟩ (.int .i64 ((kk : Int)))).setCell ⟨g, k * 10 + 1, none⟩ (.int .i64 ((kk : Int) + 1))).setCell ⟨g, k * 10 + 2, none⟩ (.int .i64 ((kk : Int) + 2))).setCell ⟨g, k * 10 + 3, none⟩ (.int .i64 ((kk : Int) + 3))).setCell ⟨g, k * 10 + 4, none⟩ (.int .i64 ((kk : Int) + 4))).setCell ⟨g, k * 10 + 5, none⟩ (.int .i64 ((kk : Int) + 5))).setCell ⟨g, k * 10 + 6, none⟩ (.int .i64 ((kk : Int) + 6))).setCell ⟨g, k * 10 + 7, none⟩ (.int .i64 ((kk : Int) + 7))).setCell ⟨g, k * 10 + 8, none⟩ (.int .i64 ((kk : Int) + 8))) base 56 9 (.slice (some ⟨g, 0, none⟩) P.length cap) (LL.set k ([.int .i64 (kk : Int), .int .i64 ((kk + 1 : Nat) : Int), .int .i64 ((kk + 2 : Nat) : Int), .int .i64 ((kk + 3 : Nat) : Int), .int .i64 ((kk + 4 : Nat) : Int), .int .i64 ((kk + 5 : Nat) : Int), .int .i64 ((kk + 6 : Nat) : Int), .int .i64 ((kk + 7 : Nat) : Int), .int .i64 ((kk + 8 : Nat) : Int)], p.d)) vs ∧ World.ownsRow (((((((((wr.setCell ⟨g, k * 10, none⟩ (.int .i64 ((kk : Int)))).setCell ⟨g, k * 10 + 1, none⟩ (.int .i64 ((kk : Int) + 1))).setCell ⟨g, k * 10 + 2, none⟩ (.int .i64 ((kk : Int) + 2))).setCell ⟨g, k * 10 + 3, none⟩ (.int .i64 ((kk : Int) + 3))).setCell ⟨g, k * 10 + 4, none⟩ (.int .i64 ((kk : Int) + 4))).setCell ⟨g, k * 10 + 5, none⟩ (.int .i64 ((kk : Int) + 5))).setCell ⟨g, k * 10 + 6, none⟩ (.int .i64 ((kk : Int) + 6))).setCell ⟨g, k * 10 + 7, none⟩ (.int .i64 ((kk : Int) + 7))).setCell ⟨g, k * 10 + 8, none⟩ (.int .i64 ((kk : Int) + 8))) base 5 1 (.slice au p.d.length cu) p.d.length (p.d.map (Value.int .u8)) from ⟨o2, hd2⟩)
      have K3 := hide (show KpN w (((((((((wr.setCell ⟨g, k * 10, none⟩ (.int .i64 ((kk : Int)))).setCell ⟨g, k * 10 + 1, none⟩ (.int .i64 ((kk : Int) + 1))).setCell ⟨g, k * 10 + 2, none⟩ (.int .i64 ((kk : Int) + 2))).setCell ⟨g, k * 10 + 3, none⟩ (.int .i64 ((kk : Int) + 3))).setCell ⟨g, k * 10 + 4, none⟩ (.int .i64 ((kk : Int) + 4))).setCell ⟨g, k * 10 + 5, none⟩ (.int .i64 ((kk : Int) + 5))).setCell ⟨g, k * 10 + 6, none⟩ (.int .i64 ((kk : Int) + 6))).setCell ⟨g, k * 10 + 7, none⟩ (.int .i64 ((kk : Int) + 7))).setCell ⟨g, k * 10 + 8, none⟩ (.int .i64 ((kk : Int) + 8))) (.slice (some ⟨g, 0, none⟩) P.length cap) vs from hkp.row (cells_grown g [.int .i64 (kk : Int), .int .i64 ((kk + 1 : Nat) : Int), .int .i64 ((kk + 2 : Nat) : Int), .int .i64 ((kk + 3 : Nat) : Int), .int .i64 ((kk + 4 : Nat) : Int), .int .i64 ((kk + 5 : Nat) : Int), .int .i64 ((kk + 6 : Nat) : Int), .int .i64 ((kk + 7 : Nat) : Int), .int .i64 ((kk + 8 : Nat) : Int)] (k * 10) wr))
      have HU := hide (And.intro hu (And.intro hST (And.intro hE hkL)))
      clear hc hd hd2 hu o2 ho hkp hST hAT hE hpl hp hLL HM f9
      go_wp2_with fail
      refine (markByteS_any (.slice au p.d.length cu) base p.d.length (kk + 9) _ _ O2.out.2 (by omega) (by omega)).mono ?_
      rintro e w3 ⟨rfl, o3, g3⟩
      have O3 := hide (O2.out.1.data (by decide) k _ _ (mk8 (kk + 9) p.d.length) HU.out.1 (List.getElem?_set_self HU.out.2.2.2) (by rw [mk8_len]; exact o3) g3)
      have K4 := hide (K3.out.dat _ (List.mem_of_getElem? HU.out.1) g3)
      clear o3 g3 O2 K3
      go_wp2
      go_roundw
      case rel =>
        refine ⟨k + 1, by omega, by go_num, ?_, ?_, K4.out⟩
        · rw [HU.out.2.2.1]
          go_num
        · rw [← HU.out.2.1]
          have := O3.out
          rw [List.set_set] at this
          exact this
      case measure => simp [intOf]; omega
    · obtain rfl : k = P.length := by omega
      have HF := hide (show OwnN wr base 56 9 (.slice a P.length cap) (mkN 9 k0 (P.map ndE)) vs from by
        have := ho
        rw [List.take_of_length_le (by simp), List.drop_of_length_le (by simp), List.append_nil] at this
        exact this)
      have HE := hide (show endN 9 k0 ((P.map ndE).take P.length) = endN 9 k0 (P.map ndE) by rw [List.take_of_length_le (by simp)])
      have HK := hide hkp
      rw [HE.out]
      clear ho hkp
      go_wp2
      go_ret
      exact ⟨rfl, HF.out, HK.out⟩
theorem endN_nd : ∀ (P : List Nd) (k : Nat), endN 9 k (P.map ndE) = k + 9 * P.length + totN P
  | [], k => by simp [endN, totN]
  | x :: P, k => by
    simp only [List.map_cons, endN, endN_nd P]
    show k + 9 + x.d.length + 9 * P.length + totN P = k + 9 * (P.length + 1) + totN (x :: P)
    have : totN (x :: P) = x.d.length + totN P := rfl
    omega
set_option maxRecDepth 100000 in
set_option maxHeartbeats 2000000 in
theorem markState_any (C : Int) (v : Value) (base k0 : Nat) (P : List Nd) (vs : List Value) (w : World) (h : OwnN w base 56 9 v (P.map ndE) vs) (hk0 : k0 ≤ 1048576) (hn : P.length ≤ 1048576) (ht : totN P ≤ 1099511627776) :
    Calls Tryz.prog 16 #[.agg #[.int .i64 C, v], .int .i64 k0] w fun e w' => ∃ K : Nat, e = .returned (.int .i64 (K : Nat)) ∧ K = k0 + 9 * P.length + totN P ∧ OwnN w' base 56 9 v (mkN 9 k0 (P.map ndE)) vs ∧ KpN w w' v vs := by
  obtain ⟨a, cap, rfl⟩ : ∃ a cap, v = .slice a P.length cap := by obtain ⟨a, cap, e⟩ := own_shape h.row; exact ⟨a, cap, by simpa using e⟩
  have HE := hide (show endN 9 k0 (P.map ndE) ≤ 140737488355328 by rw [endN_nd]; omega)
  have H := hide h
  obtain ⟨N, hN⟩ : ∃ N, N = P.length := ⟨_, rfl⟩
  have HN := hide hN
  rw [← hN] at H ⊢
  clear h hN hn ht hk0
  go_enter Tryz.func16, Tryz.ntmps16
  have B0 := hide (show ∀ o, Below w.heap.size w (w.alloc o) from fun o => (Below.refl _ _).alloc (Nat.le_refl _) o)
  go_wp2_with fail
  refine (markNodeS_any _ base k0 P vs _ (H.out.below (B0.out _)) HE.out).mono ?_
  rintro e w1 ⟨rfl, o1, k1⟩
  have O1 := hide (And.intro o1 (show KpN w w1 (.slice a N cap) vs from ⟨k1.os, k1.tape, k1.output, Nat.le_trans (by simp) k1.size, fun b hb h1 h2 => (k1.block b (by simp; omega) h1 h2).trans ((B0.out _).block b hb)⟩))
  clear o1 k1
  generalize hK : endN 9 k0 (P.map ndE) = K at HE ⊢
  have HK := hide hK
  clear hK
  go_wp2
  go_ret
  exact ⟨K, rfl, by rw [← HK.out, endN_nd, HN.out], O1.out.1, O1.out.2⟩
end Go.Proofs.YtplieplmhdfndaaGreatDoor

namespace Go.Proofs.YtplieplmhdfndaaGreatDoor
open Go.RowKit

/-- Two rows of different calls. -/
theorem apart2 {v x : Value} {l1 h1 l2 h2 : Nat} (a : ∀ k, v.ownBlock = some k → l1 ≤ k ∧ k < h1) (b : ∀ k, x.ownBlock = some k → l2 ≤ k ∧ k < h2) (h : h1 ≤ l2 ∨ h2 ≤ l1) : v.ownBlock = none ∨ v.ownBlock ≠ x.ownBlock := by
  cases hv : v.ownBlock with
  | none => exact .inl rfl
  | some k =>
    refine .inr fun e => ?_
    have p := a k hv
    have q := b k e.symm
    omega
end Go.Proofs.YtplieplmhdfndaaGreatDoor
