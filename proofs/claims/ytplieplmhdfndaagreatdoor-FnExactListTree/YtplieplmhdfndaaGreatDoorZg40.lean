/- Nodes: szNode, toNode, eqNode. The law on MayAccess: eqNode, the walk. States copied, measured and compared: szState, toState, eqState. Rows of nodes: whole elements set, zeros. toNodeS. -/
import Derived.Test.YtplieplmhdfndaaGreatDoorZg39
import Derived.Test.YtplieplmhdfndaaGreatDoorZg03
import Derived.Deep.RegionHeld
import Derived.Deep.MidRow
import Derived.Deep.RegionHeld3
import Derived.Test.YtplieplmhdfndaaGreatDoorZg16
namespace Go.Proofs.YtplieplmhdfndaaGreatDoor
set_option linter.unusedVariables false
set_option linter.unusedSimpArgs false
open Go.RowKit

theorem own_aside {w : World} {base : Nat} {e : TypeId} {v : Value} {n : Nat} {xs : List Value} (hr : w.ownsRow base e 1 v n xs) (a : Addr) (u : Value) (hb : a.block < base) : (w.setCell a u).ownsRow base e 1 v n xs :=
  hr.kept (w' := w.setCell a u) (row := some a.block) ⟨rfl, rfl, rfl, by simp, fun k hk hne => Below.heap_setCell w a u k (fun e => hne (by rw [e]))⟩ (by
    cases hv : v.ownBlock with
    | none => exact .inl rfl
    | some k => exact .inr (fun e => by have := (hr.lt k hv).1; injection e with e; omega))

theorem szByteS_any (v : Value) (zs : List Int) (l : Int) (w : World) (h : Rd .u8 w v zs) (h0 : 0 ≤ l) (h1 : l ≤ 1048576) :
    Calls Tryz.prog 91 #[v, .int .i64 l] w fun e w' => e = .returned (.int .i64 (if l < (zs.length : Int) then -1 else l - zs.length)) ∧ w' = w := by
  have hm := h.len
  unfold maxLen at hm
  obtain ⟨a, cap, rfl, _⟩ := h
  by_cases hb : l < (zs.length : Int)
  · rw [if_pos hb]
    go_enter Tryz.func91, Tryz.ntmps91
    go_wp2
    go_ret
    exact ⟨rfl, rfl⟩
  · rw [if_neg hb]
    go_enter Tryz.func91, Tryz.ntmps91
    go_wp2
    go_ret
    exact ⟨rfl, rfl⟩

theorem szNode_any (k l m u g p e t c : Int) (v : Value) (zs : List Int) (left : Int) (w : World) (h : Rd .u8 w v zs) (h0 : 0 ≤ left) (h1 : left ≤ 1048576) :
    Calls Tryz.prog 53 #[nodeV k l m u g p e t c v, .int .i64 left] w fun e w' => e = .returned (.int .i64 (if left < (zs.length : Int) then -1 else left - zs.length)) ∧ Below w.heap.size w w' := by
  have HR := hide h
  have hsh : ∃ a cap, v = .slice a zs.length cap := by obtain ⟨a, cap, h1, _⟩ := h; exact ⟨a, cap, h1⟩
  obtain ⟨a, cap, rfl⟩ := hsh
  have HB := hide (show ∀ o, Below w.heap.size w (w.alloc o) from fun o => (Below.refl _ _).alloc (Nat.le_refl _) o)
  clear h
  by_cases hb : left < (zs.length : Int)
  · rw [if_pos hb]
    go_enter Tryz.func53, Tryz.ntmps53
    go_wp2_with (go_at_call 91; refine (szByteS_any _ zs left _ (HR.out.below (HB.out _)) h0 h1).mono ?_; rintro e w1 ⟨rfl, rfl⟩; rw [if_pos hb])
    go_ret
    exact ⟨rfl, HB.out _⟩
  · rw [if_neg hb]
    go_enter Tryz.func53, Tryz.ntmps53
    go_wp2_with (go_at_call 91; refine (szByteS_any _ zs left _ (HR.out.below (HB.out _)) h0 h1).mono ?_; rintro e w1 ⟨rfl, rfl⟩; rw [if_neg hb])
    go_ret
    exact ⟨rfl, HB.out _⟩

theorem toNode_any (k l m u g p e t c : Int) (v : Value) (zs : List Int) (w : World) (h : Rd .u8 w v zs) (hn : zs.length ≤ 1048576) :
    Calls Tryz.prog 60 #[nodeV k l m u g p e t c v] w fun x w' => ∃ v', x = .returned (nodeV k l m u g p e t c v') ∧ w'.ownsRow w.heap.size 5 1 v' zs.length (zs.map (Value.int .u8)) ∧ Below w.heap.size w w' := by
  have HR := hide h
  have hsh : ∃ a cap, v = .slice a zs.length cap := by obtain ⟨a, cap, h1, _⟩ := h; exact ⟨a, cap, h1⟩
  obtain ⟨a, cap, rfl⟩ := hsh
  clear h
  go_enter Tryz.func60, Tryz.ntmps60
  go_wp2_with fail
  refine (toByteS_any _ zs _ (HR.out.below ?_) (by omega)).mono ?_
  · exact (((Below.refl _ _).alloc (Nat.le_refl _) _).alloc (by simp) _).alloc (by simp; omega) _
  rintro x w1 ⟨v1, rfl, o1, b1⟩
  have hz2 : ∃ a1 cap1, v1 = .slice a1 zs.length cap1 := by obtain ⟨a1, cap1, h1, _⟩ := Rd.own o1; exact ⟨a1, cap1, h1⟩
  obtain ⟨a1, cap1, rfl⟩ := hz2
  have hz1 := (Blk.new _ _ _).below b1 (by simp)
  simp only [World.size_alloc] at hz1
  have hz0 := ((Blk.new _ _ _).alloc _).below b1 (by simp)
  simp only [World.size_alloc] at hz0
  have hB : Below w.heap.size w w1 := ((((Below.refl _ _).alloc (Nat.le_refl _) _).alloc (by simp) _).alloc (by simp; omega) _).trans (b1.mono (by simp; omega))
  have f0 := hz0.frozen 0
  have d0 := (hz0.cell 0).trans (show _ = some (.int .i64 0) from rfl)
  have f1 := hz0.frozen 1
  have d1 := (hz0.cell 1).trans (show _ = some (.int .i64 0) from rfl)
  have f2 := hz0.frozen 2
  have d2 := (hz0.cell 2).trans (show _ = some (.int .i64 0) from rfl)
  have f3 := hz0.frozen 3
  have d3 := (hz0.cell 3).trans (show _ = some (.int .i64 0) from rfl)
  have f4 := hz0.frozen 4
  have d4 := (hz0.cell 4).trans (show _ = some (.int .i64 0) from rfl)
  have f5 := hz0.frozen 5
  have d5 := (hz0.cell 5).trans (show _ = some (.int .i64 0) from rfl)
  have f6 := hz0.frozen 6
  have d6 := (hz0.cell 6).trans (show _ = some (.int .i64 0) from rfl)
  have f7 := hz0.frozen 7
  have d7 := (hz0.cell 7).trans (show _ = some (.int .i64 0) from rfl)
  have f8 := hz0.frozen 8
  have d8 := (hz0.cell 8).trans (show _ = some (.int .i64 0) from rfl)
  have f9 := hz0.frozen 9
  have d9 := (hz0.cell 9).trans (show _ = some (.slice none 0 0) from rfl)
  have g9 := hz1.frozen 9
  have c0 := (hz1.cell 0).trans (show _ = some (.int .i64 k) from rfl)
  have c1 := (hz1.cell 1).trans (show _ = some (.int .i64 l) from rfl)
  have c2 := (hz1.cell 2).trans (show _ = some (.int .i64 m) from rfl)
  have c3 := (hz1.cell 3).trans (show _ = some (.int .i64 u) from rfl)
  have c4 := (hz1.cell 4).trans (show _ = some (.int .i64 g) from rfl)
  have c5 := (hz1.cell 5).trans (show _ = some (.int .i64 p) from rfl)
  have c6 := (hz1.cell 6).trans (show _ = some (.int .i64 e) from rfl)
  have c7 := (hz1.cell 7).trans (show _ = some (.int .i64 t) from rfl)
  have c8 := (hz1.cell 8).trans (show _ = some (.int .i64 c) from rfl)
  have c9 := (hz1.cell 9).trans (show _ = some (.slice none 0 0) from rfl)
  have ho : w1.ownsRow (w.heap.size + 3) 5 1 (.slice a1 zs.length cap1) zs.length (zs.map (Value.int .u8)) := own_mono o1 (by simp)
  have K := hide (And.intro hB ho)
  have KZ := hide hz0
  clear hz1 hz0 hB ho o1 b1
  go_wp2
  have q0 := KZ.out.other ⟨w.heap.size + 1 + 1, 9, none⟩ (.slice a1 zs.length cap1) (by simp)
  have q1 : Blk _ _ #[.int .i64 k, .int .i64 0, .int .i64 0, .int .i64 0, .int .i64 0, .int .i64 0, .int .i64 0, .int .i64 0, .int .i64 0, .slice none 0 0] 56 := q0.set 0 (.int .i64 k)
  have q2 : Blk _ _ #[.int .i64 k, .int .i64 l, .int .i64 0, .int .i64 0, .int .i64 0, .int .i64 0, .int .i64 0, .int .i64 0, .int .i64 0, .slice none 0 0] 56 := q1.set 1 (.int .i64 l)
  have q3 : Blk _ _ #[.int .i64 k, .int .i64 l, .int .i64 m, .int .i64 0, .int .i64 0, .int .i64 0, .int .i64 0, .int .i64 0, .int .i64 0, .slice none 0 0] 56 := q2.set 2 (.int .i64 m)
  have q4 : Blk _ _ #[.int .i64 k, .int .i64 l, .int .i64 m, .int .i64 u, .int .i64 0, .int .i64 0, .int .i64 0, .int .i64 0, .int .i64 0, .slice none 0 0] 56 := q3.set 3 (.int .i64 u)
  have q5 : Blk _ _ #[.int .i64 k, .int .i64 l, .int .i64 m, .int .i64 u, .int .i64 g, .int .i64 0, .int .i64 0, .int .i64 0, .int .i64 0, .slice none 0 0] 56 := q4.set 4 (.int .i64 g)
  have q6 : Blk _ _ #[.int .i64 k, .int .i64 l, .int .i64 m, .int .i64 u, .int .i64 g, .int .i64 p, .int .i64 0, .int .i64 0, .int .i64 0, .slice none 0 0] 56 := q5.set 5 (.int .i64 p)
  have q7 : Blk _ _ #[.int .i64 k, .int .i64 l, .int .i64 m, .int .i64 u, .int .i64 g, .int .i64 p, .int .i64 e, .int .i64 0, .int .i64 0, .slice none 0 0] 56 := q6.set 6 (.int .i64 e)
  have q8 : Blk _ _ #[.int .i64 k, .int .i64 l, .int .i64 m, .int .i64 u, .int .i64 g, .int .i64 p, .int .i64 e, .int .i64 t, .int .i64 0, .slice none 0 0] 56 := q7.set 7 (.int .i64 t)
  have q9 : Blk _ _ #[.int .i64 k, .int .i64 l, .int .i64 m, .int .i64 u, .int .i64 g, .int .i64 p, .int .i64 e, .int .i64 t, .int .i64 c, .slice none 0 0] 56 := q8.set 8 (.int .i64 c)
  have q10 : Blk _ _ #[.int .i64 k, .int .i64 l, .int .i64 m, .int .i64 u, .int .i64 g, .int .i64 p, .int .i64 e, .int .i64 t, .int .i64 c, .slice a1 zs.length cap1] 56 := q9.set 9 (.slice a1 zs.length cap1)
  have KQ := hide q10
  clear q0 q1 q2 q3 q4 q5 q6 q7 q8 q9 q10 KZ
  refine bodyPost_ret (v := nodeV k l m u g p e t c (.slice a1 zs.length cap1)) ?_ rfl ⟨_, rfl, own_mono ?_ (by omega : w.heap.size ≤ w.heap.size + 3), ?_⟩
  · exact results_cell_row rfl _ _ (w.heap.size + 1) 56 #[.int .i64 k, .int .i64 l, .int .i64 m, .int .i64 u, .int .i64 g, .int .i64 p, .int .i64 e, .int .i64 t, .int .i64 c, .slice a1 zs.length cap1] (0, 0) _ rfl KQ.out Tryz.underlying56 rfl (by kernel_rfl)
  · repeat (refine own_aside ?_ _ _ (by simp <;> omega))
    exact K.out.2
  · repeat (refine Below.setCell ?_ (by simp <;> omega) _)
    exact K.out.1
end Go.Proofs.YtplieplmhdfndaaGreatDoor

namespace Go.Proofs.YtplieplmhdfndaaGreatDoor
set_option linter.unusedVariables false
set_option linter.unusedSimpArgs false
open Go.RowKit

theorem eqNode_same (k l m u g p e t c : Int) (v1 v2 : Value) (zs : List Int) (w : World) (h1 : Rd .u8 w v1 zs) (h2 : Rd .u8 w v2 zs) :
    Calls Tryz.prog 67 #[nodeV k l m u g p e t c v1, nodeV k l m u g p e t c v2] w fun x w' => x = .returned (.bool true) ∧ Below w.heap.size w w' := by
  have H := hide (And.intro h1 h2)
  have hsh : ∃ a cap, v1 = .slice a zs.length cap := by obtain ⟨a, cap, h1, _⟩ := h1; exact ⟨a, cap, h1⟩
  obtain ⟨a, cap, rfl⟩ := hsh
  have hsh : ∃ a cap, v2 = .slice a zs.length cap := by obtain ⟨a, cap, h1, _⟩ := h2; exact ⟨a, cap, h1⟩
  obtain ⟨a2, cap2, rfl⟩ := hsh
  have HB := hide (show ∀ o o2, Below w.heap.size w ((w.alloc o).alloc o2) from fun o o2 => ((Below.refl _ _).alloc (Nat.le_refl _) o).alloc (by simp) o2)
  clear h1 h2
  go_enter Tryz.func67, Tryz.ntmps67
  go_wp2_with (go_at_call 106; refine (eqByteS_same _ _ zs _ (H.out.1.below (HB.out _ _)) (H.out.2.below (HB.out _ _))).mono ?_; rintro e w1 ⟨rfl, b1⟩; have HB2 := hide ((HB.out _ _).trans (b1.mono (HB.out _ _).size)); clear b1)
  go_ret
  exact ⟨rfl, HB2.out⟩

theorem infoN10 : (Tryz.prog.info? 56).map (·.size) = some 10 := by kernel_rfl
theorem infoLN10 : (Tryz.prog.info? 118).map (·.size) = some 10 := by kernel_rfl
end Go.Proofs.YtplieplmhdfndaaGreatDoor

namespace Go.Proofs.YtplieplmhdfndaaGreatDoor
set_option linter.unusedVariables false
set_option linter.unusedSimpArgs false
open Go.RowKit

theorem ndE_pre (L : List Nd) : ∀ l ∈ L.map ndE, l.1.length = 9 := by
  intro l hl
  obtain ⟨x, _, rfl⟩ := List.mem_map.1 hl
  rfl
theorem infoNz : (Tryz.prog.info? 56).map (fun i => (i.zero, i.size, i.bytes)) = some (some (.agg #[.int .i64 0, .int .i64 0, .int .i64 0, .int .i64 0, .int .i64 0, .int .i64 0, .int .i64 0, .int .i64 0, .int .i64 0, .slice none 0 0]), 10, 96) := by kernel_rfl
theorem oneNd (x : Nd) (a : Option Addr) (n c : Nat) : (#[.int .i64 x.k, .int .i64 x.l, .int .i64 x.m, .int .i64 x.u, .int .i64 x.g, .int .i64 x.p, .int .i64 x.e, .int .i64 x.t, .int .i64 x.c, Value.slice a n c] : Array Value).all (·.oneCell') = true := by kernel_rfl
set_option maxRecDepth 100000 in
set_option maxHeartbeats 1000000 in
theorem szNodeS_any (v : Value) (L : List Nd) (us : List Value) (w : World) (h : RdN w 9 v (L.map ndE) us) :
    Calls Tryz.prog 32 #[v, .int .i64 1048576] w fun e w' => ∃ r : Int, e = .returned (.int .i64 r) ∧ (0 ≤ r → r ≤ 1048576 ∧ L.length ≤ 1048576 ∧ totN L ≤ 1048576) ∧ Below w.heap.size w w' := by
  obtain ⟨a, cap, rfl⟩ : ∃ a cap, v = .slice a L.length cap := by obtain ⟨a, cap, e, _⟩ := h.row; exact ⟨a, cap, by simpa using e⟩
  have hm : L.length ≤ 9223372036854775807 := by obtain ⟨a, cap, _, _, g1, g2⟩ := h.row; unfold maxLen at g2; simp at g1; omega
  have HQ := hide h
  obtain ⟨N, hN⟩ : ∃ N, N = L.length := ⟨_, rfl⟩
  have HN := hide hN
  rw [← hN] at hm HQ ⊢
  clear h hN
  by_cases hbig : (1048576 : Int) < (N : Int)
  · go_enter Tryz.func32, Tryz.ntmps32
    go_wp2
    go_ret
    exact ⟨-1, rfl, fun h => by omega, Below.refl _ _⟩
  · have hq : N ≤ 1048576 := by omega
    go_enter Tryz.func32, Tryz.ntmps32
    go_wp2
    go_loopw [1, 5] (fun x i wr => ∃ (k : Nat) (l : Int), k ≤ N ∧ i = .int .i64 (k : Int) ∧ x = .int .i64 l ∧ 0 ≤ l ∧ l ≤ 1048576 ∧ Hid ((totN (L.take k) : Int) + l ≤ 1048576) ∧ Hid (Below w.heap.size w wr)) (fun _ i _ => N - (intOf i).toNat)
    case atStart => exact ⟨0, _, Nat.zero_le _, rfl, rfl, by omega, by omega, by show (totN (L.take 0) : Int) + _ ≤ _; simp [totN]; omega, Below.refl _ _⟩
    case round =>
      obtain ⟨k, l, hk, rfl, rfl, hl0, hl1, HP, HB⟩ := hrel
      by_cases hlt : k < N
      · obtain ⟨b, off, cap', na, nc, e0, hb0, hrd, hu, hrg⟩ := node_at (HQ.out.below HB.out) (i := k) (by rw [← HN.out]; exact hlt)
        injection e0 with e1 e2 e3
        subst e1 e3
        obtain ⟨x, hx⟩ : ∃ x, x = ndAt L k := ⟨_, rfl⟩
        have HTS := hide (totN_succ L k (by rw [← HN.out]; exact hlt))
        rw [← hx] at hrd hrg HTS
        obtain ⟨q, hq'⟩ : ∃ q, q = x.d.length := ⟨_, rfl⟩
        have HRd := hide hrd
        rw [← hq'] at hrd hrg HTS
        have HRg := hide (show wr.rangeAt b (off + k * 10) [.int .i64 x.k, .int .i64 x.l, .int .i64 x.m, .int .i64 x.u, .int .i64 x.g, .int .i64 x.p, .int .i64 x.e, .int .i64 x.t, .int .i64 x.c, .slice na q nc] from hrg)
        have HSZ := hide (show Calls Tryz.prog 53 #[.agg #[.int .i64 x.k, .int .i64 x.l, .int .i64 x.m, .int .i64 x.u, .int .i64 x.g, .int .i64 x.p, .int .i64 x.e, .int .i64 x.t, .int .i64 x.c, .slice na q nc], .int .i64 l] wr _ from by rw [hq']; exact szNode_any x.k x.l x.m x.u x.g x.p x.e x.t x.c (.slice na x.d.length nc) x.d l wr HRd.out hl0 hl1)
        rw [← hq'] at HSZ
        clear hrg hrd hu e2 hb0 hx hq'
        go_wp2_with (first | (refine wpList_load_mid rfl 118 _ rfl b (off + k * 10) rfl [.int .i64 x.k, .int .i64 x.l, .int .i64 x.m, .int .i64 x.u, .int .i64 x.g, .int .i64 x.p, .int .i64 x.e, .int .i64 x.t, .int .i64 x.c, .slice na q nc] _ HRg.out Tryz.underlying118 rfl infoLN10 ?_) | (go_at_call 53; fail))
        refine HSZ.out.mono ?_
        rintro e w2 ⟨rfl, b2⟩
        have B2 := hide (HB.out.trans (b2.mono HB.out.size))
        clear b2 HSZ
        by_cases hzs : l < (q : Int)
        · rw [if_pos hzs]
          go_wp2
          go_ret
          first
          | exact ⟨-1, rfl, fun h => by omega, B2.out⟩
          | exact ⟨_, rfl, fun h => by omega, B2.out⟩
        · rw [if_neg hzs]
          have hq2 : decide (l - (q : Int) < 0) = false := by simp; omega
          have HP2 := hide (show (totN (L.take (k + 1)) : Int) + (l - (q : Int)) ≤ 1048576 from by rw [HTS.out]; have := HP.out; omega)
          clear HTS
          go_wp2
          go_roundw
          case rel => exact ⟨k + 1, _, by omega, by go_num, rfl, by omega, by omega, HP2, B2⟩
          case measure => simp [intOf]; omega
      · have hkN : k = N := by omega
        have HTE := hide (show totN (L.take k) = totN L from by rw [hkN, HN.out, List.take_length])
        clear hkN
        go_wp2
        go_ret
        exact ⟨_, rfl, fun h => ⟨by omega, by first | omega | (rw [← HN.out]; omega), by have := HP.out; rw [HTE.out] at this; omega⟩, HB.out⟩
end Go.Proofs.YtplieplmhdfndaaGreatDoor

namespace Go.Proofs.YtplieplmhdfndaaGreatDoor
set_option linter.unusedVariables false
set_option linter.unusedSimpArgs false
open Go.RowKit

theorem set_grownN (w : World) (g o : Nat) (x : Value) : w.grownBy (w.setCell ⟨g, o, none⟩ x) (some g) :=
  ⟨rfl, rfl, rfl, by simp, fun q hq hne => Below.heap_setCell w ⟨g, o, none⟩ _ q (fun e => hne (by rw [e]))⟩
theorem there_rowN {w : World} {base : Nat} {e : TypeId} {g n cap sz : Nat} {xs : List Value} (h : w.ownsRow base e sz (.slice (some ⟨g, 0, none⟩) n cap) n xs) {o m : Nat} (hk : o + m ≤ n * sz) : w.there g o m := by
  rcases h.2 with ⟨e, _⟩ | ⟨g', cap', cur, e, hb, hc, hn, hm, hs, ht⟩
  · cases e
  · injection e with e1 e2 e3
    injection e1 with e1
    injection e1 with e1 e4
    subst e1
    intro j hj
    have hlt : o + j < cur.size := by
      have : n * sz ≤ cap' * sz := Nat.mul_le_mul_right _ hn
      rw [hs]; omega
    have hB : Blk w g cur _ := hc
    refine ⟨?_, hB.frozen _⟩
    rw [hB.cell (o + j), Array.getElem?_eq_getElem hlt]
    rfl
theorem made_nd (n : Nat) : (madeCells (Value.agg #[.int .i64 0, .int .i64 0, .int .i64 0, .int .i64 0, .int .i64 0, .int .i64 0, .int .i64 0, .int .i64 0, .int .i64 0, .slice none 0 0]).cells (n * 10)).toList = cellsN (List.replicate n (.slice none 0 0)) ((List.replicate n nd0).map ndE) := by
  apply List.ext_getElem?
  intro j
  by_cases hj : j < n * 10
  · have h1 := cellsN_get 9 (List.replicate n (.slice none 0 0)) ((List.replicate n nd0).map ndE) (by simp) (ndE_pre _) (j / 10) (j % 10) (.slice none 0 0) (ndE nd0) (by rw [List.getElem?_replicate, if_pos (by omega)]) (by rw [List.getElem?_map, List.getElem?_replicate, if_pos (by omega)]; rfl) (by omega)
    rw [show j / 10 * (9 + 1) + j % 10 = j by omega] at h1
    rw [h1]
    rcases (by omega : j % 10 = 0 ∨ j % 10 = 1 ∨ j % 10 = 2 ∨ j % 10 = 3 ∨ j % 10 = 4 ∨ j % 10 = 5 ∨ j % 10 = 6 ∨ j % 10 = 7 ∨ j % 10 = 8 ∨ j % 10 = 9) with h | h | h | h | h | h | h | h | h | h <;> (rw [h]; simp [madeCells, hj, h, Value.cells, ndE, ndF, nd0])
  · rw [List.getElem?_eq_none (l := cellsN _ _) (by rw [cellsN_len 9 _ _ (by simp) (ndE_pre _)]; simp; omega)]
    simp [madeCells, hj]
theorem fill_nd (P : List Nd) (k : Nat) (p : Nd) (hp : P[k]? = some p) : (P.take k ++ List.replicate (P.length - k) nd0).set k p = P.take (k + 1) ++ List.replicate (P.length - (k + 1)) nd0 := by
  have hk : k < P.length := (List.getElem?_eq_some_iff.1 hp).1
  have e : P.take (k + 1) = P.take k ++ [p] := by rw [List.take_add_one, hp]; rfl
  rw [e, show P.length - k = (P.length - (k + 1)) + 1 by omega, List.replicate_succ, List.set_append_right _ _ (by simp; omega)]
  have : k - (P.take k).length = 0 := by simp; omega
  rw [this]
  simp
theorem OwnN.zerosN {w : World} {base n : Nat} {v : Value} (h : w.ownsRow base 56 10 v n (cellsN (List.replicate n (.slice none 0 0)) ((List.replicate n nd0).map ndE))) : OwnN w base 56 9 v ((List.replicate n nd0).map ndE) (List.replicate n (.slice none 0 0)) := by
  refine ⟨by simp, ndE_pre _, by simpa using h, fun i u l hu hl => ?_, fun i j u u' b hu _ hb _ => ?_⟩
  · rw [List.getElem?_replicate] at hu
    split at hu
    · cases hu
      rw [List.getElem?_map, List.getElem?_replicate] at hl
      split at hl
      · cases hl
        exact ⟨rfl, .inl ⟨rfl, rfl⟩⟩
      · contradiction
    · cases hu
  · rw [List.getElem?_replicate] at hu
    split at hu
    · cases hu
      cases hb
    · cases hu
theorem cells_grown (b : Nat) : ∀ (xs : List Value) (o : Nat) (w : World), w.grownBy (w.setCells b o xs) (some b)
  | [], _, w => World.grownBy.refl _ _
  | x :: xs, o, w => grownBy_trans (set_grownN w b o x) (cells_grown b xs (o + 1) _)
theorem cells_snoc (b : Nat) (y : Value) : ∀ (xs : List Value) (o : Nat) (w : World), w.setCells b o (xs ++ [y]) = (w.setCells b o xs).setCell ⟨b, o + xs.length, none⟩ y
  | [], _, _ => rfl
  | x :: xs, o, w => by
    show ((w.setCell ⟨b, o, none⟩ x).setCells b (o + 1) (xs ++ [y])) = _
    rw [cells_snoc b y xs (o + 1) _, show o + 1 + xs.length = o + (x :: xs).length by simp only [List.length_cons]; omega]
    rfl
/-- Fields set one after another, from the j-th on. -/
def putF (l : List Value) : Nat → List Value → List Value
  | _, [] => l
  | j, x :: xs => putF (l.set j x) (j + 1) xs
theorem putF_get (i : Nat) : ∀ (xs : List Value) (j : Nat) (l : List Value), j + xs.length ≤ l.length → (putF l j xs)[i]? = if j ≤ i ∧ i < j + xs.length then xs[i - j]? else l[i]?
  | [], j, l, h => by rw [if_neg (fun h => by have := h.2; simp at this; omega)]; rfl
  | x :: xs, j, l, h => by
    show (putF (l.set j x) (j + 1) xs)[i]? = _
    rw [putF_get i xs (j + 1) (l.set j x) (by simp at h ⊢; omega)]
    simp at h
    by_cases h1 : i = j
    · subst h1
      rw [if_neg (by omega), if_pos (by simp), List.getElem?_set_self (by omega)]
      simp
    · rw [List.getElem?_set_ne (by omega)]
      by_cases h2 : j + 1 ≤ i ∧ i < j + 1 + xs.length
      · rw [if_pos h2, if_pos (by simp; omega), show i - j = (i - (j + 1)) + 1 by omega, List.getElem?_cons_succ]
      · rw [if_neg h2, if_neg (by simp; omega)]
theorem putF_all (xs l : List Value) (h : xs.length = l.length) : putF l 0 xs = xs := by
  apply List.ext_getElem?
  intro i
  rw [putF_get i xs 0 l (by omega)]
  by_cases hi : i < xs.length
  · rw [if_pos (by omega), Nat.sub_zero]
  · rw [if_neg (by omega), List.getElem?_eq_none (by omega), List.getElem?_eq_none (by omega)]
theorem OwnN.fields {base g : Nat} {e : TypeId} {m : Nat} {v : Value} {vs : List Value} (he : e ≠ 5) (hv : v.ownBlock = some g) (i : Nat) : ∀ (xs : List Value) (j : Nat) (W : World) (L : List NE) (l : NE), OwnN W base e m v L vs → L[i]? = some l → j + xs.length ≤ m → OwnN (W.setCells g (i * (m + 1) + j) xs) base e m v (L.set i (putF l.1 j xs, l.2)) vs
  | [], j, W, L, l, h, hl, hj => by
    have : L.set i (putF l.1 j [], l.2) = L := by
      show L.set i l = L
      obtain ⟨hi, rfl⟩ := List.getElem?_eq_some_iff.1 hl
      simp
    rw [this]
    exact h
  | x :: xs, j, W, L, l, h, hl, hj => by
    have hi : i < L.length := (List.getElem?_eq_some_iff.1 hl).1
    have z := OwnN.fields he hv i xs (j + 1) _ _ (l.1.set j x, l.2) (h.field he i j l x hl (by simp at hj; omega) hv) (by rw [List.getElem?_set_self hi]) (by simp at hj; omega)
    rw [List.set_set] at z
    exact z
theorem OwnN.put {W : World} {base g : Nat} {e : TypeId} {m : Nat} {v : Value} {L : List NE} {vs : List Value} (h : OwnN W base e m v L vs) (he : e ≠ 5) (i : Nat) (hi : i < L.length) (xs : List Value) (hx : xs.length = m) (u : Value) (zs : List Int) (hv : v.ownBlock = some g) (hu : W.ownsRow base 5 1 u zs.length (zs.map (Value.int .u8)))
    (hnew : ∀ (j : Nat) (u' : Value) (b : Nat), vs[j]? = some u' → u'.ownBlock = some b → u.ownBlock ≠ some b) : OwnN (W.setCells g (i * (m + 1)) (xs ++ [u])) base e m v (L.set i (xs, zs)) (vs.set i u) := by
  have hl : L[i]? = some L[i] := List.getElem?_eq_getElem hi
  have hlen : L[i].1.length = m := h.pre _ (List.getElem_mem hi)
  have z := OwnN.fields he hv i xs 0 W L L[i] h hl (by omega)
  rw [putF_all xs _ (by rw [hx, hlen])] at z
  have y := z.last he i (xs, L[i].2) u zs (by rw [List.getElem?_set_self hi]) hv (hu.kept (cells_grown g xs _ W) (by rw [← hv]; exact own_apart hu h.row (Ne.symm he))) hnew
  rw [List.set_set] at y
  rw [cells_snoc, hx]
  exact y
end Go.Proofs.YtplieplmhdfndaaGreatDoor

namespace Go.Proofs.YtplieplmhdfndaaGreatDoor
set_option linter.unusedVariables false
set_option linter.unusedSimpArgs false
open Go.RowKit

set_option maxRecDepth 100000 in
set_option maxHeartbeats 4000000 in
theorem toNodeS_any (v : Value) (L : List Nd) (us : List Value) (w : World) (h : RdN w 9 v (L.map ndE) us) (hn : L.length ≤ 1048576) (hb : ∀ i, i < L.length → (ndAt L i).d.length ≤ 1048576) :
    Calls Tryz.prog 34 #[v] w fun e w' => ∃ v' vs, e = .returned v' ∧ OwnN w' w.heap.size 56 9 v' (L.map ndE) vs ∧ Below w.heap.size w w' := by
  obtain ⟨i0, hi, hz0, hz1, hz2⟩ := info_parts infoNz
  obtain ⟨a, cap, rfl⟩ : ∃ a cap, v = .slice a L.length cap := by obtain ⟨a, cap, e, _⟩ := h.row; exact ⟨a, cap, by simpa using e⟩
  have HR := hide h
  have HB := hide hb
  obtain ⟨N, hN⟩ : ∃ N, N = L.length := ⟨_, rfl⟩
  have HN := hide hN
  rw [← hN] at hn HR ⊢
  have hm : N ≤ maxLen := by unfold maxLen; omega
  clear h hb hN
  go_enter Tryz.func34, Tryz.ntmps34
  go_wp2_with (first | (refine wpList_make_full _ rfl (.tmp 6) (.tmp 6) 27 rfl w.heap.size 56 i0 (.agg #[.int .i64 0, .int .i64 0, .int .i64 0, .int .i64 0, .int .i64 0, .int .i64 0, .int .i64 0, .int .i64 0, .int .i64 0, .slice none 0 0]) 10 Tryz.underlying27 hi hz0 hz1 .i64 .i64 N N N rfl rfl rfl rfl (by rw [hz2]; omega) hm (Nat.le_refl _) ?_; intro w1 hown hgrow; rw [made_nd] at hown) | fail)
  have H1 := hide (show OwnN w1 w.heap.size 56 9 (.slice (some ⟨w.heap.size, 0, none⟩) N N) ((List.replicate N nd0).map ndE) (List.replicate N (.slice none 0 0)) ∧ Below w.heap.size w w1 from
    ⟨OwnN.zerosN hown, (Below.refl _ _).grown hgrow (Nat.le_refl _) (fun k h => by cases h)⟩)
  clear hgrow hown
  go_loopw [4] (fun i wr => ∃ (k : Nat) (vs : List Value), k ≤ N ∧ i = .int .i64 k ∧ Hid (OwnN wr w.heap.size 56 9 (.slice (some ⟨w.heap.size, 0, none⟩) N N) ((L.take k ++ List.replicate (L.length - k) nd0).map ndE) vs ∧ Below w.heap.size w wr)) (fun i _ => N - (intOf i).toNat)
  case atStart => exact ⟨0, _, Nat.zero_le _, rfl, hide ⟨by rw [List.take_zero, List.nil_append, Nat.sub_zero, ← HN.out]; exact H1.out.1, H1.out.2⟩⟩
  case round =>
    clear H1
    obtain ⟨k, vs, hk, rfl, HO⟩ := hrel
    by_cases hlt : k < N
    · have hkl : k < L.length := by rw [← HN.out]; exact hlt
      obtain ⟨b0, off, cap', na, nc, e0, hb0, hrd, hu, hrg⟩ := node_at (HR.out.below HO.out.2) (i := k) hkl
      injection e0 with e1 e2 e3
      subst e1 e3
      have hLk : L[k]? = some (ndAt L k) := by unfold ndAt; simp [List.getD, hkl]
      have hzs := HB.out k hkl
      obtain ⟨x, hx⟩ : ∃ x, x = ndAt L k := ⟨_, rfl⟩
      rw [← hx] at hrd hrg hzs hLk
      have HP := hide hLk
      obtain ⟨q, hq⟩ : ∃ q, q = x.d.length := ⟨_, rfl⟩
      have HQ := hide hq
      have HTO := hide (toNode_any x.k x.l x.m x.u x.g x.p x.e x.t x.c (.slice na x.d.length nc) x.d wr hrd (by omega))
      rw [← hq] at hrg hzs
      have HRg := hide (show wr.rangeAt b0 (off + k * 10) [.int .i64 x.k, .int .i64 x.l, .int .i64 x.m, .int .i64 x.u, .int .i64 x.g, .int .i64 x.p, .int .i64 x.e, .int .i64 x.t, .int .i64 x.c, .slice na q nc] from hrg)
      have HTO2 := hide (show Calls Tryz.prog 60 #[.agg #[.int .i64 x.k, .int .i64 x.l, .int .i64 x.m, .int .i64 x.u, .int .i64 x.g, .int .i64 x.p, .int .i64 x.e, .int .i64 x.t, .int .i64 x.c, .slice na q nc]] wr _ from by rw [hq]; exact HTO.out)
      clear hrg hrd hu e2 hb0 hx hq hLk HTO
      go_wp2_with (first | (refine wpList_load_mid rfl 118 _ rfl b0 (off + k * 10) rfl [.int .i64 x.k, .int .i64 x.l, .int .i64 x.m, .int .i64 x.u, .int .i64 x.g, .int .i64 x.p, .int .i64 x.e, .int .i64 x.t, .int .i64 x.c, .slice na q nc] _ HRg.out Tryz.underlying118 rfl infoLN10 ?_) | (go_at_call 60; fail))
      refine HTO2.out.mono ?_
      rintro e w2 ⟨u', rfl, o2, b2⟩
      obtain ⟨a2, c2, rfl⟩ : ∃ a cap, u' = .slice a x.d.length cap := by
        rcases o2.2 with ⟨rfl, h0⟩ | ⟨g, cap, _, rfl, _⟩
        · exact ⟨none, 0, by rw [h0]⟩
        · exact ⟨_, _, rfl⟩
      have O2 := hide (HO.out.1.below b2)
      have B2 := hide (HO.out.2.trans (b2.mono HO.out.2.size))
      have hfr : ∀ (j : Nat) (y : Value) (r : Nat), vs[j]? = some y → y.ownBlock = some r → (Value.slice a2 x.d.length c2).ownBlock ≠ some r := fun j y r hy hr e => by
        have h1 := (o2.lt r e).1
        have hjl : j < vs.length := (List.getElem?_eq_some_iff.1 hy).1
        rw [HO.out.1.len] at hjl
        have h2 := ((HO.out.1.dat j y _ hy (List.getElem?_eq_getElem hjl)).lt r hr).2
        omega
      have hQl : k < ((L.take k ++ List.replicate (L.length - k) nd0).map ndE).length := by simp; omega
      have z9 := O2.out.put (by decide) k hQl [.int .i64 x.k, .int .i64 x.l, .int .i64 x.m, .int .i64 x.u, .int .i64 x.g, .int .i64 x.p, .int .i64 x.e, .int .i64 x.t, .int .i64 x.c] rfl (.slice a2 x.d.length c2) x.d (g := w.heap.size) rfl (own_mono o2 HO.out.2.size) hfr
      have h5 : ((L.take k ++ List.replicate (L.length - k) nd0).map ndE).set k ([.int .i64 x.k, .int .i64 x.l, .int .i64 x.m, .int .i64 x.u, .int .i64 x.g, .int .i64 x.p, .int .i64 x.e, .int .i64 x.t, .int .i64 x.c], x.d) = (L.take (k + 1) ++ List.replicate (L.length - (k + 1)) nd0).map ndE := by
        rw [← fill_nd L k x HP.out, List.map_set]
        rfl
      rw [h5] at z9
      have H4 := hide (show OwnN (w2.setCells w.heap.size (k * 10) [.int .i64 x.k, .int .i64 x.l, .int .i64 x.m, .int .i64 x.u, .int .i64 x.g, .int .i64 x.p, .int .i64 x.e, .int .i64 x.t, .int .i64 x.c, .slice a2 x.d.length c2]) w.heap.size 56 9 (.slice (some ⟨w.heap.size, 0, none⟩) N N) ((L.take (k + 1) ++ List.replicate (L.length - (k + 1)) nd0).map ndE) (vs.set k (.slice a2 x.d.length c2)) ∧ Below w.heap.size w (w2.setCells w.heap.size (k * 10) [.int .i64 x.k, .int .i64 x.l, .int .i64 x.m, .int .i64 x.u, .int .i64 x.g, .int .i64 x.p, .int .i64 x.e, .int .i64 x.t, .int .i64 x.c, .slice a2 x.d.length c2]) from ⟨z9, below_cells (Nat.le_refl _) _ _ B2.out⟩)
      have HT := hide (there_rowN (show w2.ownsRow w.heap.size 56 10 (.slice (some ⟨w.heap.size, 0, none⟩) N N) N _ from by
        have := O2.out.row
        rw [show ((L.take k ++ List.replicate (L.length - k) nd0).map ndE).length = N by simp; have := HN.out; omega] at this
        exact this) (o := k * 10) (m := 10) (by omega))
      clear z9 h5 hfr hQl o2 b2 O2 B2 HO HTO2
      obtain ⟨qd, hqd⟩ : ∃ qd, qd = x.d.length := ⟨_, rfl⟩
      rw [← hqd] at H4 ⊢
      clear hqd
      unfold nodeV
      obtain ⟨cs, hcs⟩ : ∃ cs : Array Value, cs = #[.int .i64 x.k, .int .i64 x.l, .int .i64 x.m, .int .i64 x.u, .int .i64 x.g, .int .i64 x.p, .int .i64 x.e, .int .i64 x.t, .int .i64 x.c, .slice a2 qd c2] := ⟨_, rfl⟩
      have HT' := hide (show w2.there w.heap.size (k * 10) cs.size from by rw [hcs]; exact HT.out)
      have HI := hide (show (Tryz.prog.info? 56).map (·.size) = some cs.size from by rw [hcs]; exact infoN10)
      have HC := hide (show cs.all (·.oneCell') = true from by rw [hcs]; exact oneNd _ _ _ _)
      have H5 := hide (show OwnN (w2.setCells w.heap.size (k * 10) cs.toList) w.heap.size 56 9 (.slice (some ⟨w.heap.size, 0, none⟩) N N) ((L.take (k + 1) ++ List.replicate (L.length - (k + 1)) nd0).map ndE) (vs.set k (.slice a2 qd c2)) ∧ Below w.heap.size w (w2.setCells w.heap.size (k * 10) cs.toList) from by rw [hcs]; exact H4.out)
      rw [← hcs]
      clear H4 HT hcs
      go_wp2_with (first | (refine wpList_store_mid rfl 56 _ _ rfl w.heap.size (k * 10) cs rfl rfl HT'.out HI.out HC.out ?_) | fail)
      go_roundw
      case rel => exact ⟨k + 1, _, by omega, by go_num, H5⟩
      case measure => simp [intOf]; omega
    · have hkN : k = N := by omega
      have HF := hide (show OwnN wr w.heap.size 56 9 (.slice (some ⟨w.heap.size, 0, none⟩) N N) (L.map ndE) vs from by
        have := HO.out.1
        rw [hkN, HN.out, Nat.sub_self, List.replicate_zero, List.append_nil, List.take_length, ← HN.out] at this
        exact this)
      clear hkN
      go_wp2
      go_ret
      exact ⟨_, vs, rfl, HF.out, HO.out.2⟩
end Go.Proofs.YtplieplmhdfndaaGreatDoor
