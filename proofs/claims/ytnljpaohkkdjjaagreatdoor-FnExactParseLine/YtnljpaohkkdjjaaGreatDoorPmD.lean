/- The program's fill functions. -/
import Derived.Test.YtnljpaohkkdjjaaGreatDoorPmC
import Derived.Test.YtnljpaohkkdjjaaGreatDoorPmB
import Derived.Test.YtnljpaohkkdjjaaGreatDoorPlY
namespace Go.Proofs.YtnljpaohkkdjjaaGreatDoor
set_option linter.unusedVariables false
set_option linter.unusedSimpArgs false
open Go.RowKit

theorem own_offB {w : World} {base b : Nat} {e t : TypeId} {sz : Nat} {v : Value} {n : Nat} {xs : List Value} {C : Array Value} (h : w.ownsRow base e sz v n xs) (hb : Blk w b C t) (he : e ≠ t) : v.ownBlock = none ∨ v.ownBlock ≠ some b := by
  rcases h.2 with ⟨rfl, _⟩ | ⟨g, cap, cur, rfl, _, hg, _⟩
  · exact .inl rfl
  · right
    intro hq
    obtain rfl : g = b := Option.some.inj hq
    have h2 : w.heap[g]? = some (.cells C t (0, 0)) := hb
    rw [h2] at hg
    injection hg with hg
    injection hg with _ h3
    exact he h3.symm
theorem ownN_keptB {w w' : World} {base b m : Nat} {e t : TypeId} {v : Value} {L : List NE} {vs : List Value} {C : Array Value} (h : OwnN w base e m v L vs) (hb : Blk w b C t) (he : e ≠ t) (hu : 5 ≠ t) (hg : w.grownBy w' (some b)) : OwnN w' base e m v L vs :=
  ⟨h.len, h.pre, h.row.kept hg (own_offB h.row hb he), fun i u l hu' hl => (h.dat i u l hu' hl).kept hg (own_offB (h.dat i u l hu' hl) hb hu), h.one⟩
/-- What is said at place i. -/
theorem at_said {w : World} {base : Nat} {v : Value} {S : List (Int × List UInt8)} {vs : List Value} (h : OwnN w base 70 1 v (S.map neS) vs) {i : Nat} {y : Int × List UInt8} (hy : S[i]? = some y) (o0 o1 : Nat) (h0 : o0 = i * 2) (h1 : o1 = i * 2 + 1) :
    ∃ g cap u a k c, v = .slice (some ⟨g, 0, none⟩) S.length cap ∧ u = .slice a k c ∧ vs[i]? = some u ∧ g < w.heap.size ∧ w.cell? ⟨g, o0, none⟩ = some (.int .i64 y.1) ∧ w.cell? ⟨g, o1, none⟩ = some u ∧ w.ownsRow base 5 1 u y.2.length (Lib.byteCells y.2) := by
  subst h0 h1
  have hr := h.row
  have hlt : i < S.length := (List.getElem?_eq_some_iff.1 hy).1
  have hl : (S.map neS)[i]? = some (neS y) := by simp [hy]
  obtain ⟨u, hu⟩ : ∃ u, vs[i]? = some u := ⟨_, List.getElem?_eq_getElem (by rw [h.len, List.length_map]; exact hlt)⟩
  have hd := h.dat i u (neS y) hu hl
  obtain ⟨a, c, e⟩ := own_shape hd
  rcases h.row.2 with ⟨rfl, e0⟩ | ⟨g, cap, cur, rfl, hb, hg, _⟩
  · rw [List.length_map] at e0; omega
  · refine ⟨g, cap, u, a, _, c, by rw [List.length_map], e, hu, (Array.getElem?_eq_some_iff.1 hg).1, ?_, ?_, ?_⟩
    · have hc := hr.cells (g := g) rfl (i * 2) (.int .i64 y.1) (by have := cellsN_get 1 vs (S.map neS) h.len h.pre i 0 u (neS y) hu hl (by omega); rw [Nat.add_zero] at this; rw [this]; rfl)
      rw [Addr.add_mid, Nat.zero_add] at hc
      exact hc
    · have hc := hr.cells (g := g) rfl (i * 2 + 1) u (by have := cellsN_get 1 vs (S.map neS) h.len h.pre i 1 u (neS y) hu hl (by omega); rw [this]; rfl)
      rw [Addr.add_mid, Nat.zero_add] at hc
      exact hc
    · have hd2 : w.ownsRow base 5 1 u (y.2.map fun b => (b.toNat : Int)).length ((y.2.map fun b => (b.toNat : Int)).map (Value.int .u8)) := hd
      rw [← bytes_neS, List.length_map] at hd2
      exact hd2
theorem blk_offS {w : World} {base b g : Nat} {C : Array Value} {S : List (Int × List UInt8)} {vs : List Value} {n cap : Nat} (h : OwnN w base 70 1 (.slice (some ⟨g, 0, none⟩) n cap) (S.map neS) vs) (hb : Blk w b C 24) : b ≠ g := by
  have := own_offB h.row hb (by decide)
  rcases this with h | h
  · cases h
  · intro e; subst e; exact h rfl
set_option maxRecDepth 100000 in
set_option maxHeartbeats 1000000 in
theorem fillPath_any (K A B U G : Int) (p q : ByteArray) (dv : Value) (b base : Nat) (v : Value) (S : List (Int × List UInt8)) (vs : List Value) (w : World) (hd : ∃ a k c, dv = .slice a k c) (ho : OwnN w base 70 1 v (S.map neS) vs) (hb : Blk w b (opC K A B U G p q dv) 24) (y0 : Int × List UInt8) (hy0 : S[0]? = some y0) :
    Calls Tryz.prog 28 #[.pointer (some ⟨b, 0, none⟩), v] w fun e w' => e = .returned (.tuple #[]) ∧ Blk w' b (opC K A B U G (mk y0.2) q dv) 24 ∧ w.grownBy w' (some b) := by
  obtain ⟨da, dk, dc, rfl⟩ := hd
  have HO := hide ho
  have HB := hide hb
  have HY0 := hide hy0
  have hsh : ∃ a n c, v = .slice a n c := by obtain ⟨a, c, e⟩ := own_shape ho.row; exact ⟨a, _, c, e⟩
  obtain ⟨va, vn, vc, rfl⟩ := hsh
  clear ho hb hy0
  go_enter Tryz.func28, Tryz.ntmps28
  obtain ⟨g, cap, u, ua, uk, uc, e0, rfl, huv, hg, c0, c1, hu⟩ := at_said HO.out HY0.out 0 1 rfl rfl
  injection e0 with e1 e2 e3
  subst e1 e2 e3
  have hsl : 0 < S.length := (List.getElem?_eq_some_iff.1 HY0.out).1
  have hne : b ≠ g := blk_offS HO.out HB.out
  have d0 := (HB.out.cell 5).trans (show (opC K A B U G p q (.slice da dk dc))[5]? = some (.string p) from rfl)
  have f0 := HB.out.frozen 5
  have hcv := back_bytes hu
  have HUV := hide huv
  clear hu huv
  go_wp2_with fail
  go_end0
  exact ⟨rfl, HB.out.set 5 (.string (mk y0.2)), ⟨rfl, rfl, rfl, by simp, fun k hk hn => Below.heap_setCell w _ _ k (fun e => hn (by rw [e]))⟩⟩
set_option maxRecDepth 100000 in
set_option maxHeartbeats 1000000 in
theorem fillPaths_any (K A B U G : Int) (p q : ByteArray) (dv : Value) (b base : Nat) (v : Value) (S : List (Int × List UInt8)) (vs : List Value) (w : World) (hd : ∃ a k c, dv = .slice a k c) (ho : OwnN w base 70 1 v (S.map neS) vs) (hb : Blk w b (opC K A B U G p q dv) 24) (y0 : Int × List UInt8) (hy0 : S[0]? = some y0) (y1 : Int × List UInt8) (hy1 : S[1]? = some y1) :
    Calls Tryz.prog 27 #[.pointer (some ⟨b, 0, none⟩), v] w fun e w' => e = .returned (.tuple #[]) ∧ Blk w' b (opC K A B U G (mk y0.2) (mk y1.2) dv) 24 ∧ w.grownBy w' (some b) := by
  obtain ⟨da, dk, dc, rfl⟩ := hd
  have HO := hide ho
  have HB := hide hb
  have HY0 := hide hy0
  have HY1 := hide hy1
  have hsh : ∃ a n c, v = .slice a n c := by obtain ⟨a, c, e⟩ := own_shape ho.row; exact ⟨a, _, c, e⟩
  obtain ⟨va, vn, vc, rfl⟩ := hsh
  clear ho hb hy0 hy1
  go_enter Tryz.func27, Tryz.ntmps27
  go_wp2_with (go_at_call 28; fail)
  refine (fillPath_any K A B U G p q (.slice da dk dc) b base _ S vs w ⟨_, _, _, rfl⟩ HO.out HB.out y0 HY0.out).mono ?_
  rintro e w1 ⟨rfl, b1, g1⟩
  have HO1 := hide (ownN_keptB HO.out HB.out (by decide) (by decide) g1)
  have HB1 := hide b1
  have HG1 := hide g1
  clear b1 g1
  obtain ⟨g, cap, u, ua, uk, uc, e0, rfl, huv, hg, c0, c1, hu⟩ := at_said HO1.out HY1.out 2 3 rfl rfl
  injection e0 with e1 e2 e3
  subst e1 e2 e3
  have hsl : 1 < S.length := (List.getElem?_eq_some_iff.1 HY1.out).1
  have hne : b ≠ g := blk_offS HO1.out HB1.out
  have d0 := (HB1.out.cell 6).trans (show (opC K A B U G (mk y0.2) q (.slice da dk dc))[6]? = some (.string q) from rfl)
  have f0 := HB1.out.frozen 6
  have hcv := back_bytes hu
  have HUV := hide huv
  clear hu huv
  go_wp2_with fail
  go_end0
  exact ⟨rfl, HB1.out.set 6 (.string (mk y1.2)), grownBy_trans HG1.out ⟨rfl, rfl, rfl, by simp, fun k hk hn => Below.heap_setCell w1 _ _ k (fun e => hn (by rw [e]))⟩⟩
set_option maxRecDepth 100000 in
set_option maxHeartbeats 1000000 in
theorem fillPN_any (K A B U G : Int) (p q : ByteArray) (dv : Value) (b base : Nat) (v : Value) (S : List (Int × List UInt8)) (vs : List Value) (w : World) (hd : ∃ a k c, dv = .slice a k c) (ho : OwnN w base 70 1 v (S.map neS) vs) (hb : Blk w b (opC K A B U G p q dv) 24) (y0 : Int × List UInt8) (hy0 : S[0]? = some y0) (y1 : Int × List UInt8) (hy1 : S[1]? = some y1) :
    Calls Tryz.prog 26 #[.pointer (some ⟨b, 0, none⟩), v] w fun e w' => e = .returned (.tuple #[]) ∧ Blk w' b (opC K y1.1 B U G (mk y0.2) q dv) 24 ∧ w.grownBy w' (some b) := by
  obtain ⟨da, dk, dc, rfl⟩ := hd
  have HO := hide ho
  have HB := hide hb
  have HY0 := hide hy0
  have HY1 := hide hy1
  have hsh : ∃ a n c, v = .slice a n c := by obtain ⟨a, c, e⟩ := own_shape ho.row; exact ⟨a, _, c, e⟩
  obtain ⟨va, vn, vc, rfl⟩ := hsh
  clear ho hb hy0 hy1
  go_enter Tryz.func26, Tryz.ntmps26
  go_wp2_with (go_at_call 28; fail)
  refine (fillPath_any K A B U G p q (.slice da dk dc) b base _ S vs w ⟨_, _, _, rfl⟩ HO.out HB.out y0 HY0.out).mono ?_
  rintro e w1 ⟨rfl, b1, g1⟩
  have HO1 := hide (ownN_keptB HO.out HB.out (by decide) (by decide) g1)
  have HB1 := hide b1
  have HG1 := hide g1
  clear b1 g1
  obtain ⟨g, cap, u, ua, uk, uc, e0, rfl, huv, hg, c0, c1, hu⟩ := at_said HO1.out HY1.out 2 3 rfl rfl
  injection e0 with e1 e2 e3
  subst e1 e2 e3
  have hsl : 1 < S.length := (List.getElem?_eq_some_iff.1 HY1.out).1
  have hne : b ≠ g := blk_offS HO1.out HB1.out
  have d0 := (HB1.out.cell 1).trans (show (opC K A B U G (mk y0.2) q (.slice da dk dc))[1]? = some (.int .i64 A) from rfl)
  have f0 := HB1.out.frozen 1
  have HUV := hide huv
  clear hu huv
  go_wp2_with fail
  go_end0
  exact ⟨rfl, HB1.out.set 1 (.int .i64 y1.1), grownBy_trans HG1.out ⟨rfl, rfl, rfl, by simp, fun k hk hn => Below.heap_setCell w1 _ _ k (fun e => hn (by rw [e]))⟩⟩
set_option maxRecDepth 100000 in
set_option maxHeartbeats 1000000 in
theorem fillPNN_any (K A B U G : Int) (p q : ByteArray) (dv : Value) (b base : Nat) (v : Value) (S : List (Int × List UInt8)) (vs : List Value) (w : World) (hd : ∃ a k c, dv = .slice a k c) (ho : OwnN w base 70 1 v (S.map neS) vs) (hb : Blk w b (opC K A B U G p q dv) 24) (y0 : Int × List UInt8) (hy0 : S[0]? = some y0) (y1 : Int × List UInt8) (hy1 : S[1]? = some y1) (y2 : Int × List UInt8) (hy2 : S[2]? = some y2) :
    Calls Tryz.prog 30 #[.pointer (some ⟨b, 0, none⟩), v] w fun e w' => e = .returned (.tuple #[]) ∧ Blk w' b (opC K y1.1 y2.1 U G (mk y0.2) q dv) 24 ∧ w.grownBy w' (some b) := by
  obtain ⟨da, dk, dc, rfl⟩ := hd
  have HO := hide ho
  have HB := hide hb
  have HY0 := hide hy0
  have HY1 := hide hy1
  have HY2 := hide hy2
  have hsh : ∃ a n c, v = .slice a n c := by obtain ⟨a, c, e⟩ := own_shape ho.row; exact ⟨a, _, c, e⟩
  obtain ⟨va, vn, vc, rfl⟩ := hsh
  clear ho hb hy0 hy1 hy2
  go_enter Tryz.func30, Tryz.ntmps30
  go_wp2_with (go_at_call 26; fail)
  refine (fillPN_any K A B U G p q (.slice da dk dc) b base _ S vs w ⟨_, _, _, rfl⟩ HO.out HB.out y0 HY0.out y1 HY1.out).mono ?_
  rintro e w1 ⟨rfl, b1, g1⟩
  have HO1 := hide (ownN_keptB HO.out HB.out (by decide) (by decide) g1)
  have HB1 := hide b1
  have HG1 := hide g1
  clear b1 g1
  obtain ⟨g, cap, u, ua, uk, uc, e0, rfl, huv, hg, c0, c1, hu⟩ := at_said HO1.out HY2.out 4 5 rfl rfl
  injection e0 with e1 e2 e3
  subst e1 e2 e3
  have hsl : 2 < S.length := (List.getElem?_eq_some_iff.1 HY2.out).1
  have hne : b ≠ g := blk_offS HO1.out HB1.out
  have d0 := (HB1.out.cell 2).trans (show (opC K y1.1 B U G (mk y0.2) q (.slice da dk dc))[2]? = some (.int .i64 B) from rfl)
  have f0 := HB1.out.frozen 2
  have HUV := hide huv
  clear hu huv
  go_wp2_with fail
  go_end0
  exact ⟨rfl, HB1.out.set 2 (.int .i64 y2.1), grownBy_trans HG1.out ⟨rfl, rfl, rfl, by simp, fun k hk hn => Below.heap_setCell w1 _ _ k (fun e => hn (by rw [e]))⟩⟩
set_option maxRecDepth 100000 in
set_option maxHeartbeats 1000000 in
theorem fillPND_any (K A B U G : Int) (p q : ByteArray) (dv : Value) (b base : Nat) (v : Value) (S : List (Int × List UInt8)) (vs : List Value) (w : World) (hd : ∃ a k c, dv = .slice a k c) (ho : OwnN w base 70 1 v (S.map neS) vs) (hb : Blk w b (opC K A B U G p q dv) 24) (y0 : Int × List UInt8) (hy0 : S[0]? = some y0) (y1 : Int × List UInt8) (hy1 : S[1]? = some y1) (y2 : Int × List UInt8) (hy2 : S[2]? = some y2) :
    Calls Tryz.prog 29 #[.pointer (some ⟨b, 0, none⟩), v] w fun e w' => e = .returned (.tuple #[]) ∧ ∃ u, (∃ a k c, u = .slice a k c) ∧ vs[2]? = some u ∧ Blk w' b (opC K y1.1 B U G (mk y0.2) q u) 24 ∧ w.grownBy w' (some b) := by
  obtain ⟨da, dk, dc, rfl⟩ := hd
  have HO := hide ho
  have HB := hide hb
  have HY0 := hide hy0
  have HY1 := hide hy1
  have HY2 := hide hy2
  have hsh : ∃ a n c, v = .slice a n c := by obtain ⟨a, c, e⟩ := own_shape ho.row; exact ⟨a, _, c, e⟩
  obtain ⟨va, vn, vc, rfl⟩ := hsh
  clear ho hb hy0 hy1 hy2
  go_enter Tryz.func29, Tryz.ntmps29
  go_wp2_with (go_at_call 26; fail)
  refine (fillPN_any K A B U G p q (.slice da dk dc) b base _ S vs w ⟨_, _, _, rfl⟩ HO.out HB.out y0 HY0.out y1 HY1.out).mono ?_
  rintro e w1 ⟨rfl, b1, g1⟩
  have HO1 := hide (ownN_keptB HO.out HB.out (by decide) (by decide) g1)
  have HB1 := hide b1
  have HG1 := hide g1
  clear b1 g1
  obtain ⟨g, cap, u, ua, uk, uc, e0, rfl, huv, hg, c0, c1, hu⟩ := at_said HO1.out HY2.out 4 5 rfl rfl
  injection e0 with e1 e2 e3
  subst e1 e2 e3
  have hsl : 2 < S.length := (List.getElem?_eq_some_iff.1 HY2.out).1
  have hne : b ≠ g := blk_offS HO1.out HB1.out
  have d0 := (HB1.out.cell 7).trans (show (opC K y1.1 B U G (mk y0.2) q (.slice da dk dc))[7]? = some (.slice da dk dc) from rfl)
  have f0 := HB1.out.frozen 7
  have HUV := hide huv
  clear hu huv
  go_wp2_with fail
  go_end0
  exact ⟨rfl, _, ⟨_, _, _, rfl⟩, HUV.out, HB1.out.set 7 (.slice ua uk uc), grownBy_trans HG1.out ⟨rfl, rfl, rfl, by simp, fun k hk hn => Below.heap_setCell w1 _ _ k (fun e => hn (by rw [e]))⟩⟩
set_option maxRecDepth 100000 in
set_option maxHeartbeats 1000000 in
theorem fillD_any (K A B U G : Int) (p q : ByteArray) (dv : Value) (b base : Nat) (v : Value) (S : List (Int × List UInt8)) (vs : List Value) (w : World) (hd : ∃ a k c, dv = .slice a k c) (ho : OwnN w base 70 1 v (S.map neS) vs) (hb : Blk w b (opC K A B U G p q dv) 24) (y0 : Int × List UInt8) (hy0 : S[0]? = some y0) :
    Calls Tryz.prog 32 #[.pointer (some ⟨b, 0, none⟩), v] w fun e w' => e = .returned (.tuple #[]) ∧ ∃ u, (∃ a k c, u = .slice a k c) ∧ vs[0]? = some u ∧ Blk w' b (opC K A B U G p q u) 24 ∧ w.grownBy w' (some b) := by
  obtain ⟨da, dk, dc, rfl⟩ := hd
  have HO := hide ho
  have HB := hide hb
  have HY0 := hide hy0
  have hsh : ∃ a n c, v = .slice a n c := by obtain ⟨a, c, e⟩ := own_shape ho.row; exact ⟨a, _, c, e⟩
  obtain ⟨va, vn, vc, rfl⟩ := hsh
  clear ho hb hy0
  go_enter Tryz.func32, Tryz.ntmps32
  obtain ⟨g, cap, u, ua, uk, uc, e0, rfl, huv, hg, c0, c1, hu⟩ := at_said HO.out HY0.out 0 1 rfl rfl
  injection e0 with e1 e2 e3
  subst e1 e2 e3
  have hsl : 0 < S.length := (List.getElem?_eq_some_iff.1 HY0.out).1
  have hne : b ≠ g := blk_offS HO.out HB.out
  have d0 := (HB.out.cell 7).trans (show (opC K A B U G p q (.slice da dk dc))[7]? = some (.slice da dk dc) from rfl)
  have f0 := HB.out.frozen 7
  have HUV := hide huv
  clear hu huv
  go_wp2_with fail
  go_end0
  exact ⟨rfl, _, ⟨_, _, _, rfl⟩, HUV.out, HB.out.set 7 (.slice ua uk uc), ⟨rfl, rfl, rfl, by simp, fun k hk hn => Below.heap_setCell w _ _ k (fun e => hn (by rw [e]))⟩⟩
set_option maxRecDepth 100000 in
set_option maxHeartbeats 1000000 in
theorem fillN_any (K A B U G : Int) (p q : ByteArray) (dv : Value) (b base : Nat) (v : Value) (S : List (Int × List UInt8)) (vs : List Value) (w : World) (hd : ∃ a k c, dv = .slice a k c) (ho : OwnN w base 70 1 v (S.map neS) vs) (hb : Blk w b (opC K A B U G p q dv) 24) (y0 : Int × List UInt8) (hy0 : S[0]? = some y0) :
    Calls Tryz.prog 33 #[.pointer (some ⟨b, 0, none⟩), v] w fun e w' => e = .returned (.tuple #[]) ∧ Blk w' b (opC K y0.1 B U G p q dv) 24 ∧ w.grownBy w' (some b) := by
  obtain ⟨da, dk, dc, rfl⟩ := hd
  have HO := hide ho
  have HB := hide hb
  have HY0 := hide hy0
  have hsh : ∃ a n c, v = .slice a n c := by obtain ⟨a, c, e⟩ := own_shape ho.row; exact ⟨a, _, c, e⟩
  obtain ⟨va, vn, vc, rfl⟩ := hsh
  clear ho hb hy0
  go_enter Tryz.func33, Tryz.ntmps33
  obtain ⟨g, cap, u, ua, uk, uc, e0, rfl, huv, hg, c0, c1, hu⟩ := at_said HO.out HY0.out 0 1 rfl rfl
  injection e0 with e1 e2 e3
  subst e1 e2 e3
  have hsl : 0 < S.length := (List.getElem?_eq_some_iff.1 HY0.out).1
  have hne : b ≠ g := blk_offS HO.out HB.out
  have d0 := (HB.out.cell 1).trans (show (opC K A B U G p q (.slice da dk dc))[1]? = some (.int .i64 A) from rfl)
  have f0 := HB.out.frozen 1
  have HUV := hide huv
  clear hu huv
  go_wp2_with fail
  go_end0
  exact ⟨rfl, HB.out.set 1 (.int .i64 y0.1), ⟨rfl, rfl, rfl, by simp, fun k hk hn => Below.heap_setCell w _ _ k (fun e => hn (by rw [e]))⟩⟩
set_option maxRecDepth 100000 in
set_option maxHeartbeats 1000000 in
theorem fillND_any (K A B U G : Int) (p q : ByteArray) (dv : Value) (b base : Nat) (v : Value) (S : List (Int × List UInt8)) (vs : List Value) (w : World) (hd : ∃ a k c, dv = .slice a k c) (ho : OwnN w base 70 1 v (S.map neS) vs) (hb : Blk w b (opC K A B U G p q dv) 24) (y0 : Int × List UInt8) (hy0 : S[0]? = some y0) (y1 : Int × List UInt8) (hy1 : S[1]? = some y1) :
    Calls Tryz.prog 34 #[.pointer (some ⟨b, 0, none⟩), v] w fun e w' => e = .returned (.tuple #[]) ∧ ∃ u, (∃ a k c, u = .slice a k c) ∧ vs[1]? = some u ∧ Blk w' b (opC K y0.1 B U G p q u) 24 ∧ w.grownBy w' (some b) := by
  obtain ⟨da, dk, dc, rfl⟩ := hd
  have HO := hide ho
  have HB := hide hb
  have HY0 := hide hy0
  have HY1 := hide hy1
  have hsh : ∃ a n c, v = .slice a n c := by obtain ⟨a, c, e⟩ := own_shape ho.row; exact ⟨a, _, c, e⟩
  obtain ⟨va, vn, vc, rfl⟩ := hsh
  clear ho hb hy0 hy1
  go_enter Tryz.func34, Tryz.ntmps34
  go_wp2_with (go_at_call 33; fail)
  refine (fillN_any K A B U G p q (.slice da dk dc) b base _ S vs w ⟨_, _, _, rfl⟩ HO.out HB.out y0 HY0.out).mono ?_
  rintro e w1 ⟨rfl, b1, g1⟩
  have HO1 := hide (ownN_keptB HO.out HB.out (by decide) (by decide) g1)
  have HB1 := hide b1
  have HG1 := hide g1
  clear b1 g1
  obtain ⟨g, cap, u, ua, uk, uc, e0, rfl, huv, hg, c0, c1, hu⟩ := at_said HO1.out HY1.out 2 3 rfl rfl
  injection e0 with e1 e2 e3
  subst e1 e2 e3
  have hsl : 1 < S.length := (List.getElem?_eq_some_iff.1 HY1.out).1
  have hne : b ≠ g := blk_offS HO1.out HB1.out
  have d0 := (HB1.out.cell 7).trans (show (opC K y0.1 B U G p q (.slice da dk dc))[7]? = some (.slice da dk dc) from rfl)
  have f0 := HB1.out.frozen 7
  have HUV := hide huv
  clear hu huv
  go_wp2_with fail
  go_end0
  exact ⟨rfl, _, ⟨_, _, _, rfl⟩, HUV.out, HB1.out.set 7 (.slice ua uk uc), grownBy_trans HG1.out ⟨rfl, rfl, rfl, by simp, fun k hk hn => Below.heap_setCell w1 _ _ k (fun e => hn (by rw [e]))⟩⟩
theorem fillNothing_any (a v : Value) (w : World) : Calls Tryz.prog 31 #[a, v] w fun e w' => e = .returned (.tuple #[]) ∧ w' = w := by
  go_enter Tryz.func31, Tryz.ntmps31
  go_wp2
  go_end0
  exact ⟨rfl, rfl⟩
end Go.Proofs.YtnljpaohkkdjjaaGreatDoor
