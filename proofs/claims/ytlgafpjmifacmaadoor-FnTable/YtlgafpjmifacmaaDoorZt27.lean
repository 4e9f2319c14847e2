/- The model's bytes of an inode: l02InodeBytes. -/
import Derived.Test.YtlgafpjmifacmaaDoorZt26
import Derived.Deep.RegionHeld3
namespace Go.Proofs.YtlgafpjmifacmaaDoor
set_option linter.unusedVariables false
set_option linter.unusedSimpArgs false
open Go.RowKit

theorem put_eq (x y : Value) (v n : Nat) (w : World) (hx : x = .int .i64 (v : Int)) (hy : y = .int .i64 (n : Int)) (hv : v < 281474976710656) (hn : n ≤ 8) (h0 : 0 < n) :
    Calls Tryd.prog 66 #[x, y] w fun e w' => ∃ g cp, e = .returned (.slice (some ⟨g, 0, none⟩) n cp) ∧ w'.ownsRow w.heap.size 5 1 (.slice (some ⟨g, 0, none⟩) n cp) n ((le n v).map (Value.int .u8)) ∧ Below w.heap.size w w' := by
  subst hx hy
  exact put_pos v n w hv hn h0
theorem held_next {w0 w w' : World} (h : Below w0.heap.size w0 w) (h2 : Below w.heap.size w w') : Below w0.heap.size w0 w' := h.trans (h2.mono h.size)
theorem held_alloc {w0 w : World} (h : Below w0.heap.size w0 w) (o : Obj) : Below w0.heap.size w0 (w.alloc o) := h.alloc h.size o
theorem held_drew {B : Nat} {w0 w : World} (h : Below B w0 w) : Below B w0 w.drew := h.drew
theorem rootBytes_pos (s : Int) (ds : List Int) (p q : Int) (w : World) (hd : ds.length = 12) (hs : 0 ≤ s ∧ s ≤ 262144) (hp : ∀ z ∈ ds ++ [p, q], 0 ≤ z ∧ z < 2048) :
    Calls Tryd.prog 67 #[.agg (cellsI (rootI s ds p q))] w fun e w' => ∃ g cp, e = .returned (.slice (some ⟨g, 0, none⟩) 64 cp) ∧ w'.ownsRow w.heap.size 5 1 (.slice (some ⟨g, 0, none⟩) 64 cp) 64 ((bytesR s ds p q).map (Value.int .u8)) ∧ Below w.heap.size w w' := by
  refine (rootBytes_any s ds p q w hd hs hp).mono ?_
  rintro e w' ⟨v', rfl, ho, hb⟩
  rcases ho.2 with ⟨rfl, hn0⟩ | ⟨g, cap, cur, rfl, _⟩
  · omega
  · exact ⟨g, cap, rfl, ho, hb⟩
theorem le2 (n : Nat) (h : n < 256) : le 2 n = le 1 n ++ List.replicate 1 0 := by
  have h1 : n / 256 % 256 = 0 := by omega
  simp [le, h1]
theorem bytesIno_join (a0 a1 a2 a3 a4 a5 a6 a7 a8 : Nat) (s : Int) (ds : List Int) (p q : Int) (hd : ds.length = 12) (h0 : a0 < 256) :
    (([le 2 a0, le 2 a1, le 2 a2, le 2 a3, le 2 a4, le 2 0, le 4 a5, le 8 a6, le 8 a7, le 8 a8, bytesR s ds p q] : List (List Int)).flatten ++ List.replicate (128 - ([le 2 a0, le 2 a1, le 2 a2, le 2 a3, le 2 a4, le 2 0, le 4 a5, le 8 a6, le 8 a7, le 8 a8, bytesR s ds p q] : List (List Int)).flatten.length) 0) = bytesIno a0 a1 a2 a3 a4 a5 a6 a7 a8 s ds p q := by
  have hl : ([le 2 a0, le 2 a1, le 2 a2, le 2 a3, le 2 a4, le 2 0, le 4 a5, le 8 a6, le 8 a7, le 8 a8, bytesR s ds p q] : List (List Int)).flatten.length = 104 := by
    simp only [List.flatten_cons, List.flatten_nil, List.length_append, le_len, bytesR_len s ds p q hd, List.length_nil]
  rw [hl]
  unfold bytesIno
  rw [le2 a0 h0, show le 2 0 = List.replicate 2 0 from rfl]
  simp only [List.flatten_cons, List.flatten_nil, List.append_nil, List.append_assoc]

theorem parts_len (a0 a1 a2 a3 a4 a5 a6 a7 a8 : Nat) (s : Int) (ds : List Int) (p q : Int) (hd : ds.length = 12) : ([le 2 a0, le 2 a1, le 2 a2, le 2 a3, le 2 a4, le 2 0, le 4 a5, le 8 a6, le 8 a7, le 8 a8, bytesR s ds p q] : List (List Int)).flatten.length = 104 := by
  simp only [List.flatten_cons, List.flatten_nil, List.length_append, le_len, bytesR_len s ds p q hd, List.length_nil]
theorem parts_pos (a0 a1 a2 a3 a4 a5 a6 a7 a8 : Nat) (s : Int) (ds : List Int) (p q : Int) (hd : ds.length = 12) : ∀ b ∈ ([le 2 a0, le 2 a1, le 2 a2, le 2 a3, le 2 a4, le 2 0, le 4 a5, le 8 a6, le 8 a7, le 8 a8, bytesR s ds p q] : List (List Int)), 0 < b.length := by
  intro b hb
  simp only [List.mem_cons, List.not_mem_nil, or_false] at hb
  rcases hb with rfl | rfl | rfl | rfl | rfl | rfl | rfl | rfl | rfl | rfl | rfl
  all_goals first | (rw [le_len]; omega) | (rw [bytesR_len s ds p q hd]; omega)

set_option maxRecDepth 100000 in
set_option maxHeartbeats 4000000 in
theorem inodeBytes_any (a0 a1 a2 a3 a4 a5 a6 a7 a8 : Nat) (s d0 d1 d2 d3 d4 d5 d6 d7 d8 d9 d10 d11 p q : Int) (w : World) (h0 : a0 < 256) (h1 : a1 < 65536) (h2 : a2 < 65536) (h3 : a3 < 65536) (h4 : a4 < 65536) (h5 : a5 < 4294967296) (h6 : a6 < 281474976710656) (h7 : a7 < 281474976710656) (h8 : a8 < 281474976710656) (hs : 0 ≤ s ∧ s ≤ 262144) (hp : ∀ z ∈ [d0, d1, d2, d3, d4, d5, d6, d7, d8, d9, d10, d11] ++ [p, q], 0 ≤ z ∧ z < 2048) :
    Calls Tryd.prog 47 #[.agg (cellsI (inoI [(a0 : Int), (a1 : Int), (a2 : Int), (a3 : Int), (a4 : Int), (a5 : Int), (a6 : Int), (a7 : Int), (a8 : Int)] s [d0, d1, d2, d3, d4, d5, d6, d7, d8, d9, d10, d11] p q))] w fun e w' => ∃ v', e = .returned v' ∧ w'.ownsRow w.heap.size 5 1 v' 128 ((bytesIno a0 a1 a2 a3 a4 a5 a6 a7 a8 s [d0, d1, d2, d3, d4, d5, d6, d7, d8, d9, d10, d11] p q).map (Value.int .u8)) ∧ Below w.heap.size w w' := by
  have HSP := hide (And.intro hs hp)
  obtain ⟨W, hW⟩ : ∃ W, W = w.alloc (.cells (cellsI (inoI [(a0 : Int), (a1 : Int), (a2 : Int), (a3 : Int), (a4 : Int), (a5 : Int), (a6 : Int), (a7 : Int), (a8 : Int)] s [d0, d1, d2, d3, d4, d5, d6, d7, d8, d9, d10, d11] p q)) 44) := ⟨_, rfl⟩
  have K0 := hide (show Blk W w.heap.size (cellsI (inoI [(a0 : Int), (a1 : Int), (a2 : Int), (a3 : Int), (a4 : Int), (a5 : Int), (a6 : Int), (a7 : Int), (a8 : Int)] s [d0, d1, d2, d3, d4, d5, d6, d7, d8, d9, d10, d11] p q)) 44 ∧ Below w.heap.size w W from by rw [hW]; exact ⟨Blk.new w _ _, (Below.refl _ _).alloc (Nat.le_refl _) _⟩)
  have S0 : Below W.heap.size W W := Below.refl _ _
  have c0 : ∀ w', Below W.heap.size W w' → w'.cell? ⟨w.heap.size, 0, none⟩ = some (.int .i64 (a0 : Int)) := fun w' h => (h.cell (p := ⟨w.heap.size, 0, none⟩) K0.out.1.lt).trans ((K0.out.1.cell 0).trans rfl)
  have c1 : ∀ w', Below W.heap.size W w' → w'.cell? ⟨w.heap.size, 1, none⟩ = some (.int .i64 (a1 : Int)) := fun w' h => (h.cell (p := ⟨w.heap.size, 1, none⟩) K0.out.1.lt).trans ((K0.out.1.cell 1).trans rfl)
  have c2 : ∀ w', Below W.heap.size W w' → w'.cell? ⟨w.heap.size, 2, none⟩ = some (.int .i64 (a2 : Int)) := fun w' h => (h.cell (p := ⟨w.heap.size, 2, none⟩) K0.out.1.lt).trans ((K0.out.1.cell 2).trans rfl)
  have c3 : ∀ w', Below W.heap.size W w' → w'.cell? ⟨w.heap.size, 3, none⟩ = some (.int .i64 (a3 : Int)) := fun w' h => (h.cell (p := ⟨w.heap.size, 3, none⟩) K0.out.1.lt).trans ((K0.out.1.cell 3).trans rfl)
  have c4 : ∀ w', Below W.heap.size W w' → w'.cell? ⟨w.heap.size, 4, none⟩ = some (.int .i64 (a4 : Int)) := fun w' h => (h.cell (p := ⟨w.heap.size, 4, none⟩) K0.out.1.lt).trans ((K0.out.1.cell 4).trans rfl)
  have c5 : ∀ w', Below W.heap.size W w' → w'.cell? ⟨w.heap.size, 5, none⟩ = some (.int .i64 (a5 : Int)) := fun w' h => (h.cell (p := ⟨w.heap.size, 5, none⟩) K0.out.1.lt).trans ((K0.out.1.cell 5).trans rfl)
  have c6 : ∀ w', Below W.heap.size W w' → w'.cell? ⟨w.heap.size, 6, none⟩ = some (.int .i64 (a6 : Int)) := fun w' h => (h.cell (p := ⟨w.heap.size, 6, none⟩) K0.out.1.lt).trans ((K0.out.1.cell 6).trans rfl)
  have c7 : ∀ w', Below W.heap.size W w' → w'.cell? ⟨w.heap.size, 7, none⟩ = some (.int .i64 (a7 : Int)) := fun w' h => (h.cell (p := ⟨w.heap.size, 7, none⟩) K0.out.1.lt).trans ((K0.out.1.cell 7).trans rfl)
  have c8 : ∀ w', Below W.heap.size W w' → w'.cell? ⟨w.heap.size, 8, none⟩ = some (.int .i64 (a8 : Int)) := fun w' h => (h.cell (p := ⟨w.heap.size, 8, none⟩) K0.out.1.lt).trans ((K0.out.1.cell 8).trans rfl)
  have c9 : ∀ w', Below W.heap.size W w' → w'.cell? ⟨w.heap.size, 9, none⟩ = some (.int .i64 s) := fun w' h => (h.cell (p := ⟨w.heap.size, 9, none⟩) K0.out.1.lt).trans ((K0.out.1.cell 9).trans rfl)
  have c10 : ∀ w', Below W.heap.size W w' → w'.cell? ⟨w.heap.size, 10, none⟩ = some (.int .i64 d0) := fun w' h => (h.cell (p := ⟨w.heap.size, 10, none⟩) K0.out.1.lt).trans ((K0.out.1.cell 10).trans rfl)
  have c11 : ∀ w', Below W.heap.size W w' → w'.cell? ⟨w.heap.size, 11, none⟩ = some (.int .i64 d1) := fun w' h => (h.cell (p := ⟨w.heap.size, 11, none⟩) K0.out.1.lt).trans ((K0.out.1.cell 11).trans rfl)
  have c12 : ∀ w', Below W.heap.size W w' → w'.cell? ⟨w.heap.size, 12, none⟩ = some (.int .i64 d2) := fun w' h => (h.cell (p := ⟨w.heap.size, 12, none⟩) K0.out.1.lt).trans ((K0.out.1.cell 12).trans rfl)
  have c13 : ∀ w', Below W.heap.size W w' → w'.cell? ⟨w.heap.size, 13, none⟩ = some (.int .i64 d3) := fun w' h => (h.cell (p := ⟨w.heap.size, 13, none⟩) K0.out.1.lt).trans ((K0.out.1.cell 13).trans rfl)
  have c14 : ∀ w', Below W.heap.size W w' → w'.cell? ⟨w.heap.size, 14, none⟩ = some (.int .i64 d4) := fun w' h => (h.cell (p := ⟨w.heap.size, 14, none⟩) K0.out.1.lt).trans ((K0.out.1.cell 14).trans rfl)
  have c15 : ∀ w', Below W.heap.size W w' → w'.cell? ⟨w.heap.size, 15, none⟩ = some (.int .i64 d5) := fun w' h => (h.cell (p := ⟨w.heap.size, 15, none⟩) K0.out.1.lt).trans ((K0.out.1.cell 15).trans rfl)
  have c16 : ∀ w', Below W.heap.size W w' → w'.cell? ⟨w.heap.size, 16, none⟩ = some (.int .i64 d6) := fun w' h => (h.cell (p := ⟨w.heap.size, 16, none⟩) K0.out.1.lt).trans ((K0.out.1.cell 16).trans rfl)
  have c17 : ∀ w', Below W.heap.size W w' → w'.cell? ⟨w.heap.size, 17, none⟩ = some (.int .i64 d7) := fun w' h => (h.cell (p := ⟨w.heap.size, 17, none⟩) K0.out.1.lt).trans ((K0.out.1.cell 17).trans rfl)
  have c18 : ∀ w', Below W.heap.size W w' → w'.cell? ⟨w.heap.size, 18, none⟩ = some (.int .i64 d8) := fun w' h => (h.cell (p := ⟨w.heap.size, 18, none⟩) K0.out.1.lt).trans ((K0.out.1.cell 18).trans rfl)
  have c19 : ∀ w', Below W.heap.size W w' → w'.cell? ⟨w.heap.size, 19, none⟩ = some (.int .i64 d9) := fun w' h => (h.cell (p := ⟨w.heap.size, 19, none⟩) K0.out.1.lt).trans ((K0.out.1.cell 19).trans rfl)
  have c20 : ∀ w', Below W.heap.size W w' → w'.cell? ⟨w.heap.size, 20, none⟩ = some (.int .i64 d10) := fun w' h => (h.cell (p := ⟨w.heap.size, 20, none⟩) K0.out.1.lt).trans ((K0.out.1.cell 20).trans rfl)
  have c21 : ∀ w', Below W.heap.size W w' → w'.cell? ⟨w.heap.size, 21, none⟩ = some (.int .i64 d11) := fun w' h => (h.cell (p := ⟨w.heap.size, 21, none⟩) K0.out.1.lt).trans ((K0.out.1.cell 21).trans rfl)
  have c22 : ∀ w', Below W.heap.size W w' → w'.cell? ⟨w.heap.size, 22, none⟩ = some (.int .i64 p) := fun w' h => (h.cell (p := ⟨w.heap.size, 22, none⟩) K0.out.1.lt).trans ((K0.out.1.cell 22).trans rfl)
  have c23 : ∀ w', Below W.heap.size W w' → w'.cell? ⟨w.heap.size, 23, none⟩ = some (.int .i64 q) := fun w' h => (h.cell (p := ⟨w.heap.size, 23, none⟩) K0.out.1.lt).trans ((K0.out.1.cell 23).trans rfl)
  have HW := hide hW
  clear hs hp hW
  go_enter Tryd.func47, Tryd.ntmps47
  go_wp2
  rw [← HW.out]
  go_region_held3 (fun w' => Below W.heap.size W w') (first | assumption | exact held_drew (by assumption) | exact held_alloc (by assumption) _) (first
    | (go_at_call 66; refine (put_eq _ _ a0 2 _ (by with_reducible rfl) (by rfl) (by omega) (by omega) (by omega)).mono ?_; rintro e w0 ⟨g0, cp0, rfl, o0, b0⟩; have S1 := held_next (w0 := W) (by assumption) b0; have R0 := hide (AllRd.next (show AllRd _ [] [] from trivial) o0 b0); clear o0 b0)
    | (go_at_call 66; refine (put_eq _ _ a1 2 _ (by with_reducible rfl) (by rfl) (by omega) (by omega) (by omega)).mono ?_; rintro e w1 ⟨g1, cp1, rfl, o1, b1⟩; have S2 := held_next (w0 := W) (by assumption) b1; have R1 := hide (AllRd.next R0.out o1 b1); clear o1 b1)
    | (go_at_call 66; refine (put_eq _ _ a2 2 _ (by with_reducible rfl) (by rfl) (by omega) (by omega) (by omega)).mono ?_; rintro e w2 ⟨g2, cp2, rfl, o2, b2⟩; have S3 := held_next (w0 := W) (by assumption) b2; have R2 := hide (AllRd.next R1.out o2 b2); clear o2 b2)
    | (go_at_call 66; refine (put_eq _ _ a3 2 _ (by with_reducible rfl) (by rfl) (by omega) (by omega) (by omega)).mono ?_; rintro e w3 ⟨g3, cp3, rfl, o3, b3⟩; have S4 := held_next (w0 := W) (by assumption) b3; have R3 := hide (AllRd.next R2.out o3 b3); clear o3 b3)
    | (go_at_call 66; refine (put_eq _ _ a4 2 _ (by with_reducible rfl) (by rfl) (by omega) (by omega) (by omega)).mono ?_; rintro e w4 ⟨g4, cp4, rfl, o4, b4⟩; have S5 := held_next (w0 := W) (by assumption) b4; have R4 := hide (AllRd.next R3.out o4 b4); clear o4 b4)
    | (go_at_call 66; refine (put_eq _ _ 0 2 _ (by rfl) (by rfl) (by omega) (by omega) (by omega)).mono ?_; rintro e w5 ⟨g5, cp5, rfl, o5, b5⟩; have S6 := held_next (w0 := W) (by assumption) b5; have R5 := hide (AllRd.next R4.out o5 b5); clear o5 b5)
    | (go_at_call 66; refine (put_eq _ _ a5 4 _ (by with_reducible rfl) (by rfl) (by omega) (by omega) (by omega)).mono ?_; rintro e w6 ⟨g6, cp6, rfl, o6, b6⟩; have S7 := held_next (w0 := W) (by assumption) b6; have R6 := hide (AllRd.next R5.out o6 b6); clear o6 b6)
    | (go_at_call 66; refine (put_eq _ _ a6 8 _ (by with_reducible rfl) (by rfl) (by omega) (by omega) (by omega)).mono ?_; rintro e w7 ⟨g7, cp7, rfl, o7, b7⟩; have S8 := held_next (w0 := W) (by assumption) b7; have R7 := hide (AllRd.next R6.out o7 b7); clear o7 b7)
    | (go_at_call 66; refine (put_eq _ _ a7 8 _ (by with_reducible rfl) (by rfl) (by omega) (by omega) (by omega)).mono ?_; rintro e w8 ⟨g8, cp8, rfl, o8, b8⟩; have S9 := held_next (w0 := W) (by assumption) b8; have R8 := hide (AllRd.next R7.out o8 b8); clear o8 b8)
    | (go_at_call 66; refine (put_eq _ _ a8 8 _ (by with_reducible rfl) (by rfl) (by omega) (by omega) (by omega)).mono ?_; rintro e w9 ⟨g9, cp9, rfl, o9, b9⟩; have S10 := held_next (w0 := W) (by assumption) b9; have R9 := hide (AllRd.next R8.out o9 b9); clear o9 b9)
    | (go_at_call 67; refine (rootBytes_pos s [d0, d1, d2, d3, d4, d5, d6, d7, d8, d9, d10, d11] p q _ rfl HSP.out.1 HSP.out.2).mono ?_; rintro e w10 ⟨g10, cp10, rfl, o10, b10⟩; have S11 := held_next (w0 := W) (by assumption) b10; have R10 := hide (AllRd.next R9.out o10 b10); clear o10 b10)
    | (go_at_call 65; refine (join_any w10.heap.size 11 11 [.slice (some ⟨g0, 0, none⟩) 2 cp0, .slice (some ⟨g1, 0, none⟩) 2 cp1, .slice (some ⟨g2, 0, none⟩) 2 cp2, .slice (some ⟨g3, 0, none⟩) 2 cp3, .slice (some ⟨g4, 0, none⟩) 2 cp4, .slice (some ⟨g5, 0, none⟩) 2 cp5, .slice (some ⟨g6, 0, none⟩) 4 cp6, .slice (some ⟨g7, 0, none⟩) 8 cp7, .slice (some ⟨g8, 0, none⟩) 8 cp8, .slice (some ⟨g9, 0, none⟩) 8 cp9, .slice (some ⟨g10, 0, none⟩) 64 cp10] [le 2 a0, le 2 a1, le 2 a2, le 2 a3, le 2 a4, le 2 0, le 4 a5, le 8 a6, le 8 a7, le 8 a8, bytesR s [d0, d1, d2, d3, d4, d5, d6, d7, d8, d9, d10, d11] p q] _ (fun j v h => by rw [cell_of_row _ _ j _ _ _ (heap_alloc_new w10 _), List.getElem?_toArray]; exact h) (AllRd.below ((Below.refl _ _).alloc (Nat.le_refl _) _) R10.out) rfl (by omega) (parts_pos a0 a1 a2 a3 a4 a5 a6 a7 a8 s [d0, d1, d2, d3, d4, d5, d6, d7, d8, d9, d10, d11] p q rfl) (by rw [parts_len a0 a1 a2 a3 a4 a5 a6 a7 a8 s [d0, d1, d2, d3, d4, d5, d6, d7, d8, d9, d10, d11] p q rfl]; omega) (by simp)).mono ?_; rintro e w12 ⟨v12, rfl, o12, b12⟩; have S12 := held_next (w0 := W) (by assumption) b12; have R12 := hide (Rd.own o12); clear o12 b12))
  have B12 := hide (K0.out.2.trans (S12.mono K0.out.2.size))
  clear c0 c1 c2 c3 c4 c5 c6 c7 c8 c9 c10 c11 c12 c13 c14 c15 c16 c17 c18 c19 c20 c21 c22 c23 S0 S1 S2 S3 S4 S5 S6 S7 S8 S9 S10 S11 S12
  go_wp2_with fail
  refine (fill_any v12 _ 128 _ R12.out (by rw [parts_len a0 a1 a2 a3 a4 a5 a6 a7 a8 s [d0, d1, d2, d3, d4, d5, d6, d7, d8, d9, d10, d11] p q rfl]; omega) (by rw [parts_len a0 a1 a2 a3 a4 a5 a6 a7 a8 s [d0, d1, d2, d3, d4, d5, d6, d7, d8, d9, d10, d11] p q rfl]; omega) (by omega)).mono ?_
  rintro e w13 ⟨v13, rfl, o13, b13⟩
  rw [bytesIno_join a0 a1 a2 a3 a4 a5 a6 a7 a8 s [d0, d1, d2, d3, d4, d5, d6, d7, d8, d9, d10, d11] p q rfl h0] at o13
  have H13 := hide (And.intro (own_mono o13 B12.out.size) (B12.out.trans (b13.mono B12.out.size)))
  clear o13 b13
  go_wp2
  go_ret
  exact ⟨_, rfl, H13.out.1, H13.out.2⟩
end Go.Proofs.YtlgafpjmifacmaaDoor
