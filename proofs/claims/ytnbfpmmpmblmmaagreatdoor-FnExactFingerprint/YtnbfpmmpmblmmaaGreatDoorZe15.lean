/- The model's bytes of an inode: l02InodeBytes. A region that draws its order, by what each operation's value is to be: one step an operation, whatever the order. -/
import Derived.Test.YtnbfpmmpmblmmaaGreatDoorZe12
import Derived.Test.YtnbfpmmpmblmmaaGreatDoorZe13
import Derived.Deep.RegionHeld3
import Derived.Test.YtnbfpmmpmblmmaaGreatDoorZe01
import Derived.Orders
namespace Go.Proofs.YtnbfpmmpmblmmaaGreatDoor
set_option linter.unusedVariables false
set_option linter.unusedSimpArgs false
open Go.RowKit

theorem put_eq (x y : Value) (v n : Nat) (w : World) (hx : x = .int .i64 (v : Int)) (hy : y = .int .i64 (n : Int)) (hv : v < 281474976710656) (hn : n ≤ 8) (h0 : 0 < n) :
    Calls Tryz.prog 69 #[x, y] w fun e w' => ∃ g cp, e = .returned (.slice (some ⟨g, 0, none⟩) n cp) ∧ w'.ownsRow w.heap.size 5 1 (.slice (some ⟨g, 0, none⟩) n cp) n ((le n v).map (Value.int .u8)) ∧ Below w.heap.size w w' := by
  subst hx hy
  exact put_pos v n w hv hn h0
theorem held_next {w0 w w' : World} (h : Below w0.heap.size w0 w) (h2 : Below w.heap.size w w') : Below w0.heap.size w0 w' := h.trans (h2.mono h.size)
theorem held_alloc {w0 w : World} (h : Below w0.heap.size w0 w) (o : Obj) : Below w0.heap.size w0 (w.alloc o) := h.alloc h.size o
theorem held_drew {B : Nat} {w0 w : World} (h : Below B w0 w) : Below B w0 w.drew := h.drew
theorem rootBytes_pos (s : Int) (ds : List Int) (p q : Int) (w : World) (hd : ds.length = 12) (hs : 0 ≤ s ∧ s ≤ 262144) (hp : ∀ z ∈ ds ++ [p, q], 0 ≤ z ∧ z < 2048) :
    Calls Tryz.prog 70 #[.agg (cellsI (rootI s ds p q))] w fun e w' => ∃ g cp, e = .returned (.slice (some ⟨g, 0, none⟩) 64 cp) ∧ w'.ownsRow w.heap.size 5 1 (.slice (some ⟨g, 0, none⟩) 64 cp) 64 ((bytesR s ds p q).map (Value.int .u8)) ∧ Below w.heap.size w w' := by
  refine (rootBytes_any s ds p q w hd hs hp).mono ?_
  rintro e w' ⟨v', rfl, ho, hb⟩
  rcases ho.2 with ⟨rfl, hn0⟩ | ⟨g, cap, cur, rfl, _⟩
  · omega
  · exact ⟨g, cap, rfl, ho, hb⟩
theorem le2 (n : Nat) (h : n < 256) : le 2 n = le 1 n ++ List.replicate 1 0 := by
  have h1 : n / 256 % 256 = 0 := by omega
  simp [le, h1]
theorem bytesIno_join (a0 a1 a2 a3 a4 a5 a6 a7 a8 : Nat) (s : Int) (ds : List Int) (p q : Int) (hd : ds.length = 12) (h0 : a0 < 256) :
    (([le 2 a0, le 2 a1, le 2 a2, le 2 a3, le 2 a4, le 2 0, le 4 a5, le 8 a6, le 8 a7, le 8 a8, bytesR s ds p q] : List (List Int)).flatten ++ List.replicate (128 - ([le 2 a0, le 2 a1, le 2 a2, le 2 a3, le 2 a4, le 2 0, le 4 a5, le 8 a6, le 8 a7, le 8 a8, bytesR s ds p q] : List (List Int)).flatten.length) 0) = bytesIno a0 a1 a2 a3 a4 a5 a6 a7 a8 s ds p q := by
  have hl : ([le 2 a0, le 2 a1, le 2 a2, le 2 a3, le 2 a4, le 2 0, le 4 a5, le 8 a6, le 8 a7, le 8 a8, bytesR s ds p q] : List (List Int)).flatten.length = 104 := by
    simp only [List.flatten_cons, List.flatten_nil, List.length_append, le_len, bytesR_len s ds p q hd, List.length_nil]
  rw [hl]
  unfold bytesIno
  rw [le2 a0 h0, show le 2 0 = List.replicate 2 0 from rfl]
  simp only [List.flatten_cons, List.flatten_nil, List.append_nil, List.append_assoc]

theorem parts_len (a0 a1 a2 a3 a4 a5 a6 a7 a8 : Nat) (s : Int) (ds : List Int) (p q : Int) (hd : ds.length = 12) : ([le 2 a0, le 2 a1, le 2 a2, le 2 a3, le 2 a4, le 2 0, le 4 a5, le 8 a6, le 8 a7, le 8 a8, bytesR s ds p q] : List (List Int)).flatten.length = 104 := by
  simp only [List.flatten_cons, List.flatten_nil, List.length_append, le_len, bytesR_len s ds p q hd, List.length_nil]
theorem parts_pos (a0 a1 a2 a3 a4 a5 a6 a7 a8 : Nat) (s : Int) (ds : List Int) (p q : Int) (hd : ds.length = 12) : ∀ b ∈ ([le 2 a0, le 2 a1, le 2 a2, le 2 a3, le 2 a4, le 2 0, le 4 a5, le 8 a6, le 8 a7, le 8 a8, bytesR s ds p q] : List (List Int)), 0 < b.length := by
  intro b hb
  simp only [List.mem_cons, List.not_mem_nil, or_false] at hb
  rcases hb with rfl | rfl | rfl | rfl | rfl | rfl | rfl | rfl | rfl | rfl | rfl
  all_goals first | (rw [le_len]; omega) | (rw [bytesR_len s ds p q hd]; omega)

set_option maxRecDepth 100000 in
set_option maxHeartbeats 4000000 in
theorem inodeBytes_any (a0 a1 a2 a3 a4 a5 a6 a7 a8 : Nat) (s d0 d1 d2 d3 d4 d5 d6 d7 d8 d9 d10 d11 p q : Int) (w : World) (h0 : a0 < 256) (h1 : a1 < 65536) (h2 : a2 < 65536) (h3 : a3 < 65536) (h4 : a4 < 65536) (h5 : a5 < 4294967296) (h6 : a6 < 281474976710656) (h7 : a7 < 281474976710656) (h8 : a8 < 281474976710656) (hs : 0 ≤ s ∧ s ≤ 262144) (hp : ∀ z ∈ [d0, d1, d2, d3, d4, d5, d6, d7, d8, d9, d10, d11] ++ [p, q], 0 ≤ z ∧ z < 2048) :
    Calls Tryz.prog 40 #[.agg (cellsI (inoI [(a0 : Int), (a1 : Int), (a2 : Int), (a3 : Int), (a4 : Int), (a5 : Int), (a6 : Int), (a7 : Int), (a8 : Int)] s [d0, d1, d2, d3, d4, d5, d6, d7, d8, d9, d10, d11] p q))] w fun e w' => ∃ v', e = .returned v' ∧ w'.ownsRow w.heap.size 5 1 v' 128 ((bytesIno a0 a1 a2 a3 a4 a5 a6 a7 a8 s [d0, d1, d2, d3, d4, d5, d6, d7, d8, d9, d10, d11] p q).map (Value.int .u8)) ∧ Below w.heap.size w w' := by
  have HSP := hide (And.intro hs hp)
  obtain ⟨W, hW⟩ : ∃ W, W = w.alloc (.cells (cellsI (inoI [(a0 : Int), (a1 : Int), (a2 : Int), (a3 : Int), (a4 : Int), (a5 : Int), (a6 : Int), (a7 : Int), (a8 : Int)] s [d0, d1, d2, d3, d4, d5, d6, d7, d8, d9, d10, d11] p q)) 83) := ⟨_, rfl⟩
  have K0 := hide (show Blk W w.heap.size (cellsI (inoI [(a0 : Int), (a1 : Int), (a2 : Int), (a3 : Int), (a4 : Int), (a5 : Int), (a6 : Int), (a7 : Int), (a8 : Int)] s [d0, d1, d2, d3, d4, d5, d6, d7, d8, d9, d10, d11] p q)) 83 ∧ Below w.heap.size w W from by rw [hW]; exact ⟨Blk.new w _ _, (Below.refl _ _).alloc (Nat.le_refl _) _⟩)
  have S0 : Below W.heap.size W W := Below.refl _ _
  have c0 : ∀ w', Below W.heap.size W w' → w'.cell? ⟨w.heap.size, 0, none⟩ = some (.int .i64 (a0 : Int)) := fun w' h => (h.cell (p := ⟨w.heap.size, 0, none⟩) K0.out.1.lt).trans ((K0.out.1.cell 0).trans rfl)
  have c1 : ∀ w', Below W.heap.size W w' → w'.cell? ⟨w.heap.size, 1, none⟩ = some (.int .i64 (a1 : Int)) := fun w' h => (h.cell (p := ⟨w.heap.size, 1, none⟩) K0.out.1.lt).trans ((K0.out.1.cell 1).trans rfl)
  have c2 : ∀ w', Below W.heap.size W w' → w'.cell? ⟨w.heap.size, 2, none⟩ = some (.int .i64 (a2 : Int)) := fun w' h => (h.cell (p := ⟨w.heap.size, 2, none⟩) K0.out.1.lt).trans ((K0.out.1.cell 2).trans rfl)
  have c3 : ∀ w', Below W.heap.size W w' → w'.cell? ⟨w.heap.size, 3, none⟩ = some (.int .i64 (a3 : Int)) := fun w' h => (h.cell (p := ⟨w.heap.size, 3, none⟩) K0.out.1.lt).trans ((K0.out.1.cell 3).trans rfl)
  have c4 : ∀ w', Below W.heap.size W w' → w'.cell? ⟨w.heap.size, 4, none⟩ = some (.int .i64 (a4 : Int)) := fun w' h => (h.cell (p := ⟨w.heap.size, 4, none⟩) K0.out.1.lt).trans ((K0.out.1.cell 4).trans rfl)
  have c5 : ∀ w', Below W.heap.size W w' → w'.cell? ⟨w.heap.size, 5, none⟩ = some (.int .i64 (a5 : Int)) := fun w' h => (h.cell (p := ⟨w.heap.size, 5, none⟩) K0.out.1.lt).trans ((K0.out.1.cell 5).trans rfl)
  have c6 : ∀ w', Below W.heap.size W w' → w'.cell? ⟨w.heap.size, 6, none⟩ = some (.int .i64 (a6 : Int)) := fun w' h => (h.cell (p := ⟨w.heap.size, 6, none⟩) K0.out.1.lt).trans ((K0.out.1.cell 6).trans rfl)
  have c7 : ∀ w', Below W.heap.size W w' → w'.cell? ⟨w.heap.size, 7, none⟩ = some (.int .i64 (a7 : Int)) := fun w' h => (h.cell (p := ⟨w.heap.size, 7, none⟩) K0.out.1.lt).trans ((K0.out.1.cell 7).trans rfl)
  have c8 : ∀ w', Below W.heap.size W w' → w'.cell? ⟨w.heap.size, 8, none⟩ = some (.int .i64 (a8 : Int)) := fun w' h => (h.cell (p := ⟨w.heap.size, 8, none⟩) K0.out.1.lt).trans ((K0.out.1.cell 8).trans rfl)
  have c9 : ∀ w', Below W.heap.size W w' → w'.cell? ⟨w.heap.size, 9, none⟩ = some (.int .i64 s) := fun w' h => (h.cell (p := ⟨w.heap.size, 9, none⟩) K0.out.1.lt).trans ((K0.out.1.cell 9).trans rfl)
  have c10 : ∀ w', Below W.heap.size W w' → w'.cell? ⟨w.heap.size, 10, none⟩ = some (.int .i64 d0) := fun w' h => (h.cell (p := ⟨w.heap.size, 10, none⟩) K0.out.1.lt).trans ((K0.out.1.cell 10).trans rfl)
  have c11 : ∀ w', Below W.heap.size W w' → w'.cell? ⟨w.heap.size, 11, none⟩ = some (.int .i64 d1) := fun w' h => (h.cell (p := ⟨w.heap.size, 11, none⟩) K0.out.1.lt).trans ((K0.out.1.cell 11).trans rfl)
  have c12 : ∀ w', Below W.heap.size W w' → w'.cell? ⟨w.heap.size, 12, none⟩ = some (.int .i64 d2) := fun w' h => (h.cell (p := ⟨w.heap.size, 12, none⟩) K0.out.1.lt).trans ((K0.out.1.cell 12).trans rfl)
  have c13 : ∀ w', Below W.heap.size W w' → w'.cell? ⟨w.heap.size, 13, none⟩ = some (.int .i64 d3) := fun w' h => (h.cell (p := ⟨w.heap.size, 13, none⟩) K0.out.1.lt).trans ((K0.out.1.cell 13).trans rfl)
  have c14 : ∀ w', Below W.heap.size W w' → w'.cell? ⟨w.heap.size, 14, none⟩ = some (.int .i64 d4) := fun w' h => (h.cell (p := ⟨w.heap.size, 14, none⟩) K0.out.1.lt).trans ((K0.out.1.cell 14).trans rfl)
  have c15 : ∀ w', Below W.heap.size W w' → w'.cell? ⟨w.heap.size, 15, none⟩ = some (.int .i64 d5) := fun w' h => (h.cell (p := ⟨w.heap.size, 15, none⟩) K0.out.1.lt).trans ((K0.out.1.cell 15).trans rfl)
  have c16 : ∀ w', Below W.heap.size W w' → w'.cell? ⟨w.heap.size, 16, none⟩ = some (.int .i64 d6) := fun w' h => (h.cell (p := ⟨w.heap.size, 16, none⟩) K0.out.1.lt).trans ((K0.out.1.cell 16).trans rfl)
  have c17 : ∀ w', Below W.heap.size W w' → w'.cell? ⟨w.heap.size, 17, none⟩ = some (.int .i64 d7) := fun w' h => (h.cell (p := ⟨w.heap.size, 17, none⟩) K0.out.1.lt).trans ((K0.out.1.cell 17).trans rfl)
  have c18 : ∀ w', Below W.heap.size W w' → w'.cell? ⟨w.heap.size, 18, none⟩ = some (.int .i64 d8) := fun w' h => (h.cell (p := ⟨w.heap.size, 18, none⟩) K0.out.1.lt).trans ((K0.out.1.cell 18).trans rfl)
  have c19 : ∀ w', Below W.heap.size W w' → w'.cell? ⟨w.heap.size, 19, none⟩ = some (.int .i64 d9) := fun w' h => (h.cell (p := ⟨w.heap.size, 19, none⟩) K0.out.1.lt).trans ((K0.out.1.cell 19).trans rfl)
  have c20 : ∀ w', Below W.heap.size W w' → w'.cell? ⟨w.heap.size, 20, none⟩ = some (.int .i64 d10) := fun w' h => (h.cell (p := ⟨w.heap.size, 20, none⟩) K0.out.1.lt).trans ((K0.out.1.cell 20).trans rfl)
  have c21 : ∀ w', Below W.heap.size W w' → w'.cell? ⟨w.heap.size, 21, none⟩ = some (.int .i64 d11) := fun w' h => (h.cell (p := ⟨w.heap.size, 21, none⟩) K0.out.1.lt).trans ((K0.out.1.cell 21).trans rfl)
  have c22 : ∀ w', Below W.heap.size W w' → w'.cell? ⟨w.heap.size, 22, none⟩ = some (.int .i64 p) := fun w' h => (h.cell (p := ⟨w.heap.size, 22, none⟩) K0.out.1.lt).trans ((K0.out.1.cell 22).trans rfl)
  have c23 : ∀ w', Below W.heap.size W w' → w'.cell? ⟨w.heap.size, 23, none⟩ = some (.int .i64 q) := fun w' h => (h.cell (p := ⟨w.heap.size, 23, none⟩) K0.out.1.lt).trans ((K0.out.1.cell 23).trans rfl)
  have HW := hide hW
  clear hs hp hW
  go_enter Tryz.func40, Tryz.ntmps40
  go_wp2
  rw [← HW.out]
  go_region_held3 (fun w' => Below W.heap.size W w') (first | assumption | exact held_drew (by assumption) | exact held_alloc (by assumption) _) (first
    | (go_at_call 69; refine (put_eq _ _ a0 2 _ (by with_reducible rfl) (by rfl) (by omega) (by omega) (by omega)).mono ?_; rintro e w0 ⟨g0, cp0, rfl, o0, b0⟩; have S1 := held_next (w0 := W) (by assumption) b0; have R0 := hide (AllRd.next (show AllRd _ [] [] from trivial) o0 b0); clear o0 b0)
    | (go_at_call 69; refine (put_eq _ _ a1 2 _ (by with_reducible rfl) (by rfl) (by omega) (by omega) (by omega)).mono ?_; rintro e w1 ⟨g1, cp1, rfl, o1, b1⟩; have S2 := held_next (w0 := W) (by assumption) b1; have R1 := hide (AllRd.next R0.out o1 b1); clear o1 b1)
    | (go_at_call 69; refine (put_eq _ _ a2 2 _ (by with_reducible rfl) (by rfl) (by omega) (by omega) (by omega)).mono ?_; rintro e w2 ⟨g2, cp2, rfl, o2, b2⟩; have S3 := held_next (w0 := W) (by assumption) b2; have R2 := hide (AllRd.next R1.out o2 b2); clear o2 b2)
    | (go_at_call 69; refine (put_eq _ _ a3 2 _ (by with_reducible rfl) (by rfl) (by omega) (by omega) (by omega)).mono ?_; rintro e w3 ⟨g3, cp3, rfl, o3, b3⟩; have S4 := held_next (w0 := W) (by assumption) b3; have R3 := hide (AllRd.next R2.out o3 b3); clear o3 b3)
    | (go_at_call 69; refine (put_eq _ _ a4 2 _ (by with_reducible rfl) (by rfl) (by omega) (by omega) (by omega)).mono ?_; rintro e w4 ⟨g4, cp4, rfl, o4, b4⟩; have S5 := held_next (w0 := W) (by assumption) b4; have R4 := hide (AllRd.next R3.out o4 b4); clear o4 b4)
    | (go_at_call 69; refine (put_eq _ _ 0 2 _ (by rfl) (by rfl) (by omega) (by omega) (by omega)).mono ?_; rintro e w5 ⟨g5, cp5, rfl, o5, b5⟩; have S6 := held_next (w0 := W) (by assumption) b5; have R5 := hide (AllRd.next R4.out o5 b5); clear o5 b5)
    | (go_at_call 69; refine (put_eq _ _ a5 4 _ (by with_reducible rfl) (by rfl) (by omega) (by omega) (by omega)).mono ?_; rintro e w6 ⟨g6, cp6, rfl, o6, b6⟩; have S7 := held_next (w0 := W) (by assumption) b6; have R6 := hide (AllRd.next R5.out o6 b6); clear o6 b6)
    | (go_at_call 69; refine (put_eq _ _ a6 8 _ (by with_reducible rfl) (by rfl) (by omega) (by omega) (by omega)).mono ?_; rintro e w7 ⟨g7, cp7, rfl, o7, b7⟩; have S8 := held_next (w0 := W) (by assumption) b7; have R7 := hide (AllRd.next R6.out o7 b7); clear o7 b7)
    | (go_at_call 69; refine (put_eq _ _ a7 8 _ (by with_reducible rfl) (by rfl) (by omega) (by omega) (by omega)).mono ?_; rintro e w8 ⟨g8, cp8, rfl, o8, b8⟩; have S9 := held_next (w0 := W) (by assumption) b8; have R8 := hide (AllRd.next R7.out o8 b8); clear o8 b8)
    | (go_at_call 69; refine (put_eq _ _ a8 8 _ (by with_reducible rfl) (by rfl) (by omega) (by omega) (by omega)).mono ?_; rintro e w9 ⟨g9, cp9, rfl, o9, b9⟩; have S10 := held_next (w0 := W) (by assumption) b9; have R9 := hide (AllRd.next R8.out o9 b9); clear o9 b9)
    | (go_at_call 70; refine (rootBytes_pos s [d0, d1, d2, d3, d4, d5, d6, d7, d8, d9, d10, d11] p q _ rfl HSP.out.1 HSP.out.2).mono ?_; rintro e w10 ⟨g10, cp10, rfl, o10, b10⟩; have S11 := held_next (w0 := W) (by assumption) b10; have R10 := hide (AllRd.next R9.out o10 b10); clear o10 b10)
    | (go_at_call 68; refine (join_any w10.heap.size 11 11 [.slice (some ⟨g0, 0, none⟩) 2 cp0, .slice (some ⟨g1, 0, none⟩) 2 cp1, .slice (some ⟨g2, 0, none⟩) 2 cp2, .slice (some ⟨g3, 0, none⟩) 2 cp3, .slice (some ⟨g4, 0, none⟩) 2 cp4, .slice (some ⟨g5, 0, none⟩) 2 cp5, .slice (some ⟨g6, 0, none⟩) 4 cp6, .slice (some ⟨g7, 0, none⟩) 8 cp7, .slice (some ⟨g8, 0, none⟩) 8 cp8, .slice (some ⟨g9, 0, none⟩) 8 cp9, .slice (some ⟨g10, 0, none⟩) 64 cp10] [le 2 a0, le 2 a1, le 2 a2, le 2 a3, le 2 a4, le 2 0, le 4 a5, le 8 a6, le 8 a7, le 8 a8, bytesR s [d0, d1, d2, d3, d4, d5, d6, d7, d8, d9, d10, d11] p q] _ (fun j v h => by rw [cell_of_row _ _ j _ _ _ (heap_alloc_new w10 _), List.getElem?_toArray]; exact h) (AllRd.below ((Below.refl _ _).alloc (Nat.le_refl _) _) R10.out) rfl (by omega) (parts_pos a0 a1 a2 a3 a4 a5 a6 a7 a8 s [d0, d1, d2, d3, d4, d5, d6, d7, d8, d9, d10, d11] p q rfl) (by rw [parts_len a0 a1 a2 a3 a4 a5 a6 a7 a8 s [d0, d1, d2, d3, d4, d5, d6, d7, d8, d9, d10, d11] p q rfl]; omega) (by simp)).mono ?_; rintro e w12 ⟨v12, rfl, o12, b12⟩; have S12 := held_next (w0 := W) (by assumption) b12; have R12 := hide (Rd.own o12); clear o12 b12))
  have B12 := hide (K0.out.2.trans (S12.mono K0.out.2.size))
  clear c0 c1 c2 c3 c4 c5 c6 c7 c8 c9 c10 c11 c12 c13 c14 c15 c16 c17 c18 c19 c20 c21 c22 c23 S0 S1 S2 S3 S4 S5 S6 S7 S8 S9 S10 S11 S12
  go_wp2_with fail
  refine (fill_any v12 _ 128 _ R12.out (by rw [parts_len a0 a1 a2 a3 a4 a5 a6 a7 a8 s [d0, d1, d2, d3, d4, d5, d6, d7, d8, d9, d10, d11] p q rfl]; omega) (by rw [parts_len a0 a1 a2 a3 a4 a5 a6 a7 a8 s [d0, d1, d2, d3, d4, d5, d6, d7, d8, d9, d10, d11] p q rfl]; omega) (by omega)).mono ?_
  rintro e w13 ⟨v13, rfl, o13, b13⟩
  rw [bytesIno_join a0 a1 a2 a3 a4 a5 a6 a7 a8 s [d0, d1, d2, d3, d4, d5, d6, d7, d8, d9, d10, d11] p q rfl h0] at o13
  have H13 := hide (And.intro (own_mono o13 B12.out.size) (B12.out.trans (b13.mono B12.out.size)))
  clear o13 b13
  go_wp2
  go_ret
  exact ⟨_, rfl, H13.out.1, H13.out.2⟩
end Go.Proofs.YtnbfpmmpmblmmaaGreatDoor

namespace Go.Proofs.YtnbfpmmpmblmmaaGreatDoor
set_option linter.unusedVariables false
set_option linter.unusedSimpArgs false
open Go.RowKit

/-- What stands in the midst of the region: the frame's size, the slots that no operation writes, what holds of the world, what the values of those that came up are. -/
structure RInv (ops : Array Oper) (fs : List (Nat × Value)) (S : World → Prop) (V : Nat → Value → World → Prop) (m : Nat) (ds : List Deferred) (listed : Array Bool) (a : Act) (w : World) : Prop where
  sz : a.tmps.size = m
  df : a.defers = ds
  held : S w
  vals : ∀ i o d, ops[i]? = some o → listed.getD i false = true → o.dst = some d → V i (a.tmps.getD d undef) w
  fix : ∀ t v, (t, v) ∈ fs → a.tmps.getD t undef = v
  seen : ∀ i o, ops[i]? = some o → listed.getD i false = true → ∃ v, V i v w

theorem getD_put {a : Act} {d t : Nat} {v : Value} (hd : d < a.tmps.size) : (a.put (some d) v).tmps.getD t undef = if t = d then v else a.tmps.getD t undef := by
  simp only [Act.put, Array.getD_eq_getD_getElem?, Array.getElem?_setIfInBounds]
  by_cases h : d = t
  · subst h; simp [hd]
  · simp [h, Ne.symm h]
theorem listed_set {listed : Array Bool} {i j : Nat} (hi : i < listed.size) : (listed.setIfInBounds i true).getD j false = if j = i then true else listed.getD j false := by
  simp only [Array.getD_eq_getD_getElem?, Array.getElem?_setIfInBounds]
  by_cases h : i = j
  · subst h; simp [hi]
  · simp [h, Ne.symm h]
theorem count_set {listed : Array Bool} {i : Nat} (hi : i < listed.size) (h : listed.getD i true = false) : (listed.setIfInBounds i true).toList.count false + 1 = listed.toList.count false := by
  have hl : listed[i] = false := by simpa [hi] using h
  rw [Array.toList_setIfInBounds, List.count_set (by simpa using hi)]
  have hp : 0 < listed.toList.count false := List.count_pos_iff.2 (by rw [← hl]; exact Array.mem_toList_iff.2 (Array.getElem_mem hi))
  simp [hl]
  have : List.count false listed.toList = Array.count false listed := by simp
  omega

theorem ready_nil {ops : Array Oper} {listed : Array Bool} {md : Region.Mode} (hsz : listed.size = ops.size) (hord : ∀ (i : Nat) (o : Oper), ops[i]? = some o → ∀ e ∈ o.after, e.on < i) (h : Region.ready md ops listed = []) : ∀ i, i < ops.size → listed.getD i false = true := by
  intro i
  induction i using Nat.strongRecOn with
  | ind i ih =>
    intro hi
    cases e : listed.getD i false with
    | true => rfl
    | false =>
      exfalso
      have hm : i ∈ Region.ready md ops listed := by
        rw [mem_ready]
        refine ⟨?_, ops[i], Array.getElem?_eq_getElem hi, fun ed he _ => ih ed.on (hord i ops[i] (Array.getElem?_eq_getElem hi) ed he) ?_⟩
        · rw [Array.getD_eq_getD_getElem?, Array.getElem?_eq_getElem (by omega)] at e ⊢
          exact e
        · have := hord i ops[i] (Array.getElem?_eq_getElem hi) ed he
          omega
      rw [h] at hm
      cases hm

theorem wpAny_inv {P : Program} {ops : Array Oper} {Q : Exit → Act → World → Prop} (fs : List (Nat × Value)) (S : World → Prop) (V : Nat → Value → World → Prop) (m : Nat) (ds : List Deferred)
    (hord : ∀ (i : Nat) (o : Oper), ops[i]? = some o → ∀ e ∈ o.after, e.on < i)
    (hdst : ∀ (i j : Nat) (oi oj : Oper) (d : Nat), ops[i]? = some oi → ops[j]? = some oj → oi.dst = some d → oj.dst = some d → i = j)
    (hfix : ∀ (i : Nat) (o : Oper) (d : Nat), ops[i]? = some o → o.dst = some d → d < m ∧ ∀ v, (d, v) ∉ fs)
    (hstep : ∀ (i : Nat) (o : Oper) (listed : Array Bool) (a : Act) (w : World), ops[i]? = some o → (∀ e ∈ o.after, Region.binds .any e = true → listed.getD e.on false = true) → RInv ops fs S V m ds listed a w →
      Region.wanted o (yielded ops a.tmps) = true ∧ o.wp P a w (fun a' w' => ∃ v, a' = a.put o.dst v ∧ V i v w' ∧ S w' ∧ ∀ j u, V j u w → V j u w') Q)
    (hfin : ∀ listed a w, (∀ i, i < ops.size → listed.getD i false = true) → RInv ops fs S V m ds listed a w → Q .normal a w) :
    ∀ (fuel : Nat) (listed : Array Bool) (a : Act) (w : World), listed.size = ops.size → listed.toList.count false ≤ fuel → RInv ops fs S V m ds listed a w → wpAny P .any ops Q fuel listed a w
  | 0, listed, a, w, hsz, hc, hI => by
    have hall : ∀ i, i < ops.size → listed.getD i false = true := by
      intro i hi
      cases e : listed.getD i false with
      | true => rfl
      | false =>
        have : false ∈ listed.toList := by
          rw [Array.getD_eq_getD_getElem?, Array.getElem?_eq_getElem (by omega), Option.getD_some] at e
          rw [← e]; exact Array.mem_toList_iff.2 (Array.getElem_mem (by omega))
        have := List.count_pos_iff.2 this
        omega
    refine ⟨?_, hfin listed a w hall hI⟩
    cases e : Region.ready .any ops listed with
    | nil => rfl
    | cons j l =>
      have hj : j ∈ Region.ready .any ops listed := by rw [e]; simp
      obtain ⟨h0, o, ho, _⟩ := mem_ready.1 hj
      have hlt : j < ops.size := (Array.getElem?_eq_some_iff.1 ho).1
      have h1 := hall j hlt
      rw [Array.getD_eq_getD_getElem?, Array.getElem?_eq_getElem (by omega)] at h0 h1
      simp at h0 h1
      rw [h0] at h1
      cases h1
  | fuel + 1, listed, a, w, hsz, hc, hI => by
    refine ⟨fun h => hfin listed a w (ready_nil hsz hord h) hI, fun i hi => ?_⟩
    obtain ⟨h0, o, ho, hall⟩ := mem_ready.1 hi
    have hlt : i < ops.size := (Array.getElem?_eq_some_iff.1 ho).1
    have hs := hstep i o listed a w ho hall hI
    unfold wpOp
    simp only [ho, hs.1, if_true]
    refine .inl (Oper.wp_mono ?_ hs.2)
    rintro a' w' ⟨v, rfl, hv, hS, hk⟩
    have hcs := count_set (listed := listed) (i := i) (by omega) h0
    refine wpAny_inv fs S V m ds hord hdst hfix hstep hfin fuel _ _ _ (by simpa using hsz) (by omega) ?_
    cases hd : o.dst with
    | none =>
      refine ⟨hI.sz, hI.df, hS, fun j oj d hj hl hjd => ?_, hI.fix, fun j oj hj hl => ?_⟩
      · rw [listed_set (by omega)] at hl
        by_cases e : j = i
        · subst e
          rw [ho] at hj
          cases hj
          rw [hd] at hjd
          cases hjd
        · rw [if_neg e] at hl
          exact hk j _ (hI.vals j oj d hj hl hjd)
      · rw [listed_set (by omega)] at hl
        by_cases e : j = i
        · subst e
          exact ⟨v, hv⟩
        · rw [if_neg e] at hl
          obtain ⟨u, hu⟩ := hI.seen j oj hj hl
          exact ⟨u, hk j u hu⟩
    | some d0 =>
      have hf := hfix i o d0 ho hd
      have hd0 : d0 < a.tmps.size := by rw [hI.sz]; exact hf.1
      refine ⟨by simp [Act.put, hI.sz], by simpa [Act.put] using hI.df, hS, fun j oj d hj hl hjd => ?_, fun t u htu => ?_, fun j oj hj hl => ?_⟩
      · rw [listed_set (by omega)] at hl
        rw [getD_put hd0]
        by_cases e : j = i
        · subst e
          rw [ho] at hj
          cases hj
          rw [hd] at hjd
          cases hjd
          rw [if_pos rfl]
          exact hv
        · rw [if_neg e] at hl
          rw [if_neg (fun h => e (hdst j i oj o d hj ho hjd (by rw [hd, h])))]
          exact hk j _ (hI.vals j oj d hj hl hjd)
      · rw [getD_put hd0, if_neg (fun h : t = d0 => hf.2 u (by rw [← h]; exact htu))]
        exact hI.fix t u htu
      · rw [listed_set (by omega)] at hl
        by_cases e : j = i
        · subst e
          exact ⟨v, hv⟩
        · rw [if_neg e] at hl
          obtain ⟨u, hu⟩ := hI.seen j oj hj hl
          exact ⟨u, hk j u hu⟩

/-- The region's own order, looked at by program. -/
def rchk (ops : Array Oper) (m : Nat) (ks : List Nat) : Bool :=
  (List.range ops.size).all fun i => match ops[i]? with
    | none => true
    | some o => (o.after.toList.all fun e => decide (e.on < i)) && (match o.dst with
      | none => true
      | some d => decide (d < m) && !ks.contains d && (List.range i).all fun j => match ops[j]? with
        | none => true
        | some oj => !(oj.dst == some d))
theorem rchk_at {ops : Array Oper} {m : Nat} {ks : List Nat} (h : rchk ops m ks = true) {i : Nat} {o : Oper} (hi : ops[i]? = some o) :
    (∀ e ∈ o.after, e.on < i) ∧ ∀ d, o.dst = some d → d < m ∧ d ∉ ks ∧ ∀ j oj, j < i → ops[j]? = some oj → oj.dst ≠ some d := by
  have hlt : i < ops.size := (Array.getElem?_eq_some_iff.1 hi).1
  unfold rchk at h
  rw [List.all_eq_true] at h
  have h1 := h i (List.mem_range.2 hlt)
  simp only [hi, Bool.and_eq_true] at h1
  obtain ⟨ha, hb⟩ := h1
  refine ⟨fun e he => ?_, fun d hd => ?_⟩
  · rw [List.all_eq_true] at ha
    exact of_decide_eq_true (ha e (Array.mem_toList_iff.2 he))
  · simp only [hd, Bool.and_eq_true] at hb
    obtain ⟨⟨h2, h3⟩, h4⟩ := hb
    refine ⟨of_decide_eq_true h2, by simpa using h3, fun j oj hj hoj e => ?_⟩
    rw [List.all_eq_true] at h4
    have h5 := h4 j (List.mem_range.2 hj)
    simp only [hoj, e] at h5
    simp at h5
theorem wpAny_invB {P : Program} {ops : Array Oper} {Q : Exit → Act → World → Prop} (fs : List (Nat × Value)) (S : World → Prop) (V : Nat → Value → World → Prop) (m : Nat) (ds : List Deferred)
    (hB : rchk ops m (fs.map (·.1)) = true)
    (hstep : ∀ (i : Nat) (o : Oper) (listed : Array Bool) (a : Act) (w : World), ops[i]? = some o → (∀ e ∈ o.after, Region.binds .any e = true → listed.getD e.on false = true) → RInv ops fs S V m ds listed a w →
      Region.wanted o (yielded ops a.tmps) = true ∧ o.wp P a w (fun a' w' => ∃ v, a' = a.put o.dst v ∧ V i v w' ∧ S w' ∧ ∀ j u, V j u w → V j u w') Q)
    (hfin : ∀ listed a w, (∀ i, i < ops.size → listed.getD i false = true) → RInv ops fs S V m ds listed a w → Q .normal a w)
    (a : Act) (w : World) (hsz : a.tmps.size = m) (hdf : a.defers = ds) (hS : S w) (hf : ∀ t v, (t, v) ∈ fs → a.tmps.getD t undef = v) : wpAny P .any ops Q ops.size (Array.replicate ops.size false) a w := by
  refine wpAny_inv fs S V m ds (fun i o hi => (rchk_at hB hi).1) (fun i j oi oj d hi hj h1 h2 => ?_) (fun i o d hi hd => ?_) hstep hfin _ _ _ _ (by simp) ?_ ⟨hsz, hdf, hS, fun i o d _ hl _ => ?_, hf, fun i o _ hl => ?_⟩
  · rcases Nat.lt_trichotomy i j with h | h | h
    · exact absurd h1 (((rchk_at hB hj).2 d h2).2.2 i oi h hi)
    · exact h
    · exact absurd h2 (((rchk_at hB hi).2 d h1).2.2 j oj h hj)
  · have := (rchk_at hB hi).2 d hd
    exact ⟨this.1, fun v hv => this.2.1 (List.mem_map.2 ⟨_, hv, rfl⟩)⟩
  · rw [Array.toList_replicate, List.count_replicate]; simp
  · simp [Array.getD_eq_getD_getElem?, Array.getElem?_replicate] at hl
    split at hl <;> simp at hl
  · simp [Array.getD_eq_getD_getElem?, Array.getElem?_replicate] at hl
    split at hl <;> simp at hl
/-- The value of one that came up. -/
theorem RInv.at {ops : Array Oper} {fs : List (Nat × Value)} {S : World → Prop} {V : Nat → Value → World → Prop} {m : Nat} {ds : List Deferred} {listed : Array Bool} {a : Act} {w : World} {o oj : Oper} (h : RInv ops fs S V m ds listed a w)
    (hall : ∀ e ∈ o.after, Region.binds .any e = true → listed.getD e.on false = true) (j d : Nat) (hj : ops[j]? = some oj) (hd : oj.dst = some d) (ha : (o.after.toList.any fun e => e.on == j && Region.binds .any e) = true) : V j (a.tmps.getD d undef) w := by
  rw [List.any_eq_true] at ha
  obtain ⟨e, he, h2⟩ := ha
  rw [Bool.and_eq_true] at h2
  have h3 : e.on = j := by simpa using h2.1
  have h4 := hall e (Array.mem_toList_iff.1 he) h2.2
  rw [h3] at h4
  exact h.vals j oj d hj h4 hd
end Go.Proofs.YtnbfpmmpmblmmaaGreatDoor
