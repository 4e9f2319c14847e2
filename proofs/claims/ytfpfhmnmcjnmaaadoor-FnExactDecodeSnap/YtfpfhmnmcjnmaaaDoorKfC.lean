/- The model's bytes of an inode: l02InodeBytes. EncodeInode, of the program and of the model. Bytes that are an inode, read by the program and by the model: the same. -/
import Derived.Test.YtfpfhmnmcjnmaaaDoorInoE
import Derived.Test.YtfpfhmnmcjnmaaaDoorInoF
import Derived.Deep.RegionHeld3
import Derived.Test.YtfpfhmnmcjnmaaaDoorKfA
import Derived.Test.YtfpfhmnmcjnmaaaDoorKfB
namespace Go.Proofs.YtfpfhmnmcjnmaaaDoor
set_option linter.unusedVariables false
set_option linter.unusedSimpArgs false
open Go.RowKit

theorem put_eq (x y : Value) (v n : Nat) (w : World) (hx : x = .int .i64 (v : Int)) (hy : y = .int .i64 (n : Int)) (hv : v < 281474976710656) (hn : n ≤ 8) (h0 : 0 < n) :
    Calls Tryd.prog 46 #[x, y] w fun e w' => ∃ g cp, e = .returned (.slice (some ⟨g, 0, none⟩) n cp) ∧ w'.ownsRow w.heap.size 5 1 (.slice (some ⟨g, 0, none⟩) n cp) n ((le n v).map (Value.int .u8)) ∧ Below w.heap.size w w' := by
  subst hx hy
  exact put_pos v n w hv hn h0
theorem held_next {w0 w w' : World} (h : Below w0.heap.size w0 w) (h2 : Below w.heap.size w w') : Below w0.heap.size w0 w' := h.trans (h2.mono h.size)
theorem held_alloc {w0 w : World} (h : Below w0.heap.size w0 w) (o : Obj) : Below w0.heap.size w0 (w.alloc o) := h.alloc h.size o
theorem held_drew {B : Nat} {w0 w : World} (h : Below B w0 w) : Below B w0 w.drew := h.drew
theorem rootBytes_pos (s : Int) (ds : List Int) (p q : Int) (w : World) (hd : ds.length = 12) (hs : 0 ≤ s ∧ s ≤ 262144) (hp : ∀ z ∈ ds ++ [p, q], 0 ≤ z ∧ z < 2048) :
    Calls Tryd.prog 53 #[.agg (cellsI (rootI s ds p q))] w fun e w' => ∃ g cp, e = .returned (.slice (some ⟨g, 0, none⟩) 64 cp) ∧ w'.ownsRow w.heap.size 5 1 (.slice (some ⟨g, 0, none⟩) 64 cp) 64 ((bytesR s ds p q).map (Value.int .u8)) ∧ Below w.heap.size w w' := by
  refine (rootBytes_any s ds p q w hd hs hp).mono ?_
  rintro e w' ⟨v', rfl, ho, hb⟩
  rcases ho.2 with ⟨rfl, hn0⟩ | ⟨g, cap, cur, rfl, _⟩
  · omega
  · exact ⟨g, cap, rfl, ho, hb⟩
theorem le2 (n : Nat) (h : n < 256) : le 2 n = le 1 n ++ List.replicate 1 0 := by
  have h1 : n / 256 % 256 = 0 := by omega
  simp [le, h1]
theorem bytesIno_join (a0 a1 a2 a3 a4 a5 a6 a7 a8 : Nat) (s : Int) (ds : List Int) (p q : Int) (hd : ds.length = 12) (h0 : a0 < 256) :
    (([le 2 a0, le 2 a1, le 2 a2, le 2 a3, le 2 a4, le 2 0, le 4 a5, le 8 a6, le 8 a7, le 8 a8, bytesR s ds p q] : List (List Int)).flatten ++ List.replicate (128 - ([le 2 a0, le 2 a1, le 2 a2, le 2 a3, le 2 a4, le 2 0, le 4 a5, le 8 a6, le 8 a7, le 8 a8, bytesR s ds p q] : List (List Int)).flatten.length) 0) = bytesIno a0 a1 a2 a3 a4 a5 a6 a7 a8 s ds p q := by
  have hl : ([le 2 a0, le 2 a1, le 2 a2, le 2 a3, le 2 a4, le 2 0, le 4 a5, le 8 a6, le 8 a7, le 8 a8, bytesR s ds p q] : List (List Int)).flatten.length = 104 := by
    simp only [List.flatten_cons, List.flatten_nil, List.length_append, le_len, bytesR_len s ds p q hd, List.length_nil]
  rw [hl]
  unfold bytesIno
  rw [le2 a0 h0, show le 2 0 = List.replicate 2 0 from rfl]
  simp only [List.flatten_cons, List.flatten_nil, List.append_nil, List.append_assoc]

theorem parts_len (a0 a1 a2 a3 a4 a5 a6 a7 a8 : Nat) (s : Int) (ds : List Int) (p q : Int) (hd : ds.length = 12) : ([le 2 a0, le 2 a1, le 2 a2, le 2 a3, le 2 a4, le 2 0, le 4 a5, le 8 a6, le 8 a7, le 8 a8, bytesR s ds p q] : List (List Int)).flatten.length = 104 := by
  simp only [List.flatten_cons, List.flatten_nil, List.length_append, le_len, bytesR_len s ds p q hd, List.length_nil]
theorem parts_pos (a0 a1 a2 a3 a4 a5 a6 a7 a8 : Nat) (s : Int) (ds : List Int) (p q : Int) (hd : ds.length = 12) : ∀ b ∈ ([le 2 a0, le 2 a1, le 2 a2, le 2 a3, le 2 a4, le 2 0, le 4 a5, le 8 a6, le 8 a7, le 8 a8, bytesR s ds p q] : List (List Int)), 0 < b.length := by
  intro b hb
  simp only [List.mem_cons, List.not_mem_nil, or_false] at hb
  rcases hb with rfl | rfl | rfl | rfl | rfl | rfl | rfl | rfl | rfl | rfl | rfl
  all_goals first | (rw [le_len]; omega) | (rw [bytesR_len s ds p q hd]; omega)

set_option maxRecDepth 100000 in
set_option maxHeartbeats 4000000 in
theorem inodeBytes_any (a0 a1 a2 a3 a4 a5 a6 a7 a8 : Nat) (s d0 d1 d2 d3 d4 d5 d6 d7 d8 d9 d10 d11 p q : Int) (w : World) (h0 : a0 < 256) (h1 : a1 < 65536) (h2 : a2 < 65536) (h3 : a3 < 65536) (h4 : a4 < 65536) (h5 : a5 < 4294967296) (h6 : a6 < 281474976710656) (h7 : a7 < 281474976710656) (h8 : a8 < 281474976710656) (hs : 0 ≤ s ∧ s ≤ 262144) (hp : ∀ z ∈ [d0, d1, d2, d3, d4, d5, d6, d7, d8, d9, d10, d11] ++ [p, q], 0 ≤ z ∧ z < 2048) :
    Calls Tryd.prog 65 #[.agg (cellsI (inoI [(a0 : Int), (a1 : Int), (a2 : Int), (a3 : Int), (a4 : Int), (a5 : Int), (a6 : Int), (a7 : Int), (a8 : Int)] s [d0, d1, d2, d3, d4, d5, d6, d7, d8, d9, d10, d11] p q))] w fun e w' => ∃ v', e = .returned v' ∧ w'.ownsRow w.heap.size 5 1 v' 128 ((bytesIno a0 a1 a2 a3 a4 a5 a6 a7 a8 s [d0, d1, d2, d3, d4, d5, d6, d7, d8, d9, d10, d11] p q).map (Value.int .u8)) ∧ Below w.heap.size w w' := by
  have HSP := hide (And.intro hs hp)
  obtain ⟨W, hW⟩ : ∃ W, W = w.alloc (.cells (cellsI (inoI [(a0 : Int), (a1 : Int), (a2 : Int), (a3 : Int), (a4 : Int), (a5 : Int), (a6 : Int), (a7 : Int), (a8 : Int)] s [d0, d1, d2, d3, d4, d5, d6, d7, d8, d9, d10, d11] p q)) 48) := ⟨_, rfl⟩
  have K0 := hide (show Blk W w.heap.size (cellsI (inoI [(a0 : Int), (a1 : Int), (a2 : Int), (a3 : Int), (a4 : Int), (a5 : Int), (a6 : Int), (a7 : Int), (a8 : Int)] s [d0, d1, d2, d3, d4, d5, d6, d7, d8, d9, d10, d11] p q)) 48 ∧ Below w.heap.size w W from by rw [hW]; exact ⟨Blk.new w _ _, (Below.refl _ _).alloc (Nat.le_refl _) _⟩)
  have S0 : Below W.heap.size W W := Below.refl _ _
  have c0 : ∀ w', Below W.heap.size W w' → w'.cell? ⟨w.heap.size, 0, none⟩ = some (.int .i64 (a0 : Int)) := fun w' h => (h.cell (p := ⟨w.heap.size, 0, none⟩) K0.out.1.lt).trans ((K0.out.1.cell 0).trans rfl)
  have c1 : ∀ w', Below W.heap.size W w' → w'.cell? ⟨w.heap.size, 1, none⟩ = some (.int .i64 (a1 : Int)) := fun w' h => (h.cell (p := ⟨w.heap.size, 1, none⟩) K0.out.1.lt).trans ((K0.out.1.cell 1).trans rfl)
  have c2 : ∀ w', Below W.heap.size W w' → w'.cell? ⟨w.heap.size, 2, none⟩ = some (.int .i64 (a2 : Int)) := fun w' h => (h.cell (p := ⟨w.heap.size, 2, none⟩) K0.out.1.lt).trans ((K0.out.1.cell 2).trans rfl)
  have c3 : ∀ w', Below W.heap.size W w' → w'.cell? ⟨w.heap.size, 3, none⟩ = some (.int .i64 (a3 : Int)) := fun w' h => (h.cell (p := ⟨w.heap.size, 3, none⟩) K0.out.1.lt).trans ((K0.out.1.cell 3).trans rfl)
  have c4 : ∀ w', Below W.heap.size W w' → w'.cell? ⟨w.heap.size, 4, none⟩ = some (.int .i64 (a4 : Int)) := fun w' h => (h.cell (p := ⟨w.heap.size, 4, none⟩) K0.out.1.lt).trans ((K0.out.1.cell 4).trans rfl)
  have c5 : ∀ w', Below W.heap.size W w' → w'.cell? ⟨w.heap.size, 5, none⟩ = some (.int .i64 (a5 : Int)) := fun w' h => (h.cell (p := ⟨w.heap.size, 5, none⟩) K0.out.1.lt).trans ((K0.out.1.cell 5).trans rfl)
  have c6 : ∀ w', Below W.heap.size W w' → w'.cell? ⟨w.heap.size, 6, none⟩ = some (.int .i64 (a6 : Int)) := fun w' h => (h.cell (p := ⟨w.heap.size, 6, none⟩) K0.out.1.lt).trans ((K0.out.1.cell 6).trans rfl)
  have c7 : ∀ w', Below W.heap.size W w' → w'.cell? ⟨w.heap.size, 7, none⟩ = some (.int .i64 (a7 : Int)) := fun w' h => (h.cell (p := ⟨w.heap.size, 7, none⟩) K0.out.1.lt).trans ((K0.out.1.cell 7).trans rfl)
  have c8 : ∀ w', Below W.heap.size W w' → w'.cell? ⟨w.heap.size, 8, none⟩ = some (.int .i64 (a8 : Int)) := fun w' h => (h.cell (p := ⟨w.heap.size, 8, none⟩) K0.out.1.lt).trans ((K0.out.1.cell 8).trans rfl)
  have c9 : ∀ w', Below W.heap.size W w' → w'.cell? ⟨w.heap.size, 9, none⟩ = some (.int .i64 s) := fun w' h => (h.cell (p := ⟨w.heap.size, 9, none⟩) K0.out.1.lt).trans ((K0.out.1.cell 9).trans rfl)
  have c10 : ∀ w', Below W.heap.size W w' → w'.cell? ⟨w.heap.size, 10, none⟩ = some (.int .i64 d0) := fun w' h => (h.cell (p := ⟨w.heap.size, 10, none⟩) K0.out.1.lt).trans ((K0.out.1.cell 10).trans rfl)
  have c11 : ∀ w', Below W.heap.size W w' → w'.cell? ⟨w.heap.size, 11, none⟩ = some (.int .i64 d1) := fun w' h => (h.cell (p := ⟨w.heap.size, 11, none⟩) K0.out.1.lt).trans ((K0.out.1.cell 11).trans rfl)
  have c12 : ∀ w', Below W.heap.size W w' → w'.cell? ⟨w.heap.size, 12, none⟩ = some (.int .i64 d2) := fun w' h => (h.cell (p := ⟨w.heap.size, 12, none⟩) K0.out.1.lt).trans ((K0.out.1.cell 12).trans rfl)
  have c13 : ∀ w', Below W.heap.size W w' → w'.cell? ⟨w.heap.size, 13, none⟩ = some (.int .i64 d3) := fun w' h => (h.cell (p := ⟨w.heap.size, 13, none⟩) K0.out.1.lt).trans ((K0.out.1.cell 13).trans rfl)
  have c14 : ∀ w', Below W.heap.size W w' → w'.cell? ⟨w.heap.size, 14, none⟩ = some (.int .i64 d4) := fun w' h => (h.cell (p := ⟨w.heap.size, 14, none⟩) K0.out.1.lt).trans ((K0.out.1.cell 14).trans rfl)
  have c15 : ∀ w', Below W.heap.size W w' → w'.cell? ⟨w.heap.size, 15, none⟩ = some (.int .i64 d5) := fun w' h => (h.cell (p := ⟨w.heap.size, 15, none⟩) K0.out.1.lt).trans ((K0.out.1.cell 15).trans rfl)
  have c16 : ∀ w', Below W.heap.size W w' → w'.cell? ⟨w.heap.size, 16, none⟩ = some (.int .i64 d6) := fun w' h => (h.cell (p := ⟨w.heap.size, 16, none⟩) K0.out.1.lt).trans ((K0.out.1.cell 16).trans rfl)
  have c17 : ∀ w', Below W.heap.size W w' → w'.cell? ⟨w.heap.size, 17, none⟩ = some (.int .i64 d7) := fun w' h => (h.cell (p := ⟨w.heap.size, 17, none⟩) K0.out.1.lt).trans ((K0.out.1.cell 17).trans rfl)
  have c18 : ∀ w', Below W.heap.size W w' → w'.cell? ⟨w.heap.size, 18, none⟩ = some (.int .i64 d8) := fun w' h => (h.cell (p := ⟨w.heap.size, 18, none⟩) K0.out.1.lt).trans ((K0.out.1.cell 18).trans rfl)
  have c19 : ∀ w', Below W.heap.size W w' → w'.cell? ⟨w.heap.size, 19, none⟩ = some (.int .i64 d9) := fun w' h => (h.cell (p := ⟨w.heap.size, 19, none⟩) K0.out.1.lt).trans ((K0.out.1.cell 19).trans rfl)
  have c20 : ∀ w', Below W.heap.size W w' → w'.cell? ⟨w.heap.size, 20, none⟩ = some (.int .i64 d10) := fun w' h => (h.cell (p := ⟨w.heap.size, 20, none⟩) K0.out.1.lt).trans ((K0.out.1.cell 20).trans rfl)
  have c21 : ∀ w', Below W.heap.size W w' → w'.cell? ⟨w.heap.size, 21, none⟩ = some (.int .i64 d11) := fun w' h => (h.cell (p := ⟨w.heap.size, 21, none⟩) K0.out.1.lt).trans ((K0.out.1.cell 21).trans rfl)
  have c22 : ∀ w', Below W.heap.size W w' → w'.cell? ⟨w.heap.size, 22, none⟩ = some (.int .i64 p) := fun w' h => (h.cell (p := ⟨w.heap.size, 22, none⟩) K0.out.1.lt).trans ((K0.out.1.cell 22).trans rfl)
  have c23 : ∀ w', Below W.heap.size W w' → w'.cell? ⟨w.heap.size, 23, none⟩ = some (.int .i64 q) := fun w' h => (h.cell (p := ⟨w.heap.size, 23, none⟩) K0.out.1.lt).trans ((K0.out.1.cell 23).trans rfl)
  have HW := hide hW
  clear hs hp hW
  go_enter Tryd.func65, Tryd.ntmps65
  go_wp2
  rw [← HW.out]
  go_region_held3 (fun w' => Below W.heap.size W w') (first | assumption | exact held_drew (by assumption) | exact held_alloc (by assumption) _) (first
    | (go_at_call 46; refine (put_eq _ _ a0 2 _ (by with_reducible rfl) (by rfl) (by omega) (by omega) (by omega)).mono ?_; rintro e w0 ⟨g0, cp0, rfl, o0, b0⟩; have S1 := held_next (w0 := W) (by assumption) b0; have R0 := hide (AllRd.next (show AllRd _ [] [] from trivial) o0 b0); clear o0 b0)
    | (go_at_call 46; refine (put_eq _ _ a1 2 _ (by with_reducible rfl) (by rfl) (by omega) (by omega) (by omega)).mono ?_; rintro e w1 ⟨g1, cp1, rfl, o1, b1⟩; have S2 := held_next (w0 := W) (by assumption) b1; have R1 := hide (AllRd.next R0.out o1 b1); clear o1 b1)
    | (go_at_call 46; refine (put_eq _ _ a2 2 _ (by with_reducible rfl) (by rfl) (by omega) (by omega) (by omega)).mono ?_; rintro e w2 ⟨g2, cp2, rfl, o2, b2⟩; have S3 := held_next (w0 := W) (by assumption) b2; have R2 := hide (AllRd.next R1.out o2 b2); clear o2 b2)
    | (go_at_call 46; refine (put_eq _ _ a3 2 _ (by with_reducible rfl) (by rfl) (by omega) (by omega) (by omega)).mono ?_; rintro e w3 ⟨g3, cp3, rfl, o3, b3⟩; have S4 := held_next (w0 := W) (by assumption) b3; have R3 := hide (AllRd.next R2.out o3 b3); clear o3 b3)
    | (go_at_call 46; refine (put_eq _ _ a4 2 _ (by with_reducible rfl) (by rfl) (by omega) (by omega) (by omega)).mono ?_; rintro e w4 ⟨g4, cp4, rfl, o4, b4⟩; have S5 := held_next (w0 := W) (by assumption) b4; have R4 := hide (AllRd.next R3.out o4 b4); clear o4 b4)
    | (go_at_call 46; refine (put_eq _ _ 0 2 _ (by rfl) (by rfl) (by omega) (by omega) (by omega)).mono ?_; rintro e w5 ⟨g5, cp5, rfl, o5, b5⟩; have S6 := held_next (w0 := W) (by assumption) b5; have R5 := hide (AllRd.next R4.out o5 b5); clear o5 b5)
    | (go_at_call 46; refine (put_eq _ _ a5 4 _ (by with_reducible rfl) (by rfl) (by omega) (by omega) (by omega)).mono ?_; rintro e w6 ⟨g6, cp6, rfl, o6, b6⟩; have S7 := held_next (w0 := W) (by assumption) b6; have R6 := hide (AllRd.next R5.out o6 b6); clear o6 b6)
    | (go_at_call 46; refine (put_eq _ _ a6 8 _ (by with_reducible rfl) (by rfl) (by omega) (by omega) (by omega)).mono ?_; rintro e w7 ⟨g7, cp7, rfl, o7, b7⟩; have S8 := held_next (w0 := W) (by assumption) b7; have R7 := hide (AllRd.next R6.out o7 b7); clear o7 b7)
    | (go_at_call 46; refine (put_eq _ _ a7 8 _ (by with_reducible rfl) (by rfl) (by omega) (by omega) (by omega)).mono ?_; rintro e w8 ⟨g8, cp8, rfl, o8, b8⟩; have S9 := held_next (w0 := W) (by assumption) b8; have R8 := hide (AllRd.next R7.out o8 b8); clear o8 b8)
    | (go_at_call 46; refine (put_eq _ _ a8 8 _ (by with_reducible rfl) (by rfl) (by omega) (by omega) (by omega)).mono ?_; rintro e w9 ⟨g9, cp9, rfl, o9, b9⟩; have S10 := held_next (w0 := W) (by assumption) b9; have R9 := hide (AllRd.next R8.out o9 b9); clear o9 b9)
    | (go_at_call 53; refine (rootBytes_pos s [d0, d1, d2, d3, d4, d5, d6, d7, d8, d9, d10, d11] p q _ rfl HSP.out.1 HSP.out.2).mono ?_; rintro e w10 ⟨g10, cp10, rfl, o10, b10⟩; have S11 := held_next (w0 := W) (by assumption) b10; have R10 := hide (AllRd.next R9.out o10 b10); clear o10 b10)
    | (go_at_call 72; refine (join_any w10.heap.size 11 11 [.slice (some ⟨g0, 0, none⟩) 2 cp0, .slice (some ⟨g1, 0, none⟩) 2 cp1, .slice (some ⟨g2, 0, none⟩) 2 cp2, .slice (some ⟨g3, 0, none⟩) 2 cp3, .slice (some ⟨g4, 0, none⟩) 2 cp4, .slice (some ⟨g5, 0, none⟩) 2 cp5, .slice (some ⟨g6, 0, none⟩) 4 cp6, .slice (some ⟨g7, 0, none⟩) 8 cp7, .slice (some ⟨g8, 0, none⟩) 8 cp8, .slice (some ⟨g9, 0, none⟩) 8 cp9, .slice (some ⟨g10, 0, none⟩) 64 cp10] [le 2 a0, le 2 a1, le 2 a2, le 2 a3, le 2 a4, le 2 0, le 4 a5, le 8 a6, le 8 a7, le 8 a8, bytesR s [d0, d1, d2, d3, d4, d5, d6, d7, d8, d9, d10, d11] p q] _ (fun j v h => by rw [cell_of_row _ _ j _ _ _ (heap_alloc_new w10 _), List.getElem?_toArray]; exact h) (AllRd.below ((Below.refl _ _).alloc (Nat.le_refl _) _) R10.out) rfl (by omega) (parts_pos a0 a1 a2 a3 a4 a5 a6 a7 a8 s [d0, d1, d2, d3, d4, d5, d6, d7, d8, d9, d10, d11] p q rfl) (by rw [parts_len a0 a1 a2 a3 a4 a5 a6 a7 a8 s [d0, d1, d2, d3, d4, d5, d6, d7, d8, d9, d10, d11] p q rfl]; omega) (by simp)).mono ?_; rintro e w12 ⟨v12, rfl, o12, b12⟩; have S12 := held_next (w0 := W) (by assumption) b12; have R12 := hide (Rd.own o12); clear o12 b12))
  have B12 := hide (K0.out.2.trans (S12.mono K0.out.2.size))
  clear c0 c1 c2 c3 c4 c5 c6 c7 c8 c9 c10 c11 c12 c13 c14 c15 c16 c17 c18 c19 c20 c21 c22 c23 S0 S1 S2 S3 S4 S5 S6 S7 S8 S9 S10 S11 S12
  go_wp2_with fail
  refine (fill_any v12 _ 128 _ R12.out (by rw [parts_len a0 a1 a2 a3 a4 a5 a6 a7 a8 s [d0, d1, d2, d3, d4, d5, d6, d7, d8, d9, d10, d11] p q rfl]; omega) (by rw [parts_len a0 a1 a2 a3 a4 a5 a6 a7 a8 s [d0, d1, d2, d3, d4, d5, d6, d7, d8, d9, d10, d11] p q rfl]; omega) (by omega)).mono ?_
  rintro e w13 ⟨v13, rfl, o13, b13⟩
  rw [bytesIno_join a0 a1 a2 a3 a4 a5 a6 a7 a8 s [d0, d1, d2, d3, d4, d5, d6, d7, d8, d9, d10, d11] p q rfl h0] at o13
  have H13 := hide (And.intro (own_mono o13 B12.out.size) (B12.out.trans (b13.mono B12.out.size)))
  clear o13 b13
  go_wp2
  go_ret
  exact ⟨_, rfl, H13.out.1, H13.out.2⟩
end Go.Proofs.YtfpfhmnmcjnmaaaDoor

namespace Go.Proofs.YtfpfhmnmcjnmaaaDoor
set_option linter.unusedVariables false
set_option linter.unusedSimpArgs false
open Go.RowKit

def encI (k0 k1 k2 k3 k4 k5 k6 k7 k8 s : Int) (ds : List Int) (p q : Int) : List Int := if rightIno k0 k1 k2 k3 k4 k5 k6 k7 k8 s ds p q = true then bytesIno k0.toNat k1.toNat k2.toNat k3.toNat k4.toNat k5.toNat k6.toNat k7.toNat k8.toNat s ds p q else []
def codeI (k0 k1 k2 k3 k4 k5 k6 k7 k8 s : Int) (ds : List Int) (p q : Int) : Int := if rightIno k0 k1 k2 k3 k4 k5 k6 k7 k8 s ds p q = true then 0 else 7
theorem encI_len (k0 k1 k2 k3 k4 k5 k6 k7 k8 s : Int) (ds : List Int) (p q : Int) (hd : ds.length = 12) : (encI k0 k1 k2 k3 k4 k5 k6 k7 k8 s ds p q).length ≤ 128 := by
  unfold encI
  split
  · rw [bytesIno_len _ _ _ _ _ _ _ _ _ s ds p q hd]; omega
  · simp
theorem ino_bd {k0 k1 k2 k3 k4 k5 k6 k7 k8 s : Int} {ds : List Int} {p q : Int} (hd : ds.length = 12) (h : rightIno k0 k1 k2 k3 k4 k5 k6 k7 k8 s ds p q = true) :
    (0 ≤ k0 ∧ k0 < 256) ∧ (0 ≤ k1 ∧ k1 < 65536) ∧ (0 ≤ k2 ∧ k2 < 65536) ∧ (0 ≤ k3 ∧ k3 < 65536) ∧ (0 ≤ k4 ∧ k4 < 65536) ∧ (0 ≤ k5 ∧ k5 < 4294967296) ∧ (0 ≤ k6 ∧ k6 < 281474976710656) ∧ (0 ≤ k7 ∧ k7 < 281474976710656) ∧ (0 ≤ k8 ∧ k8 < 281474976710656) ∧ (0 ≤ s ∧ s ≤ 262144) ∧ ∀ z ∈ ds ++ [p, q], 0 ≤ z ∧ z < 2048 := by
  unfold rightIno at h
  rw [Bool.or_eq_true] at h
  rcases h with h | h
  · rw [zeroB_iff] at h
    have hz : ∀ x ∈ inoI [k0, k1, k2, k3, k4, k5, k6, k7, k8] s ds p q, x = 0 := h
    have e0 := hz k0 (by simp [inoI])
    have e1 := hz k1 (by simp [inoI])
    have e2 := hz k2 (by simp [inoI])
    have e3 := hz k3 (by simp [inoI])
    have e4 := hz k4 (by simp [inoI])
    have e5 := hz k5 (by simp [inoI])
    have e6 := hz k6 (by simp [inoI])
    have e7 := hz k7 (by simp [inoI])
    have e8 := hz k8 (by simp [inoI])
    have es := hz s (by simp [inoI, rootI])
    refine ⟨by omega, by omega, by omega, by omega, by omega, by omega, by omega, by omega, by omega, by omega, fun z hm => ?_⟩
    have ez := hz z (by unfold inoI rootI; exact List.mem_append_right _ (List.mem_cons_of_mem _ hm))
    omega
  · rw [Bool.and_eq_true] at h
    have hb := right_bd hd h.2
    have hf := h.1
    unfold fieldsB at hf
    simp only [Bool.and_eq_true] at hf
    obtain ⟨⟨⟨⟨⟨⟨⟨⟨f0, f1⟩, f2⟩, f3⟩, f4⟩, f5⟩, f6⟩, f7⟩, f8⟩ := hf
    have g0 := wi_true f0
    have g1 := wi_true f1
    have g2 := wi_true f2
    have g3 := wi_true f3
    have g4 := wi_true f4
    have g6 := wi_true f6
    have g7 := wi_true f7
    have g8 := wi_true f8
    have g5 : 0 ≤ k5 ∧ k5 ≤ 1000 := by
      unfold parB at f5
      split at f5
      · have := wi_true f5; omega
      · simp at f5; omega
    exact ⟨by omega, by omega, by omega, by omega, by omega, by omega, by omega, by omega, by omega, hb.1, hb.2⟩

set_option maxRecDepth 100000 in
set_option maxHeartbeats 1000000 in
theorem specI_false (k0 k1 k2 k3 k4 k5 k6 k7 k8 s : Int) (ds : List Int) (p q : Int) (w : World) (hd : ds.length = 12) (hr : rightIno k0 k1 k2 k3 k4 k5 k6 k7 k8 s ds p q = false) :
    Calls Tryd.prog 27 #[.agg (cellsI (inoI [k0, k1, k2, k3, k4, k5, k6, k7, k8] s ds p q))] w fun e w' => e = .returned (.tuple #[.slice none 0 0, .int .i64 7]) ∧ Below w.heap.size w w' := by
  have HR := hide hr
  have HD := hide hd
  have HZ := hide (show (cellsI (inoI [k0, k1, k2, k3, k4, k5, k6, k7, k8] s ds p q)).size = 24 from by rw [cellsI_size]; exact inoI_len _ _ _ _ _ rfl HD.out)
  have K0 := hide (And.intro (Blk.new w (cellsI (inoI [k0, k1, k2, k3, k4, k5, k6, k7, k8] s ds p q)) 48) (show Below w.heap.size w (w.alloc (.cells (cellsI (inoI [k0, k1, k2, k3, k4, k5, k6, k7, k8] s ds p q)) 48)) from (Below.refl _ _).alloc (Nat.le_refl _) _))
  clear hd hr
  go_enter Tryd.func27, Tryd.ntmps27
  go_wp2_with (first | (refine wpList_load_row rfl 48 _ rfl w.heap.size rfl 48 (cellsI (inoI [k0, k1, k2, k3, k4, k5, k6, k7, k8] s ds p q)) (0, 0) _ K0.out.1 Tryd.underlying48 rfl (by rw [HZ.out]; exact info24) ?_) | (go_at_call 64; fail))
  refine (l02Inode_any k0 k1 k2 k3 k4 k5 k6 k7 k8 s ds p q _ HD.out).mono ?_
  rintro e w1 ⟨rfl, b1⟩
  have B1 := hide (K0.out.2.trans (b1.mono K0.out.2.size))
  have hr := HR.out
  clear b1
  go_wp2
  go_ret2
  exact ⟨rfl, B1.out⟩

set_option maxRecDepth 100000 in
set_option maxHeartbeats 1000000 in
theorem specI_true (a0 a1 a2 a3 a4 a5 a6 a7 a8 : Nat) (s d0 d1 d2 d3 d4 d5 d6 d7 d8 d9 d10 d11 p q : Int) (w : World) (h0 : a0 < 256) (h1 : a1 < 65536) (h2 : a2 < 65536) (h3 : a3 < 65536) (h4 : a4 < 65536) (h5 : a5 < 4294967296) (h6 : a6 < 281474976710656) (h7 : a7 < 281474976710656) (h8 : a8 < 281474976710656) (hs : 0 ≤ s ∧ s ≤ 262144) (hp : ∀ z ∈ [d0, d1, d2, d3, d4, d5, d6, d7, d8, d9, d10, d11] ++ [p, q], 0 ≤ z ∧ z < 2048) (hr : rightIno (a0 : Int) (a1 : Int) (a2 : Int) (a3 : Int) (a4 : Int) (a5 : Int) (a6 : Int) (a7 : Int) (a8 : Int) s [d0, d1, d2, d3, d4, d5, d6, d7, d8, d9, d10, d11] p q = true) :
    Calls Tryd.prog 27 #[.agg (cellsI (inoI [(a0 : Int), (a1 : Int), (a2 : Int), (a3 : Int), (a4 : Int), (a5 : Int), (a6 : Int), (a7 : Int), (a8 : Int)] s [d0, d1, d2, d3, d4, d5, d6, d7, d8, d9, d10, d11] p q))] w fun e w' => ∃ v', e = .returned (.tuple #[v', .int .i64 0]) ∧ w'.ownsRow w.heap.size 5 1 v' 128 ((bytesIno a0 a1 a2 a3 a4 a5 a6 a7 a8 s [d0, d1, d2, d3, d4, d5, d6, d7, d8, d9, d10, d11] p q).map (Value.int .u8)) ∧ Below w.heap.size w w' := by
  have HR := hide hr
  have HZ := hide (show (cellsI (inoI [(a0 : Int), (a1 : Int), (a2 : Int), (a3 : Int), (a4 : Int), (a5 : Int), (a6 : Int), (a7 : Int), (a8 : Int)] s [d0, d1, d2, d3, d4, d5, d6, d7, d8, d9, d10, d11] p q)).size = 24 from rfl)
  have K0 := hide (And.intro (Blk.new w (cellsI (inoI [(a0 : Int), (a1 : Int), (a2 : Int), (a3 : Int), (a4 : Int), (a5 : Int), (a6 : Int), (a7 : Int), (a8 : Int)] s [d0, d1, d2, d3, d4, d5, d6, d7, d8, d9, d10, d11] p q)) 48) (show Below w.heap.size w (w.alloc (.cells (cellsI (inoI [(a0 : Int), (a1 : Int), (a2 : Int), (a3 : Int), (a4 : Int), (a5 : Int), (a6 : Int), (a7 : Int), (a8 : Int)] s [d0, d1, d2, d3, d4, d5, d6, d7, d8, d9, d10, d11] p q)) 48)) from (Below.refl _ _).alloc (Nat.le_refl _) _))
  have HC := hide (fun w => inodeBytes_any a0 a1 a2 a3 a4 a5 a6 a7 a8 s d0 d1 d2 d3 d4 d5 d6 d7 d8 d9 d10 d11 p q w h0 h1 h2 h3 h4 h5 h6 h7 h8 hs hp)
  clear hr h0 h1 h2 h3 h4 h5 h6 h7 h8 hs hp
  go_enter Tryd.func27, Tryd.ntmps27
  go_wp2_with (first | (refine wpList_load_row rfl 48 _ rfl w.heap.size rfl 48 (cellsI (inoI [(a0 : Int), (a1 : Int), (a2 : Int), (a3 : Int), (a4 : Int), (a5 : Int), (a6 : Int), (a7 : Int), (a8 : Int)] s [d0, d1, d2, d3, d4, d5, d6, d7, d8, d9, d10, d11] p q)) (0, 0) _ K0.out.1 Tryd.underlying48 rfl (by rw [HZ.out]; exact info24) ?_) | (go_at_call 64; fail))
  refine (l02Inode_any (a0 : Int) (a1 : Int) (a2 : Int) (a3 : Int) (a4 : Int) (a5 : Int) (a6 : Int) (a7 : Int) (a8 : Int) s [d0, d1, d2, d3, d4, d5, d6, d7, d8, d9, d10, d11] p q _ rfl).mono ?_
  rintro e w1 ⟨rfl, b1⟩
  have K1 := hide (And.intro (K0.out.1.below b1 K0.out.1.lt) (K0.out.2.trans (b1.mono K0.out.2.size)))
  have hr := HR.out
  clear b1
  go_wp2_with (first | (refine wpList_load_row rfl 48 _ rfl w.heap.size rfl 48 (cellsI (inoI [(a0 : Int), (a1 : Int), (a2 : Int), (a3 : Int), (a4 : Int), (a5 : Int), (a6 : Int), (a7 : Int), (a8 : Int)] s [d0, d1, d2, d3, d4, d5, d6, d7, d8, d9, d10, d11] p q)) (0, 0) _ K1.out.1 Tryd.underlying48 rfl (by rw [HZ.out]; exact info24) ?_) | (go_at_call 65; fail))
  refine (HC.out _).mono ?_
  rintro e w2 ⟨v2, rfl, o2, b2⟩
  have H2 := hide (And.intro (own_mono o2 K1.out.2.size) (K1.out.2.trans (b2.mono K1.out.2.size)))
  clear o2 b2
  go_wp2
  go_ret2
  exact ⟨_, rfl, H2.out.1, H2.out.2⟩

theorem openI {P : Prop} {k0 k1 k2 k3 k4 k5 k6 k7 k8 s : Int} {ds : List Int} {p q : Int} (hd : ds.length = 12) (hr : rightIno k0 k1 k2 k3 k4 k5 k6 k7 k8 s ds p q = true)
    (h : ∀ (a0 a1 a2 a3 a4 a5 a6 a7 a8 : Nat) (d0 d1 d2 d3 d4 d5 d6 d7 d8 d9 d10 d11 : Int), (k0 = (a0 : Int) ∧ k1 = (a1 : Int) ∧ k2 = (a2 : Int) ∧ k3 = (a3 : Int) ∧ k4 = (a4 : Int) ∧ k5 = (a5 : Int) ∧ k6 = (a6 : Int) ∧ k7 = (a7 : Int) ∧ k8 = (a8 : Int)) → ds = [d0, d1, d2, d3, d4, d5, d6, d7, d8, d9, d10, d11] → (a0 < 256 ∧ a1 < 65536 ∧ a2 < 65536 ∧ a3 < 65536 ∧ a4 < 65536 ∧ a5 < 4294967296 ∧ a6 < 281474976710656 ∧ a7 < 281474976710656 ∧ a8 < 281474976710656 ∧ (0 ≤ s ∧ s ≤ 262144) ∧ ∀ z ∈ ds ++ [p, q], 0 ≤ z ∧ z < 2048) → P) : P := by
  obtain ⟨b0, b1, b2, b3, b4, b5, b6, b7, b8, bs, bp⟩ := ino_bd hd hr
  obtain ⟨d0, d1, d2, d3, d4, d5, d6, d7, d8, d9, d10, d11, rfl⟩ := list12 hd
  exact h k0.toNat k1.toNat k2.toNat k3.toNat k4.toNat k5.toNat k6.toNat k7.toNat k8.toNat d0 d1 d2 d3 d4 d5 d6 d7 d8 d9 d10 d11 ⟨by omega, by omega, by omega, by omega, by omega, by omega, by omega, by omega, by omega⟩ rfl ⟨by omega, by omega, by omega, by omega, by omega, by omega, by omega, by omega, by omega, bs, bp⟩

theorem specI_any (k0 k1 k2 k3 k4 k5 k6 k7 k8 s : Int) (ds : List Int) (p q : Int) (w : World) (hd : ds.length = 12) :
    Calls Tryd.prog 27 #[.agg (cellsI (inoI [k0, k1, k2, k3, k4, k5, k6, k7, k8] s ds p q))] w fun e w' => ∃ v', e = .returned (.tuple #[v', .int .i64 (codeI k0 k1 k2 k3 k4 k5 k6 k7 k8 s ds p q)]) ∧ w'.ownsRow w.heap.size 5 1 v' (encI k0 k1 k2 k3 k4 k5 k6 k7 k8 s ds p q).length ((encI k0 k1 k2 k3 k4 k5 k6 k7 k8 s ds p q).map (Value.int .u8)) ∧ Below w.heap.size w w' := by
  cases hr : rightIno k0 k1 k2 k3 k4 k5 k6 k7 k8 s ds p q with
  | false =>
    refine (specI_false k0 k1 k2 k3 k4 k5 k6 k7 k8 s ds p q w hd hr).mono ?_
    rintro e w' ⟨rfl, hb⟩
    refine ⟨_, by unfold codeI; rw [hr]; rfl, ?_, hb⟩
    unfold encI
    rw [hr]
    exact World.ownsRow_nil _ _ _ _
  | true =>
    refine openI hd hr fun a0 a1 a2 a3 a4 a5 a6 a7 a8 d0 d1 d2 d3 d4 d5 d6 d7 d8 d9 d10 d11 hk hds hbd => ?_
    obtain ⟨rfl, rfl, rfl, rfl, rfl, rfl, rfl, rfl, rfl⟩ := hk
    subst hds
    obtain ⟨h0, h1, h2, h3, h4, h5, h6, h7, h8, hs, hp⟩ := hbd
    refine (specI_true a0 a1 a2 a3 a4 a5 a6 a7 a8 s d0 d1 d2 d3 d4 d5 d6 d7 d8 d9 d10 d11 p q w h0 h1 h2 h3 h4 h5 h6 h7 h8 hs hp hr).mono ?_
    rintro e w' ⟨v', rfl, ho, hb⟩
    refine ⟨v', by unfold codeI; rw [hr]; rfl, ?_, hb⟩
    unfold encI
    rw [if_pos hr, bytesIno_len _ _ _ _ _ _ _ _ _ s [d0, d1, d2, d3, d4, d5, d6, d7, d8, d9, d10, d11] p q rfl]
    exact ho

set_option maxRecDepth 100000 in
set_option maxHeartbeats 1000000 in
theorem implI_false (k0 k1 k2 k3 k4 k5 k6 k7 k8 s : Int) (ds : List Int) (p q : Int) (w : World) (hd : ds.length = 12) (hr : rightIno k0 k1 k2 k3 k4 k5 k6 k7 k8 s ds p q = false) (hg : ErrT w) :
    Calls Tryd.prog 29 #[.agg (cellsI (inoI [k0, k1, k2, k3, k4, k5, k6, k7, k8] s ds p q))] w fun e w' => e = .returned (.tuple #[.slice none 0 0, .int .i64 7]) ∧ Below w.heap.size w w' := by
  have HR := hide hr
  have HD := hide hd
  have HE := hide hg
  have HZ := hide (show (cellsI (inoI [k0, k1, k2, k3, k4, k5, k6, k7, k8] s ds p q)).size = 24 from by rw [cellsI_size]; exact inoI_len _ _ _ _ _ rfl HD.out)
  have K0 := hide (And.intro (Blk.new w (cellsI (inoI [k0, k1, k2, k3, k4, k5, k6, k7, k8] s ds p q)) 48) (show Below w.heap.size w (w.alloc (.cells (cellsI (inoI [k0, k1, k2, k3, k4, k5, k6, k7, k8] s ds p q)) 48)) from (Below.refl _ _).alloc (Nat.le_refl _) _))
  clear hd hr hg
  go_enter Tryd.func29, Tryd.ntmps29
  go_wp2_with (first | (refine wpList_load_row rfl 48 _ rfl w.heap.size rfl 48 (cellsI (inoI [k0, k1, k2, k3, k4, k5, k6, k7, k8] s ds p q)) (0, 0) _ K0.out.1 Tryd.underlying48 rfl (by rw [HZ.out]; exact info24) ?_) | (go_at_call 66; fail))
  refine (inodeFault_any k0 k1 k2 k3 k4 k5 k6 k7 k8 s ds p q 7 _ HD.out).mono ?_
  rintro e w1 ⟨ev, rfl, hf, b1⟩
  have B1 := hide (K0.out.2.trans (b1.mono K0.out.2.size))
  clear b1
  rcases hf with ⟨hr, rfl⟩ | ⟨hr, m, hm⟩
  · rw [HR.out] at hr; cases hr
  · obtain ⟨t', x', rfl⟩ := hm.iface
    have H4 := hide hm
    clear hr hm
    go_wp2_with (go_at_call 48; refine (codeOf_any m _ 7 _ _ H4.out (HE.out.below B1.out)).mono ?_; rintro e w2 ⟨rfl, hb2⟩)
    go_ret2
    exact ⟨rfl, B1.out.trans (hb2.mono B1.out.size)⟩

set_option maxRecDepth 100000 in
set_option maxHeartbeats 1000000 in
theorem implI_true (a0 a1 a2 a3 a4 a5 a6 a7 a8 : Nat) (s d0 d1 d2 d3 d4 d5 d6 d7 d8 d9 d10 d11 p q : Int) (w : World) (h0 : a0 < 256) (h1 : a1 < 65536) (h2 : a2 < 65536) (h3 : a3 < 65536) (h4 : a4 < 65536) (h5 : a5 < 4294967296) (h6 : a6 < 281474976710656) (h7 : a7 < 281474976710656) (h8 : a8 < 281474976710656) (hs : 0 ≤ s ∧ s ≤ 262144) (hp : ∀ z ∈ [d0, d1, d2, d3, d4, d5, d6, d7, d8, d9, d10, d11] ++ [p, q], 0 ≤ z ∧ z < 2048) (hr : rightIno (a0 : Int) (a1 : Int) (a2 : Int) (a3 : Int) (a4 : Int) (a5 : Int) (a6 : Int) (a7 : Int) (a8 : Int) s [d0, d1, d2, d3, d4, d5, d6, d7, d8, d9, d10, d11] p q = true) :
    Calls Tryd.prog 29 #[.agg (cellsI (inoI [(a0 : Int), (a1 : Int), (a2 : Int), (a3 : Int), (a4 : Int), (a5 : Int), (a6 : Int), (a7 : Int), (a8 : Int)] s [d0, d1, d2, d3, d4, d5, d6, d7, d8, d9, d10, d11] p q))] w fun e w' => ∃ v', e = .returned (.tuple #[v', .int .i64 0]) ∧ w'.ownsRow w.heap.size 5 1 v' 128 ((bytesIno a0 a1 a2 a3 a4 a5 a6 a7 a8 s [d0, d1, d2, d3, d4, d5, d6, d7, d8, d9, d10, d11] p q).map (Value.int .u8)) ∧ Below w.heap.size w w' := by
  have HR := hide hr
  have HZ := hide (show (cellsI (inoI [(a0 : Int), (a1 : Int), (a2 : Int), (a3 : Int), (a4 : Int), (a5 : Int), (a6 : Int), (a7 : Int), (a8 : Int)] s [d0, d1, d2, d3, d4, d5, d6, d7, d8, d9, d10, d11] p q)).size = 24 from rfl)
  have K0 := hide (And.intro (Blk.new w (cellsI (inoI [(a0 : Int), (a1 : Int), (a2 : Int), (a3 : Int), (a4 : Int), (a5 : Int), (a6 : Int), (a7 : Int), (a8 : Int)] s [d0, d1, d2, d3, d4, d5, d6, d7, d8, d9, d10, d11] p q)) 48) (show Below w.heap.size w (w.alloc (.cells (cellsI (inoI [(a0 : Int), (a1 : Int), (a2 : Int), (a3 : Int), (a4 : Int), (a5 : Int), (a6 : Int), (a7 : Int), (a8 : Int)] s [d0, d1, d2, d3, d4, d5, d6, d7, d8, d9, d10, d11] p q)) 48)) from (Below.refl _ _).alloc (Nat.le_refl _) _))
  have HC := hide (fun w => layInode_any a0 a1 a2 a3 a4 a5 a6 a7 a8 s [d0, d1, d2, d3, d4, d5, d6, d7, d8, d9, d10, d11] p q w rfl h0 h1 h2 h3 h4 h5 h6 h7 h8 hs hp)
  clear hr h0 h1 h2 h3 h4 h5 h6 h7 h8 hs hp
  go_enter Tryd.func29, Tryd.ntmps29
  go_wp2_with (first | (refine wpList_load_row rfl 48 _ rfl w.heap.size rfl 48 (cellsI (inoI [(a0 : Int), (a1 : Int), (a2 : Int), (a3 : Int), (a4 : Int), (a5 : Int), (a6 : Int), (a7 : Int), (a8 : Int)] s [d0, d1, d2, d3, d4, d5, d6, d7, d8, d9, d10, d11] p q)) (0, 0) _ K0.out.1 Tryd.underlying48 rfl (by rw [HZ.out]; exact info24) ?_) | (go_at_call 66; fail))
  refine (inodeFault_any (a0 : Int) (a1 : Int) (a2 : Int) (a3 : Int) (a4 : Int) (a5 : Int) (a6 : Int) (a7 : Int) (a8 : Int) s [d0, d1, d2, d3, d4, d5, d6, d7, d8, d9, d10, d11] p q 7 _ rfl).mono ?_
  rintro e w1 ⟨ev, rfl, hf, b1⟩
  have K1 := hide (And.intro (K0.out.1.below b1 K0.out.1.lt) (K0.out.2.trans (b1.mono K0.out.2.size)))
  clear b1
  rcases hf with ⟨hr, rfl⟩ | ⟨hr, m, hm⟩
  · clear hr
    go_wp2_with (first | (refine wpList_load_row rfl 48 _ rfl w.heap.size rfl 48 (cellsI (inoI [(a0 : Int), (a1 : Int), (a2 : Int), (a3 : Int), (a4 : Int), (a5 : Int), (a6 : Int), (a7 : Int), (a8 : Int)] s [d0, d1, d2, d3, d4, d5, d6, d7, d8, d9, d10, d11] p q)) (0, 0) _ K1.out.1 Tryd.underlying48 rfl (by rw [HZ.out]; exact info24) ?_) | (go_at_call 67; fail))
    refine (HC.out _).mono ?_
    rintro e w2 ⟨v2, rfl, o2, b2⟩
    have H2 := hide (And.intro (own_mono o2 K1.out.2.size) (K1.out.2.trans (b2.mono K1.out.2.size)))
    clear o2 b2
    go_wp2
    go_ret2
    exact ⟨_, rfl, H2.out.1, H2.out.2⟩
  · rw [HR.out] at hr; cases hr

theorem implI_any (k0 k1 k2 k3 k4 k5 k6 k7 k8 s : Int) (ds : List Int) (p q : Int) (w : World) (hd : ds.length = 12) (hg : ErrT w) :
    Calls Tryd.prog 29 #[.agg (cellsI (inoI [k0, k1, k2, k3, k4, k5, k6, k7, k8] s ds p q))] w fun e w' => ∃ v', e = .returned (.tuple #[v', .int .i64 (codeI k0 k1 k2 k3 k4 k5 k6 k7 k8 s ds p q)]) ∧ w'.ownsRow w.heap.size 5 1 v' (encI k0 k1 k2 k3 k4 k5 k6 k7 k8 s ds p q).length ((encI k0 k1 k2 k3 k4 k5 k6 k7 k8 s ds p q).map (Value.int .u8)) ∧ Below w.heap.size w w' := by
  cases hr : rightIno k0 k1 k2 k3 k4 k5 k6 k7 k8 s ds p q with
  | false =>
    refine (implI_false k0 k1 k2 k3 k4 k5 k6 k7 k8 s ds p q w hd hr hg).mono ?_
    rintro e w' ⟨rfl, hb⟩
    refine ⟨_, by unfold codeI; rw [hr]; rfl, ?_, hb⟩
    unfold encI
    rw [hr]
    exact World.ownsRow_nil _ _ _ _
  | true =>
    refine openI hd hr fun a0 a1 a2 a3 a4 a5 a6 a7 a8 d0 d1 d2 d3 d4 d5 d6 d7 d8 d9 d10 d11 hk hds hbd => ?_
    obtain ⟨rfl, rfl, rfl, rfl, rfl, rfl, rfl, rfl, rfl⟩ := hk
    subst hds
    obtain ⟨h0, h1, h2, h3, h4, h5, h6, h7, h8, hs, hp⟩ := hbd
    refine (implI_true a0 a1 a2 a3 a4 a5 a6 a7 a8 s d0 d1 d2 d3 d4 d5 d6 d7 d8 d9 d10 d11 p q w h0 h1 h2 h3 h4 h5 h6 h7 h8 hs hp hr).mono ?_
    rintro e w' ⟨v', rfl, ho, hb⟩
    refine ⟨v', by unfold codeI; rw [hr]; rfl, ?_, hb⟩
    unfold encI
    rw [if_pos hr, bytesIno_len _ _ _ _ _ _ _ _ _ s [d0, d1, d2, d3, d4, d5, d6, d7, d8, d9, d10, d11] p q rfl]
    exact ho
end Go.Proofs.YtfpfhmnmcjnmaaaDoor

namespace Go.Proofs.YtfpfhmnmcjnmaaaDoor
set_option linter.unusedVariables false
set_option linter.unusedSimpArgs false
open Go.RowKit

theorem gval_few (zs : List Int) (h : ∀ z ∈ zs, 0 ≤ z ∧ z < 256) (lo n : Nat) (hn : n ≤ 6) : gval ((zs.drop lo).take n) = unle ((zs.drop lo).take n) := by
  apply gval_small
  have h1 := unle_lt _ (bytes_cut h lo n)
  have h2 : ((zs.drop lo).take n).length ≤ 6 := by simp; omega
  have h3 : 256 ^ ((zs.drop lo).take n).length ≤ 256 ^ 6 := Nat.pow_le_pow_right (by decide) h2
  have h4 : (256 : Nat) ^ 6 = 281474976710656 := by decide
  omega
theorem unle8_lt (zs : List Int) (h : ∀ z ∈ zs, 0 ≤ z ∧ z < 256) (lo : Nat) : unle ((zs.drop lo).take 8) < 18446744073709551616 := by
  have h1 := unle_lt _ (bytes_cut h lo 8)
  have h2 : ((zs.drop lo).take 8).length ≤ 8 := by simp; omega
  have h3 : 256 ^ ((zs.drop lo).take 8).length ≤ 256 ^ 8 := Nat.pow_le_pow_right (by decide) h2
  have h4 : (256 : Nat) ^ 8 = 18446744073709551616 := by decide
  omega
/-- A number of eight bytes: the same for both, or out of all bounds for both. -/
theorem eight (ts : List Int) (hX : unle ts < 18446744073709551616) : (wrap64 ((unle ts : Nat) : Int) = ((gval ts : Nat) : Int) ∧ gval ts = unle ts) ∨ (wrap64 ((unle ts : Nat) : Int) ≠ 0 ∧ ((gval ts : Nat) : Int) ≠ 0 ∧ wi (wrap64 ((unle ts : Nat) : Int)) 1 1099511627776 = false ∧ wi ((gval ts : Nat) : Int) 1 1099511627776 = false) := by
  by_cases hs : unle ts < 18014398509481984
  · left
    rw [gval_small _ hs]
    refine ⟨?_, rfl⟩
    unfold wrap64
    omega
  · right
    have hg : gval ts = 4611686018427387904 := by
      unfold gval
      rw [if_pos (by omega)]
    rw [hg]
    have hw : wrap64 ((unle ts : Nat) : Int) < 0 ∨ 18014398509481984 ≤ wrap64 ((unle ts : Nat) : Int) := by
      unfold wrap64
      omega
    refine ⟨by omega, by decide, ?_, by decide⟩
    unfold wi
    rcases hw with hw | hw
    · rw [decide_eq_false (show ¬ (1 : Int) ≤ wrap64 ((unle ts : Nat) : Int) by omega), Bool.false_and]
    · rw [decide_eq_false (show ¬ wrap64 ((unle ts : Nat) : Int) ≤ 1099511627776 by omega), Bool.and_false]
theorem rightIno_no {k0 k1 k2 k3 k4 k5 k6 k7 k8 s : Int} {ds : List Int} {p q x : Int} (hx : x ∈ inoI [k0, k1, k2, k3, k4, k5, k6, k7, k8] s ds p q) (h0 : x ≠ 0) (hf : (fieldsB k0 k1 k2 k3 k4 k5 k6 k7 k8 && rightR s ds p q) = false) : rightIno k0 k1 k2 k3 k4 k5 k6 k7 k8 s ds p q = false := by
  unfold rightIno
  rw [hf, Bool.or_false]
  cases hz : zeroB (inoI [k0, k1, k2, k3, k4, k5, k6, k7, k8] s ds p q) with
  | false => rfl
  | true =>
    rw [zeroB_iff] at hz
    exact absurd (hz x hx) h0
theorem wordsFrom_shift (zs : List Int) (lo m p : Nat) : ∀ n, p + 4 * n ≤ m → wordsFrom ((zs.drop lo).take m) p n = wordsFrom zs (lo + p) n
  | 0, _ => by simp [wordsFrom]
  | n + 1, h => by
    rw [wordsFrom_succ, wordsFrom_succ, wordsFrom_shift zs lo m p n (by omega)]
    congr 1
    rw [List.drop_take, List.take_take, List.drop_drop, Nat.min_eq_left (by omega), Nat.add_assoc]
theorem root_shift {zs : List Int} {s : Int} {ds : List Int} {p q : Int} (h : RootAt zs 40 s ds p q) : RootAt ((zs.drop 40).take 64) 0 s ds p q := by
  obtain ⟨h1, h2⟩ := h
  refine ⟨?_, ?_⟩
  · rw [h1, List.drop_zero, List.take_take]
    rfl
  · rw [h2, wordsFrom_shift zs 40 64 (0 + 8) 14 (by omega)]
theorem allz_rep : ∀ (ts : List Int), allz ts = true → ts = List.replicate ts.length 0
  | [], _ => rfl
  | t :: ts, h => by
    have h' : (decide (t = 0) && allz ts) = true := h
    rw [Bool.and_eq_true] at h'
    have h1 : t = 0 := by simpa using h'.1
    rw [List.length_cons, List.replicate_succ, ← allz_rep ts h'.2, h1]
theorem allz_of_rep (n : Nat) : allz (List.replicate n 0) = true := by
  unfold allz
  rw [List.all_eq_true]
  intro x hx
  rw [(List.mem_replicate.1 hx).2]
  rfl
theorem gaps_bytes (a0 a1 a2 a3 a4 a5 a6 a7 a8 : Nat) (s : Int) (ds : List Int) (p q : Int) (hd : ds.length = 12) : gapsZ (bytesIno a0 a1 a2 a3 a4 a5 a6 a7 a8 s ds p q) = true := by
  have e1 : allz (((bytesIno a0 a1 a2 a3 a4 a5 a6 a7 a8 s ds p q).drop 1).take 1) = true := rfl
  have e2 : allz (((bytesIno a0 a1 a2 a3 a4 a5 a6 a7 a8 s ds p q).drop 10).take 2) = true := rfl
  have e3 : allz (((bytesIno a0 a1 a2 a3 a4 a5 a6 a7 a8 s ds p q).drop 104).take 24) = true := by
    unfold bytesIno
    rw [List.drop_append_of_le_length (by simp only [List.length_append, le_len, List.length_replicate, bytesR_len s ds p q hd]; omega)]
    rw [List.drop_of_length_le (by simp only [List.length_append, le_len, List.length_replicate, bytesR_len s ds p q hd]; omega), List.nil_append]
    rfl
  unfold gapsZ gaps2
  rw [e1, e2, e3]
  rfl
theorem cut_at (zs : List Int) (lo n : Nat) : zs.drop lo = (zs.drop lo).take n ++ zs.drop (lo + n) := by
  conv => lhs; rw [← List.take_append_drop n (zs.drop lo)]
  rw [List.drop_drop]
theorem bytes_whole (zs : List Int) (h : ∀ z ∈ zs, 0 ≤ z ∧ z < 256) (hz : zs.length = 128) (hg : gapsZ zs = true) (s : Int) (ds : List Int) (p q : Int) (hr : bytesR s ds p q = ((zs.drop 40).take 64)) :
    bytesIno (unle ((zs.drop 0).take 1)) (unle ((zs.drop 2).take 2)) (unle ((zs.drop 4).take 2)) (unle ((zs.drop 6).take 2)) (unle ((zs.drop 8).take 2)) (unle ((zs.drop 12).take 4)) (unle ((zs.drop 16).take 8)) (unle ((zs.drop 24).take 8)) (unle ((zs.drop 32).take 8)) s ds p q = zs := by
  have hl : ∀ lo n, lo + n ≤ 128 → le n (unle ((zs.drop lo).take n)) = (zs.drop lo).take n := fun lo n hn => by
    have h1 := le_unle _ (bytes_cut h lo n)
    rw [show ((zs.drop lo).take n).length = n by simp; omega] at h1
    exact h1
  unfold gapsZ gaps2 at hg
  rw [Bool.and_eq_true, Bool.and_eq_true, Bool.and_eq_true] at hg
  obtain ⟨⟨⟨_, g1⟩, g2⟩, g3⟩ := hg
  have r1 := allz_rep _ g1
  have r2 := allz_rep _ g2
  have r3 := allz_rep _ g3
  rw [show ((zs.drop 1).take 1).length = 1 by simp; omega] at r1
  rw [show ((zs.drop 10).take 2).length = 2 by simp; omega] at r2
  rw [show ((zs.drop 104).take 24).length = 24 by simp; omega] at r3
  unfold bytesIno
  rw [hl 0 1 (by omega), hl 2 2 (by omega), hl 4 2 (by omega), hl 6 2 (by omega), hl 8 2 (by omega), hl 12 4 (by omega), hl 16 8 (by omega), hl 24 8 (by omega), hl 32 8 (by omega), hr, ← r1, ← r2, ← r3]
  have e : zs = zs.drop 0 := rfl
  conv => rhs; rw [e, cut_at zs 0 1, cut_at zs (0 + 1) 1, cut_at zs (0 + 1 + 1) 2, cut_at zs (0 + 1 + 1 + 2) 2, cut_at zs (0 + 1 + 1 + 2 + 2) 2, cut_at zs (0 + 1 + 1 + 2 + 2 + 2) 2, cut_at zs (0 + 1 + 1 + 2 + 2 + 2 + 2) 2, cut_at zs (0 + 1 + 1 + 2 + 2 + 2 + 2 + 2) 4, cut_at zs (0 + 1 + 1 + 2 + 2 + 2 + 2 + 2 + 4) 8, cut_at zs (0 + 1 + 1 + 2 + 2 + 2 + 2 + 2 + 4 + 8) 8, cut_at zs (0 + 1 + 1 + 2 + 2 + 2 + 2 + 2 + 4 + 8 + 8) 8, cut_at zs (0 + 1 + 1 + 2 + 2 + 2 + 2 + 2 + 4 + 8 + 8 + 8) 64, cut_at zs (0 + 1 + 1 + 2 + 2 + 2 + 2 + 2 + 4 + 8 + 8 + 8 + 64) 24, List.drop_of_length_le (show zs.length ≤ 0 + 1 + 1 + 2 + 2 + 2 + 2 + 2 + 4 + 8 + 8 + 8 + 64 + 24 by omega), List.append_nil]
  simp only [List.append_assoc]
theorem kind_one (zs : List Int) (h : ∀ z ∈ zs, 0 ≤ z ∧ z < 256) (hz : zs.length = 128) : zs.getD 0 0 = ((unle ((zs.drop 0).take 1) : Nat) : Int) := by
  match zs, hz with
  | z :: zs, _ =>
    have hb := h z (by simp)
    simp [unle]
    omega

/-- What the program reads is what the model reads. -/
theorem ino_agree (zs : List Int) (k0 k1 k2 k3 k4 k5 k6 k7 k8 s : Int) (ds : List Int) (p q : Int) (h : ∀ z ∈ zs, 0 ≤ z ∧ z < 256) (hz : zs.length = 128) (hd : ds.length = 12) (hr : InoAt zs k0 k1 k2 k3 k4 k5 k6 k7 k8 s ds p q) :
    rightIno k0 k1 k2 k3 k4 k5 k6 k7 k8 s ds p q = rightIno (zs.getD 0 0) ((gval ((zs.drop 2).take 2) : Nat) : Int) ((gval ((zs.drop 4).take 2) : Nat) : Int) ((gval ((zs.drop 6).take 2) : Nat) : Int) ((gval ((zs.drop 8).take 2) : Nat) : Int) ((gval ((zs.drop 12).take 4) : Nat) : Int) ((gval ((zs.drop 16).take 8) : Nat) : Int) ((gval ((zs.drop 24).take 8) : Nat) : Int) ((gval ((zs.drop 32).take 8) : Nat) : Int) ((gval (((zs.drop 40).take 64).take 8) : Nat) : Int) (gwords ((zs.drop 40).take 64) 12) ((gval ((((zs.drop 40).take 64).drop 56).take 4) : Nat) : Int) ((gval ((((zs.drop 40).take 64).drop 60).take 4) : Nat) : Int) ∧ (rightIno k0 k1 k2 k3 k4 k5 k6 k7 k8 s ds p q = true → inoI [k0, k1, k2, k3, k4, k5, k6, k7, k8] s ds p q = inoI [(zs.getD 0 0), ((gval ((zs.drop 2).take 2) : Nat) : Int), ((gval ((zs.drop 4).take 2) : Nat) : Int), ((gval ((zs.drop 6).take 2) : Nat) : Int), ((gval ((zs.drop 8).take 2) : Nat) : Int), ((gval ((zs.drop 12).take 4) : Nat) : Int), ((gval ((zs.drop 16).take 8) : Nat) : Int), ((gval ((zs.drop 24).take 8) : Nat) : Int), ((gval ((zs.drop 32).take 8) : Nat) : Int)] ((gval (((zs.drop 40).take 64).take 8) : Nat) : Int) (gwords ((zs.drop 40).take 64) 12) ((gval ((((zs.drop 40).take 64).drop 56).take 4) : Nat) : Int) ((gval ((((zs.drop 40).take 64).drop 60).take 4) : Nat) : Int)) := by
  obtain ⟨r0, r1, r2, r3, r4, r5, r6, r7, r8, rR⟩ := hr
  have hzp : ((zs.drop 40).take 64).length = 64 := by simp; omega
  have hbp : ∀ z ∈ ((zs.drop 40).take 64), 0 ≤ z ∧ z < 256 := bytes_cut h 40 64
  obtain ⟨q1, q2, q3, q4, q5⟩ := root_agree ((zs.drop 40).take 64) s ds p q hbp hzp hd (root_shift rR)
  rw [← kind_one zs h hz] at r0
  rw [← gval_few zs h 2 2 (by omega)] at r1
  rw [← gval_few zs h 4 2 (by omega)] at r2
  rw [← gval_few zs h 6 2 (by omega)] at r3
  rw [← gval_few zs h 8 2 (by omega)] at r4
  rw [← gval_few zs h 12 4 (by omega)] at r5
  have E6 := eight _ (unle8_lt zs h 16)
  have E7 := eight _ (unle8_lt zs h 24)
  have E8 := eight _ (unle8_lt zs h 32)
  have ES : s = ((gval (((zs.drop 40).take 64).take 8) : Nat) : Int) ∨ (s ≠ 0 ∧ ((gval (((zs.drop 40).take 64).take 8) : Nat) : Int) ≠ 0) := by
    have e := rR.1
    have et : ((zs.drop 40).take 64).take 8 = (zs.drop 40).take 8 := by rw [List.take_take]; rfl
    rw [et, e]
    rcases eight _ (unle8_lt zs h 40) with ⟨e1, _⟩ | ⟨e1, e2, _, _⟩
    · exact .inl e1
    · exact .inr ⟨e1, e2⟩
  rw [← r6] at E6
  rw [← r7] at E7
  rw [← r8] at E8
  rw [← r0, ← r1, ← r2, ← r3, ← r4, ← r5, ← q1, ← q2, ← q3]
  generalize ((gval ((zs.drop 16).take 8) : Nat) : Int) = y6 at E6 ⊢
  generalize ((gval ((zs.drop 24).take 8) : Nat) : Int) = y7 at E7 ⊢
  generalize ((gval ((zs.drop 32).take 8) : Nat) : Int) = y8 at E8 ⊢
  generalize ((gval (((zs.drop 40).take 64).take 8) : Nat) : Int) = ys at q4 q5 ES ⊢
  clear r0 r1 r2 r3 r4 r5 r6 r7 r8 rR q1 q2 q3
  rcases E6 with ⟨e6, _⟩ | ⟨n6, m6, f6, g6⟩
  · rcases E7 with ⟨e7, _⟩ | ⟨n7, m7, f7, g7⟩
    · rcases E8 with ⟨e8, _⟩ | ⟨n8, m8, f8, g8⟩
      · subst e6 e7 e8
        rcases ES with es | ⟨s0, ys0⟩
        · subst es
          exact ⟨rfl, fun _ => rfl⟩
        · cases hR : rightR s ds p q with
          | true =>
            have es := (q5 hR).1
            subst es
            exact ⟨rfl, fun _ => rfl⟩
          | false =>
            have hR2 : rightR ys ds p q = false := by rw [← q4]; exact hR
            have hA := rightIno_no (k0 := k0) (k1 := k1) (k2 := k2) (k3 := k3) (k4 := k4) (k5 := k5) (k6 := k6) (k7 := k7) (k8 := k8) (s := s) (ds := ds) (p := p) (q := q) (x := s) (by simp [inoI, rootI]) s0 (by rw [hR, Bool.and_false])
            have hB := rightIno_no (k0 := k0) (k1 := k1) (k2 := k2) (k3 := k3) (k4 := k4) (k5 := k5) (k6 := k6) (k7 := k7) (k8 := k8) (s := ys) (ds := ds) (p := p) (q := q) (x := ys) (by simp [inoI, rootI]) ys0 (by rw [hR2, Bool.and_false])
            exact ⟨by rw [hA, hB], fun h => by rw [hA] at h; cases h⟩
      · have hA : rightIno k0 k1 k2 k3 k4 k5 k6 k7 k8 s ds p q = false := rightIno_no (x := k8) (by simp [inoI]) n8 (by simp [fieldsB, f8])
        have hB : rightIno k0 k1 k2 k3 k4 k5 y6 y7 y8 ys ds p q = false := rightIno_no (x := y8) (by simp [inoI]) m8 (by simp [fieldsB, g8])
        exact ⟨by rw [hA, hB], fun h => by rw [hA] at h; cases h⟩
    · have hA : rightIno k0 k1 k2 k3 k4 k5 k6 k7 k8 s ds p q = false := rightIno_no (x := k7) (by simp [inoI]) n7 (by simp [fieldsB, f7])
      have hB : rightIno k0 k1 k2 k3 k4 k5 y6 y7 y8 ys ds p q = false := rightIno_no (x := y7) (by simp [inoI]) m7 (by simp [fieldsB, g7])
      exact ⟨by rw [hA, hB], fun h => by rw [hA] at h; cases h⟩
  · have hA : rightIno k0 k1 k2 k3 k4 k5 k6 k7 k8 s ds p q = false := rightIno_no (x := k6) (by simp [inoI]) n6 (by simp [fieldsB, f6])
    have hB : rightIno k0 k1 k2 k3 k4 k5 y6 y7 y8 ys ds p q = false := rightIno_no (x := y6) (by simp [inoI]) m6 (by simp [fieldsB, g6])
    exact ⟨by rw [hA, hB], fun h => by rw [hA] at h; cases h⟩

/-- What DecodeInode tells of bytes. -/
def okDI (zs : List Int) : Bool := decide (zs.length = 128) && (rightIno (zs.getD 0 0) ((gval ((zs.drop 2).take 2) : Nat) : Int) ((gval ((zs.drop 4).take 2) : Nat) : Int) ((gval ((zs.drop 6).take 2) : Nat) : Int) ((gval ((zs.drop 8).take 2) : Nat) : Int) ((gval ((zs.drop 12).take 4) : Nat) : Int) ((gval ((zs.drop 16).take 8) : Nat) : Int) ((gval ((zs.drop 24).take 8) : Nat) : Int) ((gval ((zs.drop 32).take 8) : Nat) : Int) ((gval (((zs.drop 40).take 64).take 8) : Nat) : Int) (gwords ((zs.drop 40).take 64) 12) ((gval ((((zs.drop 40).take 64).drop 56).take 4) : Nat) : Int) ((gval ((((zs.drop 40).take 64).drop 60).take 4) : Nat) : Int) && gapsZ zs)
def decI (zs : List Int) : List Int := if okDI zs = true then inoI [(zs.getD 0 0), ((gval ((zs.drop 2).take 2) : Nat) : Int), ((gval ((zs.drop 4).take 2) : Nat) : Int), ((gval ((zs.drop 6).take 2) : Nat) : Int), ((gval ((zs.drop 8).take 2) : Nat) : Int), ((gval ((zs.drop 12).take 4) : Nat) : Int), ((gval ((zs.drop 16).take 8) : Nat) : Int), ((gval ((zs.drop 24).take 8) : Nat) : Int), ((gval ((zs.drop 32).take 8) : Nat) : Int)] ((gval (((zs.drop 40).take 64).take 8) : Nat) : Int) (gwords ((zs.drop 40).take 64) 12) ((gval ((((zs.drop 40).take 64).drop 56).take 4) : Nat) : Int) ((gval ((((zs.drop 40).take 64).drop 60).take 4) : Nat) : Int) else noIno
def codeDI (zs : List Int) : Int := if okDI zs = true then 0 else 21
theorem decI_ino (zs : List Int) : ∃ k0 k1 k2 k3 k4 k5 k6 k7 k8 s ds p q, ds.length = 12 ∧ decI zs = inoI [k0, k1, k2, k3, k4, k5, k6, k7, k8] s ds p q := by
  unfold decI
  split
  · exact ⟨_, _, _, _, _, _, _, _, _, _, _, _, _, gwords_len _ 12, rfl⟩
  · exact ⟨0, 0, 0, 0, 0, 0, 0, 0, 0, 0, List.replicate 12 0, 0, 0, rfl, rfl⟩
theorem implDI_same (v : Value) (zs : List Int) (w : World) (h : Rd .u8 w v zs) (hbd : ∀ z ∈ zs, 0 ≤ z ∧ z < 256) (hz : zs.length ≤ 140737488355328) (hg : ErrT w) :
    Calls Tryd.prog 31 #[v] w fun e w' => e = .returned (.tuple #[.agg (cellsI (decI zs)), .int .i64 (codeDI zs)]) ∧ Below w.heap.size w w' := by
  refine (implDI_any v zs w h hbd hz hg).mono ?_
  rintro e w' ⟨k0, k1, k2, k3, k4, k5, k6, k7, k8, s, ds, p, q, ok, ⟨hd, h1, h2⟩, rfl, hb⟩
  refine ⟨?_, hb⟩
  have e6 : okDI zs = ok ∧ (ok = true → inoI [k0, k1, k2, k3, k4, k5, k6, k7, k8] s ds p q = inoI [(zs.getD 0 0), ((gval ((zs.drop 2).take 2) : Nat) : Int), ((gval ((zs.drop 4).take 2) : Nat) : Int), ((gval ((zs.drop 6).take 2) : Nat) : Int), ((gval ((zs.drop 8).take 2) : Nat) : Int), ((gval ((zs.drop 12).take 4) : Nat) : Int), ((gval ((zs.drop 16).take 8) : Nat) : Int), ((gval ((zs.drop 24).take 8) : Nat) : Int), ((gval ((zs.drop 32).take 8) : Nat) : Int)] ((gval (((zs.drop 40).take 64).take 8) : Nat) : Int) (gwords ((zs.drop 40).take 64) 12) ((gval ((((zs.drop 40).take 64).drop 56).take 4) : Nat) : Int) ((gval ((((zs.drop 40).take 64).drop 60).take 4) : Nat) : Int)) := by
    by_cases h128 : zs.length = 128
    · cases hgz : gapsZ zs with
      | true =>
        obtain ⟨hr, hok⟩ := h2 h128 hgz
        obtain ⟨e1, e2⟩ := ino_agree zs k0 k1 k2 k3 k4 k5 k6 k7 k8 s ds p q hbd h128 hd hr
        refine ⟨?_, fun ho => e2 (hok ▸ ho)⟩
        unfold okDI
        rw [decide_eq_true h128, Bool.true_and, hgz, Bool.and_true, ← e1, hok]
      | false =>
        have e8 : ok = false := by
          cases ok with
          | false => rfl
          | true => have := (h1 rfl).2.2.2; rw [hgz] at this; cases this
        subst e8
        refine ⟨?_, fun ho => by cases ho⟩
        unfold okDI
        rw [hgz, Bool.and_false, Bool.and_false]
    · have e8 : ok = false := by
        cases ok with
        | false => rfl
        | true => exact absurd (h1 rfl).2.2.1 h128
      subst e8
      refine ⟨?_, fun ho => by cases ho⟩
      unfold okDI
      rw [decide_eq_false h128, Bool.false_and]
  unfold decI codeDI
  rw [e6.1]
  cases ok with
  | false => rfl
  | true =>
    rw [if_pos rfl, if_pos rfl, ← e6.2 rfl]
    rfl
end Go.Proofs.YtfpfhmnmcjnmaaaDoor
