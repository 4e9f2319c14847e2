/- The model's bytes of an inode: l02InodeBytes. -/
import Derived.Test.YtfkmnmopkblopaaDoorZk16
import Derived.Deep.RegionHeld3
namespace Go.Proofs.YtfkmnmopkblopaaDoor
set_option linter.unusedVariables false
set_option linter.unusedSimpArgs false
open Go.RowKit

theorem put_eq (x y : Value) (v n : Nat) (w : World) (hx : x = .int .i64 (v : Int)) (hy : y = .int .i64 (n : Int)) (hv : v < 281474976710656) (hn : n ≤ 8) (h0 : 0 < n) :
    Calls Tryd.prog 26 #[x, y] w fun e w' => ∃ g cp, e = .returned (.slice (some ⟨g, 0, none⟩) n cp) ∧ w'.ownsRow w.heap.size 5 1 (.slice (some ⟨g, 0, none⟩) n cp) n ((le n v).map (Value.int .u8)) ∧ Below w.heap.size w w' := by
  subst hx hy
  exact put_pos v n w hv hn h0
theorem held_next {w0 w w' : World} (h : Below w0.heap.size w0 w) (h2 : Below w.heap.size w w') : Below w0.heap.size w0 w' := h.trans (h2.mono h.size)
theorem held_alloc {w0 w : World} (h : Below w0.heap.size w0 w) (o : Obj) : Below w0.heap.size w0 (w.alloc o) := h.alloc h.size o
theorem held_drew {B : Nat} {w0 w : World} (h : Below B w0 w) : Below B w0 w.drew := h.drew
theorem rootBytes_pos (s : Int) (ds : List Int) (p q : Int) (w : World) (hd : ds.length = 12) (hs : 0 ≤ s ∧ s ≤ 262144) (hp : ∀ z ∈ ds ++ [p, q], 0 ≤ z ∧ z < 2048) :
    Calls Tryd.prog 27 #[.agg (cellsI (rootI s ds p q))] w fun e w' => ∃ g cp, e = .returned (.slice (some ⟨g, 0, none⟩) 64 cp) ∧ w'.ownsRow w.heap.size 5 1 (.slice (some ⟨g, 0, none⟩) 64 cp) 64 ((bytesR s ds p q).map (Value.int .u8)) ∧ Below w.heap.size w w' := by
  refine (rootBytes_any s ds p q w hd hs hp).mono ?_
  rintro e w' ⟨v', rfl, ho, hb⟩
  rcases ho.2 with ⟨rfl, hn0⟩ | ⟨g, cap, cur, rfl, _⟩
  · omega
  · exact ⟨g, cap, rfl, ho, hb⟩
theorem le2 (n : Nat) (h : n < 256) : le 2 n = le 1 n ++ List.replicate 1 0 := by
  have h1 : n / 256 % 256 = 0 := by omega
  simp [le, h1]
theorem bytesIno_join (a0 a1 a2 a3 a4 a5 a6 a7 a8 : Nat) (s : Int) (ds : List Int) (p q : Int) (hd : ds.length = 12) (h0 : a0 < 256) :
    (([le 2 a0, le 2 a1, le 2 a2, le 2 a3, le 2 a4, le 2 0, le 4 a5, le 8 a6, le 8 a7, le 8 a8, bytesR s ds p q] : List (List Int)).flatten ++ List.replicate (128 - ([le 2 a0, le 2 a1, le 2 a2, le 2 a3, le 2 a4, le 2 0, le 4 a5, le 8 a6, le 8 a7, le 8 a8, bytesR s ds p q] : List (List Int)).flatten.length) 0) = bytesIno a0 a1 a2 a3 a4 a5 a6 a7 a8 s ds p q := by
  have hl : ([le 2 a0, le 2 a1, le 2 a2, le 2 a3, le 2 a4, le 2 0, le 4 a5, le 8 a6, le 8 a7, le 8 a8, bytesR s ds p q] : List (List Int)).flatten.length = 104 := by
    simp only [List.flatten_cons, List.flatten_nil, List.length_append, le_len, bytesR_len s ds p q hd, List.length_nil]
  rw [hl]
  unfold bytesIno
  rw [le2 a0 h0, show le 2 0 = List.replicate 2 0 from rfl]
  simp only [List.flatten_cons, List.flatten_nil, List.append_nil, List.append_assoc]

theorem parts_len (a0 a1 a2 a3 a4 a5 a6 a7 a8 : Nat) (s : Int) (ds : List Int) (p q : Int) (hd : ds.length = 12) : ([le 2 a0, le 2 a1, le 2 a2, le 2 a3, le 2 a4, le 2 0, le 4 a5, le 8 a6, le 8 a7, le 8 a8, bytesR s ds p q] : List (List Int)).flatten.length = 104 := by
  simp only [List.flatten_cons, List.flatten_nil, List.length_append, le_len, bytesR_len s ds p q hd, List.length_nil]
theorem parts_pos (a0 a1 a2 a3 a4 a5 a6 a7 a8 : Nat) (s : Int) (ds : List Int) (p q : Int) (hd : ds.length = 12) : ∀ b ∈ ([le 2 a0, le 2 a1, le 2 a2, le 2 a3, le 2 a4, le 2 0, le 4 a5, le 8 a6, le 8 a7, le 8 a8, bytesR s ds p q] : List (List Int)), 0 < b.length := by
  intro b hb
  simp only [List.mem_cons, List.not_mem_nil, or_false] at hb
  rcases hb with rfl | rfl | rfl | rfl | rfl | rfl | rfl | rfl | rfl | rfl | rfl
  all_goals first | (rw [le_len]; omega) | (rw [bytesR_len s ds p q hd]; omega)

end Go.Proofs.YtfkmnmopkblopaaDoor
