/- The model's bytes of an inode: l02InodeBytes. EncodeInode, of the program and of the model. -/
import Derived.Test.YtkbbnflblkkepaaGreatDoorZm08
import Derived.Test.YtkbbnflblkkepaaGreatDoorZm24
import Derived.Deep.RegionHeld3
namespace Go.Proofs.YtkbbnflblkkepaaGreatDoor
set_option linter.unusedVariables false
set_option linter.unusedSimpArgs false
open Go.RowKit

theorem put_eq (x y : Value) (v n : Nat) (w : World) (hx : x = .int .i64 (v : Int)) (hy : y = .int .i64 (n : Int)) (hv : v < 281474976710656) (hn : n ≤ 8) (h0 : 0 < n) :
    Calls Tryz.prog 54 #[x, y] w fun e w' => ∃ g cp, e = .returned (.slice (some ⟨g, 0, none⟩) n cp) ∧ w'.ownsRow w.heap.size 5 1 (.slice (some ⟨g, 0, none⟩) n cp) n ((le n v).map (Value.int .u8)) ∧ Below w.heap.size w w' := by
  subst hx hy
  exact put_pos v n w hv hn h0
theorem held_next {w0 w w' : World} (h : Below w0.heap.size w0 w) (h2 : Below w.heap.size w w') : Below w0.heap.size w0 w' := h.trans (h2.mono h.size)
theorem held_alloc {w0 w : World} (h : Below w0.heap.size w0 w) (o : Obj) : Below w0.heap.size w0 (w.alloc o) := h.alloc h.size o
theorem held_drew {B : Nat} {w0 w : World} (h : Below B w0 w) : Below B w0 w.drew := h.drew
theorem rootBytes_pos (s : Int) (ds : List Int) (p q : Int) (w : World) (hd : ds.length = 12) (hs : 0 ≤ s ∧ s ≤ 262144) (hp : ∀ z ∈ ds ++ [p, q], 0 ≤ z ∧ z < 2048) :
    Calls Tryz.prog 55 #[.agg (cellsI (rootI s ds p q))] w fun e w' => ∃ g cp, e = .returned (.slice (some ⟨g, 0, none⟩) 64 cp) ∧ w'.ownsRow w.heap.size 5 1 (.slice (some ⟨g, 0, none⟩) 64 cp) 64 ((bytesR s ds p q).map (Value.int .u8)) ∧ Below w.heap.size w w' := by
  refine (rootBytes_any s ds p q w hd hs hp).mono ?_
  rintro e w' ⟨v', rfl, ho, hb⟩
  rcases ho.2 with ⟨rfl, hn0⟩ | ⟨g, cap, cur, rfl, _⟩
  · omega
  · exact ⟨g, cap, rfl, ho, hb⟩
theorem le2 (n : Nat) (h : n < 256) : le 2 n = le 1 n ++ List.replicate 1 0 := by
  have h1 : n / 256 % 256 = 0 := by omega
  simp [le, h1]
theorem bytesIno_join (a0 a1 a2 a3 a4 a5 a6 a7 a8 : Nat) (s : Int) (ds : List Int) (p q : Int) (hd : ds.length = 12) (h0 : a0 < 256) :
    (([le 2 a0, le 2 a1, le 2 a2, le 2 a3, le 2 a4, le 2 0, le 4 a5, le 8 a6, le 8 a7, le 8 a8, bytesR s ds p q] : List (List Int)).flatten ++ List.replicate (128 - ([le 2 a0, le 2 a1, le 2 a2, le 2 a3, le 2 a4, le 2 0, le 4 a5, le 8 a6, le 8 a7, le 8 a8, bytesR s ds p q] : List (List Int)).flatten.length) 0) = bytesIno a0 a1 a2 a3 a4 a5 a6 a7 a8 s ds p q := by
  have hl : ([le 2 a0, le 2 a1, le 2 a2, le 2 a3, le 2 a4, le 2 0, le 4 a5, le 8 a6, le 8 a7, le 8 a8, bytesR s ds p q] : List (List Int)).flatten.length = 104 := by
    simp only [List.flatten_cons, List.flatten_nil, List.length_append, le_len, bytesR_len s ds p q hd, List.length_nil]
  rw [hl]
  unfold bytesIno
  rw [le2 a0 h0, show le 2 0 = List.replicate 2 0 from rfl]
  simp only [List.flatten_cons, List.flatten_nil, List.append_nil, List.append_assoc]

theorem parts_len (a0 a1 a2 a3 a4 a5 a6 a7 a8 : Nat) (s : Int) (ds : List Int) (p q : Int) (hd : ds.length = 12) : ([le 2 a0, le 2 a1, le 2 a2, le 2 a3, le 2 a4, le 2 0, le 4 a5, le 8 a6, le 8 a7, le 8 a8, bytesR s ds p q] : List (List Int)).flatten.length = 104 := by
  simp only [List.flatten_cons, List.flatten_nil, List.length_append, le_len, bytesR_len s ds p q hd, List.length_nil]
theorem parts_pos (a0 a1 a2 a3 a4 a5 a6 a7 a8 : Nat) (s : Int) (ds : List Int) (p q : Int) (hd : ds.length = 12) : ∀ b ∈ ([le 2 a0, le 2 a1, le 2 a2, le 2 a3, le 2 a4, le 2 0, le 4 a5, le 8 a6, le 8 a7, le 8 a8, bytesR s ds p q] : List (List Int)), 0 < b.length := by
  intro b hb
  simp only [List.mem_cons, List.not_mem_nil, or_false] at hb
  rcases hb with rfl | rfl | rfl | rfl | rfl | rfl | rfl | rfl | rfl | rfl | rfl
  all_goals first | (rw [le_len]; omega) | (rw [bytesR_len s ds p q hd]; omega)

end Go.Proofs.YtkbbnflblkkepaaGreatDoor

namespace Go.Proofs.YtkbbnflblkkepaaGreatDoor
set_option linter.unusedVariables false
set_option linter.unusedSimpArgs false
open Go.RowKit

def encI (k0 k1 k2 k3 k4 k5 k6 k7 k8 s : Int) (ds : List Int) (p q : Int) : List Int := if rightIno k0 k1 k2 k3 k4 k5 k6 k7 k8 s ds p q = true then bytesIno k0.toNat k1.toNat k2.toNat k3.toNat k4.toNat k5.toNat k6.toNat k7.toNat k8.toNat s ds p q else []
def codeI (k0 k1 k2 k3 k4 k5 k6 k7 k8 s : Int) (ds : List Int) (p q : Int) : Int := if rightIno k0 k1 k2 k3 k4 k5 k6 k7 k8 s ds p q = true then 0 else 7
theorem encI_len (k0 k1 k2 k3 k4 k5 k6 k7 k8 s : Int) (ds : List Int) (p q : Int) (hd : ds.length = 12) : (encI k0 k1 k2 k3 k4 k5 k6 k7 k8 s ds p q).length ≤ 128 := by
  unfold encI
  split
  · rw [bytesIno_len _ _ _ _ _ _ _ _ _ s ds p q hd]; omega
  · simp
theorem ino_bd {k0 k1 k2 k3 k4 k5 k6 k7 k8 s : Int} {ds : List Int} {p q : Int} (hd : ds.length = 12) (h : rightIno k0 k1 k2 k3 k4 k5 k6 k7 k8 s ds p q = true) :
    (0 ≤ k0 ∧ k0 < 256) ∧ (0 ≤ k1 ∧ k1 < 65536) ∧ (0 ≤ k2 ∧ k2 < 65536) ∧ (0 ≤ k3 ∧ k3 < 65536) ∧ (0 ≤ k4 ∧ k4 < 65536) ∧ (0 ≤ k5 ∧ k5 < 4294967296) ∧ (0 ≤ k6 ∧ k6 < 281474976710656) ∧ (0 ≤ k7 ∧ k7 < 281474976710656) ∧ (0 ≤ k8 ∧ k8 < 281474976710656) ∧ (0 ≤ s ∧ s ≤ 262144) ∧ ∀ z ∈ ds ++ [p, q], 0 ≤ z ∧ z < 2048 := by
  unfold rightIno at h
  rw [Bool.or_eq_true] at h
  rcases h with h | h
  · rw [zeroB_iff] at h
    have hz : ∀ x ∈ inoI [k0, k1, k2, k3, k4, k5, k6, k7, k8] s ds p q, x = 0 := h
    have e0 := hz k0 (by simp [inoI])
    have e1 := hz k1 (by simp [inoI])
    have e2 := hz k2 (by simp [inoI])
    have e3 := hz k3 (by simp [inoI])
    have e4 := hz k4 (by simp [inoI])
    have e5 := hz k5 (by simp [inoI])
    have e6 := hz k6 (by simp [inoI])
    have e7 := hz k7 (by simp [inoI])
    have e8 := hz k8 (by simp [inoI])
    have es := hz s (by simp [inoI, rootI])
    refine ⟨by omega, by omega, by omega, by omega, by omega, by omega, by omega, by omega, by omega, by omega, fun z hm => ?_⟩
    have ez := hz z (by unfold inoI rootI; exact List.mem_append_right _ (List.mem_cons_of_mem _ hm))
    omega
  · rw [Bool.and_eq_true] at h
    have hb := right_bd hd h.2
    have hf := h.1
    unfold fieldsB at hf
    simp only [Bool.and_eq_true] at hf
    obtain ⟨⟨⟨⟨⟨⟨⟨⟨f0, f1⟩, f2⟩, f3⟩, f4⟩, f5⟩, f6⟩, f7⟩, f8⟩ := hf
    have g0 := wi_true f0
    have g1 := wi_true f1
    have g2 := wi_true f2
    have g3 := wi_true f3
    have g4 := wi_true f4
    have g6 := wi_true f6
    have g7 := wi_true f7
    have g8 := wi_true f8
    have g5 : 0 ≤ k5 ∧ k5 ≤ 1000 := by
      unfold parB at f5
      split at f5
      · have := wi_true f5; omega
      · simp at f5; omega
    exact ⟨by omega, by omega, by omega, by omega, by omega, by omega, by omega, by omega, by omega, hb.1, hb.2⟩

theorem openI {P : Prop} {k0 k1 k2 k3 k4 k5 k6 k7 k8 s : Int} {ds : List Int} {p q : Int} (hd : ds.length = 12) (hr : rightIno k0 k1 k2 k3 k4 k5 k6 k7 k8 s ds p q = true)
    (h : ∀ (a0 a1 a2 a3 a4 a5 a6 a7 a8 : Nat) (d0 d1 d2 d3 d4 d5 d6 d7 d8 d9 d10 d11 : Int), (k0 = (a0 : Int) ∧ k1 = (a1 : Int) ∧ k2 = (a2 : Int) ∧ k3 = (a3 : Int) ∧ k4 = (a4 : Int) ∧ k5 = (a5 : Int) ∧ k6 = (a6 : Int) ∧ k7 = (a7 : Int) ∧ k8 = (a8 : Int)) → ds = [d0, d1, d2, d3, d4, d5, d6, d7, d8, d9, d10, d11] → (a0 < 256 ∧ a1 < 65536 ∧ a2 < 65536 ∧ a3 < 65536 ∧ a4 < 65536 ∧ a5 < 4294967296 ∧ a6 < 281474976710656 ∧ a7 < 281474976710656 ∧ a8 < 281474976710656 ∧ (0 ≤ s ∧ s ≤ 262144) ∧ ∀ z ∈ ds ++ [p, q], 0 ≤ z ∧ z < 2048) → P) : P := by
  obtain ⟨b0, b1, b2, b3, b4, b5, b6, b7, b8, bs, bp⟩ := ino_bd hd hr
  obtain ⟨d0, d1, d2, d3, d4, d5, d6, d7, d8, d9, d10, d11, rfl⟩ := list12 hd
  exact h k0.toNat k1.toNat k2.toNat k3.toNat k4.toNat k5.toNat k6.toNat k7.toNat k8.toNat d0 d1 d2 d3 d4 d5 d6 d7 d8 d9 d10 d11 ⟨by omega, by omega, by omega, by omega, by omega, by omega, by omega, by omega, by omega⟩ rfl ⟨by omega, by omega, by omega, by omega, by omega, by omega, by omega, by omega, by omega, bs, bp⟩

end Go.Proofs.YtkbbnflblkkepaaGreatDoor
