/- Slices of inodes: what they read as; a copy (toInodeS), two that are the same held against each other (eqInodeS), their size (szInodeS). -/
import Derived.Test.YtojbohdabnbpfaaDoorInoD
import Derived.Test.YtojbohdabnbpfaaDoorDinE
import Derived.Test.YtojbohdabnbpfaaDoorPure
import Derived.Deep.RegionHeld3
namespace Go.Proofs.YtojbohdabnbpfaaDoor
set_option linter.unusedVariables false
set_option linter.unusedSimpArgs false
open Go.RowKit

/-- The slice value v reads in w as n inodes, the integers zs, twenty-four each. -/
def RdT (w : World) (v : Value) (n : Nat) (zs : List Int) : Prop :=
  zs.length = n * 24 ∧ ∃ a cap, v = .slice a n cap ∧ (0 < n → ∃ b off, a = some ⟨b, off, none⟩ ∧ b < w.heap.size ∧ ∀ i, i < n * 24 → w.cell? ⟨b, off + i, none⟩ = some (.int .i64 (zs.getD i 0))) ∧ n ≤ cap ∧ cap ≤ maxLen
/-- The integers of inode k. -/
def rowT (zs : List Int) (k : Nat) : List Int := (zs.drop (k * 24)).take 24
theorem rowT_len (zs : List Int) (k n : Nat) (hz : zs.length = n * 24) (hk : k < n) : (rowT zs k).length = 24 := by simp [rowT]; omega
theorem rowT_get (zs : List Int) (k j : Nat) (hj : j < 24) : (rowT zs k).getD j 0 = zs.getD (k * 24 + j) 0 := by
  simp [rowT, List.getD, hj]
theorem RdT.below {w w' : World} {v : Value} {n : Nat} {zs : List Int} (h : RdT w v n zs) (hb : Below w.heap.size w w') : RdT w' v n zs := by
  obtain ⟨hz, a, cap, rfl, hc, hcap⟩ := h
  refine ⟨hz, a, cap, rfl, fun hne => ?_, hcap⟩
  obtain ⟨b, off, rfl, hlt, hcell⟩ := hc hne
  exact ⟨b, off, rfl, Nat.lt_of_lt_of_le hlt hb.size, fun i hi => (hb.cell (p := ⟨b, off + i, none⟩) hlt).trans (hcell i hi)⟩
theorem RdT.parts {w : World} {v : Value} {n : Nat} {zs : List Int} (h : RdT w v n zs) : (∃ a cap, v = .slice a n cap ∧ n < 1) ∨
    ∃ b off cap, v = .slice (some ⟨b, off, none⟩) n cap ∧ b < w.heap.size ∧ ∀ i, i < n * 24 → w.cell? ⟨b, off + i, none⟩ = some (.int .i64 (zs.getD i 0)) := by
  obtain ⟨hz, a, cap, rfl, hc, _⟩ := h
  rcases Nat.eq_zero_or_pos n with h0 | h0
  · exact .inl ⟨a, cap, rfl, by omega⟩
  · obtain ⟨b, off, rfl, hlt, hcell⟩ := hc h0
    exact .inr ⟨b, off, cap, rfl, hlt, hcell⟩
theorem RdT.len {w : World} {v : Value} {n : Nat} {zs : List Int} (h : RdT w v n zs) : n ≤ maxLen := by
  obtain ⟨_, _, cap, _, _, h1, h2⟩ := h; omega
theorem range_row {w : World} {b off n k : Nat} {zs : List Int} (hz : zs.length = n * 24) (hk : k < n) (hc : ∀ i, i < n * 24 → w.cell? ⟨b, off + i, none⟩ = some (.int .i64 (zs.getD i 0))) : w.rangeAt b (off + k * 24) ((rowT zs k).map (Value.int .i64)) := by
  intro j v hv
  have hj : j < 24 := by
    have := (List.getElem?_eq_some_iff.1 hv).1
    rw [List.length_map, rowT_len zs k n hz hk] at this
    exact this
  have e : (rowT zs k)[j]? = some (zs.getD (k * 24 + j) 0) := by
    rw [← rowT_get zs k j hj]
    simp [List.getD, show j < (rowT zs k).length by rw [rowT_len zs k n hz hk]; exact hj]
  rw [List.getElem?_map, e] at hv
  obtain rfl := Option.some.inj hv
  rw [Nat.add_assoc, hc (k * 24 + j) (by omega)]
theorem RdT.own {w : World} {base : Nat} {e : TypeId} {v : Value} {n : Nat} {zs : List Int} (h : w.ownsRow base e 24 v n (zs.map (Value.int .i64))) : RdT w v n zs := by
  have hl : zs.length = n * 24 := by have := h.1; simpa using this
  rcases h.2 with ⟨rfl, h0⟩ | ⟨g, cap, cur, rfl, hb, hg, hnc, hcm, hcs, htake⟩
  · subst h0
    exact ⟨hl, none, 0, rfl, fun h => absurd h (by omega), by simp, by simp⟩
  · refine ⟨hl, some ⟨g, 0, none⟩, cap, rfl, fun _ => ⟨g, 0, rfl, (Array.getElem?_eq_some_iff.1 hg).1, fun i hi => ?_⟩, hnc, hcm⟩
    have hc := cell_of_row w g i cur e (0, 0) hg
    rw [Nat.zero_add, hc]
    have : (cur.toList.take (n * 24))[i]? = (zs.map (Value.int .i64))[i]? := by rw [htake]
    rw [List.getElem?_take, if_pos hi] at this
    simpa [List.getD, show i < zs.length by omega] using this

theorem infoT24 : (Tryd.prog.info? 48).map (fun i => (i.zero, i.size, i.bytes)) = some (some (.agg (cellsI (List.replicate 24 0))), 24, 192) := by kernel_rfl
theorem made_zero24 (n : Nat) : (madeCells (Value.agg (cellsI (List.replicate 24 0))).cells (n * 24)).toList = (List.replicate (n * 24) (0 : Int)).map (Value.int .i64) := by
  apply List.ext_getElem?
  intro j
  have hm : j % 24 < 24 := Nat.mod_lt _ (by omega)
  have hs := cellsI_get (List.replicate 24 0) (j % 24) (by simpa using hm)
  have hv : (List.replicate 24 (0 : Int)).getD (j % 24) 0 = 0 := by
    rw [List.getD, List.getElem?_replicate, if_pos hm]; rfl
  rw [hv] at hs
  have hc : (Value.agg (cellsI (List.replicate 24 0))).cells = cellsI (List.replicate 24 0) := rfl
  rw [hc]
  by_cases hj : j < n * 24
  · rw [List.getElem?_map, List.getElem?_replicate, if_pos hj]
    have hx : (cellsI (List.replicate 24 0))[j % 24]! = .int .i64 0 := by rw [getElem!_def, hs]
    have hsz : (cellsI (List.replicate 24 0)).size = 24 := by rw [cellsI_size, List.length_replicate]
    generalize cellsI (List.replicate 24 0) = c at hx hsz
    simp [madeCells, hj, hsz, hx]
  · simp [madeCells, hj]
theorem own_blk {w : World} {base g n : Nat} {e : TypeId} {zs : List Int} (h : w.ownsRow base e 24 (.slice (some ⟨g, 0, none⟩) n n) n (zs.map (Value.int .i64))) : Blk w g (cellsI zs) e := by
  rcases h.2 with ⟨e0, _⟩ | ⟨g', cap, cur, e1, hb, hg, hnc, hcm, hcs, htake⟩
  · simp at e0
  · injection e1 with e1 e2 e3
    injection e1 with e1
    injection e1 with e4
    subst e3 e4
    have : cur = cellsI zs := by
      apply Array.ext'
      rw [List.take_of_length_le (by simp; omega)] at htake
      rw [htake]; rfl
    subst this
    exact hg
theorem blk_own {w : World} {base g n : Nat} {e : TypeId} {zs : List Int} (h : Blk w g (cellsI zs) e) (hz : zs.length = n * 24) (hb : base ≤ g) (hm : n ≤ maxLen) : w.ownsRow base e 24 (.slice (some ⟨g, 0, none⟩) n n) n (zs.map (Value.int .i64)) :=
  ⟨by simpa using hz, .inr ⟨g, n, cellsI zs, rfl, hb, h, Nat.le_refl _, hm, by rw [cellsI_size, hz], by
    rw [List.take_of_length_le (by show (cellsI zs).toList.length ≤ _; rw [Array.length_toList, cellsI_size]; omega)]; rfl⟩⟩
theorem fill_row (zs : List Int) (k n : Nat) (hz : zs.length = n * 24) (hk : k < n) : over (zs.take (k * 24) ++ List.replicate ((n - k) * 24) 0) (k * 24) (rowT zs k) = zs.take ((k + 1) * 24) ++ List.replicate ((n - (k + 1)) * 24) 0 := by
  have hl := rowT_len zs k n hz hk
  have e1 : (zs.take (k * 24)).length = k * 24 := by simp; omega
  unfold over
  rw [hl, List.take_append_of_le_length (by omega), List.take_of_length_le (by omega), List.drop_append, e1, List.drop_of_length_le (by omega), List.nil_append, List.drop_replicate]
  have e2 : zs.take ((k + 1) * 24) = zs.take (k * 24) ++ rowT zs k := by
    unfold rowT
    rw [← List.take_add]
    congr 1
    omega
  rw [e2]
  congr 2
  omega

end Go.Proofs.YtojbohdabnbpfaaDoor
