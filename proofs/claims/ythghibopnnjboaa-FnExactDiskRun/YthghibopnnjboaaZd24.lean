/- The model's crash: what is kept of the cache. -/
import Derived.Test.YthghibopnnjboaaZd23
namespace Go.Proofs.Ythghibopnnjboaa
set_option linter.unusedVariables false
set_option linter.unusedSimpArgs false
open Go.RowKit

/-- The first i cached writes that survive. -/
def keptTo (ch : List Int) (C : List (Nat × List Int)) : Nat → List (Nat × List Int)
  | 0 => []
  | i + 1 => match C[i]? with
    | some c => if keeps ch i then keptTo ch C i ++ [c] else keptTo ch C i
    | none => keptTo ch C i
theorem keptTo_yes {ch : List Int} {C : List (Nat × List Int)} {i : Nat} {c : Nat × List Int} (h : C[i]? = some c) (hk : keeps ch i = true) : keptTo ch C (i + 1) = keptTo ch C i ++ [c] := by
  rw [keptTo, h]
  simp [hk]
theorem keptTo_no {ch : List Int} {C : List (Nat × List Int)} {i : Nat} {c : Nat × List Int} (h : C[i]? = some c) (hk : keeps ch i = false) : keptTo ch C (i + 1) = keptTo ch C i := by
  rw [keptTo, h]
  simp [hk]
theorem keptTo_mem (ch : List Int) (C : List (Nat × List Int)) : ∀ i, ∀ c ∈ keptTo ch C i, c ∈ C
  | 0, c, h => by cases h
  | i + 1, c, h => by
    rw [keptTo] at h
    split at h
    · rename_i x hx
      split at h
      · rcases List.mem_append.1 h with h | h
        · exact keptTo_mem ch C i c h
        · rw [List.mem_singleton.1 h]; exact List.mem_of_getElem? hx
      · exact keptTo_mem ch C i c h
    · exact keptTo_mem ch C i c h
theorem keptTo_len (ch : List Int) (C : List (Nat × List Int)) : ∀ i, (keptTo ch C i).length ≤ i
  | 0 => by simp [keptTo]
  | i + 1 => by
    have := keptTo_len ch C i
    rw [keptTo]
    split
    · split
      · rw [List.length_append, List.length_singleton]; omega
      · omega
    · omega
/-- A list of writes in a row of its own, whose bytes are read. -/
structure Kr (W0 W : World) (base : Nat) (v : Value) (K : List (Nat × List Int)) (us : List Value) : Prop where
  len : us.length = K.length
  row : W.ownsRow base 92 2 v K.length (cellsN us (K.map neW))
  dat : ∀ (i : Nat) (u : Value) (c : Nat × List Int), us[i]? = some u → K[i]? = some c → Rd .u8 W0 u c.2
theorem Kr.rd {W0 W : World} {base : Nat} {v : Value} {K : List (Nat × List Int)} {us : List Value} (h : Kr W0 W base v K us) (hb0 : Below W0.heap.size W0 W) : RdN W 1 v (K.map neW) us := by
  have hl : (K.map neW).length = K.length := List.length_map ..
  refine ⟨by rw [hl]; exact h.len, fun l hl => ?_, ?_, fun i u l hu hl => ?_⟩
  · obtain ⟨c, _, rfl⟩ := List.mem_map.1 hl
    rfl
  · have hrow := h.row
    rcases h.row.2 with ⟨rfl, h0⟩ | ⟨g, cap, cur, rfl, hb, hg, h1, h2, h3, h4⟩
    · exact ⟨none, 0, by rw [hl, h0], fun hn => by omega, by omega, by unfold maxLen; omega⟩
    · refine ⟨some ⟨g, 0, none⟩, cap, by rw [hl], fun _ => ⟨g, 0, rfl, (hrow.lt g rfl).2, fun j u hu => ?_⟩, by rw [hl]; exact h1, h2⟩
      have := hrow.cells (g := g) rfl j u hu
      rw [Addr.add_mid] at this
      exact this
  · rw [List.getElem?_map] at hl
    cases hc : K[i]? with
    | none => rw [hc] at hl; cases hl
    | some c =>
      rw [hc] at hl
      have : neW c = l := by simpa using hl
      rw [← this]
      exact (h.dat i u c hu hc).below hb0
theorem Kr.below {W0 W W' : World} {base : Nat} {v : Value} {K : List (Nat × List Int)} {us : List Value} (h : Kr W0 W base v K us) (hb : Below W.heap.size W W') : Kr W0 W' base v K us :=
  ⟨h.len, own_below h.row hb, h.dat⟩
theorem Kr.push {W0 W W' : World} {base : Nat} {v v' : Value} {K : List (Nat × List Int)} {us : List Value} (h : Kr W0 W base v K us) (c : Nat × List Int) (u : Value) (hu : Rd .u8 W0 u c.2) (ho : W'.ownsRow base 92 2 v' (K.length + 1) (cellsN us (K.map neW) ++ [.int .i64 (c.1 : Int), u])) : Kr W0 W' base v' (K ++ [c]) (us ++ [u]) := by
  refine ⟨by rw [List.length_append, List.length_append, h.len]; rfl, ?_, fun i x y hx hy => ?_⟩
  · rw [List.length_append, List.length_singleton, List.map_append, cellsN_append _ _ _ _ (by rw [List.length_map]; exact h.len)]
    exact ho
  · rcases Nat.lt_or_ge i K.length with hi | hi
    · rw [List.getElem?_append_left (by rw [h.len]; exact hi)] at hx
      rw [List.getElem?_append_left hi] at hy
      exact h.dat i x y hx hy
    · rw [List.getElem?_append_right (by rw [h.len]; exact hi), h.len] at hx
      rw [List.getElem?_append_right hi] at hy
      rcases Nat.eq_zero_or_pos (i - K.length) with h0 | h0
      · rw [h0] at hx hy
        have e1 : x = u := by simpa using hx.symm
        have e2 : y = c := by simpa using hy.symm
        rw [e1, e2]
        exact hu
      · rw [List.getElem?_eq_none (by simp; omega)] at hx; cases hx
end Go.Proofs.Ythghibopnnjboaa
