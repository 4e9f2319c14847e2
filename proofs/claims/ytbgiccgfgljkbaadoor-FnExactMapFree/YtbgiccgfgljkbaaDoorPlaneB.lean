/- A plane set in a map: the program's MapPlane. -/
import Derived.Test.YtbgiccgfgljkbaaDoorPlaneA
import Derived.Test.YtbgiccgfgljkbaaDoorDoor
namespace Go.Proofs.YtbgiccgfgljkbaaDoor
set_option linter.unusedVariables false
set_option linter.unusedSimpArgs false
open Go.RowKit

theorem isBlock_any (z : Int) (n : Nat) (w : World) :
    Calls Tryd.prog 30 #[.int .i64 z, .int .i64 (n : Int)] w fun e w' => e = .returned (.bool (insB n z)) ∧ w' = w := by
  by_cases h1 : 2 ≤ z <;> by_cases h2 : z < (n : Int)
  all_goals
    have HI := hide (show insB n z = (decide (2 ≤ z) && decide (z < (n : Int))) from rfl)
    go_enter Tryd.func30, Tryd.ntmps30
    go_wp2
    go_ret
    exact ⟨ret_bool (by rw [HI.out]; simp [h1, h2]), rfl⟩

theorem own_splice {w : World} {g n : Nat} {e : TypeId} {xs : List Value} (h : w.heap[g]? = some (.cells xs.toArray e (0, 0))) (hn : xs.length = n) (hm : n ≤ maxLen) (base : Nat) (hb : base ≤ g) : w.ownsRow base e 1 (.slice (some ⟨g, 0, none⟩) n n) n xs :=
  ⟨by omega, .inr ⟨g, n, xs.toArray, rfl, hb, h, Nat.le_refl _, hm, by simp [hn], by rw [Nat.mul_one]; exact List.take_of_length_le (by simp; omega)⟩⟩

theorem own_full {w : World} {base g n : Nat} {e : TypeId} {xs : List Value} (h : w.ownsRow base e 1 (.slice (some ⟨g, 0, none⟩) n n) n xs) : w.heap[g]? = some (.cells xs.toArray e (0, 0)) := by
  rcases h.2 with ⟨h1, _⟩ | ⟨g', cap, cur, e1, hb, hg, hnc, hcm, hcs, htake⟩
  · cases h1
  · injection e1 with e1 e2 e3
    injection e1 with e1
    injection e1 with e1
    subst e1 e3
    rw [hg]
    have : cur = xs.toArray := by
      apply Array.ext'
      rw [← htake, List.take_of_length_le (by simp; omega)]
    rw [this]
theorem splice_all {α : Type} (L X : List α) (h : L.length = X.length) : splice L 0 X = X := by
  unfold splice
  rw [List.drop_of_length_le (by omega)]
  simp

set_option maxRecDepth 100000 in
set_option maxHeartbeats 400000 in
theorem copyW_any (v : Value) (ws : List Int) (w : World) (h : Rd .i64 w v ws) (hn : ws.length ≤ 1048576) :
    Calls Tryd.prog 29 #[v] w fun e w' => e = .returned (.slice (some ⟨w.heap.size, 0, none⟩) ws.length ws.length) ∧ w'.ownsRow w.heap.size 3 1 (.slice (some ⟨w.heap.size, 0, none⟩) ws.length ws.length) ws.length (ws.map (Value.int .i64)) ∧ Below w.heap.size w w' := by
  obtain ⟨i0, hi, hz0, hz1, hz2⟩ := info_parts infoI64
  have hm := h.len
  have HN := hide (show ws.length ≤ maxLen from hm)
  unfold maxLen at hm
  obtain ⟨X, hX⟩ : ∃ X, X = ws.map (Value.int .i64) := ⟨_, rfl⟩
  have HX := hide (show X.length = ws.length ∧ (∀ v ∈ X, v.oneCell' = true) from by subst hX; refine ⟨by simp, ?_⟩; intro v hv; simp at hv; obtain ⟨z, _, rfl⟩ := hv; rfl)
  have HSrc := hide (show ∀ a cap, v = .slice a ws.length cap → 0 < X.length → ∃ ad, a = some ad ∧ ∀ j u, X[j]? = some u → w.cell? (ad.add j) = some u from by
    intro a cap e hpos
    obtain ⟨b, off, cap', rfl, hbw, _, _, hcell⟩ := h.partsC (by subst hX; simpa using hpos)
    injection e with e1 e2 e3
    subst e1
    refine ⟨_, rfl, fun j u hu => ?_⟩
    have hj : j < ws.length := by
      rcases Nat.lt_or_ge j ws.length with h1 | h1
      · exact h1
      · rw [hX, List.getElem?_eq_none (by simp; omega)] at hu; cases hu
    have ea : (⟨b, off, none⟩ : Addr).add j = ⟨b, off + j, none⟩ := by
      unfold Addr.add
      split
      · rename_i h; subst h; rfl
      · rfl
    rw [ea]
    rw [hcell j hj]
    rw [hX] at hu
    simp [hj] at hu
    rw [← hu]
    simp [List.getD, hj])
  have hsh : ∃ a cap, v = .slice a ws.length cap := by obtain ⟨a, cap, h1, _⟩ := h; exact ⟨a, cap, h1⟩
  obtain ⟨a0, cap0, rfl⟩ := hsh
  rw [← hX]
  clear h hX
  go_enter Tryd.func29, Tryd.ntmps29
  go_wp2_with (first
    | (refine wpList_make_full _ rfl (.tmp 5) (.tmp 5) 22 rfl w.heap.size 3 i0 (.int .i64 0) 1 Tryd.underlying22 hi hz0 hz1 .i64 .i64 ws.length ws.length ws.length rfl rfl rfl rfl (by rw [hz2]; omega) (by unfold maxLen; omega) (Nat.le_refl _) ?_; intro w1 hown hgrow; rw [made_one _ _ rfl] at hown; have H1 := hide (And.intro hown hgrow); clear hown hgrow)
    | (refine wpList_copy_splice rfl (.tmp 7) (.tmp 8) 22 22 rfl 3 Tryd.underlying22 (by rw [hi]; exact congrArg some hz1) (some ⟨w.heap.size, 0, none⟩) a0 ws.length ws.length ws.length cap0 rfl rfl w.heap.size 0 (List.replicate ws.length (.int .i64 0)) 3 (own_full H1.out.1) X (by rw [HX.out.1]; exact (Nat.min_self _).symm) (fun hpos => ⟨rfl, ?_⟩) (by rw [HX.out.1, List.length_replicate, Nat.zero_add]; exact Nat.le_refl _) HX.out.2 w.heap.size w ((Below.refl _ _).grown H1.out.2 (Nat.le_refl _) (fun k h => by cases h)) (Nat.le_refl _) ?_))
  · obtain ⟨ad, e, hc⟩ := HSrc.out _ _ rfl hpos
    refine ⟨ad, e, fun j v hv => ?_⟩
    exact (((Below.refl _ _).grown H1.out.2 (Nat.le_refl _) (fun k h => by cases h)).cell (cell_lt (hc j v hv))).trans (hc j v hv)
  · intro w2 h2 hb2
    have H2 := hide (And.intro h2 hb2)
    clear h2 hb2
    go_wp2
    go_ret
    refine ⟨rfl, own_splice ?_ HX.out.1 HN.out _ (Nat.le_refl _), H2.out.2⟩
    have h := H2.out.1.out
    rw [splice_all _ _ (by rw [HX.out.1]; simp)] at h
    exact h
end Go.Proofs.YtbgiccgfgljkbaaDoor
