/- The program lays a snapshot down: layLetters, laySnap. -/
import Derived.Test.YtfpfhmnmcjnmaaaDoorSnapB
import Derived.Test.YtfpfhmnmcjnmaaaDoorSeal
import Derived.Deep.RegionHeld3
import Derived.Room.AppendFits
namespace Go.Proofs.YtfpfhmnmcjnmaaaDoor
set_option linter.unusedVariables false
set_option linter.unusedSimpArgs false
open Go.RowKit

theorem wp_append_fits {P : Program} (w : World) {o : Oper} {a : Act} {K : Act → World → Prop} {Q : Exit → Act → World → Prop}
    (s x : Operand) (t : TypeId) (hop : o.op = Op.call { callee := Callee.builtin Builtin.append, args := #[s, x], argTypes := #[t, t] })
    (base : Nat) (e : TypeId) (i : TypeInfo) (size : Nat) (h1 : P.underlying t = some (.slice e)) (h2 : P.info? e = some i) (h4 : i.size = size)
    (g k cap : Nat) (xs : List Value) (hs : a.eval s = .slice (some ⟨g, 0, none⟩) k cap) (hown : w.ownsRow base e size (.slice (some ⟨g, 0, none⟩) k cap) k xs) (ad : Addr) (m c : Nat) (news : List Value) (hx : a.eval x = .slice (some ad) m c) (hn : news.length = m * size)
    (hc : ∀ j u, news[j]? = some u → w.cell? (ad.add j) = some u) (h1c : ∀ u ∈ news, u.oneCell' = true) (b1 : k + m ≤ cap)
    (hK : ∀ w', w'.ownsRow base e size (.slice (some ⟨g, 0, none⟩) (k + m) cap) (k + m) (xs ++ news) → w.grownBy w' (some g) → K (a.put o.dst (.slice (some ⟨g, 0, none⟩) (k + m) cap)) w') :
    o.wp P a w K Q := by
  obtain ⟨w', hrun, r1, r2⟩ := run_append_fits (P := P) w base t o.type e i size h1 h2 h4 g k cap xs hown ad m c news hn hc h1c b1
  unfold Oper.wp
  simp [execOp, hop, resolve, invoke, builtin, hs, hx, hrun, Result.andThen]
  exact hK w' r1 r2
theorem make512 (w : World) : (Instr.makeSlice 23 (.int .i64 0) (.int .i64 512)).run Tryd.prog w = .ok (.slice (some ⟨w.heap.size, 0, none⟩) 0 512) (w.alloc (.cells (Array.replicate 512 (.int .u8 0)) 5)) := by kernel_rfl

set_option maxRecDepth 100000 in
set_option maxHeartbeats 1000000 in
theorem layLetters_any (b0 b1 b2 b3 b4 b5 b6 b7 : Int) (w : World) :
    Calls Tryd.prog 109 #[.agg #[.int .u8 b0, .int .u8 b1, .int .u8 b2, .int .u8 b3, .int .u8 b4, .int .u8 b5, .int .u8 b6, .int .u8 b7]] w fun e w' => e = .returned (.slice (some ⟨w.heap.size + 1, 0, none⟩) 8 512) ∧ w'.ownsRow w.heap.size 5 1 (.slice (some ⟨w.heap.size + 1, 0, none⟩) 8 512) 8 (([b0, b1, b2, b3, b4, b5, b6, b7] : List Int).map (Value.int .u8)) ∧ Below w.heap.size w w' := by
  obtain ⟨i0, hi, hz0, hz1', hz2⟩ := info_parts infoU8
  obtain ⟨W, hW⟩ : ∃ W, W = w.alloc (.cells #[.int .u8 b0, .int .u8 b1, .int .u8 b2, .int .u8 b3, .int .u8 b4, .int .u8 b5, .int .u8 b6, .int .u8 b7] 121) := ⟨_, rfl⟩
  have K0 := hide (show Blk W w.heap.size #[.int .u8 b0, .int .u8 b1, .int .u8 b2, .int .u8 b3, .int .u8 b4, .int .u8 b5, .int .u8 b6, .int .u8 b7] 121 ∧ Below w.heap.size w W ∧ W.heap.size = w.heap.size + 1 from by rw [hW]; exact ⟨Blk.new w _ _, (Below.refl _ _).alloc (Nat.le_refl _) _, by simp⟩)
  have hlt : w.heap.size < W.heap.size := K0.out.1.lt
  have hmk := make512
  have OWN := hide (World.ownsRow_made (base := W.heap.size) (e := 5) (size := 1) W (Array.replicate 512 (.int .u8 0)) 512 (Nat.le_refl _) (by unfold maxLen; omega) (by simp))
  have HW := hide hW
  clear hW
  go_enter Tryd.func109, Tryd.ntmps109
  go_wp2
  rw [← HW.out]
  refine wp_region_noPanic ?_
  refine wp_region_held_drew (S := fun w' => Below W.heap.size W w') (by kernel_rfl) ((Below.refl _ _).drew) (fun hH => ?_)
  refine wpAnyH_take (i := 1) (oi := _) (v := .slice (some ⟨w.heap.size, 0, none⟩) 8 8) rfl (by kernel_rfl) (by kernel_rfl) (by kernel_rfl) (fun _ _ _ h => h) (Or.inl ⟨by rfl, fun w' hw' => by go_simp⟩) hH ?_
  try simp only [Act.put, List.setIfInBounds_toArray, List.set_cons_zero, List.set_cons_succ]
  refine wpAnyH_ready (rs := [0]) (by kernel_rfl) (by simp) ?_
  refine AllReadyH.cons (o := _) rfl (fun K hK => ?_) AllReadyH.nil
  go_simp
  refine hK.out _ _ ((Below.refl W.heap.size W).drew.alloc (Nat.le_refl _) _) (fun hH2 => ?_)
  clear hK K hH
  try simp only [Act.put, List.setIfInBounds_toArray, List.set_cons_zero, List.set_cons_succ]
  refine wpAnyH_ready (rs := [2]) (by kernel_rfl) (by simp) ?_
  refine AllReadyH.cons (o := _) rfl (fun K hK => ?_) AllReadyH.nil
  rw [if_pos (by rfl)]
  refine wp_append_fits _ (.tmp 3) (.tmp 4) 23 rfl W.heap.size 5 i0 1 Tryd.underlying23 hi hz1' W.heap.size 0 512 [] rfl OWN.out.drew ⟨w.heap.size, 0, none⟩ 8 8 (([b0, b1, b2, b3, b4, b5, b6, b7] : List Int).map (Value.int .u8)) rfl rfl (fun j u hj => ?_) (ints_oneCell _ _) (by omega) ?_
  · have ea : (⟨w.heap.size, 0, none⟩ : Addr).add j = ⟨w.heap.size, j, none⟩ := by unfold Addr.add; split <;> simp_all
    rw [ea, hH2.cell (p := ⟨w.heap.size, j, none⟩) hlt, K0.out.1.cell j, ← hj, List.getElem?_toArray]
    rfl
  · intro w3 o3 g3
    have H3 := hide (show w3.ownsRow w.heap.size 5 1 (.slice (some ⟨W.heap.size, 0, none⟩) 8 512) 8 (([b0, b1, b2, b3, b4, b5, b6, b7] : List Int).map (Value.int .u8)) ∧ Below w.heap.size w w3 from ⟨own_mono (by simpa using o3) (Nat.le_of_lt hlt), K0.out.2.1.trans (below_far g3 (Nat.le_of_lt hlt))⟩)
    refine hK.out _ _ (below_far g3 (Nat.le_refl _)) (fun hH3 => ?_)
    clear hK K o3 g3 hH2
    try simp only [Act.put, List.setIfInBounds_toArray, List.set_cons_zero, List.set_cons_succ]
    refine wpAnyH_ready (rs := [3]) (by kernel_rfl) (by simp) ?_
    refine AllReadyH.cons (o := _) rfl (fun K hK => ?_) AllReadyH.nil
    go_simp
    refine hK.out _ _ hH3 (fun hH4 => ?_)
    clear hK K
    try simp only [Act.put, List.setIfInBounds_toArray, List.set_cons_zero, List.set_cons_succ]
    refine wpAnyH_done (by kernel_rfl) (NoPanic.normal ?_) _
    clear hH3 hH4
    go_wp2
    go_ret
    have e := K0.out.2.2
    rw [← e]
    exact ⟨rfl, H3.out.1, H3.out.2⟩
end Go.Proofs.YtfpfhmnmcjnmaaaDoor
