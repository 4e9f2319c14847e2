/- The program's commands, walked. -/
import Derived.Test.YtnljpaohkkdjjaaGreatDoorPmA
import Derived.Carry
namespace Go.Proofs.YtnljpaohkkdjjaaGreatDoor
set_option linter.unusedVariables false
set_option linter.unusedSimpArgs false
open Go.RowKit

def fnV (j : Nat) : Value := match j with
  | 1 => .func (.func 28) #[] #[]
  | 2 => .func (.func 27) #[] #[]
  | 3 => .func (.func 26) #[] #[]
  | 4 => .func (.func 30) #[] #[]
  | 5 => .func (.func 29) #[] #[]
  | 6 => .func (.func 32) #[] #[]
  | 7 => .func (.func 33) #[] #[]
  | 8 => .func (.func 34) #[] #[]
  | _ => .func (.func 31) #[] #[]
/-- A slice that holds how the words of a form are read; in memory that came behind block b. -/
def CoR (W : World) (b : Nat) (s : Value) (f : List UInt8) : Prop := (f = [] ∧ s = .slice none 0 0) ∨ ∃ g, b < g ∧ g < W.heap.size ∧ s = .slice (some ⟨g, 0, none⟩) f.length f.length ∧ ∀ (i : Nat) (c : UInt8), f[i]? = some c → W.cell? ⟨g, i, none⟩ = some (.int .i64 (codeF c))
theorem CoR.keep {W W' : World} {b : Nat} {s : Value} {f : List UInt8} (h : CoR W b s f) (hs : W.heap.size ≤ W'.heap.size) (hk : ∀ g, b < g → g < W.heap.size → W'.heap[g]? = W.heap[g]?) : CoR W' b s f := by
  rcases h with h | ⟨g, h1, h2, h3, h4⟩
  · exact .inl h
  · exact .inr ⟨g, h1, Nat.lt_of_lt_of_le h2 hs, h3, fun i c hc => (World.cell?_of_block (a := ⟨g, i, none⟩) (hk g h1 h2)).trans (h4 i c hc)⟩
theorem CoR.rd {W : World} {b : Nat} {s : Value} {f : List UInt8} (h : CoR W b s f) (hf : f.length ≤ 4096) : Rd .i64 W s (f.map codeF) := by
  rcases h with ⟨rfl, rfl⟩ | ⟨g, h1, h2, rfl, h4⟩
  · exact ⟨none, 0, rfl, by simp, fun h => absurd rfl h, by simp, by simp⟩
  · refine ⟨some ⟨g, 0, none⟩, f.length, by simp, by rw [List.length_map]; unfold maxLen; omega, fun _ => ⟨g, 0, rfl, h2, fun i hi => ?_⟩, by simp, by unfold maxLen; omega⟩
    rw [List.length_map] at hi
    rw [Nat.zero_add, h4 i (f[i]) (List.getElem?_eq_getElem hi)]
    simp [List.getD, hi]
/-- The first k commands lie in the map at w's end. -/
structure CmI (w : World) (k : Nat) (W : World) : Prop where
  ex : ∃ V : List Value, V.length = k ∧ W.heap[w.heap.size]? = some (.map (entM 0 (cmdN.take k) V).toArray k) ∧ ∀ (i : Nat) (v : Value), V[i]? = some v → ∃ s, v = .agg #[.int .i64 ((i : Int) + 1), fnV (cmdK.getD i 0), s] ∧ CoR W w.heap.size s (cmdF.getD i [])
  bel : Below w.heap.size w W
theorem CmI.start (w : World) : CmI w 0 (w.alloc (.map #[] 0)) := ⟨⟨[], rfl, heap_alloc_new w _, fun i v h => (by simp at h)⟩, (Below.refl _ _).alloc (Nat.le_refl _) _⟩
theorem CmI.lt {w W : World} {k : Nat} (h : CmI w k W) : w.heap.size < W.heap.size := by
  obtain ⟨V, _, h2, _⟩ := h.ex
  exact (Array.getElem?_eq_some_iff.1 h2).1
theorem CmI.alloc {w W : World} {k : Nat} (h : CmI w k W) (o : Obj) : CmI w k (W.alloc o) := by
  have hlt := h.lt
  obtain ⟨V, h1, h2, h3⟩ := h.ex
  refine ⟨⟨V, h1, (Below.heap_alloc W o _ hlt).trans h2, fun i v hv => ?_⟩, h.bel.alloc h.bel.size o⟩
  obtain ⟨s, e, hs⟩ := h3 i v hv
  exact ⟨s, e, hs.keep (by simp) (fun g _ hg => Below.heap_alloc W o g hg)⟩
theorem CmI.below {w W W' : World} {k : Nat} (h : CmI w k W) (hb : Below W.heap.size W W') : CmI w k W' := by
  have hlt := h.lt
  obtain ⟨V, h1, h2, h3⟩ := h.ex
  refine ⟨⟨V, h1, (hb.block _ hlt).trans h2, fun i v hv => ?_⟩, h.bel.trans (hb.mono h.bel.size)⟩
  obtain ⟨s, e, hs⟩ := h3 i v hv
  exact ⟨s, e, hs.keep hb.size (fun g _ hg => hb.block g hg)⟩
set_option maxRecDepth 100000 in
theorem cmd_new : ∀ k : Fin 27, (cmdN.take k.val).findIdx? (· == cmdN.getD k.val []) = none := by decide +kernel
theorem CoR.new (w W : World) (k : Nat) (h : CmI w k W) (f : List UInt8) (C : Array Value) (t : TypeId) (hC : C = (f.map fun c => Value.int .i64 (codeF c)).toArray) : CoR (W.alloc (.cells C t)) w.heap.size (.slice (some ⟨W.heap.size, 0, none⟩) f.length f.length) f := by
  subst hC
  refine .inr ⟨W.heap.size, h.lt, by simp, rfl, fun i c hc => ?_⟩
  rw [(Blk.new W _ t).cell]
  simp [hc]
set_option maxRecDepth 100000 in
theorem wpList_insC {w W : World} {k : Nat} {ops : Array Oper} {rest : List Oper} {o : Oper} {a : Act} {Q : Exit → Act → World → Prop} (h : CmI w k W) (hk : k < 27) (hg : o.guard = none) (m v : Operand) (nm : List UInt8) (s : Value)
    (hop : o.op = Op.insert 43 m (.const (.string (mk nm))) v) (hm : a.eval m = .map (some w.heap.size)) (hv : a.eval v = .agg #[.int .i64 ((k : Int) + 1), fnV (cmdK.getD k 0), s]) (hn : cmdN.getD k [] = nm) (hs : CoR W w.heap.size s (cmdF.getD k []))
    (hK : ∀ W', CmI w (k + 1) W' → wpList Tryz.prog ops Q rest (a.put o.dst undef) W') : wpList Tryz.prog ops Q (o :: rest) a W := by
  have hlt := h.lt
  obtain ⟨V, h1, h2, h3⟩ := h.ex
  have hl : (cmdN.take k).length = V.length := by rw [h1, List.length_take]; exact Nat.min_eq_left (by rw [cmdN_len]; omega)
  have hl2 : (cmdN.take k).length = k := by rw [hl, h1]
  have hnn : cmdN.take k ++ [nm] = cmdN.take (k + 1) := by
    rw [List.take_add_one, ← hn]
    have : cmdN[k]? = some (cmdN.getD k []) := by
      have h : k < cmdN.length := by rw [cmdN_len]; exact hk
      generalize cmdN = L at h ⊢
      simp [List.getD, h]
    rw [this]
    rfl
  have hrun := run_insert w.heap.size nm (.agg #[.int .i64 ((k : Int) + 1), fnV (cmdK.getD k 0), s]) (cmdN.take k) V W hl (by rw [hl2]; exact h2) (by rw [← hn]; exact cmd_new ⟨k, hk⟩)
  obtain ⟨W', hW'⟩ : ∃ W', W' = ChangeMaps.setBlock W w.heap.size (.map (entM 0 (cmdN.take k ++ [nm]) (V ++ [.agg #[.int .i64 ((k : Int) + 1), fnV (cmdK.getD k 0), s]])).toArray (cmdN.take k ++ [nm]).length) := ⟨_, rfl⟩
  rw [← hW'] at hrun
  have hI : CmI w (k + 1) W' := by
    subst hW'
    refine ⟨⟨V ++ [.agg #[.int .i64 ((k : Int) + 1), fnV (cmdK.getD k 0), s]], by simp [h1], ?_, fun i x hx => ?_⟩, ?_⟩
    · rw [ChangeMaps.heap_setBlock_same h2, hnn]
      rw [show (cmdN.take (k + 1)).length = k + 1 by rw [← hnn, List.length_append, hl2]; rfl]
    · have hkeep : ∀ u g, CoR W w.heap.size u g → CoR (ChangeMaps.setBlock W w.heap.size (.map (entM 0 (cmdN.take k ++ [nm]) (V ++ [.agg #[.int .i64 ((k : Int) + 1), fnV (cmdK.getD k 0), s]])).toArray (cmdN.take k ++ [nm]).length)) w.heap.size u g := fun u g hu => hu.keep (by simp [ChangeMaps.setBlock]) (fun q hq _ => ChangeMaps.heap_setBlock_other h2 _ (by omega))
      by_cases hi : i < V.length
      · rw [List.getElem?_append_left hi] at hx
        obtain ⟨u, e, hu⟩ := h3 i x hx
        exact ⟨u, e, hkeep _ _ hu⟩
      · have hik : i = V.length := by have := (List.getElem?_eq_some_iff.1 hx).1; simp at this; omega
        subst hik
        rw [List.getElem?_append_right (Nat.le_refl _), Nat.sub_self] at hx
        simp at hx
        subst hx
        rw [h1]
        exact ⟨s, rfl, hkeep _ _ hs⟩
    · exact h.bel.trans ⟨rfl, rfl, rfl, by simp [ChangeMaps.setBlock], fun q hq => ChangeMaps.heap_setBlock_other h2 _ (by omega)⟩
  clear hW'
  generalize Value.agg #[.int .i64 ((k : Int) + 1), fnV (cmdK.getD k 0), s] = val at hv hrun
  refine wpList_plain hg fun K hK' => ?_
  unfold Oper.wp
  have hcv : a.eval (.const (.string (mk nm))) = .string (mk nm) := rfl
  simp [execOp, hop, hm, hv, hcv, hrun, Result.andThen]
  exact hK' _ _ (hK _ hI)
theorem wpList_mkM {P : Program} {w : World} {ops : Array Oper} {rest : List Oper} {o : Oper} {a : Act} {Q : Exit → Act → World → Prop} (hg : o.guard = none) (t : TypeId) (hop : o.op = Op.makeMap t none)
    (hK : wpList P ops Q rest (a.put o.dst (.map (some w.heap.size))) (w.alloc (.map #[] 0))) : wpList P ops Q (o :: rest) a w := by
  refine wpList_plain hg fun K hK' => ?_
  unfold Oper.wp
  simp [execOp, hop, run_makeMap, Result.andThen]
  exact hK' _ _ hK
set_option maxRecDepth 100000 in
set_option maxHeartbeats 4000000 in
theorem commands_any (w : World) : Calls Tryz.prog 16 #[] w fun e w' => e = .returned (.map (some w.heap.size)) ∧ CmI w 27 w' := by
  have HC := hide (CmI.start w)
  obtain ⟨W0, hW0⟩ : ∃ W0, W0 = w.alloc (.map #[] 0) := ⟨_, rfl⟩
  rw [← hW0] at HC
  have HW := hide hW0
  clear hW0
  go_enter Tryz.func16, Tryz.ntmps16
  go_upto_region 1 with fail
  refine wp_region_list ?_
  simp only [List.append_eq, List.cons_append, List.nil_append]
  go_wp2_with (first | (refine wpList_mkM (by rfl) _ (by rfl) ?_; rw [← HW.out]) | (refine wpList_insC (HC.out.alloc _) (by decide) (by rfl) _ _ _ _ (by rfl) (by rfl) (by rfl) (by rfl) (CoR.new _ _ _ HC.out _ _ _ (by rfl)) ?_; clear HC; intro W' hC; have HC := hide hC; clear hC) | (refine wpList_insC HC.out (by decide) (by rfl) _ _ _ _ (by rfl) (by rfl) (by rfl) (by rfl) (.inl ⟨by rfl, by rfl⟩) ?_; clear HC; intro W' hC; have HC := hide hC; clear hC))
  go_ret
  exact ⟨rfl, HC.out⟩
end Go.Proofs.YtnljpaohkkdjjaaGreatDoor
