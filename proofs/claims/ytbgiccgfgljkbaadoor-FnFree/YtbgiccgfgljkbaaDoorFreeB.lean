/- The iterator over the free blocks of a map: its contract. -/
import Derived.RangeFuncNested
import Derived.RangeFuncBound
import Derived.RangeFuncCalls
import Derived.RangeFuncLeaves
import Derived.Shelf.Abstract
import Derived.Shelf.RegionOpen
import Derived.WalkKit
import Derived.OwnWalkIn
import Derived.TacticsInMore
import Derived.LoopNIn
import Derived.LoopIn
import Derived.Maps.AppendAt
import Derived.Test.YtbgiccgfgljkbaaDoorFreeA
namespace Go.Proofs.YtbgiccgfgljkbaaDoor
set_option linter.unusedVariables false
set_option linter.unusedSimpArgs false
open Go.RowKit Go.Shelf
attribute [local go_sem] Oper.semAt_some

/-- What a round that goes on keeps: whatever lies below n₀, and block X. -/
def Kf (n₀ X : Nat) (W W' : World) : Prop := Below n₀ W W' ∧ W'.heap[X]? = W.heap[X]?
theorem Kf.box {n₀ X : Nat} {W W' : World} {t : TypeId} {v : Value} (h : Kf n₀ X W W') (hb : Boxed W X t v) : Boxed W' X t v := h.2.trans hb
theorem Kf.trans {n₀ X : Nat} {A B C : World} (h : Kf n₀ X A B) (k : Kf n₀ X B C) : Kf n₀ X A C := ⟨h.1.trans k.1, k.2.trans h.2⟩

set_option maxRecDepth 100000 in
set_option maxHeartbeats 1000000 in
theorem free1_in (n : Nat) (hn : 1 ≤ n) (l X1 X2 n₀ : Nat) (ws : List Int) (c : Nat) (bw off cap : Nat) (h2 : 2 ≤ c) (hc : c < ws.length) (hl : ws.length ≤ 2048) (hbw : bw < n₀) (J Jx : List Int → World → Prop)
    (hY : ∀ pre x W, J pre W → pre.length < (freesM ws c).length → YieldAt Fence.wide (n - 1) Tryd.prog l #[.int .i64 x] W fun e W' =>
      (e = .returned (.bool true) ∧ J (pre ++ [x]) W' ∧ Kf n₀ X2 W W') ∨ (e = .returned (.bool false) ∧ Jx (pre ++ [x]) W'))
    (W : World) (hX1 : Boxed W X1 3 (.int .i64 (c : Int))) (hX2 : Boxed W X2 22 (.slice (some ⟨bw, off, none⟩) ws.length cap)) (hcell : ∀ i, i < ws.length → W.cell? ⟨bw, off + i, none⟩ = some (.int .i64 (ws.getD i 0))) (h0 : J [] W) :
    CallsIn Fence.wide n Tryd.prog 38 #[.func (.yield l) #[] #[], .pointer (some ⟨X1, 0, none⟩), .pointer (some ⟨X2, 0, none⟩)] W fun e W' => (∃ v, e = .returned v) ∧
      ((∃ ys, ys = freesM ws c ∧ J ys W') ∨ (∃ pre, pre <+: freesM ws c ∧ Jx pre W')) := by
  have HN := hide (frees_pre ws c)
  have c1 := hX1.cell
  have c2 := hX2.cell
  have HO := hide (show ∀ i, i < ws.length - 2 → (2 ≤ ordAt ws.length c i ∧ ordAt ws.length c i < ws.length) ∧ ((ordAt ws.length c (i + 1) : Nat) : Int) = behI ws.length (ordAt ws.length c i : Nat) from fun i hi => ⟨ord_in _ _ _ h2 hc hi, ord_succ _ _ _ h2 hc hl hi⟩)
  have HZ := hide (ord_zero ws.length c hc)
  have HS := hide (And.intro hX2 (And.intro hcell h0))
  have HF0 := hide (show freesTo ws c 0 = [] from rfl)
  have HY := hide hY
  clear hX1 hX2 hcell h0 hY
  refine callsIn_of_wp Tryd.func38 rfl trivial ?_ rfl
  simp only [Tryd.ntmps38, List.size_toArray, List.length_cons, List.length_nil, Nat.reduceAdd, Nat.reduceSub, Array.replicate_succ, Array.replicate_zero, List.push_toArray, List.append_toArray, List.nil_append, List.cons_append]
  gi_wp2
  clear c1 c2
  gi_loopw [4, 9] (fun b i wr => ∃ k : Nat, k ≤ ws.length - 2 ∧ i = .int .i64 k ∧ b = .int .i64 (ordAt ws.length c k : Nat) ∧ Boxed wr X2 22 (.slice (some ⟨bw, off, none⟩) ws.length cap) ∧ (∀ i, i < ws.length → wr.cell? ⟨bw, off + i, none⟩ = some (.int .i64 (ws.getD i 0))) ∧ J (freesTo ws c k) wr)
    (fun _ i _ => ws.length - 2 - (intOf i).toNat)
  case atStart =>
    exact ⟨0, by omega, rfl, by rw [HZ.out], HS.out.1, HS.out.2.1, by rw [HF0.out]; exact HS.out.2.2⟩
  case round =>
    obtain ⟨k, hk, rfl, rfl, hb2, hcl, hJ⟩ := hrel
    have HK := hide (And.intro hb2 (And.intro hcl hJ))
    clear hb2 hcl hJ HS
    by_cases hlt : k < ws.length - 2
    · obtain ⟨⟨ho1, ho2⟩, ho3⟩ := HO.out k hlt
      have HO3 := hide ho3
      have cb := HK.out.1.cell
      have cw := HK.out.2.1 (ordAt ws.length c k) ho2
      have HFy := hide (frees_yes ws c k)
      have HFn := hide (frees_no ws c k)
      have hlt' : (k : Int) < (ws.length : Int) - 2 := by omega
      obtain ⟨o, ho⟩ : ∃ o, o = ordAt ws.length c k := ⟨_, rfl⟩
      rw [← ho] at ho1 ho2 cw HFy HFn HO3 ⊢
      clear ho ho3
      have hc2 := fun (W' : World) (h : Kf n₀ X2 wr W') => (h.box HK.out.1).cell
      have HC2 := hide hc2
      clear hc2
      by_cases hz : ws.getD o 0 = 0
      · obtain ⟨fn, tmps, assign, body, hy, hR⟩ := HY.out (freesTo ws c k) (o : Int) wr HK.out.2.2 (by
          have h1 := HN.out (k + 1) (ws.length - 2) (by omega)
          rw [HFy.out hz] at h1
          have := h1.length_le
          simp at this
          unfold freesM
          omega)
        rw [hz] at cw
        have HR := hide hR
        have HF1 := hide (HFy.out hz)
        clear hR hz HFy HFn
        gi_wp2
        refine HR.out.mono ?_
        rintro e W3 (⟨rfl, hJ3, hk3⟩ | ⟨rfl, hJx3⟩)
        · have c3 := HC2.out W3 hk3
          have H3 := hide (And.intro hJ3 hk3)
          clear hJ3 hk3 cw cb HR
          gi_wp2_with (refine ⟨trivial, ?_⟩; gi_at_call 34; refine (callsIn_wide.2 (behind_any _ ws.length _ (by omega) (by omega))).mono ?_; rintro e w' ⟨rfl, rfl⟩; rw [← HO3.out])
          go_roundw
          case rel => exact ⟨k + 1, by omega, by go_num, rfl, H3.out.2.box HK.out.1, fun i hi => (H3.out.2.1.cell (p := ⟨bw, off + i, none⟩) hbw).trans (HK.out.2.1 i hi), by rw [HF1.out]; exact H3.out.1⟩
          case measure => simp [intOf]; omega
        · have HX := hide hJx3
          clear hJx3
          gi_wp2
          refine bodyPost_ret (results_none rfl _ _ _) rfl ?_
          exact ⟨⟨_, rfl⟩, .inr ⟨_, by rw [← HF1.out]; exact HN.out (k + 1) (ws.length - 2) (by omega), HX.out⟩⟩
      · have HF1 := hide (HFn.out hz)
        have hq : (ws.getD o 0 == 0) = false := by simpa using hz
        generalize ws.getD o 0 = z at cw hq
        clear hz HFy HFn
        gi_wp2
        refine ⟨fun _ h => (by cases h), ?_⟩
        gi_wp2_with (refine ⟨trivial, ?_⟩; gi_at_call 34; refine (callsIn_wide.2 (behind_any _ ws.length _ (by omega) (by omega))).mono ?_; rintro e w0 ⟨rfl, hw0⟩; rw [← HO3.out, hw0]; clear hw0 w0)
        go_roundw
        case rel => exact ⟨k + 1, by omega, by go_num, rfl, HK.out.1, HK.out.2.1, by rw [HF1.out]; exact HK.out.2.2⟩
        case measure => simp [intOf]; omega
    · have ek : k = ws.length - 2 := by omega
      gi_wp2
      go_end0
      exact ⟨⟨_, rfl⟩, .inl ⟨_, rfl, by unfold freesM; rw [← ek]; exact HK.out.2.2⟩⟩
set_option maxHeartbeats 1000000 in
/-- freeBlocks: the words and the cursor are boxed; the function value captures the boxes. -/
theorem free_in (n : Nat) (v : Value) (c : Int) (w : World) (a : Option Addr) (len cap : Nat) (hv : v = .slice a len cap) :
    CallsIn Fence.wide n Tryd.prog 33 #[v, .int .i64 c] w fun e w' => e = .returned (.func (.func 38) #[] #[.pointer (some ⟨w.heap.size + 1, 0, none⟩), .pointer (some ⟨w.heap.size, 0, none⟩)]) ∧ w' = (w.alloc (.cells #[v] 22)).alloc (.cells #[.int .i64 c] 3) := by
  subst hv
  refine callsIn_of_wp Tryd.func33 rfl trivial ?_ rfl
  simp only [Tryd.ntmps33, List.size_toArray, List.length_cons, List.length_nil, Nat.reduceAdd, Nat.reduceSub, Array.replicate_succ, Array.replicate_zero, List.push_toArray, List.append_toArray, List.nil_append, List.cons_append]
  gi_wp2
  go_ret
  exact ⟨rfl, rfl⟩

/-- The free blocks, all in their order; or a part of them from the first on. -/
theorem free_stops (n : Nat) (hn : 1 ≤ n) (X1 X2 n₀ : Nat) (ws : List Int) (c : Nat) (bw off cap : Nat) (h2 : 2 ≤ c) (hc : c < ws.length) (hl : ws.length ≤ 2048) (hbw : bw < n₀) (w : World) (hn₀ : n₀ ≤ w.heap.size)
    (hX1 : Boxed w X1 3 (.int .i64 (c : Int))) (hX2 : Boxed w X2 22 (.slice (some ⟨bw, off, none⟩) ws.length cap)) (hcell : ∀ i, i < ws.length → w.cell? ⟨bw, off + i, none⟩ = some (.int .i64 (ws.getD i 0))) :
    SeqStopsK Fence.wide n Tryd.prog 38 #[.pointer (some ⟨X1, 0, none⟩), .pointer (some ⟨X2, 0, none⟩)] (fun x : Int => #[Value.int .i64 x]) (Kf n₀ X2) (fun ys => ys = freesM ws c) (fun pre => pre <+: freesM ws c) (freesM ws c).length w := fun l J Jx W hW _ _ hY h0 =>
  free1_in n hn l X1 X2 n₀ ws c bw off cap h2 hc hl hbw J Jx hY W ((hW.block X1 hX1.lt).trans hX1) ((hW.block X2 hX2.lt).trans hX2) (fun i hi => (hW.cell (p := ⟨bw, off + i, none⟩) (Nat.lt_of_lt_of_le hbw hn₀)).trans (hcell i hi)) h0
theorem Kf_b {n₀ X : Nat} {w : World} (hn : n₀ ≤ w.heap.size) (hX : X < w.heap.size) (W : World) (l : Nat) (o o' : Obj) (hl : w.heap.size ≤ l) (h : W.heap[l]? = some o) (h1 : o.isCells = false) (h2 : o.isWalk = false) : Kf n₀ X W (W.putObj l o') :=
  ⟨belowK_b hn W l o o' hl h h1 h2, World.putObj_heap_other (by omega)⟩
end Go.Proofs.YtbgiccgfgljkbaaDoor
