/- slices.Chunk over bytes: the iterator's contract. Structs in a fenced walk: load, store into a block of the call's own, a slice of one struct. openDirectory's range over the slots: what holds between two rounds, and behind a return out of one. A region that draws its order, inside a fence (also within a round of a range over a function): Inv's way, for operations that are no calls. -/
import Derived.RangeFuncNested
import Derived.RangeFuncBound
import Derived.RangeFuncCalls
import Derived.RangeFuncLeaves
import Derived.Shelf.Abstract
import Derived.Shelf.RegionOpen
import Derived.WalkKit
import Derived.OwnWalkIn
import Derived.TacticsInMore
import Derived.LoopNIn
import Derived.LoopIn
import Derived.Maps.AppendAt
import Derived.Test.YtcciaojdceejcaaDoorCells
import Derived.Great.BuildSlice
import Derived.Great.FillDense
import Derived.Test.YtcciaojdceejcaaDoorJdD
import Derived.Test.YtcciaojdceejcaaDoorJdB
import Derived.OrdersIn
namespace Go.Proofs.YtcciaojdceejcaaDoor
set_option linter.unusedVariables false
set_option linter.unusedSimpArgs false
open Go.RowKit Go.Shelf
attribute [local go_sem] Oper.semAt_some

/-- What a round that goes on keeps: whatever lies below n₀, and the two boxes that the iterator reads. -/
def Kc (n₀ X1 X2 : Nat) (W W' : World) : Prop := Below n₀ W W' ∧ W'.heap[X1]? = W.heap[X1]? ∧ W'.heap[X2]? = W.heap[X2]?
theorem Kc.trans {n₀ X1 X2 : Nat} {A B C : World} (h : Kc n₀ X1 X2 A B) (k : Kc n₀ X1 X2 B C) : Kc n₀ X1 X2 A C := ⟨h.1.trans k.1, k.2.1.trans h.2.1, k.2.2.trans h.2.2⟩
/-- How many pieces of c there are in L. -/
def pcs (L c : Nat) : Nat := (L + c - 1) / c
/-- Piece k. -/
def pieceV (b off L c k : Nat) : Value := .slice (some ⟨b, off + k * c, none⟩) (min c (L - k * c)) (min c (L - k * c))
theorem pcs_lt (L c k : Nat) (hc : 0 < c) : k < pcs L c ↔ k * c < L := by
  unfold pcs
  rw [Nat.lt_iff_add_one_le, Nat.le_div_iff_mul_le hc]
  have : (k + 1) * c = k * c + c := by rw [Nat.add_mul, Nat.one_mul]
  omega

theorem range_pre {a b : Nat} (h : a ≤ b) : List.range a <+: List.range b := by
  obtain ⟨d, rfl⟩ := Nat.exists_eq_add_of_le h
  rw [List.range_add]
  exact List.prefix_append _ _
set_option maxRecDepth 100000 in
set_option maxHeartbeats 1000000 in
theorem chunk1_in (n : Nat) (hn : 1 ≤ n) (l X1 X2 n₀ : Nat) (L c bw off cap : Nat) (hc : 0 < c) (hc2 : c ≤ 1000) (hL : L ≤ 140737488355328) (hL0 : 0 < L) (hcap : L ≤ cap) (hcapm : cap ≤ maxLen) (J Jx : List Nat → World → Prop) (B : Nat) (hAb : AbidesFrom B J)
    (hY : ∀ pre x W, x = pre.length → J pre W → pre.length < pcs L c → YieldAt Fence.wide (n - 1) Tryd.prog l #[pieceV bw off L c x] W fun e W' =>
      (e = .returned (.bool true) ∧ J (pre ++ [x]) W' ∧ Kc n₀ X1 X2 W W') ∨ (e = .returned (.bool false) ∧ Jx (pre ++ [x]) W'))
    (W : World) (hX1 : Boxed W X1 22 (.slice (some ⟨bw, off, none⟩) L cap)) (hX2 : Boxed W X2 3 (.int .i64 (c : Int))) (h0 : J [] W) :
    CallsIn Fence.wide n Tryd.prog 71 #[.func (.yield l) #[] #[], .pointer (some ⟨X1, 0, none⟩), .pointer (some ⟨X2, 0, none⟩)] W fun e W' => (∃ v, e = .returned v) ∧
      ((∃ ys, ys = List.range (pcs L c) ∧ J ys W') ∨ (∃ pre, pre <+: List.range (pcs L c) ∧ Jx pre W')) := by
  have HY := hide hY
  have HAb := hide (show ∀ s w, J s w → J s w.drew from fun s w h => by
    have hb := (Below.refl w.heap.size w).drew
    exact hAb s w w.drew none h ⟨hb.os, hb.tape, hb.output, hb.size, fun k hk _ => hb.block k hk⟩ (fun r e => by cases e))
  have HS := hide (And.intro hX1 (And.intro hX2 h0))
  have HP := hide (pcs_lt L c)
  unfold maxLen at hcapm
  clear hX1 hX2 h0 hY hAb
  refine callsIn_of_wp Tryd.func71 rfl trivial ?_ rfl
  simp only [Tryd.ntmps71, List.size_toArray, List.length_cons, List.length_nil, Nat.reduceAdd, Nat.reduceSub, Array.replicate_succ, Array.replicate_zero, List.push_toArray, List.append_toArray, List.nil_append, List.cons_append]
  gi_wp2
  gi_loopw [4] (fun i wr => ∃ k : Nat, k ≤ pcs L c ∧ i = .int .i64 ((k * c : Nat) : Int) ∧ Boxed wr X1 22 (.slice (some ⟨bw, off, none⟩) L cap) ∧ Boxed wr X2 3 (.int .i64 (c : Int)) ∧ J (List.range k) wr)
    (fun i _ => L + c - (intOf i).toNat)
  case atStart =>
    exact ⟨0, by omega, by simp, HS.out.1, HS.out.2.1, HS.out.2.2⟩
  case round =>
    obtain ⟨k, hk, rfl, hb1, hb2, hJ⟩ := hrel
    have HK := hide (And.intro hb1 (And.intro hb2 hJ))
    clear hb1 hb2 hJ HS
    have c1 := HK.out.1.cell
    have c2 := HK.out.2.1.cell
    have hkl := HP.out k hc
    have HN := hide (show (k + 1) * c = k * c + c from by rw [Nat.add_mul, Nat.one_mul])
    by_cases hlt : k * c < L
    · have hk1 : k < pcs L c := hkl.2 hlt
      obtain ⟨fn, tmps, assign, body, hy, hR⟩ := HY.out (List.range k) k wr.drew (by simp) (HAb.out _ _ HK.out.2.2) (by simpa using hk1)
      have HR := hide hR
      have HC1 := hide (fun (W' : World) (h : Kc n₀ X1 X2 wr.drew W') => (show Boxed W' X1 22 (.slice (some ⟨bw, off, none⟩) L cap) from h.2.1.trans HK.out.1))
      have HC2 := hide (fun (W' : World) (h : Kc n₀ X1 X2 wr.drew W') => (show Boxed W' X2 3 (.int .i64 (c : Int)) from h.2.2.trans HK.out.2.1))
      obtain ⟨M, hM⟩ : ∃ M, M = min c (L - k * c) := ⟨_, rfl⟩
      have hPv : pieceV bw off L c k = .slice (some ⟨bw, off + k * c, none⟩) M M := by unfold pieceV; rw [← hM]
      rw [hPv] at hy
      have HRg := hide (show List.range (k + 1) = List.range k ++ [k] from List.range_succ)
      generalize hI : k * c = I at *
      have hm1 : M ≤ c := by omega
      have hm2 : I + M ≤ L := by omega
      have hm4 : 0 < M := by omega
      have hm5 : (0 : Int) < (M : Int) := by omega
      have hm6 : M ≠ 0 := by omega
      have hm3 : (if L - I < c then ((L - I : Nat) : Int) else (c : Int)) = (M : Int) := by split <;> omega
      have hi1 : (I : Int) < (cap : Int) := by omega
      have hi2 : (I : Int) ≤ (cap : Int) := by omega
      have hi3 : (I : Int) ≤ (L : Int) := by omega
      have hi4 : (L : Int) ≤ (cap : Int) := by omega
      have hmx : Tryd.prog.follows .mixedOrders = true := by kernel_rfl
      clear hR hkl hPv
      gi_wp2
      gi_region_o
      rw [← hM]
      have c1 := (show Boxed wr.drew X1 22 (.slice (some ⟨bw, off, none⟩) L cap) from HK.out.1).cell
      have hi5 : (I : Int) + (M : Int) ≤ (cap : Int) := by omega
      have hi6 : (I : Int) ≤ (I : Int) + (M : Int) := by omega
      clear hm3 hM
      gi_wp2
      refine HR.out.mono ?_
      rintro e W3 (⟨rfl, hJ3, hk3⟩ | ⟨rfl, hJx3⟩)
      · have c3 := (HC2.out W3 hk3).cell
        have H3 := hide (And.intro hJ3 hk3)
        clear hJ3 hk3 c1 c2 HR
        gi_wp2
        go_roundw
        case rel => exact ⟨k + 1, by omega, by rw [HN.out]; go_num, HC1.out W3 H3.out.2, HC2.out W3 H3.out.2, by rw [HRg.out]; exact H3.out.1⟩
        case measure => simp [intOf]; omega
      · have HX := hide hJx3
        clear hJx3
        gi_wp2
        refine bodyPost_ret (results_none rfl _ _ _) rfl ?_
        exact ⟨⟨_, rfl⟩, .inr ⟨_, by rw [← HRg.out]; exact range_pre (by omega), HX.out⟩⟩
    · have hkp : k = pcs L c := by omega
      have hge : L ≤ k * c := by omega
      have hge2 : ¬ ((k * c : Nat) : Int) < (L : Int) := by omega
      generalize hI : k * c = I at *
      gi_wp2
      go_end0
      exact ⟨⟨_, rfl⟩, .inl (by rw [← hkp]; exact HK.out.2.2)⟩

set_option maxHeartbeats 1000000 in
/-- Chunk: the slice and the length are boxed; the function value captures the boxes. -/
theorem chunk_in (n : Nat) (c : Nat) (hc : 0 < c) (hc2 : c ≤ 1000) (w : World) (a : Option Addr) (len cap : Nat) :
    CallsIn Fence.wide n Tryd.prog 55 #[.slice a len cap, .int .i64 c] w fun e w' => e = .returned (.func (.func 71) #[] #[.pointer (some ⟨w.heap.size, 0, none⟩), .pointer (some ⟨w.heap.size + 1, 0, none⟩)]) ∧ w' = (w.alloc (.cells #[.slice a len cap] 22)).alloc (.cells #[.int .i64 c] 3) := by
  have hc3 : ¬ (c : Int) < 1 := by omega
  refine callsIn_of_wp Tryd.func55 rfl trivial ?_ rfl
  simp only [Tryd.ntmps55, List.size_toArray, List.length_cons, List.length_nil, Nat.reduceAdd, Nat.reduceSub, Array.replicate_succ, Array.replicate_zero, List.push_toArray, List.append_toArray, List.nil_append, List.cons_append]
  gi_wp2
  go_ret
  exact ⟨rfl, rfl⟩
set_option maxRecDepth 100000 in
set_option maxHeartbeats 1000000 in
/-- Of no bytes there is no piece. -/
theorem chunk1_none (n : Nat) (l X1 X2 : Nat) (a : Option Addr) (cap : Nat) (J : List Nat → World → Prop) (Jx : List Nat → World → Prop) (c : Nat) (hc : 0 < c)
    (W : World) (hX1 : Boxed W X1 22 (.slice a 0 cap)) (h0 : J [] W) :
    CallsIn Fence.wide n Tryd.prog 71 #[.func (.yield l) #[] #[], .pointer (some ⟨X1, 0, none⟩), .pointer (some ⟨X2, 0, none⟩)] W fun e W' => (∃ v, e = .returned v) ∧
      ((∃ ys, ys = List.range (pcs 0 c) ∧ J ys W') ∨ (∃ pre, pre <+: List.range (pcs 0 c) ∧ Jx pre W')) := by
  have H0 := hide h0
  have c1 := hX1.cell
  have hp : pcs 0 c = 0 := by unfold pcs; rw [Nat.div_eq_of_lt (by omega)]
  have HP := hide hp
  clear h0 hX1 hp
  refine callsIn_of_wp Tryd.func71 rfl trivial ?_ rfl
  simp only [Tryd.ntmps71, List.size_toArray, List.length_cons, List.length_nil, Nat.reduceAdd, Nat.reduceSub, Array.replicate_succ, Array.replicate_zero, List.push_toArray, List.append_toArray, List.nil_append, List.cons_append]
  gi_wp2
  gi_loopw [4] (fun i wr => i = .int .i64 0 ∧ wr = W) (fun _ _ => 0)
  case atStart => exact ⟨rfl, rfl⟩
  case round =>
    obtain ⟨rfl, rfl⟩ := hrel
    gi_wp2
    go_end0
    exact ⟨⟨_, rfl⟩, .inl ⟨_, rfl, by rw [HP.out]; exact H0.out⟩⟩
/-- The pieces, all in their order; or a part of them from the first on. -/
theorem chunk_stops (n : Nat) (hn : 1 ≤ n) (X1 X2 n₀ : Nat) (L c : Nat) (a : Option Addr) (cap : Nat) (hc : 0 < c) (hc2 : c ≤ 1000) (hL : L ≤ 140737488355328) (hcap : L ≤ cap) (hcapm : cap ≤ maxLen) (b off : Nat) (ha : 0 < L → a = some ⟨b, off, none⟩) (w : World)
    (hX1 : Boxed w X1 22 (.slice a L cap)) (hX2 : Boxed w X2 3 (.int .i64 (c : Int))) :
    SeqStopsK Fence.wide n Tryd.prog 71 #[.pointer (some ⟨X1, 0, none⟩), .pointer (some ⟨X2, 0, none⟩)] (fun x : Nat => #[pieceV b off L c x]) (Kc n₀ X1 X2) (fun ys => ys = List.range (pcs L c)) (fun pre => pre <+: List.range (pcs L c)) (pcs L c) w := fun l J Jx W hW hA _ hY h0 => by
  rcases Nat.eq_zero_or_pos L with h | h
  · subst h
    exact chunk1_none n l X1 X2 a cap J Jx c hc W ((hW.block X1 hX1.lt).trans hX1) h0
  · obtain rfl := ha h
    exact chunk1_in n hn l X1 X2 n₀ L c b off cap hc hc2 hL h hcap hcapm J Jx _ hA (fun pre x W1 _ => hY pre x W1) W ((hW.block X1 hX1.lt).trans hX1) ((hW.block X2 hX2.lt).trans hX2) h0
/-- .. each of them one of the pieces that there are. -/
theorem chunk_stopsF (n : Nat) (hn : 1 ≤ n) (X1 X2 n₀ : Nat) (L c : Nat) (a : Option Addr) (cap : Nat) (hc : 0 < c) (hc2 : c ≤ 1000) (hL : L ≤ 140737488355328) (hcap : L ≤ cap) (hcapm : cap ≤ maxLen) (b off : Nat) (ha : 0 < L → a = some ⟨b, off, none⟩) (w : World)
    (hX1 : Boxed w X1 22 (.slice a L cap)) (hX2 : Boxed w X2 3 (.int .i64 (c : Int))) :
    SeqStopsK Fence.wide n Tryd.prog 71 #[.pointer (some ⟨X1, 0, none⟩), .pointer (some ⟨X2, 0, none⟩)] (fun x : Fin (pcs L c) => #[pieceV b off L c x.val]) (Kc n₀ X1 X2) (fun ys => ys.map Fin.val = List.range (pcs L c)) (fun pre => pre.map Fin.val <+: List.range (pcs L c)) (pcs L c) w := fun l J Jx W hW hA _ hY h0 => by
  have hA2 : AbidesFrom W.heap.size (fun (s : List Nat) U => ∃ p : List (Fin (pcs L c)), p.map Fin.val = s ∧ J p U) := fun s X Y row ⟨p, hp, hJ⟩ hg hr => ⟨p, hp, hA p X Y row hJ hg hr⟩
  have hY2 : ∀ (pre : List Nat) x W1, x = pre.length → (∃ p : List (Fin (pcs L c)), p.map Fin.val = pre ∧ J p W1) → pre.length < pcs L c → YieldAt Fence.wide (n - 1) Tryd.prog l #[pieceV b off L c x] W1 fun e W' =>
      (e = .returned (.bool true) ∧ (∃ p : List (Fin (pcs L c)), p.map Fin.val = pre ++ [x] ∧ J p W') ∧ Kc n₀ X1 X2 W1 W') ∨ (e = .returned (.bool false) ∧ (∃ p : List (Fin (pcs L c)), p.map Fin.val = pre ++ [x] ∧ Jx p W')) := by
    rintro pre x W1 rfl ⟨p, rfl, hJ⟩ hlt
    rw [List.length_map] at hlt ⊢
    obtain ⟨fn, tmps, assign, body, hy, hR⟩ := hY p ⟨p.length, hlt⟩ W1 hJ hlt
    refine ⟨fn, tmps, assign, body, hy, hR.mono ?_⟩
    rintro e W' (⟨rfl, h1, h2⟩ | ⟨rfl, h1⟩)
    · exact .inl ⟨rfl, ⟨_, by simp, h1⟩, h2⟩
    · exact .inr ⟨rfl, ⟨_, by simp, h1⟩⟩
  have key : CallsIn Fence.wide n Tryd.prog 71 #[.func (.yield l) #[] #[], .pointer (some ⟨X1, 0, none⟩), .pointer (some ⟨X2, 0, none⟩)] W fun e W' => (∃ v, e = .returned v) ∧
      ((∃ ys, ys = List.range (pcs L c) ∧ ∃ p : List (Fin (pcs L c)), p.map Fin.val = ys ∧ J p W') ∨ (∃ pre, pre <+: List.range (pcs L c) ∧ ∃ p : List (Fin (pcs L c)), p.map Fin.val = pre ∧ Jx p W')) := by
    rcases Nat.eq_zero_or_pos L with h | h
    · subst h
      exact chunk1_none n l X1 X2 a cap _ _ c hc W ((hW.block X1 hX1.lt).trans hX1) ⟨[], rfl, h0⟩
    · obtain rfl := ha h
      exact chunk1_in n hn l X1 X2 n₀ L c b off cap hc hc2 hL h hcap hcapm _ _ _ hA2 hY2 W ((hW.block X1 hX1.lt).trans hX1) ((hW.block X2 hX2.lt).trans hX2) ⟨[], rfl, h0⟩
  refine key.mono ?_
  rintro e W' ⟨hv, h⟩
  refine ⟨hv, ?_⟩
  rcases h with ⟨ys, rfl, p, hp, hJ⟩ | ⟨pre, hpre, p, hp, hJ⟩
  · exact .inl ⟨p, hp, hJ⟩
  · exact .inr ⟨p, show p.map Fin.val <+: List.range (pcs L c) from by rw [hp]; exact hpre, hJ⟩
theorem Kc_b {n₀ X1 X2 : Nat} {w : World} (hn : n₀ ≤ w.heap.size) (h1 : X1 < w.heap.size) (h2 : X2 < w.heap.size) (W : World) (l : Nat) (o o' : Obj) (hl : w.heap.size ≤ l) (h : W.heap[l]? = some o) (ha : o.isCells = false) (hb : o.isWalk = false) : Kc n₀ X1 X2 W (W.putObj l o') :=
  ⟨belowK_b hn W l o o' hl h ha hb, World.putObj_heap_other (by omega), World.putObj_heap_other (by omega)⟩
end Go.Proofs.YtcciaojdceejcaaDoor

namespace Go.Proofs.YtcciaojdceejcaaDoor
set_option linter.unusedVariables false
set_option linter.unusedSimpArgs false
open Go.RowKit
section
variable {F : Fence} {n : Nat} {P : Program} {ops : Array Oper} {rest : List Oper} {o : Oper} {a : Act} {w : World} {Q : Exit → Act → World → Prop}
theorem wpListIn_run (hgd : o.guard = none) (hnc : ∀ c, o.op ≠ .call c) (hnd : ∀ c, o.op ≠ .defer c) (v : Value) (w' : World) (hrun : (execOp a.eval o).run P w = .ok (.value v) w') (h : wpListIn F n P ops Q rest (a.put o.dst v) w') : wpListIn F n P ops Q (o :: rest) a w := by
  refine wpListIn_plain hgd fun K hK' => ?_
  have hab : o.about P w a.eval = none := by
    unfold Oper.about
    split
    · rename_i c hc
      exact absurd hc (hnc c)
    · rfl
  unfold Oper.wpIn
  refine ⟨?_, ?_⟩
  · simp [hab]
  · rw [Oper.semAt_plain F _ _ hnd, hrun]
    exact hK' _ _ h
theorem wpListIn_runS (hgd : o.guard = none) (hnc : ∀ c, o.op ≠ .call c) (hnd : ∀ c, o.op ≠ .defer c) (w' : World) (hrun : (execOp a.eval o).run P w = .ok .skip w') (h : wpListIn F n P ops Q rest (a.put o.dst undef) w') : wpListIn F n P ops Q (o :: rest) a w := by
  refine wpListIn_plain hgd fun K hK' => ?_
  have hab : o.about P w a.eval = none := by
    unfold Oper.about
    split
    · rename_i c hc
      exact absurd hc (hnc c)
    · rfl
  unfold Oper.wpIn
  refine ⟨?_, ?_⟩
  · simp [hab]
  · rw [Oper.semAt_plain F _ _ hnd, hrun]
    exact hK' _ _ h
theorem wpListIn_load_mid (hgd : o.guard = none) (ty : TypeId) (x : Operand) (ho : o.op = .load ty x)
    (b q : Nat) (hx : a.eval x = .pointer (some ⟨b, q, none⟩)) (cs : List Value) (d : TypeDesc) (hc : w.rangeAt b q cs)
    (hu : P.underlying ty = some d) (hd : d.isRow = true) (hi : (P.info? ty).map (·.size) = some cs.length)
    (h : wpListIn F n P ops Q rest (a.put o.dst (.agg cs.toArray)) w) : wpListIn F n P ops Q (o :: rest) a w := by
  refine wpListIn_run hgd (by rw [ho]; intro c hc; cases hc) (by rw [ho]; intro c hc; cases hc) _ _ ?_ h
  unfold execOp
  simp only [ho, hx, Sem.run_bind, run_loadAt_mid w b q ty cs d hc hu hd hi, Result.andThen_ok]
  rfl
theorem wpListIn_store_new (B : Nat) (W0 : World) (hgd : o.guard = none) (ty : TypeId) (x y : Operand) (ho : o.op = .store ty x y)
    (g : Nat) (cells : Array Value) (hx : a.eval x = .pointer (some ⟨g, 0, none⟩)) (hy : a.eval y = .agg cells)
    (t : TypeId) (old : Array Value) (hg : Blk w g old t) (hi : (P.info? ty).map (·.size) = some cells.size)
    (hold : old.size = cells.size) (h1 : cells.all (·.oneCell') = true) (hB : Below B W0 w) (hBg : B ≤ g)
    (h : ∀ w2, Blk w2 g cells t → Below B W0 w2 → wpListIn F n P ops Q rest (a.put o.dst undef) w2) : wpListIn F n P ops Q (o :: rest) a w := by
  refine wpListIn_runS hgd (by rw [ho]; intro c hc; cases hc) (by rw [ho]; intro c hc; cases hc) (w.setRow g cells) ?_ (h _ (hg.row cells) (below_setRow hB hBg cells))
  unfold execOp
  simp only [ho, hx, hy, Instr.storeAt, Instr.sureAddr, Sem.run_bind, Sem.run_pure, Result.andThen_ok, run_storeVar_row w g t ty old cells hg hi hold h1]
theorem wpListIn_build1 (hgd : o.guard = none) (t e : TypeId) (x : Operand) (ho : o.op = .buildSlice t 1 #[(0, x)]) (cells : Array Value) (hx : a.eval x = .agg cells) (i : TypeInfo) (z : Value)
    (hu : P.underlying t = some (.slice e)) (hi : P.info? e = some i) (hz : i.zero = some z) (hs : i.size = cells.size) (hp : 0 < cells.size) (hl : cells.size ≤ 1000)
    (h : wpListIn F n P ops Q rest (a.put o.dst (.slice (some ⟨w.heap.size, 0, none⟩) 1 1)) (w.alloc (.cells cells e))) : wpListIn F n P ops Q (o :: rest) a w := by
  refine wpListIn_run hgd (by rw [ho]; intro c hc; cases hc) (by rw [ho]; intro c hc; cases hc) _ _ ?_ h
  have hf : Instr.fill (fun j => some (j * i.size, i.size)) ((Array.range (1 * i.size)).map (z.cells[· % z.cells.size]!)) [(0, Value.agg cells)] = some cells := by
    have := Great.fill_whole (s := i.size) (by omega) [.agg cells] ((Array.range (1 * i.size)).map (z.cells[· % z.cells.size]!)) (by intro v hv; simp at hv; subst hv; exact hs.symm) (by simp)
    simpa [Value.cells] using this
  have hr := run_buildSlice w t e 1 [(0, Value.agg cells)].toArray cells i z hu hi hz (by omega) (by omega) (by simpa using hf)
  have he : (#[(0, x)] : Array (Nat × Operand)).map (fun p => (p.1, a.eval p.2)) = [(0, Value.agg cells)].toArray := by simp [hx]
  unfold execOp
  simp only [ho]
  rw [← he] at hr
  simp only [Sem.run_bind, hr, Result.andThen_ok]
  rfl
end
end Go.Proofs.YtcciaojdceejcaaDoor

namespace Go.Proofs.YtcciaojdceejcaaDoor
set_option linter.unusedVariables false
set_option linter.unusedSimpArgs false
open Go.RowKit Go.Shelf

theorem Ck.keepT {w w' : World} {b lo : Nat} {code : Int} (h : Ck w b lo code true) (hb : w'.heap[b]? = w.heap[b]?) : Ck w' b lo code true := by
  obtain ⟨h1, h2, ev, h3, h4⟩ := h
  refine ⟨(World.cell?_of_block (a := ⟨b, 0, none⟩) hb).trans h1, (World.frozen?_of_block (a := ⟨b, 1, none⟩) hb).trans h2, ev, (World.cell?_of_block (a := ⟨b, 1, none⟩) hb).trans h3, ?_⟩
  rcases h4 with h4 | ⟨h4, _⟩
  · exact .inl h4
  · cases h4
theorem Dr.keepG {H : Type} {base : Nat} {W W' : World} {b mb n nn : Nat} {v : Value} {xs : List Value} {D : DataW H} {row : Option Nat} (h : Dr base W b mb n nn v xs D) (hg : W.grownBy W' row) (h1 : some b ≠ row) (h2 : some mb ≠ row) (h3 : v.ownBlock = none ∨ v.ownBlock ≠ row) : Dr base W' b mb n nn v xs D := by
  refine ⟨(hg.block b h.blk.lt h1).trans h.blk, h.own.kept hg h3, h.ne, ?_, h.nb⟩
  have hl := h.map.lt
  obtain ⟨es, ck, e1, e2⟩ := h.map
  exact ⟨es, ck, (hg.block mb hl h2).trans e1, e2⟩
theorem Dr.keepB {H : Type} {base : Nat} {W W' : World} {b mb n nn : Nat} {v : Value} {xs : List Value} {D : DataW H} (h : Dr base W b mb n nn v xs D) (hb : Below W.heap.size W W') : Dr base W' b mb n nn v xs D :=
  h.keepG (row := none) ⟨hb.os, hb.tape, hb.output, hb.size, fun k hk _ => hb.block k hk⟩ (by simp) (by simp) (by cases v.ownBlock <;> simp)
/-- Between two rounds. M: the map's block; the directory, its box and the iterator's two boxes lie behind it. -/
structure Iod (H : Type) (zs : List Int) (w : World) (M : Nat) (sv : Value) (pre : List Nat) (W : World) : Prop where
  dir : ∃ v nn, Dr (H := H) (M + 5) W (M + 1) M pre.length nn v (entsI (pre.map (slotE zs))) (mapR H zs pre.reverse) ∧ nn ≤ pre.length
  ent : ∃ es, entR zs pre.reverse = some es
  ck : Ck W (w.heap.size + 2) (M + 5) 21 true
  r1 : Boxed W w.heap.size 53 (.pointer none)
  r2 : Boxed W (w.heap.size + 1) 55 .nilIface
  bd : Boxed W (M + 2) 53 (.pointer (some ⟨M + 1, 0, none⟩))
  bx1 : Boxed W (M + 3) 22 sv
  bx2 : Boxed W (M + 4) 3 (.int .i64 ((32 : Nat) : Int))
  old : Below w.heap.size w W
  size : M + 5 ≤ W.heap.size
theorem Iod.own {H : Type} {zs : List Int} {w : World} {M : Nat} {sv : Value} (hM : w.heap.size + 3 ≤ M) : OwnFrom (M + 5) (Iod H zs w M sv) := by
  intro pre X Y row hs hg hr
  have hb : ∀ {B : Nat} {t : TypeId} {v : Value}, B < M + 5 → Boxed X B t v → Boxed Y B t v := fun hB h => h.kept hg (fun e => by have := (hr _ e.symm).1; omega)
  have hne : ∀ B, B < M + 5 → some B ≠ row := fun B hB e => by have := (hr _ e.symm).1; omega
  obtain ⟨v, nn, hd, hnn⟩ := hs.dir
  refine ⟨⟨v, nn, hd.keepG hg (hne _ (by omega)) (hne _ (by omega)) ?_, hnn⟩, hs.ent, hs.ck.keepT (hg.block _ hs.ck.lt (hne _ (by omega))), hb (by omega) hs.r1, hb (by omega) hs.r2, hb (by omega) hs.bd, hb (by omega) hs.bx1, hb (by omega) hs.bx2, ?_, Nat.le_trans hs.size hg.size⟩
  · rcases hd.own.2 with ⟨rfl, _⟩ | ⟨g, cap, cur, rfl, _, hgb, _⟩
    · exact .inl rfl
    · refine .inr fun e' => ?_
      obtain ⟨_, o, ho, hc⟩ := hr g (by simpa [Value.ownBlock] using e'.symm)
      rw [hgb] at ho; cases ho; cases hc
  · exact hs.old.grown hg hs.old.size (fun k e => by have := (hr k e).1; omega)
theorem Iod.next {H : Type} {zs : List Int} {w : World} {M : Nat} {sv : Value} {pre : List Nat} {x : Nat} {W w4 w6 w7 : World} {v v' : Value} {nn nn' : Nat} (hM : w.heap.size + 3 ≤ M) (hI : Iod H zs w M sv pre W)
    (hv : Dr (H := H) (M + 5) W (M + 1) M pre.length nn v (entsI (pre.map (slotE zs))) (mapR H zs pre.reverse)) (hB4 : Below W.heap.size W w4) (hc6 : Ck w6 (w.heap.size + 2) (M + 5) 21 true) (ht6 : Tch (w.heap.size + 2) w4 w6)
    (hd : Dr (H := H) (M + 5) w7 (M + 1) M (pre ++ [x]).length nn' v' (entsI ((pre ++ [x]).map (slotE zs))) (mapR H zs (pre ++ [x]).reverse)) (hnn : nn' ≤ (pre ++ [x]).length) (hf : Fr w6 w7 (M + 1) M v v') (hent : ∃ es, entR zs (pre ++ [x]).reverse = some es) :
    KeepsFrom (M + 5) W w7 ∧ Kc w.heap.size (M + 3) (M + 4) W w7 ∧ Iod H zs w M sv (pre ++ [x]) w7 := by
  have h1 := hI.size
  have h4 := hB4.size
  have h6 := ht6.1.size
  have h7 := hf.low.size
  have hO := hI.old.size
  have hown : ∀ k, k < M + 5 → v.ownBlock ≠ some k := fun k hk e => by have := (hv.own.lt k e).1; omega
  have hblk : ∀ k, k < W.heap.size → k ≠ w.heap.size + 2 → k ≠ M + 1 → k ≠ M → v.ownBlock ≠ some k → w7.heap[k]? = W.heap[k]? := by
    intro k hk1 hk2 hk3 hk4 hk5
    rw [hf.kept k (by omega) hk3 hk4 hk5, ht6.1.block k (by omega) (by simp; omega), hB4.block k hk1]
  have hBw : Below w.heap.size W w7 := by
    have hb6 : Below w.heap.size W w6 := (hB4.mono (by omega)).grown ht6.1 (by omega) (fun k e => by cases e; omega)
    exact ⟨hf.low.os.trans hb6.os, hf.low.tape.trans hb6.tape, hf.low.output.trans hb6.output, Nat.le_trans hb6.size h7, fun k hk => hblk k (by omega) (by omega) (by omega) (by omega) (hown k (by omega))⟩
  have hbx : ∀ {B : Nat} {t : TypeId} {u : Value}, B < M + 5 → B ≠ w.heap.size + 2 → B ≠ M + 1 → B ≠ M → Boxed W B t u → Boxed w7 B t u := fun h1 h2 h3 h4 h => (hblk _ h.lt h2 h3 h4 (hown _ h1)).trans h
  refine ⟨⟨by omega, fun k o hB hk' ho => ?_⟩, ⟨hBw, hblk _ (by omega) (by omega) (by omega) (by omega) (hown _ (by omega)), hblk _ (by omega) (by omega) (by omega) (by omega) (hown _ (by omega))⟩, ?_⟩
  · refine (hblk k (Array.getElem?_eq_some_iff.1 hk').1 (by omega) (by omega) (by omega) (fun e => ?_)).trans hk'
    rcases hv.own.2 with ⟨rfl, _⟩ | ⟨g, cap, cur, rfl, _, hgb, _⟩
    · cases e
    · obtain rfl : g = k := by simpa [Value.ownBlock] using e
      rw [hgb] at hk'
      cases hk'
      cases ho
  · refine ⟨⟨v', nn', hd, hnn⟩, hent, hc6.keepT (hf.kept _ hc6.lt (by omega) (by omega) (hown _ (by omega))), hbx (by omega) (by omega) (by omega) (by omega) hI.r1, hbx (by omega) (by omega) (by omega) (by omega) hI.r2, hbx (by omega) (by omega) (by omega) (by omega) hI.bd, hbx (by omega) (by omega) (by omega) (by omega) hI.bx1, hbx (by omega) (by omega) (by omega) (by omega) hI.bx2, hI.old.trans hBw, by omega⟩
/-- Behind a return out of a round: the results lie in their boxes. -/
structure Ixd (zs : List Int) (w : World) (M : Nat) (pre : List Nat) (W : World) : Prop where
  ent : entR zs pre.reverse = none
  r1 : Boxed W w.heap.size 53 (.pointer none)
  r2 : ∃ ev m, Boxed W (w.heap.size + 1) 55 ev ∧ Flt W (M + 5) m ev 21
  old : Below w.heap.size w W
  size : M + 5 ≤ W.heap.size
theorem Ixd.own {zs : List Int} {w : World} {M : Nat} (hM : w.heap.size + 3 ≤ M) : OwnFrom (M + 5) (Ixd zs w M) := by
  intro pre X Y row hs hg hr
  have hb : ∀ {B : Nat} {t : TypeId} {v : Value}, B < M + 5 → Boxed X B t v → Boxed Y B t v := fun hB h => h.kept hg (fun e => by have := (hr _ e.symm).1; omega)
  obtain ⟨ev, m, h1, h2⟩ := hs.r2
  refine ⟨hs.ent, hb (by omega) hs.r1, ⟨ev, m, hb (by omega) h1, h2.keep ?_⟩, hs.old.grown hg hs.old.size (fun k e => by have := (hr k e).1; omega), Nat.le_trans hs.size hg.size⟩
  intro k o v hk hc
  have hlt := cell_lt hc
  refine (World.cell?_of_block (a := ⟨k, o, none⟩) (hg.block k hlt (fun e => ?_))).trans hc
  obtain ⟨_, ob, ho, hcc⟩ := hr k e.symm
  unfold World.cell? at hc
  rw [ho] at hc
  cases ob <;> simp_all [Obj.isCells]
/-- Out of the round: the two results stored into their boxes. -/
theorem Ixd.mk2 {H : Type} {zs : List Int} {w : World} {M : Nat} {sv : Value} {pre : List Nat} {x : Nat} {W w4 w6 W8 : World} {ev : Value} {m : Nat} (hM : w.heap.size + 3 ≤ M) (hI : Iod H zs w M sv pre W) (hB4 : Below W.heap.size W w4) (ht6 : Tch (w.heap.size + 2) w4 w6) (hF : Flt w6 (M + 5) m ev 21)
    (hent : entR zs (pre ++ [x]).reverse = none) (h8 : ∀ k, k ≠ w.heap.size → k ≠ w.heap.size + 1 → W8.heap[k]? = w6.heap[k]?) (hs8 : W8.heap.size = w6.heap.size) (hos : W8.os = w6.os ∧ W8.tape = w6.tape ∧ W8.output = w6.output)
    (hr1 : Boxed W8 w.heap.size 53 (.pointer none)) (hr2 : Boxed W8 (w.heap.size + 1) 55 ev) : KeepsFrom (M + 5) W W8 ∧ Ixd zs w M (pre ++ [x]) W8 := by
  have h1 := hI.size
  have h4 := hB4.size
  have h6 := ht6.1.size
  have hO := hI.old.size
  have hblk : ∀ k, k < W.heap.size → k ≠ w.heap.size + 2 → k ≠ w.heap.size → k ≠ w.heap.size + 1 → W8.heap[k]? = W.heap[k]? := by
    intro k hk1 hk2 hk3 hk4
    rw [h8 k hk3 hk4, ht6.1.block k (by omega) (by simp; omega), hB4.block k hk1]
  have hb6 : Below w.heap.size W w6 := (hB4.mono (by omega)).grown ht6.1 (by omega) (fun k e => by cases e; omega)
  refine ⟨⟨by omega, fun k o hB hk' ho => (hblk k (Array.getElem?_eq_some_iff.1 hk').1 (by omega) (by omega) (by omega)).trans hk'⟩, hent, hr1, ⟨ev, m, hr2, hF.keep ?_⟩, hI.old.trans ⟨hos.1.trans hb6.os, hos.2.1.trans hb6.tape, hos.2.2.trans hb6.output, by omega, fun k hk => hblk k (by omega) (by omega) (by omega) (by omega)⟩, by omega⟩
  intro k o v hk hc
  exact (World.cell?_of_block (a := ⟨k, o, none⟩) (h8 k (by omega) (by omega))).trans hc
end Go.Proofs.YtcciaojdceejcaaDoor

namespace Go.Proofs.YtcciaojdceejcaaDoor
set_option linter.unusedVariables false
set_option linter.unusedSimpArgs false
open Go.RowKit

theorem ready_nilB {ops : Array Oper} {listed : Array Bool} {md : Region.Mode} (hsz : listed.size = ops.size) (hord : ∀ (i : Nat) (o : Oper), ops[i]? = some o → ∀ e ∈ o.after, Region.binds md e = true → e.on < i) (h : Region.ready md ops listed = []) : ∀ i, i < ops.size → listed.getD i false = true := by
  intro i
  induction i using Nat.strongRecOn with
  | ind i ih =>
    intro hi
    cases e : listed.getD i false with
    | true => rfl
    | false =>
      exfalso
      have hm : i ∈ Region.ready md ops listed := by
        rw [mem_ready]
        refine ⟨?_, ops[i], Array.getElem?_eq_getElem hi, fun ed he hb => ih ed.on (hord i ops[i] (Array.getElem?_eq_getElem hi) ed he hb) ?_⟩
        · rw [Array.getD_eq_getD_getElem?, Array.getElem?_eq_getElem (by omega)] at e ⊢
          exact e
        · have := hord i ops[i] (Array.getElem?_eq_getElem hi) ed he hb
          omega
      rw [h] at hm
      cases hm

def rchkB (ops : Array Oper) (m : Nat) (ks : List Nat) : Bool :=
  (List.range ops.size).all fun i => match ops[i]? with
    | none => true
    | some o => (o.after.toList.all fun e => !(Region.binds .any e) || decide (e.on < i)) && (match o.dst with
      | none => true
      | some d => decide (d < m) && !ks.contains d && (List.range i).all fun j => match ops[j]? with
        | none => true
        | some oj => !(oj.dst == some d))
theorem rchkB_at {ops : Array Oper} {m : Nat} {ks : List Nat} (h : rchkB ops m ks = true) {i : Nat} {o : Oper} (hi : ops[i]? = some o) :
    (∀ e ∈ o.after, Region.binds .any e = true → e.on < i) ∧ ∀ d, o.dst = some d → d < m ∧ d ∉ ks ∧ ∀ j oj, j < i → ops[j]? = some oj → oj.dst ≠ some d := by
  have hlt : i < ops.size := (Array.getElem?_eq_some_iff.1 hi).1
  unfold rchkB at h
  rw [List.all_eq_true] at h
  have h1 := h i (List.mem_range.2 hlt)
  simp only [hi, Bool.and_eq_true] at h1
  obtain ⟨ha, hb⟩ := h1
  refine ⟨fun e he hbd => ?_, fun d hd => ?_⟩
  · rw [List.all_eq_true] at ha
    have h9 := ha e (Array.mem_toList_iff.2 he)
    rw [hbd] at h9
    simpa using h9
  · simp only [hd, Bool.and_eq_true] at hb
    obtain ⟨⟨h2, h3⟩, h4⟩ := hb
    refine ⟨of_decide_eq_true h2, by simpa using h3, fun j oj hj hoj e => ?_⟩
    rw [List.all_eq_true] at h4
    have h5 := h4 j (List.mem_range.2 hj)
    simp only [hoj, e] at h5
    simp at h5
theorem wpAnyIn_inv {F : Fence} {n : Nat} {P : Program} {ops : Array Oper} {Q : Exit → Act → World → Prop} (fs : List (Nat × Value)) (S : World → Prop) (V : Nat → Value → World → Prop) (m : Nat) (ds : List Deferred)
    (hord : ∀ (i : Nat) (o : Oper), ops[i]? = some o → ∀ e ∈ o.after, Region.binds .any e = true → e.on < i)
    (hdst : ∀ (i j : Nat) (oi oj : Oper) (d : Nat), ops[i]? = some oi → ops[j]? = some oj → oi.dst = some d → oj.dst = some d → i = j)
    (hfix : ∀ (i : Nat) (o : Oper) (d : Nat), ops[i]? = some o → o.dst = some d → d < m ∧ ∀ v, (d, v) ∉ fs)
    (hstep : ∀ (i : Nat) (o : Oper) (listed : Array Bool) (a : Act) (w : World), ops[i]? = some o → (∀ e ∈ o.after, Region.binds .any e = true → listed.getD e.on false = true) → RInv ops fs S V m ds listed a w →
      Region.wanted o (yielded ops a.tmps) = true ∧ (∀ c, o.op ≠ .call c) ∧ (∀ c, o.op ≠ .defer c) ∧ ∃ x v w', (execOp a.eval o).run P w = .ok x w' ∧ (x = .value v ∨ (x = .skip ∧ v = undef)) ∧ V i v w' ∧ S w' ∧ ∀ j u, V j u w → V j u w')
    (hfin : ∀ listed a w, (∀ i, i < ops.size → listed.getD i false = true) → RInv ops fs S V m ds listed a w → Q .normal a w) :
    ∀ (fuel : Nat) (listed : Array Bool) (a : Act) (w : World), listed.size = ops.size → listed.toList.count false ≤ fuel → RInv ops fs S V m ds listed a w → wpAnyIn F n P .any ops Q fuel listed a w
  | 0, listed, a, w, hsz, hc, hI => by
    have hall : ∀ i, i < ops.size → listed.getD i false = true := by
      intro i hi
      cases e : listed.getD i false with
      | true => rfl
      | false =>
        have : false ∈ listed.toList := by
          rw [Array.getD_eq_getD_getElem?, Array.getElem?_eq_getElem (by omega), Option.getD_some] at e
          rw [← e]; exact Array.mem_toList_iff.2 (Array.getElem_mem (by omega))
        have := List.count_pos_iff.2 this
        omega
    refine ⟨?_, hfin listed a w hall hI⟩
    cases e : Region.ready .any ops listed with
    | nil => rfl
    | cons j l =>
      have hj : j ∈ Region.ready .any ops listed := by rw [e]; simp
      obtain ⟨h0, o, ho, _⟩ := mem_ready.1 hj
      have hlt : j < ops.size := (Array.getElem?_eq_some_iff.1 ho).1
      have h1 := hall j hlt
      rw [Array.getD_eq_getD_getElem?, Array.getElem?_eq_getElem (by omega)] at h0 h1
      simp at h0 h1
      rw [h0] at h1
      cases h1
  | fuel + 1, listed, a, w, hsz, hc, hI => by
    refine ⟨fun h => hfin listed a w (ready_nilB hsz hord h) hI, fun i hi => ?_⟩
    obtain ⟨h0, o, ho, hall⟩ := mem_ready.1 hi
    have hlt : i < ops.size := (Array.getElem?_eq_some_iff.1 ho).1
    obtain ⟨hwt, hnc, hnd, x, v, w', hrun, hx, hv, hS, hk⟩ := hstep i o listed a w ho hall hI
    have hab : o.about P w a.eval = none := by
      unfold Oper.about
      split
      · rename_i c hc
        exact absurd hc (hnc c)
      · rfl
    unfold wpOpIn
    simp only [ho, hwt, if_true]
    unfold Oper.wpIn
    refine ⟨by simp [hab], ?_⟩
    rw [Oper.semAt_plain F _ _ hnd, hrun]
    suffices h : wpAnyIn F n P .any ops Q fuel (listed.setIfInBounds i true) (a.put o.dst v) w' by
      rcases hx with rfl | ⟨rfl, rfl⟩
      · exact h
      · exact h
    have hcs := count_set (listed := listed) (i := i) (by omega) h0
    refine wpAnyIn_inv fs S V m ds hord hdst hfix hstep hfin fuel _ _ _ (by simpa using hsz) (by omega) ?_
    cases hd : o.dst with
    | none =>
      refine ⟨hI.sz, hI.df, hS, fun j oj d hj hl hjd => ?_, hI.fix, fun j oj hj hl => ?_⟩
      · rw [listed_set (by omega)] at hl
        by_cases e : j = i
        · subst e
          rw [ho] at hj
          cases hj
          rw [hd] at hjd
          cases hjd
        · rw [if_neg e] at hl
          exact hk j _ (hI.vals j oj d hj hl hjd)
      · rw [listed_set (by omega)] at hl
        by_cases e : j = i
        · subst e
          exact ⟨v, hv⟩
        · rw [if_neg e] at hl
          obtain ⟨u, hu⟩ := hI.seen j oj hj hl
          exact ⟨u, hk j u hu⟩
    | some d0 =>
      have hf := hfix i o d0 ho hd
      have hd0 : d0 < a.tmps.size := by rw [hI.sz]; exact hf.1
      refine ⟨by simp [Act.put, hI.sz], by simpa [Act.put] using hI.df, hS, fun j oj d hj hl hjd => ?_, fun t u htu => ?_, fun j oj hj hl => ?_⟩
      · rw [listed_set (by omega)] at hl
        rw [getD_put hd0]
        by_cases e : j = i
        · subst e
          rw [ho] at hj
          cases hj
          rw [hd] at hjd
          cases hjd
          rw [if_pos rfl]
          exact hv
        · rw [if_neg e] at hl
          rw [if_neg (fun h => e (hdst j i oj o d hj ho hjd (by rw [hd, h])))]
          exact hk j _ (hI.vals j oj d hj hl hjd)
      · rw [getD_put hd0, if_neg (fun h : t = d0 => hf.2 u (by rw [← h]; exact htu))]
        exact hI.fix t u htu
      · rw [listed_set (by omega)] at hl
        by_cases e : j = i
        · subst e
          exact ⟨v, hv⟩
        · rw [if_neg e] at hl
          obtain ⟨u, hu⟩ := hI.seen j oj hj hl
          exact ⟨u, hk j u hu⟩

theorem wpAnyIn_invB {F : Fence} {n : Nat} {P : Program} {ops : Array Oper} {Q : Exit → Act → World → Prop} (fs : List (Nat × Value)) (S : World → Prop) (V : Nat → Value → World → Prop) (m : Nat) (ds : List Deferred)
    (hB : rchkB ops m (fs.map (·.1)) = true)
    (hstep : ∀ (i : Nat) (o : Oper) (listed : Array Bool) (a : Act) (w : World), ops[i]? = some o → (∀ e ∈ o.after, Region.binds .any e = true → listed.getD e.on false = true) → RInv ops fs S V m ds listed a w →
      Region.wanted o (yielded ops a.tmps) = true ∧ (∀ c, o.op ≠ .call c) ∧ (∀ c, o.op ≠ .defer c) ∧ ∃ x v w', (execOp a.eval o).run P w = .ok x w' ∧ (x = .value v ∨ (x = .skip ∧ v = undef)) ∧ V i v w' ∧ S w' ∧ ∀ j u, V j u w → V j u w')
    (hfin : ∀ listed a w, (∀ i, i < ops.size → listed.getD i false = true) → RInv ops fs S V m ds listed a w → Q .normal a w)
    (a : Act) (w : World) (hsz : a.tmps.size = m) (hdf : a.defers = ds) (hS : S w) (hf : ∀ t v, (t, v) ∈ fs → a.tmps.getD t undef = v) : wpAnyIn F n P .any ops Q ops.size (Array.replicate ops.size false) a w := by
  refine wpAnyIn_inv fs S V m ds (fun i o hi => (rchkB_at hB hi).1) (fun i j oi oj d hi hj h1 h2 => ?_) (fun i o d hi hd => ?_) hstep hfin _ _ _ _ (by simp) ?_ ⟨hsz, hdf, hS, fun i o d _ hl _ => ?_, hf, fun i o _ hl => ?_⟩
  · rcases Nat.lt_trichotomy i j with h | h | h
    · exact absurd h1 (((rchkB_at hB hj).2 d h2).2.2 i oi h hi)
    · exact h
    · exact absurd h2 (((rchkB_at hB hi).2 d h1).2.2 j oj h hj)
  · have := (rchkB_at hB hi).2 d hd
    exact ⟨this.1, fun v hv => this.2.1 (List.mem_map.2 ⟨_, hv, rfl⟩)⟩
  · rw [Array.toList_replicate, List.count_replicate]; simp
  · simp [Array.getD_eq_getD_getElem?, Array.getElem?_replicate] at hl
    split at hl <;> simp at hl
  · simp [Array.getD_eq_getD_getElem?, Array.getElem?_replicate] at hl
    split at hl <;> simp at hl
theorem tmps71 (a : Array Value) (h : a.size = 71) : a = #[a.getD 0 undef, a.getD 1 undef, a.getD 2 undef, a.getD 3 undef, a.getD 4 undef, a.getD 5 undef, a.getD 6 undef, a.getD 7 undef, a.getD 8 undef, a.getD 9 undef, a.getD 10 undef, a.getD 11 undef, a.getD 12 undef, a.getD 13 undef, a.getD 14 undef, a.getD 15 undef, a.getD 16 undef, a.getD 17 undef, a.getD 18 undef, a.getD 19 undef, a.getD 20 undef, a.getD 21 undef, a.getD 22 undef, a.getD 23 undef, a.getD 24 undef, a.getD 25 undef, a.getD 26 undef, a.getD 27 undef, a.getD 28 undef, a.getD 29 undef, a.getD 30 undef, a.getD 31 undef, a.getD 32 undef, a.getD 33 undef, a.getD 34 undef, a.getD 35 undef, a.getD 36 undef, a.getD 37 undef, a.getD 38 undef, a.getD 39 undef, a.getD 40 undef, a.getD 41 undef, a.getD 42 undef, a.getD 43 undef, a.getD 44 undef, a.getD 45 undef, a.getD 46 undef, a.getD 47 undef, a.getD 48 undef, a.getD 49 undef, a.getD 50 undef, a.getD 51 undef, a.getD 52 undef, a.getD 53 undef, a.getD 54 undef, a.getD 55 undef, a.getD 56 undef, a.getD 57 undef, a.getD 58 undef, a.getD 59 undef, a.getD 60 undef, a.getD 61 undef, a.getD 62 undef, a.getD 63 undef, a.getD 64 undef, a.getD 65 undef, a.getD 66 undef, a.getD 67 undef, a.getD 68 undef, a.getD 69 undef, a.getD 70 undef] := by
  have e : a = ((List.range 71).map fun i => a.getD i undef).toArray := Array.ext (by simp [h]) (fun i h1 h2 => by simp [Array.getD, h1])
  exact e
end Go.Proofs.YtcciaojdceejcaaDoor
