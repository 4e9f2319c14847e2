/- slices.Chunk over bytes: the iterator's contract. -/
import Derived.RangeFuncNested
import Derived.RangeFuncBound
import Derived.RangeFuncCalls
import Derived.RangeFuncLeaves
import Derived.Shelf.Abstract
import Derived.Shelf.RegionOpen
import Derived.WalkKit
import Derived.OwnWalkIn
import Derived.TacticsInMore
import Derived.LoopNIn
import Derived.LoopIn
import Derived.Maps.AppendAt
import Derived.Test.YtplieplmhdfndaaGreatDoorZg05
namespace Go.Proofs.YtplieplmhdfndaaGreatDoor
set_option linter.unusedVariables false
set_option linter.unusedSimpArgs false
open Go.RowKit Go.Shelf
attribute [local go_sem] Oper.semAt_some

/-- What a round that goes on keeps: whatever lies below n₀, and the two boxes that the iterator reads. -/
def Kc (n₀ X1 X2 : Nat) (W W' : World) : Prop := Below n₀ W W' ∧ W'.heap[X1]? = W.heap[X1]? ∧ W'.heap[X2]? = W.heap[X2]?
theorem Kc.trans {n₀ X1 X2 : Nat} {A B C : World} (h : Kc n₀ X1 X2 A B) (k : Kc n₀ X1 X2 B C) : Kc n₀ X1 X2 A C := ⟨h.1.trans k.1, k.2.1.trans h.2.1, k.2.2.trans h.2.2⟩
/-- How many pieces of c there are in L. -/
def pcs (L c : Nat) : Nat := (L + c - 1) / c
/-- Piece k. -/
def pieceV (b off L c k : Nat) : Value := .slice (some ⟨b, off + k * c, none⟩) (min c (L - k * c)) (min c (L - k * c))
theorem pcs_lt (L c k : Nat) (hc : 0 < c) : k < pcs L c ↔ k * c < L := by
  unfold pcs
  rw [Nat.lt_iff_add_one_le, Nat.le_div_iff_mul_le hc]
  have : (k + 1) * c = k * c + c := by rw [Nat.add_mul, Nat.one_mul]
  omega

theorem range_pre {a b : Nat} (h : a ≤ b) : List.range a <+: List.range b := by
  obtain ⟨d, rfl⟩ := Nat.exists_eq_add_of_le h
  rw [List.range_add]
  exact List.prefix_append _ _
set_option maxRecDepth 100000 in
set_option maxHeartbeats 1000000 in
theorem chunk1_in (n : Nat) (hn : 1 ≤ n) (l X1 X2 n₀ : Nat) (L c bw off cap : Nat) (hc : 0 < c) (hc2 : c ≤ 1000) (hL : L ≤ 140737488355328) (hL0 : 0 < L) (hcap : L ≤ cap) (hcapm : cap ≤ maxLen) (J Jx : List Nat → World → Prop) (B : Nat) (hAb : AbidesFrom B J)
    (hY : ∀ pre x W, x = pre.length → J pre W → pre.length < pcs L c → YieldAt Fence.wide (n - 1) Tryz.prog l #[pieceV bw off L c x] W fun e W' =>
      (e = .returned (.bool true) ∧ J (pre ++ [x]) W' ∧ Kc n₀ X1 X2 W W') ∨ (e = .returned (.bool false) ∧ Jx (pre ++ [x]) W'))
    (W : World) (hX1 : Boxed W X1 45 (.slice (some ⟨bw, off, none⟩) L cap)) (hX2 : Boxed W X2 3 (.int .i64 (c : Int))) (h0 : J [] W) :
    CallsIn Fence.wide n Tryz.prog 132 #[.func (.yield l) #[] #[], .pointer (some ⟨X1, 0, none⟩), .pointer (some ⟨X2, 0, none⟩)] W fun e W' => (∃ v, e = .returned v) ∧
      ((∃ ys, ys = List.range (pcs L c) ∧ J ys W') ∨ (∃ pre, pre <+: List.range (pcs L c) ∧ Jx pre W')) := by
  have HY := hide hY
  have HAb := hide (show ∀ s w, J s w → J s w.drew from fun s w h => by
    have hb := (Below.refl w.heap.size w).drew
    exact hAb s w w.drew none h ⟨hb.os, hb.tape, hb.output, hb.size, fun k hk _ => hb.block k hk⟩ (fun r e => by cases e))
  have HS := hide (And.intro hX1 (And.intro hX2 h0))
  have HP := hide (pcs_lt L c)
  unfold maxLen at hcapm
  clear hX1 hX2 h0 hY hAb
  refine callsIn_of_wp Tryz.func132 rfl trivial ?_ rfl
  simp only [Tryz.ntmps132, List.size_toArray, List.length_cons, List.length_nil, Nat.reduceAdd, Nat.reduceSub, Array.replicate_succ, Array.replicate_zero, List.push_toArray, List.append_toArray, List.nil_append, List.cons_append]
  gi_wp2
  gi_loopw [4] (fun i wr => ∃ k : Nat, k ≤ pcs L c ∧ i = .int .i64 ((k * c : Nat) : Int) ∧ Boxed wr X1 45 (.slice (some ⟨bw, off, none⟩) L cap) ∧ Boxed wr X2 3 (.int .i64 (c : Int)) ∧ J (List.range k) wr)
    (fun i _ => L + c - (intOf i).toNat)
  case atStart =>
    exact ⟨0, by omega, by simp, HS.out.1, HS.out.2.1, HS.out.2.2⟩
  case round =>
    obtain ⟨k, hk, rfl, hb1, hb2, hJ⟩ := hrel
    have HK := hide (And.intro hb1 (And.intro hb2 hJ))
    clear hb1 hb2 hJ HS
    have c1 := HK.out.1.cell
    have c2 := HK.out.2.1.cell
    have hkl := HP.out k hc
    have HN := hide (show (k + 1) * c = k * c + c from by rw [Nat.add_mul, Nat.one_mul])
    by_cases hlt : k * c < L
    · have hk1 : k < pcs L c := hkl.2 hlt
      obtain ⟨fn, tmps, assign, body, hy, hR⟩ := HY.out (List.range k) k wr.drew (by simp) (HAb.out _ _ HK.out.2.2) (by simpa using hk1)
      have HR := hide hR
      have HC1 := hide (fun (W' : World) (h : Kc n₀ X1 X2 wr.drew W') => (show Boxed W' X1 45 (.slice (some ⟨bw, off, none⟩) L cap) from h.2.1.trans HK.out.1))
      have HC2 := hide (fun (W' : World) (h : Kc n₀ X1 X2 wr.drew W') => (show Boxed W' X2 3 (.int .i64 (c : Int)) from h.2.2.trans HK.out.2.1))
      obtain ⟨M, hM⟩ : ∃ M, M = min c (L - k * c) := ⟨_, rfl⟩
      have hPv : pieceV bw off L c k = .slice (some ⟨bw, off + k * c, none⟩) M M := by unfold pieceV; rw [← hM]
      rw [hPv] at hy
      have HRg := hide (show List.range (k + 1) = List.range k ++ [k] from List.range_succ)
      generalize hI : k * c = I at *
      have hm1 : M ≤ c := by omega
      have hm2 : I + M ≤ L := by omega
      have hm4 : 0 < M := by omega
      have hm5 : (0 : Int) < (M : Int) := by omega
      have hm6 : M ≠ 0 := by omega
      have hm3 : (if L - I < c then ((L - I : Nat) : Int) else (c : Int)) = (M : Int) := by split <;> omega
      have hi1 : (I : Int) < (cap : Int) := by omega
      have hi2 : (I : Int) ≤ (cap : Int) := by omega
      have hi3 : (I : Int) ≤ (L : Int) := by omega
      have hi4 : (L : Int) ≤ (cap : Int) := by omega
      have hmx : Tryz.prog.follows .mixedOrders = true := by kernel_rfl
      clear hR hkl hPv
      gi_wp2
      gi_region_o
      rw [← hM]
      have c1 := (show Boxed wr.drew X1 45 (.slice (some ⟨bw, off, none⟩) L cap) from HK.out.1).cell
      have hi5 : (I : Int) + (M : Int) ≤ (cap : Int) := by omega
      have hi6 : (I : Int) ≤ (I : Int) + (M : Int) := by omega
      clear hm3 hM
      gi_wp2
      refine HR.out.mono ?_
      rintro e W3 (⟨rfl, hJ3, hk3⟩ | ⟨rfl, hJx3⟩)
      · have c3 := (HC2.out W3 hk3).cell
        have H3 := hide (And.intro hJ3 hk3)
        clear hJ3 hk3 c1 c2 HR
        gi_wp2
        go_roundw
        case rel => exact ⟨k + 1, by omega, by rw [HN.out]; go_num, HC1.out W3 H3.out.2, HC2.out W3 H3.out.2, by rw [HRg.out]; exact H3.out.1⟩
        case measure => simp [intOf]; omega
      · have HX := hide hJx3
        clear hJx3
        gi_wp2
        refine bodyPost_ret (results_none rfl _ _ _) rfl ?_
        exact ⟨⟨_, rfl⟩, .inr ⟨_, by rw [← HRg.out]; exact range_pre (by omega), HX.out⟩⟩
    · have hkp : k = pcs L c := by omega
      have hge : L ≤ k * c := by omega
      have hge2 : ¬ ((k * c : Nat) : Int) < (L : Int) := by omega
      generalize hI : k * c = I at *
      gi_wp2
      go_end0
      exact ⟨⟨_, rfl⟩, .inl (by rw [← hkp]; exact HK.out.2.2)⟩

set_option maxHeartbeats 1000000 in
/-- Chunk: the slice and the length are boxed; the function value captures the boxes. -/
theorem chunk_in (n : Nat) (c : Nat) (hc : 0 < c) (hc2 : c ≤ 1000) (w : World) (a : Option Addr) (len cap : Nat) :
    CallsIn Fence.wide n Tryz.prog 87 #[.slice a len cap, .int .i64 c] w fun e w' => e = .returned (.func (.func 132) #[] #[.pointer (some ⟨w.heap.size, 0, none⟩), .pointer (some ⟨w.heap.size + 1, 0, none⟩)]) ∧ w' = (w.alloc (.cells #[.slice a len cap] 45)).alloc (.cells #[.int .i64 c] 3) := by
  have hc3 : ¬ (c : Int) < 1 := by omega
  refine callsIn_of_wp Tryz.func87 rfl trivial ?_ rfl
  simp only [Tryz.ntmps87, List.size_toArray, List.length_cons, List.length_nil, Nat.reduceAdd, Nat.reduceSub, Array.replicate_succ, Array.replicate_zero, List.push_toArray, List.append_toArray, List.nil_append, List.cons_append]
  gi_wp2
  go_ret
  exact ⟨rfl, rfl⟩
set_option maxRecDepth 100000 in
set_option maxHeartbeats 1000000 in
/-- Of no bytes there is no piece. -/
theorem chunk1_none (n : Nat) (l X1 X2 : Nat) (a : Option Addr) (cap : Nat) (J : List Nat → World → Prop) (Jx : List Nat → World → Prop) (c : Nat) (hc : 0 < c)
    (W : World) (hX1 : Boxed W X1 45 (.slice a 0 cap)) (h0 : J [] W) :
    CallsIn Fence.wide n Tryz.prog 132 #[.func (.yield l) #[] #[], .pointer (some ⟨X1, 0, none⟩), .pointer (some ⟨X2, 0, none⟩)] W fun e W' => (∃ v, e = .returned v) ∧
      ((∃ ys, ys = List.range (pcs 0 c) ∧ J ys W') ∨ (∃ pre, pre <+: List.range (pcs 0 c) ∧ Jx pre W')) := by
  have H0 := hide h0
  have c1 := hX1.cell
  have hp : pcs 0 c = 0 := by unfold pcs; rw [Nat.div_eq_of_lt (by omega)]
  have HP := hide hp
  clear h0 hX1 hp
  refine callsIn_of_wp Tryz.func132 rfl trivial ?_ rfl
  simp only [Tryz.ntmps132, List.size_toArray, List.length_cons, List.length_nil, Nat.reduceAdd, Nat.reduceSub, Array.replicate_succ, Array.replicate_zero, List.push_toArray, List.append_toArray, List.nil_append, List.cons_append]
  gi_wp2
  gi_loopw [4] (fun i wr => i = .int .i64 0 ∧ wr = W) (fun _ _ => 0)
  case atStart => exact ⟨rfl, rfl⟩
  case round =>
    obtain ⟨rfl, rfl⟩ := hrel
    gi_wp2
    go_end0
    exact ⟨⟨_, rfl⟩, .inl ⟨_, rfl, by rw [HP.out]; exact H0.out⟩⟩
/-- .. each of them one of the pieces that there are. -/
theorem chunk_stopsF (n : Nat) (hn : 1 ≤ n) (X1 X2 n₀ : Nat) (L c : Nat) (a : Option Addr) (cap : Nat) (hc : 0 < c) (hc2 : c ≤ 1000) (hL : L ≤ 140737488355328) (hcap : L ≤ cap) (hcapm : cap ≤ maxLen) (b off : Nat) (ha : 0 < L → a = some ⟨b, off, none⟩) (w : World)
    (hX1 : Boxed w X1 45 (.slice a L cap)) (hX2 : Boxed w X2 3 (.int .i64 (c : Int))) :
    SeqStopsK Fence.wide n Tryz.prog 132 #[.pointer (some ⟨X1, 0, none⟩), .pointer (some ⟨X2, 0, none⟩)] (fun x : Fin (pcs L c) => #[pieceV b off L c x.val]) (Kc n₀ X1 X2) (fun ys => ys.map Fin.val = List.range (pcs L c)) (fun pre => pre.map Fin.val <+: List.range (pcs L c)) (pcs L c) w := fun l J Jx W hW hA _ hY h0 => by
  have hA2 : AbidesFrom W.heap.size (fun (s : List Nat) U => ∃ p : List (Fin (pcs L c)), p.map Fin.val = s ∧ J p U) := fun s X Y row ⟨p, hp, hJ⟩ hg hr => ⟨p, hp, hA p X Y row hJ hg hr⟩
  have hY2 : ∀ (pre : List Nat) x W1, x = pre.length → (∃ p : List (Fin (pcs L c)), p.map Fin.val = pre ∧ J p W1) → pre.length < pcs L c → YieldAt Fence.wide (n - 1) Tryz.prog l #[pieceV b off L c x] W1 fun e W' =>
      (e = .returned (.bool true) ∧ (∃ p : List (Fin (pcs L c)), p.map Fin.val = pre ++ [x] ∧ J p W') ∧ Kc n₀ X1 X2 W1 W') ∨ (e = .returned (.bool false) ∧ (∃ p : List (Fin (pcs L c)), p.map Fin.val = pre ++ [x] ∧ Jx p W')) := by
    rintro pre x W1 rfl ⟨p, rfl, hJ⟩ hlt
    rw [List.length_map] at hlt ⊢
    obtain ⟨fn, tmps, assign, body, hy, hR⟩ := hY p ⟨p.length, hlt⟩ W1 hJ hlt
    refine ⟨fn, tmps, assign, body, hy, hR.mono ?_⟩
    rintro e W' (⟨rfl, h1, h2⟩ | ⟨rfl, h1⟩)
    · exact .inl ⟨rfl, ⟨_, by simp, h1⟩, h2⟩
    · exact .inr ⟨rfl, ⟨_, by simp, h1⟩⟩
  have key : CallsIn Fence.wide n Tryz.prog 132 #[.func (.yield l) #[] #[], .pointer (some ⟨X1, 0, none⟩), .pointer (some ⟨X2, 0, none⟩)] W fun e W' => (∃ v, e = .returned v) ∧
      ((∃ ys, ys = List.range (pcs L c) ∧ ∃ p : List (Fin (pcs L c)), p.map Fin.val = ys ∧ J p W') ∨ (∃ pre, pre <+: List.range (pcs L c) ∧ ∃ p : List (Fin (pcs L c)), p.map Fin.val = pre ∧ Jx p W')) := by
    rcases Nat.eq_zero_or_pos L with h | h
    · subst h
      exact chunk1_none n l X1 X2 a cap _ _ c hc W ((hW.block X1 hX1.lt).trans hX1) ⟨[], rfl, h0⟩
    · obtain rfl := ha h
      exact chunk1_in n hn l X1 X2 n₀ L c b off cap hc hc2 hL h hcap hcapm _ _ _ hA2 hY2 W ((hW.block X1 hX1.lt).trans hX1) ((hW.block X2 hX2.lt).trans hX2) ⟨[], rfl, h0⟩
  refine key.mono ?_
  rintro e W' ⟨hv, h⟩
  refine ⟨hv, ?_⟩
  rcases h with ⟨ys, rfl, p, hp, hJ⟩ | ⟨pre, hpre, p, hp, hJ⟩
  · exact .inl ⟨p, hp, hJ⟩
  · exact .inr ⟨p, show p.map Fin.val <+: List.range (pcs L c) from by rw [hp]; exact hpre, hJ⟩
theorem Kc_b {n₀ X1 X2 : Nat} {w : World} (hn : n₀ ≤ w.heap.size) (h1 : X1 < w.heap.size) (h2 : X2 < w.heap.size) (W : World) (l : Nat) (o o' : Obj) (hl : w.heap.size ≤ l) (h : W.heap[l]? = some o) (ha : o.isCells = false) (hb : o.isWalk = false) : Kc n₀ X1 X2 W (W.putObj l o') :=
  ⟨belowK_b hn W l o o' hl h ha hb, World.putObj_heap_other (by omega), World.putObj_heap_other (by omega)⟩
end Go.Proofs.YtplieplmhdfndaaGreatDoor
