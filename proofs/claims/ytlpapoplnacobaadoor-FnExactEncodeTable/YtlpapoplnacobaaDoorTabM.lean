/- The laws' marks in a slice of inodes: markInodeS. -/
import Derived.Test.YtlpapoplnacobaaDoorTabA
import Derived.Great.BuildSlice
namespace Go.Proofs.YtlpapoplnacobaaDoor
set_option linter.unusedVariables false
set_option linter.unusedSimpArgs false
open Go.RowKit

/-- Of the N cells of block g the first m are marked from 1 on, the others are as they were; since W0 nothing else that was there has turned. -/
def MkT (W0 w : World) (g N m : Nat) (zs : List Int) : Prop :=
  (∀ i, i < N → w.cell? ⟨g, i, none⟩ = some (.int .i64 (if i < m then 1 + (i : Int) else zs.getD i 0))) ∧ (∀ i, w.frozen? ⟨g, i, none⟩ = false) ∧ W0.grownBy w (some g)
theorem MkT.step {W0 w : World} {g N m : Nat} {zs : List Int} (h : MkT W0 w g N m zs) (hg : g < W0.heap.size) (hm : m < N) : MkT W0 (w.setCell ⟨g, m, none⟩ (.int .i64 (1 + (m : Int)))) g N (m + 1) zs := by
  refine ⟨fun i hi => ?_, fun i => by rw [World.frozen?_setCell]; exact h.2.1 i, grownBy_trans h.2.2 ⟨rfl, rfl, rfl, by simp, fun k hk hn => Below.heap_setCell w _ _ k (fun h => hn (by rw [h]))⟩⟩
  by_cases e : i = m
  · subst e
    rw [World.cell?_setCell_same _ _ _ (h.1 i hi), if_pos (by omega)]
  · rw [World.cell?_setCell_other _ _ _ _ (by intro q; injection q with q1 q2; exact e q2.symm), h.1 i hi]
    by_cases hl : i < m
    · rw [if_pos hl, if_pos (by omega)]
    · rw [if_neg hl, if_neg (by omega)]
section
variable {P : Program}
theorem wpList_mark {ops : Array Oper} {rest : List Oper} {o : Oper} {a : Act} {w : World} {Q : Exit → Act → World → Prop} {W0 : World} {g N m : Nat} {zs : List Int} (hM : MkT W0 w g N m zs) (hgd : o.guard = none) (ty : TypeId) (x y : Operand) (ho : o.op = .store ty x y)
    (q : Nat) (hx : a.eval x = .pointer (some ⟨g, q, none⟩)) (z : Int) (hy : a.eval y = .int .i64 z) (hi : (P.info? ty).map (·.size) = some 1) (hq : q = m) (hz : z = 1 + (m : Int)) (hg : g < W0.heap.size) (hm : m < N)
    (h : ∀ w2, MkT W0 w2 g N (m + 1) zs → wpList P ops Q rest (a.put o.dst undef) w2) : wpList P ops Q (o :: rest) a w := by
  subst hq hz
  refine wpList_plain hgd fun _ hK => ?_
  have hst : (storeVar ty ⟨g, q, none⟩ (.int .i64 (1 + (q : Int)))).run P w = .ok () (w.setCell ⟨g, q, none⟩ (.int .i64 (1 + (q : Int)))) := by
    have := run_storeCells_cells (P := P) g q [.int .i64 (1 + (q : Int))] 0 w (by intro j hj; simp at hj; subst hj; simp [hM.1 q hm]) (by intro j hj; simp at hj; subst hj; simpa using hM.2.1 q) (by intro v hv; simp at hv; subst hv; rfl)
    cases hq : P.info? ty with
    | none => simp [hq] at hi
    | some i =>
      have hs : i.size = 1 := by simpa [hq] using hi
      simp [World.setCells] at this
      simp [storeVar, sizeOf, typeInfo, hq, Value.cells, hs, this]
  unfold Oper.wp execOp
  simp only [ho, hx, hy, Instr.storeAt, Instr.sureAddr, Sem.run_bind, Sem.run_pure, Result.andThen_ok, hst]
  exact hK _ _ (h _ (hM.step hg hm))
end
theorem infoInt1 : (Tryd.prog.info? 3).map (·.size) = some 1 := by kernel_rfl
set_option maxRecDepth 100000 in
set_option maxHeartbeats 1000000 in
theorem markInodeS_any (v : Value) (base n : Nat) (zs : List Int) (w : World) (h : w.ownsRow base 44 24 v n (zs.map (Value.int .i64))) (hn : n ≤ 1048576) :
    Calls Tryd.prog 12 #[v, .int .i64 1] w fun e w' => e = .returned (.int .i64 (1 + ((n * 24 : Nat) : Int))) ∧ RdT w' v n ((List.range (n * 24)).map fun x : Nat => 1 + (x : Int)) ∧ w.grownBy w' v.ownBlock := by
  have hrd := RdT.own h
  rcases Nat.eq_zero_or_pos n with h0 | h0
  · subst h0
    obtain ⟨hz, a, cap, rfl, hc, hcap⟩ := hrd
    have HR := hide (show RdT w (.slice a 0 cap) 0 [] from ⟨rfl, a, cap, rfl, fun h => absurd h (by omega), hcap⟩)
    clear hc h
    go_enter Tryd.func12, Tryd.ntmps12
    go_wp2
    go_loop [1, 5] (fun kk ii => kk = .int .i64 1 ∧ ii = .int .i64 0) (fun _ _ => 0)
    case atStart => exact ⟨rfl, rfl⟩
    case round =>
      obtain ⟨rfl, rfl⟩ := hrel
      go_wp2
      go_ret
      exact ⟨rfl, HR.out, World.grownBy.refl _ _⟩
  · obtain ⟨_, h2⟩ := h
    rcases h2 with ⟨rfl, h2⟩ | ⟨g, cap, cur, rfl, hb, hg, hnc, hcm, hcs, htake⟩
    · omega
    · have hgl : g < w.heap.size := (Array.getElem?_eq_some_iff.1 hg).1
      have M0 := hide (show MkT w w g (n * 24) 0 zs from by
        obtain ⟨b, off, e, _, hc⟩ := (show ∃ b off, some (⟨g, 0, none⟩ : Addr) = some ⟨b, off, none⟩ ∧ b < w.heap.size ∧ ∀ i, i < n * 24 → w.cell? ⟨b, off + i, none⟩ = some (.int .i64 (zs.getD i 0)) from by
          obtain ⟨_, a', c', e, h2, _⟩ := hrd
          injection e with e1 e2 e3
          subst e1
          exact h2 h0)
        injection e with e
        injection e with e1 e2
        subst e1 e2
        exact ⟨fun i hi => by rw [if_neg (by omega)]; simpa using hc i hi, fun i => frozen_of_row w g i cur _ hg, World.grownBy.refl _ _⟩)
      clear hrd hb hg hcs htake
      go_enter Tryd.func12, Tryd.ntmps12
      go_wp2
      go_loopw [1, 5] (fun kk ii wr => ∃ i : Nat, i ≤ n ∧ ii = .int .i64 i ∧ kk = .int .i64 (1 + ((i * 24 : Nat) : Int)) ∧ MkT w wr g (n * 24) (i * 24) zs) (fun _ ii _ => n - (intOf ii).toNat)
      case atStart => exact ⟨0, by omega, rfl, rfl, by simpa using M0.out⟩
      case round =>
        clear M0
        obtain ⟨i, hi, rfl, rfl, hM⟩ := hrel
        have HM := hide hM
        clear hM
        by_cases hlt : i < n
        · go_wp2_with (first | (refine wpList_mark HM.out rfl 3 _ _ rfl _ rfl _ rfl infoInt1 (by omega) (by omega) hgl (by omega) ?_; intro w2 h2; have HM := hide h2; clear h2))
          have HM0 := hide (show MkT w w2 g (n * 24) (i * 24 + 10 + 0) zs from HM.out)
          go_loopw [1, 6] (fun kk jj wr => ∃ j : Nat, j ≤ 12 ∧ jj = .int .i64 j ∧ kk = .int .i64 (1 + ((i * 24 + 10 + j : Nat) : Int)) ∧ MkT w wr g (n * 24) (i * 24 + 10 + j) zs) (fun _ jj _ => 12 - (intOf jj).toNat)
          case atStart => exact ⟨0, by omega, rfl, by go_num, HM0.out⟩
          case round =>
            clear HM0
            obtain ⟨j, hj, rfl, rfl, hM⟩ := hrel
            have HM := hide hM
            clear hM
            by_cases hjt : j < 12
            · go_wp2_with (first | (refine wpList_mark HM.out rfl 3 _ _ rfl _ rfl _ rfl infoInt1 (by omega) (by omega) hgl (by omega) ?_; intro w2 h2; have HM := hide h2; clear h2))
              go_roundw
              case rel => exact ⟨j + 1, by omega, by go_num, by go_num, HM.out⟩
              case measure => simp [intOf]; omega
            · have hj12 : j = 12 := by omega
              subst hj12
              go_wp2_with (first | (refine wpList_mark HM.out rfl 3 _ _ rfl _ rfl _ rfl infoInt1 (by omega) (by omega) hgl (by omega) ?_; intro w2 h2; have HM := hide h2; clear h2))
              have HM2 := hide (show MkT w w2 g (n * 24) ((i + 1) * 24) zs from by
                have h := HM.out
                rw [show i * 24 + 10 + 12 + 1 + 1 = (i + 1) * 24 by omega] at h
                exact h)
              go_roundw
              case rel => exact ⟨i + 1, by omega, by go_num, by go_num, HM2.out⟩
              case measure => simp [intOf]; omega
        · have hin : i = n := by omega
          subst hin
          go_wp2
          go_ret
          refine ⟨by go_num, ⟨by simp, some ⟨g, 0, none⟩, cap, rfl, fun _ => ⟨g, 0, rfl, Nat.lt_of_lt_of_le hgl HM.out.2.2.size, fun x hx => ?_⟩, by omega, hcm⟩, HM.out.2.2⟩
          rw [Nat.zero_add, HM.out.1 x hx, if_pos hx]
          simp [List.getD, hx]
end Go.Proofs.YtlpapoplnacobaaDoor
