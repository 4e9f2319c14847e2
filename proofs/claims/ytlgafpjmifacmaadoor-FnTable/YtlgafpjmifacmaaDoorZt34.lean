/- The program's table, trimmed: tableOf. copy of elements of many cells. The program's look at a table, and its EncodeTable. -/
import Derived.Test.YtlgafpjmifacmaaDoorZt33
import Derived.Laws.CopyOwn
namespace Go.Proofs.YtlgafpjmifacmaaDoor
set_option linter.unusedVariables false
set_option linter.unusedSimpArgs false
open Go.RowKit

section
variable {P : Program}
theorem run_copy_rowS (w : World) (dT sT ty elem : TypeId) (c m g o dLen dCap : Nat) (a : Addr) (sLen sCap : Nat) (cur : Array Value) (t : TypeId) (cs : List Value)
    (hu : P.underlying dT = some (.slice elem)) (hs : (P.info? elem).map (·.size) = some c)
    (hg : w.heap[g]? = some (.cells cur t (0, 0))) (hm : Nat.min sLen dLen = m) (hn : cs.length = m * c)
    (hsrc : ∀ j v, cs[j]? = some v → w.cell? (a.add j) = some v) (hfit : o + cs.length ≤ cur.size) (h1 : ∀ v ∈ cs, v.oneCell' = true) :
    (Builtin.copy_ #[dT, sT] ty #[.slice (some ⟨g, o, none⟩) dLen dCap, .slice (some a) sLen sCap]).run P w =
      .ok (goInt m) (w.setRow g (cur.toList.take o ++ cs ++ cur.toList.drop (o + cs.length)).toArray) := by
  have hl := run_loadCells_list (P := P) w a cs hsrc
  have hst := run_storeCells_at P g o t cs 0 cur w hg (by simpa using hfit) h1
  cases hq : P.info? elem with
  | none => simp [hq] at hs
  | some i =>
    have hi : i.size = c := by simpa [hq] using hs
    rw [hn] at hl
    simp [Builtin.copy_, run_underlying hu, Builtin.lenOf, Builtin.firstCells, sizeOf, typeInfo, hq, hi, hm, hl, hst]
theorem run_copy_noneS (w : World) (dT sT ty elem : TypeId) (c : Nat) (d a : Option Addr) (dLen dCap sLen sCap : Nat) (hu : P.underlying dT = some (.slice elem)) (hs : (P.info? elem).map (·.size) = some c) (hn : Nat.min sLen dLen = 0) :
    (Builtin.copy_ #[dT, sT] ty #[.slice d dLen dCap, .slice a sLen sCap]).run P w = .ok (goInt 0) w := by
  cases hq : P.info? elem with
  | none => simp [hq] at hs
  | some i =>
    have hl : ∀ (x : Addr), (loadCells x 0).run P w = .ok #[] w := fun x => by simpa using run_loadCells_list (P := P) w x [] (by simp)
    cases d <;> cases a <;> simp [Builtin.copy_, run_underlying hu, Builtin.lenOf, Builtin.firstCells, sizeOf, typeInfo, hq, hn, storeCells, hl]
/-- copy(dst, src), dst at the head of a row that is known whole, elements of c cells. -/
theorem wpList_copyS {w : World} {ops : Array Oper} {rest : List Oper} {o : Oper} {a : Act} {Q : Exit → Act → World → Prop} (hgd : o.guard = none) (d s : Operand) (dT sT : TypeId)
    (ho : o.op = .call { callee := .builtin .copy, args := #[d, s], argTypes := #[dT, sT] }) (elem : TypeId) (c : Nat) (hu : P.underlying dT = some (.slice elem)) (hsz : (P.info? elem).map (·.size) = some c)
    (sp : Option Addr) (g dLen dCap sLen sCap : Nat) (hd : a.eval d = .slice (some ⟨g, 0, none⟩) dLen dCap) (hs : a.eval s = .slice sp sLen sCap)
    (cur : List Value) (t : TypeId) (hg : w.heap[g]? = some (.cells cur.toArray t (0, 0))) (cs : List Value) (m : Nat) (hm : Nat.min sLen dLen = m) (hn : cs.length = m * c)
    (hpos : 0 < m → ∃ ad, sp = some ad ∧ ∀ j v, cs[j]? = some v → w.cell? (ad.add j) = some v)
    (hfit : cs.length ≤ cur.length) (h1 : ∀ v ∈ cs, v.oneCell' = true) (B : Nat) (w0 : World) (hb : Below B w0 w) (hBg : B ≤ g)
    (h : ∀ w', Hid (w'.heap[g]? = some (.cells (cs ++ cur.drop cs.length).toArray t (0, 0))) → Below B w0 w' → wpList P ops Q rest (a.put o.dst (goInt m)) w') :
    wpList P ops Q (o :: rest) a w := by
  refine wpList_plain hgd fun K hK => ?_
  rcases Nat.eq_zero_or_pos m with h0 | h0
  · subst h0
    obtain rfl : cs = [] := List.eq_nil_of_length_eq_zero (by simpa using hn)
    have hrun := run_copy_noneS (P := P) w dT sT o.type elem c (some ⟨g, 0, none⟩) sp dLen dCap sLen sCap hu hsz hm
    unfold Oper.wp
    simp [execOp, ho, resolve, invoke, builtin, hd, hs, hrun, Result.andThen]
    exact hK _ _ (h w (show _ = _ by simpa using hg) hb)
  · obtain ⟨ad, rfl, hsrc⟩ := hpos h0
    have hrun := run_copy_rowS (P := P) w dT sT o.type elem c m g 0 dLen dCap ad sLen sCap cur.toArray t cs hu hsz hg hm hn hsrc (by simpa using hfit) h1
    unfold Oper.wp
    simp [execOp, ho, resolve, invoke, builtin, hd, hs, hrun, Result.andThen]
    exact hK _ _ (h _ (show _ = _ by simpa using setRow_heap w g _ _ t _ hg) (below_setRow hb hBg _))
theorem wpList_eqlG {ops : Array Oper} {rest : List Oper} {o : Oper} {a : Act} {w : World} {Q : Exit → Act → World → Prop} (hw : Region.wanted o (yielded ops a.tmps) = true) (t u : TypeId) (x y : Operand) (ho : o.op = .binOp .eql t x y u)
    (cs ds : Array Value) (hx : a.eval x = .agg cs) (hy : a.eval y = .agg ds) (hm : P.eqGuardType P.depth t = false) (b : Bool) (hE : (Op.equalIn 10000 t (.agg cs) (.agg ds)).run P w = .ok b w)
    (h : wpList P ops Q rest (a.put o.dst (.bool b)) w) : wpList P ops Q (o :: rest) a w := by
  refine Go.BigFrame.wpList_want hw fun K hK => ?_
  have hrun : (execOp a.eval o).run P w = .ok (.value (.bool b)) w := by
    simp [execOp, ho, hx, hy, run_eqGuard_agg w _ _ _ _ _ _ hm, run_eql_struct, hE, Result.andThen]
  unfold Oper.wp
  rw [hrun, Oper.upon_value]
  exact hK _ _ h
end

theorem own_row {w : World} {base g n : Nat} {e : TypeId} {xs : List Value} (h : w.ownsRow base e 24 (.slice (some ⟨g, 0, none⟩) n n) n xs) : w.heap[g]? = some (.cells xs.toArray e (0, 0)) := by
  rcases h.2 with ⟨e0, _⟩ | ⟨g', cap, cur, e1, hb, hg, hnc, hcm, hcs, htake⟩
  · simp at e0
  · injection e1 with e1 e2 e3
    injection e1 with e1
    injection e1 with e4
    subst e3 e4
    rw [List.take_of_length_le (by simp; omega)] at htake
    rw [hg, ← htake]
theorem trimK_step {zs : List Int} {m : Nat} (h : zeroB (rowT zs m) = true) : trimK zs (m + 1) = trimK zs m := by rw [trimK, if_pos h]
theorem trimK_stop {zs : List Int} {m : Nat} (h : zeroB (rowT zs m) = false) : trimK zs (m + 1) = m + 1 := by rw [trimK, if_neg (by rw [h]; simp)]
theorem tab_splice (zs : List Int) (n k : Nat) (hz : zs.length = n * 24) (hk : trimK zs n = k) (hkn : k ≤ n) : (zs.take (k * 24)).map (Value.int .i64) ++ (List.replicate (tabN zs n * 24) (Value.int .i64 0)).drop ((zs.take (k * 24)).map (Value.int .i64)).length = (tabZ zs n).map (Value.int .i64) := by
  unfold tabZ
  rw [hk, List.map_append, List.length_map, List.map_replicate, List.drop_replicate]
  congr 2
  simp
  omega

set_option maxRecDepth 100000 in
set_option maxHeartbeats 1000000 in
theorem tableOf_any (v : Value) (n : Nat) (zs : List Int) (w : World) (h : RdT w v n zs) (hn : n ≤ 1048576) :
    Calls Tryd.prog 27 #[v] w fun e w' => ∃ v', e = .returned v' ∧ w'.ownsRow w.heap.size 44 24 v' (tabN zs n) ((tabZ zs n).map (Value.int .i64)) ∧ Below w.heap.size w w' := by
  obtain ⟨i0, hi, hz0, hz1, hz2⟩ := info_parts infoT24
  have HX := hide h
  have hm := h.len
  have hz := h.1
  obtain ⟨a, cap, rfl, hcp⟩ := h.2
  have hcap := hcp.2
  clear h hcp
  go_enter Tryd.func27, Tryd.ntmps27
  go_wp2
  go_loop [3] (fun i => ∃ k : Nat, k ≤ n ∧ i = .int .i64 k ∧ trimK zs n = trimK zs k) (fun i => (intOf i).toNat)
  case atStart => exact ⟨n, Nat.le_refl _, rfl, rfl⟩
  case round =>
    obtain ⟨k, hk, rfl, he⟩ := hrel
    have HE := hide he
    clear he
    unfold maxLen at hm hcap
    have HSr0 := hide (show ∀ w1, Below w.heap.size w w1 → ∀ k', k' ≤ n → 0 < k' → ∃ ad, a = some ad ∧ ∀ (j : Nat) (u : Value), ((zs.take (k' * 24)).map (Value.int .i64))[j]? = some u → w1.cell? (ad.add j) = some u from by
      intro w1 hb1 k' hk' h0
      obtain ⟨b, off, rfl, hbw, hcell⟩ := HX.out.get (by omega)
      refine ⟨_, rfl, fun j u hj => ?_⟩
      have hjl : j < k' * 24 := by
        have := (List.getElem?_eq_some_iff.1 hj).1
        simp at this
        omega
      rw [Addr.add_mid, hb1.cell (p := ⟨b, off + j, none⟩) hbw, hcell j (by omega)]
      rw [List.getElem?_map, List.getElem?_take, if_pos hjl, List.getElem?_eq_getElem (show j < zs.length by omega)] at hj
      simp at hj
      rw [← hj]
      simp [List.getD, show j < zs.length by omega])
    by_cases hk0 : k = 0
    · subst hk0
      have HT := hide (show tabN zs n = 2 from by unfold tabN; rw [HE.out]; rfl)
      have HS := hide (by have h := tab_splice zs n 0 hz HE.out (by omega); rw [HT.out] at h; exact h)
      have HSrc := hide (fun w1 hb1 => HSr0.out w1 hb1 0 (by omega))
      go_wp2_with (first | (refine wpList_make_full _ rfl (.tmp 21) (.tmp 21) 27 rfl w.heap.size 44 i0 (.agg (cellsI (List.replicate 24 0))) 24 Tryd.underlying27 hi hz0 hz1 .i64 .i64 (2) (2) (2) rfl rfl (by first | rfl | omega) (by first | rfl | omega) (by rw [hz2]; omega) (by unfold maxLen; omega) (Nat.le_refl _) ?_; intro w1 hown hgrow; rw [made_zero24, List.map_replicate] at hown; have HO1 := hide (And.intro (own_row hown) (show Below w.heap.size w w1 from (Below.refl _ _).grown hgrow (Nat.le_refl _) (fun k h => by cases h))); clear hown hgrow) | (refine wpList_copyS rfl (.tmp 23) (.tmp 26) 27 27 rfl 44 24 Tryd.underlying27 info24 _ w.heap.size (2) (2) (0) _ rfl rfl (List.replicate ((2) * 24) (.int .i64 0)) 44 HO1.out.1 ((zs.take ((0) * 24)).map (Value.int .i64)) (0) (by simp [Nat.min_def] <;> omega) (by simp <;> omega) (HSrc.out _ HO1.out.2) (by simp <;> omega) (ints_oneCell _ _) w.heap.size w HO1.out.2 (Nat.le_refl _) ?_; intro w2 H2 hB2; have B2 := hide hB2; clear hB2))
      go_ret
      refine ⟨_, rfl, ?_, B2.out⟩
      have h2 := H2.out
      rw [HS.out] at h2
      rw [HT.out]
      exact blk_own h2 (by rw [tabZ_len zs n hz, HT.out]) (Nat.le_refl _) (by unfold maxLen; omega)
    · obtain ⟨m, rfl⟩ : ∃ m, k = m + 1 := ⟨k - 1, by omega⟩
      have HSrc := hide (fun w1 hb1 => HSr0.out w1 hb1 (m + 1) (by omega))
      obtain ⟨b, off, rfl, hbw, hcell⟩ := HX.out.get (by omega)
      have hr := range_row (w := w) (b := b) (off := off) (k := m) hz (by omega) hcell
      have hlen := rowT_len zs m n hz (by omega)
      have hEq := eqInoL
      cases hzr : zeroB (rowT zs m) with
      | true =>
        have HG := hide (HE.out.trans (trimK_step hzr))
        generalize rowT zs m = r at hr hlen hzr
        have HR := hide hr
        have HN := hide hlen
        have HE2 := hide (fun w => (eqInoL w r HN.out).trans (by rw [hzr]))
        clear hr hlen hzr hcell hEq HSr0
        go_wp2_with (first | (refine wpList_load_midG (by first | rfl | simp [Region.wanted, yielded]) 44 _ rfl b (off + m * 24) rfl (r.map (Value.int .i64)) _ HR.out Tryd.underlying44 rfl (by rw [List.length_map, HN.out]; exact info24) ?_) | (refine wpList_eqlG (by first | rfl | simp [Region.wanted, yielded]) 44 _ _ _ rfl (cellsI r) (cellsI (List.replicate 24 0)) rfl rfl guardIno true (HE2.out _) ?_) )
        go_round
        case rel => exact ⟨m, by omega, by go_num, HG.out⟩
        case measure => simp [intOf]
      | false =>
        have HG := hide (HE.out.trans (trimK_stop hzr))
        generalize rowT zs m = r at hr hlen hzr
        have HR := hide hr
        have HN := hide hlen
        have HE2 := hide (fun w => (eqInoL w r HN.out).trans (by rw [hzr]))
        clear hr hlen hzr hcell hEq HSr0
        by_cases hm1 : m = 0
        · subst hm1
          have HT := hide (show tabN zs n = 2 from by unfold tabN; rw [HG.out]; rfl)
          have HS := hide (by have h := tab_splice zs n (0 + 1) hz HG.out (by omega); rw [HT.out] at h; exact h)
          go_wp2_with (first | (refine wpList_load_midG (by first | rfl | simp [Region.wanted, yielded]) 44 _ rfl b (off) rfl (r.map (Value.int .i64)) _ HR.out Tryd.underlying44 rfl (by rw [List.length_map, HN.out]; exact info24) ?_) | (refine wpList_eqlG (by first | rfl | simp [Region.wanted, yielded]) 44 _ _ _ rfl (cellsI r) (cellsI (List.replicate 24 0)) rfl rfl guardIno false (HE2.out _) ?_) | (refine wpList_make_full _ rfl (.tmp 21) (.tmp 21) 27 rfl w.heap.size 44 i0 (.agg (cellsI (List.replicate 24 0))) 24 Tryd.underlying27 hi hz0 hz1 .i64 .i64 (2) (2) (2) rfl rfl (by first | rfl | omega) (by first | rfl | omega) (by rw [hz2]; omega) (by unfold maxLen; omega) (Nat.le_refl _) ?_; intro w1 hown hgrow; rw [made_zero24, List.map_replicate] at hown; have HO1 := hide (And.intro (own_row hown) (show Below w.heap.size w w1 from (Below.refl _ _).grown hgrow (Nat.le_refl _) (fun k h => by cases h))); clear hown hgrow) | (refine wpList_copyS rfl (.tmp 23) (.tmp 26) 27 27 rfl 44 24 Tryd.underlying27 info24 _ w.heap.size (2) (2) (0 + 1) _ rfl rfl (List.replicate ((2) * 24) (.int .i64 0)) 44 HO1.out.1 ((zs.take ((0 + 1) * 24)).map (Value.int .i64)) (0 + 1) (by simp [Nat.min_def] <;> omega) (by simp <;> omega) (HSrc.out _ HO1.out.2) (by simp <;> omega) (ints_oneCell _ _) w.heap.size w HO1.out.2 (Nat.le_refl _) ?_; intro w2 H2 hB2; have B2 := hide hB2; clear hB2))
          go_ret
          refine ⟨_, rfl, ?_, B2.out⟩
          have h2 := H2.out
          rw [HS.out] at h2
          rw [HT.out]
          exact blk_own h2 (by rw [tabZ_len zs n hz, HT.out]) (Nat.le_refl _) (by unfold maxLen; omega)
        · have HT := hide (show tabN zs n = m + 1 from by unfold tabN; rw [HG.out]; omega)
          have HS := hide (by have h := tab_splice zs n (m + 1) hz HG.out (by omega); rw [HT.out] at h; exact h)
          have hmx : (2 : Int) ≤ (m : Int) + 1 := by omega
          have hmx2 : max ((m : Int) + 1) 2 = (m : Int) + 1 := by omega
          go_wp2_with (first | (refine wpList_load_midG (by first | rfl | simp [Region.wanted, yielded]) 44 _ rfl b (off + m * 24) rfl (r.map (Value.int .i64)) _ HR.out Tryd.underlying44 rfl (by rw [List.length_map, HN.out]; exact info24) ?_) | (refine wpList_eqlG (by first | rfl | simp [Region.wanted, yielded]) 44 _ _ _ rfl (cellsI r) (cellsI (List.replicate 24 0)) rfl rfl guardIno false (HE2.out _) ?_) | (refine wpList_make_full _ rfl (.tmp 21) (.tmp 21) 27 rfl w.heap.size 44 i0 (.agg (cellsI (List.replicate 24 0))) 24 Tryd.underlying27 hi hz0 hz1 .i64 .i64 ((m : Int) + 1) ((m : Int) + 1) (m + 1) rfl rfl (by first | rfl | omega) (by first | rfl | omega) (by rw [hz2]; omega) (by unfold maxLen; omega) (Nat.le_refl _) ?_; intro w1 hown hgrow; rw [made_zero24, List.map_replicate] at hown; have HO1 := hide (And.intro (own_row hown) (show Below w.heap.size w w1 from (Below.refl _ _).grown hgrow (Nat.le_refl _) (fun k h => by cases h))); clear hown hgrow) | (refine wpList_copyS rfl (.tmp 23) (.tmp 26) 27 27 rfl 44 24 Tryd.underlying27 info24 _ w.heap.size (m + 1) (m + 1) (m + 1) _ rfl rfl (List.replicate ((m + 1) * 24) (.int .i64 0)) 44 HO1.out.1 ((zs.take ((m + 1) * 24)).map (Value.int .i64)) (m + 1) (by simp [Nat.min_def] <;> omega) (by simp <;> omega) (HSrc.out _ HO1.out.2) (by simp <;> omega) (ints_oneCell _ _) w.heap.size w HO1.out.2 (Nat.le_refl _) ?_; intro w2 H2 hB2; have B2 := hide hB2; clear hB2))
          go_ret
          refine ⟨_, rfl, ?_, B2.out⟩
          have h2 := H2.out
          rw [HS.out] at h2
          rw [HT.out]
          exact blk_own h2 (by rw [tabZ_len zs n hz, HT.out]) (Nat.le_refl _) (by unfold maxLen; omega)
end Go.Proofs.YtlgafpjmifacmaaDoor

namespace Go.Proofs.YtlgafpjmifacmaaDoor
set_option linter.unusedVariables false
set_option linter.unusedSimpArgs false
open Go.RowKit

/-- What tableFault has seen of the first k inodes. -/
def okTo (zs : List Int) (n k : Nat) : Bool := (decide (2 ≤ (n : Int)) && decide ((n : Int) ≤ 1001)) && (allRows zs k && (decide (k = 0) || zeroB (rowT zs 0)))
theorem okTo_zero (zs : List Int) (n : Nat) : okTo zs n 0 = (decide (2 ≤ (n : Int)) && decide ((n : Int) ≤ 1001)) := by
  unfold okTo allRows; simp
theorem okTo_step (zs : List Int) (n k : Nat) : ((okTo zs n k && rightL (rowT zs k)) && (decide (0 < k) || zeroB (rowT zs k))) = okTo zs n (k + 1) := by
  have ha : allRows zs (k + 1) = (allRows zs k && rightL (rowT zs k)) := by
    unfold allRows; rw [List.range_succ, List.all_append]; simp
  unfold okTo
  rw [ha]
  generalize (decide (2 ≤ (n : Int)) && decide ((n : Int) ≤ 1001)) = A
  rcases Nat.eq_zero_or_pos k with h | h
  · subst h
    have h0 : allRows zs 0 = true := rfl
    rw [h0]
    cases A <;> cases rightL (rowT zs 0) <;> cases zeroB (rowT zs 0) <;> rfl
  · have hk : decide (k = 0) = false := by simp; omega
    have hk1 : decide (k + 1 = 0) = false := by simp
    rw [hk, hk1, decide_eq_true h]
    cases A <;> cases allRows zs k <;> cases rightL (rowT zs k) <;> cases zeroB (rowT zs 0) <;> rfl
theorem row_range {w : World} {b : Nat} {r : List Int} {t : TypeId} (h : Blk w b (cellsI r) t) : w.rangeAt b 0 (r.map (Value.int .i64)) := by
  intro j v hv
  rw [h.cell (0 + j), Nat.zero_add]
  simp [cellsI] at hv ⊢
  exact hv
set_option maxRecDepth 100000 in
set_option maxHeartbeats 1000000 in
theorem tableFault_any (v : Value) (n : Nat) (zs : List Int) (code : Int) (w : World) (h : RdT w v n zs) :
    Calls Tryd.prog 28 #[v, .int .i64 code] w fun e w' => ∃ ev, e = .returned ev ∧ FaultIs w' w.heap.size (okTo zs n n) ev code ∧ Below w.heap.size w w' := by
  have hm := h.len
  have hz := h.1
  unfold maxLen at hm
  have hb0 : Below w.heap.size w (w.alloc (.cells #[.int .i64 code, .nilIface] 63)) := (Below.refl _ _).alloc (Nat.le_refl _) _
  have K0 := hide (And.intro (Ck.fresh w code 63) hb0)
  clear hb0
  rcases h.parts with ⟨a, cap, rfl, hlow⟩ | ⟨b, off, cap, rfl, hbw, hcell⟩
  all_goals
    clear h
    go_enter Tryd.func28, Tryd.ntmps28
    go_wp2_with (go_at_call 49; fail)
    refine (within_any w.heap.size (w.heap.size + 1) _ code n 2 1001 true _ K0.out.1 (by omega) (by simp)).mono ?_
    rintro e w1 ⟨rfl, hc1, ht1⟩
    rw [Bool.true_and] at hc1
    have K1 := hide (And.intro hc1 (show Below w.heap.size w w1 from K0.out.2.grown ht1.1 (by simp) (fun k e => by cases e; omega)))
    have hs1 : w.heap.size + 1 ≤ w1.heap.size := by have := ht1.1.size; simp at this; omega
    clear hc1 ht1 K0
    go_wp2
    go_loopw [15] (fun i wr => ∃ k : Nat, k ≤ n ∧ i = .int .i64 k ∧ Ck wr w.heap.size (w.heap.size + 1) code (okTo zs n k) ∧ Below w.heap.size w wr ∧ w.heap.size + 1 ≤ wr.heap.size) (fun i _ => n - (intOf i).toNat)
    case atStart => exact ⟨0, Nat.zero_le _, rfl, by rw [okTo_zero]; exact K1.out.1, K1.out.2, hs1⟩
    case round =>
      clear K1 hs1
      obtain ⟨k, hk, rfl, hck, hb1, hsr⟩ := hrel
      have HC := hide hck
      clear hck
      by_cases hlt : k < n
      · first
        | omega
        | (have hr := range_row (w := wr) (b := b) (off := off) hz hlt (fun i hi => (hb1.cell (p := ⟨b, off + i, none⟩) hbw).trans (hcell i hi))
           have hlen := rowT_len zs k n hz hlt
           have hst := okTo_step zs n k
           generalize hrw : rowT zs k = r at hr hlen hst
           have HR := hide hr
           have HN := hide hlen
           have HZ := hide (show (cellsI r).size = 24 from by rw [cellsI_size]; exact HN.out)
           have HK := hide (show Blk (wr.alloc (.cells (cellsI (List.replicate 24 0)) 44)) wr.heap.size (cellsI (List.replicate 24 0)) 44 ∧ Below wr.heap.size wr (wr.alloc (.cells (cellsI (List.replicate 24 0)) 44)) from ⟨Blk.new _ _ _, (Below.refl _ _).alloc (Nat.le_refl _) _⟩)
           have HB := hide hb1
           have HE2 := hide (fun w => eqInoL w r HN.out)
           clear hr hlen hb1 hcell hrw
           go_wp2_with (first | (refine wpList_load_mid rfl 44 _ rfl b (off + k * 24) rfl (r.map (Value.int .i64)) _ HR.out Tryd.underlying44 rfl (by rw [List.length_map, HN.out]; exact info24) ?_) | (refine wpList_store_new wr.heap.size wr rfl 44 _ _ rfl wr.heap.size (cellsI r) rfl rfl 44 (cellsI (List.replicate 24 0)) HK.out.1 (by rw [HZ.out]; exact info24) (by rw [HZ.out]; rfl) (cellsI_one _) HK.out.2 (Nat.le_refl _) ?_; intro w2 k2 b2; have K2 := hide k2; have B2 := hide b2; clear k2 b2) | (refine wpList_load_row rfl 44 _ rfl wr.heap.size rfl 44 (cellsI r) (0, 0) _ K2.out Tryd.underlying44 rfl (by rw [HZ.out]; exact info24) ?_) | (go_at_call 50; fail))
           refine (inodeFaultL r code _ HN.out).mono ?_
           rintro e w3 ⟨ev, rfl, hf3, b3⟩
           have hlt2 := K2.out.lt
           have hs23 := b3.size
           have C3 := hide ((HC.out.below B2.out).below b3)
           have K3 := hide (K2.out.below b3 K2.out.lt)
           have F3 := hide (hf3.mono (show w.heap.size + 1 ≤ w2.heap.size by omega))
           have B3 := hide ((HB.out.trans (B2.out.mono HB.out.size)).trans (b3.mono (show w.heap.size ≤ w2.heap.size by omega)))
           clear hf3 b3 HB B2 K2 HC
           go_wp2_with fail
           refine (inside_both w.heap.size (w.heap.size + 1) _ code _ _ ev _ C3.out F3.out (by omega) (by omega)).mono ?_
           rintro e w4 ⟨rfl, hc4, ht4⟩
           have K4 := hide hc4
           have B4 := hide (B3.out.grown ht4.1 B3.out.size (fun k e => by cases e; omega))
           have hs4 : w.heap.size + 1 ≤ w4.heap.size := by have := ht4.1.size; omega
           have I4 := hide (show Blk w4 wr.heap.size (cellsI r) 44 from (ht4.1.block _ K3.out.lt (by simp; omega)).trans K3.out)
           clear hc4 ht4 C3 F3 B3 K3
           by_cases hk0 : k = 0
           · subst hk0
             have HS := hide (show ((okTo zs n 0 && rightL r) && zeroB r) = okTo zs n (0 + 1) from by rw [← hst]; simp)
             clear hst
             go_wp2_with (first | (refine wpList_load_midG (by first | rfl | simp [Region.wanted, yielded]) 44 _ rfl wr.heap.size 0 rfl (r.map (Value.int .i64)) _ (row_range I4.out) Tryd.underlying44 rfl (by rw [List.length_map, HN.out]; exact info24) ?_) | (refine wpList_eqlG (by first | rfl | simp [Region.wanted, yielded]) 44 _ _ _ rfl (cellsI r) (cellsI (List.replicate 24 0)) rfl rfl guardIno (zeroB r) (HE2.out _) ?_) | (go_at_call 36; fail))
             refine (need_any w.heap.size (w.heap.size + 1) _ code _ (zeroB r) _ K4.out (by omega) hs4).mono ?_
             rintro e w5 ⟨rfl, hc5, ht5⟩
             have K5 := hide (show Ck w5 w.heap.size (w.heap.size + 1) code (okTo zs n (0 + 1)) ∧ Below w.heap.size w w5 from ⟨by rw [← HS.out]; exact hc5, B4.out.grown ht5.1 B4.out.size (fun k e => by cases e; omega)⟩)
             have hs5 : w.heap.size + 1 ≤ w5.heap.size := by have := ht5.1.size; omega
             clear hc5 ht5
             go_wp2
             go_roundw
             case rel => exact ⟨0 + 1, by omega, by go_num, K5.out.1, K5.out.2, hs5⟩
             case measure => simp [intOf]; omega
           · have HS := hide (show ((okTo zs n k && rightL r) && true) = okTo zs n (k + 1) from by rw [← hst]; simp [Nat.pos_of_ne_zero hk0])
             have hkp : (0 : Int) < (k : Int) := by omega
             clear hst
             go_wp2_with (first | (go_at_call 36; fail))
             refine (need_any w.heap.size (w.heap.size + 1) _ code _ true _ K4.out (by omega) hs4).mono ?_
             rintro e w5 ⟨rfl, hc5, ht5⟩
             have K5 := hide (show Ck w5 w.heap.size (w.heap.size + 1) code (okTo zs n (k + 1)) ∧ Below w.heap.size w w5 from ⟨by rw [← HS.out]; exact hc5, B4.out.grown ht5.1 B4.out.size (fun k e => by cases e; omega)⟩)
             have hs5 : w.heap.size + 1 ≤ w5.heap.size := by have := ht5.1.size; omega
             clear hc5 ht5
             go_wp2
             go_roundw
             case rel => exact ⟨k + 1, by omega, by go_num, K5.out.1, K5.out.2, hs5⟩
             case measure => simp [intOf]; omega)
      · have hkn : k = n := by omega
        subst hkn
        have HB := hide hb1
        obtain ⟨ev, c1, hf1⟩ := HC.out.fault
        have HF := hide (hf1.mono (show w.heap.size ≤ w.heap.size + 1 by omega))
        clear hb1 hf1
        go_wp2
        go_ret
        exact ⟨ev, rfl, HF.out, HB.out⟩
end Go.Proofs.YtlgafpjmifacmaaDoor
