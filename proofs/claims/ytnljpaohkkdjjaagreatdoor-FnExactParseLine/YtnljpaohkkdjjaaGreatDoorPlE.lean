/- The model's texts (l15Text). -/
import Derived.Test.YtnljpaohkkdjjaaGreatDoorPlD
namespace Go.Proofs.YtnljpaohkkdjjaaGreatDoor
set_option linter.unusedVariables false
set_option linter.unusedSimpArgs false
open Go.RowKit

/-- What is answered of a text. -/
def textV (l : List UInt8) : Value := match textR l with
  | some t => .tuple #[.string (mk t), .bool true]
  | none => .tuple #[.string ⟨#[]⟩, .bool false]
theorem textV_no {l : List UInt8} (h : textR l = none) : textV l = .tuple #[.string ⟨#[]⟩, .bool false] := by unfold textV; rw [h]
theorem textV_yes {l t : List UInt8} (h : textR l = some t) : textV l = .tuple #[.string (mk t), .bool true] := by unfold textV; rw [h]
/-- A text in the making. -/
structure TxI (l : List UInt8) (w : World) (k : Nat) (o : List UInt8) (v : Value) (wr : World) : Prop where
  own : wr.ownsRow w.heap.size 5 1 v o.length (Lib.byteCells o)
  bel : Below w.heap.size w wr
  tx : TxA l k o
theorem TxI.push {l : List UInt8} {w wr w' : World} {k k' n : Nat} {o : List UInt8} {v v' : Value} {c : UInt8} {xs : List Value} (h : TxI l w k o v wr) (hn : n = o.length) (hxs : xs = [.int .u8 (c.toNat : Int)]) (ht : TxA l k' (o ++ [c]))
    (ho : w'.ownsRow w.heap.size 5 1 v' (n + 1) (Lib.byteCells o ++ xs)) (hg : wr.grownBy w' v.ownBlock) : TxI l w k' (o ++ [c]) v' w' := by
  refine ⟨?_, h.bel.grown hg h.bel.size (fun r hr => (h.own.lt r hr).1), ht⟩
  subst hn hxs
  rw [List.length_append, Lib.byteCells_append]
  exact ho
theorem TxI.alloc {l : List UInt8} {w wr : World} {k : Nat} {o : List UInt8} {v : Value} (h : TxI l w k o v wr) (ob : Obj) : TxI l w k o v (wr.alloc ob) := ⟨own_below h.own ((Below.refl _ _).alloc (Nat.le_refl _) ob), h.bel.alloc h.bel.size ob, h.tx⟩
theorem TxI.drewT {l : List UInt8} {w wr : World} {k : Nat} {o : List UInt8} {v : Value} (h : TxI l w k o v wr) : TxI l w k o v (World.drew wr) := ⟨own_below h.own ((Below.refl _ _).drew), h.bel.drew, h.tx⟩
theorem esc_num {a b : UInt8} (ha : 0 ≤ digI a.toNat) (hb : 0 ≤ digI b.toNat) : ((escB a b).toNat : Int) = 16 * digI a.toNat + digI b.toNat := by
  have h1 := digI_bd a.toNat
  have h2 := digI_bd b.toNat
  unfold escB
  simp
  omega
theorem i64_wrap (z : Int) (h0 : 0 ≤ z) (h1 : z < 4294967296) : IntKind.i64.wrap z = z := by
  have e : (2 : Int) ^ IntKind.i64.bits = 18446744073709551616 := by decide
  have e2 : (2 : Int) ^ (IntKind.i64.bits - 1) = 9223372036854775808 := by decide
  simp [IntKind.wrap, IntKind.signed, e, e2]
  omega
theorem u8_wrap (z : Int) (h0 : 0 ≤ z) (h1 : z < 256) : IntKind.u8.wrap z = z ∧ z % 256 = z := by
  have e : (2 : Int) ^ IntKind.u8.bits = 256 := by decide
  refine ⟨?_, by omega⟩
  simp [IntKind.wrap, IntKind.signed, e]
  omega
set_option maxRecDepth 100000 in
set_option maxHeartbeats 4000000 in
theorem text_any (s : ByteArray) (w : World) (hs : s.size ≤ 1048576) :
    Calls Tryz.prog 13 #[.string s] w fun e w' => e = .returned (textV s.data.toList) ∧ Below w.heap.size w w' := by
  have HLL := hide (show s.data.toList.length = s.size from rfl)
  by_cases h45 : s = ⟨#[45]⟩
  · subst h45
    have HR := hide (show textV (⟨#[45]⟩ : ByteArray).data.toList = .tuple #[.string (mk []), .bool true] from textV_yes (by unfold textR; rw [if_pos rfl]))
    go_enter Tryz.func13, Tryz.ntmps13
    go_wp2
    go_ret2
    refine ⟨ret_val ?_, Below.refl _ _⟩
    rw [HR.out]
    rfl
  have hne : (s.toList == [45]) = false := by
    rw [ByteArray.toList_eq, beq_eq_false_iff_ne]
    intro e
    apply h45
    rw [← mk_data s, e]
    rfl
  have HR := hide (show textR s.data.toList = textF s.data.toList from by
    unfold textR
    rw [if_neg (fun e => h45 (by rw [← mk_data s, e]; rfl))])
  clear h45
  obtain ⟨i0, hi, hz0, hz1, hz2⟩ := info_parts infoBT
  go_enter Tryz.func13, Tryz.ntmps13
  go_wp2
  clear hne
  go_loopw [4, 5] (fun v i wr => ∃ (k : Nat) (o : List UInt8), k ≤ s.size ∧ i = .int .i64 (k : Int) ∧ Hid (TxI s.data.toList w k o v wr)) (fun _ i _ => s.size - (intOf i).toNat)
  case atStart => exact ⟨0, [], Nat.zero_le _, rfl, ⟨own_emptyT w _ _, (Below.refl _ _).alloc (Nat.le_refl _) _, TxA.start _⟩⟩
  case round =>
    obtain ⟨k, o, hk, rfl, HW⟩ := hrel
    obtain ⟨n, hn⟩ : ∃ n : Nat, n = o.length := ⟨_, rfl⟩
    have hnb : n ≤ 1048576 := by have := HW.out.tx.2; omega
    have HO := hide (show wr.ownsRow w.heap.size 5 1 u4 n (Lib.byteCells o) from by rw [hn]; exact HW.out.own)
    have HN := hide hn
    have HB := hide HW.out.bel.size
    clear hn
    obtain ⟨va, vc, rfl⟩ := own_shapeT HO.out
    by_cases hlt : k < s.size
    · have HC := hide (byte_at s k hlt)
      have hcb : (s[k].toNat : Int) < 256 := by have := UInt8.toNat_lt s[k]; omega
      have hc0 : (0 : Int) ≤ s[k].toNat := by omega
      generalize hcz : s[k] = c at HC hcb hc0
      by_cases hbad : c.toNat < 33 ∨ 126 < c.toNat
      · have HF := hide (show textV s.data.toList = .tuple #[.string ⟨#[]⟩, .bool false] from textV_no (by rw [HR.out]; exact HW.out.tx.bad HC.out hbad))
        rcases (by omega : (c.toNat : Int) < 33 ∨ (33 ≤ (c.toNat : Int) ∧ 126 < (c.toNat : Int))) with h1 | ⟨h1, h2⟩
        all_goals
          clear hbad
          go_wp2_with fail
          go_ret2
          refine ⟨ret_val ?_, HW.out.bel⟩
          rw [HF.out]
          rfl
      have h1 : 33 ≤ (c.toNat : Int) := by omega
      have h2 : (c.toNat : Int) ≤ 126 := by omega
      have HBD := hide hbad
      clear hbad
      by_cases h37 : c.toNat = 37
      · have b3 : ((c.toNat : Int) != 37) = false := by rw [h37]; rfl
        have H37 := hide h37
        clear h37
        by_cases hsh : s.size ≤ k + 2
        · have HF := hide (show textV s.data.toList = .tuple #[.string ⟨#[]⟩, .bool false] from textV_no (by rw [HR.out]; exact HW.out.tx.short HC.out H37.out (by rw [HLL.out]; exact hsh)))
          have hs2 : (s.size : Int) ≤ (k : Int) + 2 := by omega
          go_wp2_with fail
          go_ret2
          refine ⟨ret_val ?_, HW.out.bel⟩
          rw [HF.out]
          rfl
        have hA : k + 1 < s.size := by omega
        have hB : k + 2 < s.size := by omega
        have HCa := hide (byte_at s (k + 1) hA)
        have HCb := hide (byte_at s (k + 2) hB)
        have hab : (s[k + 1].toNat : Int) < 256 := by have := UInt8.toNat_lt s[k + 1]; omega
        have hbb : (s[k + 2].toNat : Int) < 256 := by have := UInt8.toNat_lt s[k + 2]; omega
        have hs2 : ¬ (s.size : Int) ≤ (k : Int) + 2 := by omega
        generalize haz : s[k + 1] = a at HCa hab
        generalize hbz : s[k + 2] = b at HCb hbb
        have ha0 : (0 : Int) ≤ a.toNat := by omega
        have hb0 : (0 : Int) ≤ b.toNat := by omega
        have dba := digI_bd (a.toNat : Int)
        have dbb := digI_bd (b.toNat : Int)
        by_cases hda : digI (a.toNat : Int) < 0
        · have HF := hide (show textV s.data.toList = .tuple #[.string ⟨#[]⟩, .bool false] from textV_no (by rw [HR.out]; exact HW.out.tx.noesc HC.out HCa.out HCb.out H37.out (fun h => by omega)))
          go_wp2_with (go_at_call 22; refine (digit_any _ _ (by omega) (by omega)).mono ?_; rintro e w9 ⟨rfl, e9⟩; rw [e9]; clear e9)
          go_ret2
          refine ⟨ret_val ?_, HW.out.bel⟩
          rw [HF.out]
          rfl
        by_cases hdb : digI (b.toNat : Int) < 0
        · have HF := hide (show textV s.data.toList = .tuple #[.string ⟨#[]⟩, .bool false] from textV_no (by rw [HR.out]; exact HW.out.tx.noesc HC.out HCa.out HCb.out H37.out (fun h => by omega)))
          go_wp2_with (go_at_call 22; refine (digit_any _ _ (by omega) (by omega)).mono ?_; rintro e w9 ⟨rfl, e9⟩; rw [e9]; clear e9)
          go_ret2
          refine ⟨ret_val ?_, HW.out.bel⟩
          rw [HF.out]
          rfl
        have HEN := hide (esc_num (a := a) (b := b) (by omega) (by omega))
        have HTX := hide (HW.out.tx.esc HC.out HCa.out HCb.out H37.out (by omega) (by omega))
        have HI1 := hide (show 0 ≤ (k : Int) + 1 ∧ ¬ (s.size : Int) ≤ (k : Int) + 1 from by omega)
        have HW1 := hide (i64_wrap ((k : Int) + 1) (by omega) (by omega))
        have HW2 := hide (i64_wrap ((k : Int) + 2) (by omega) (by omega))
        have HW3 := hide (i64_wrap (16 * digI (a.toNat : Int)) (by omega) (by omega))
        have HW4 := hide (i64_wrap (16 * digI (a.toNat : Int) + digI (b.toNat : Int)) (by omega) (by omega))
        have HW5 := hide (u8_wrap (16 * digI (a.toNat : Int) + digI (b.toNat : Int)) (by omega) (by omega))
        go_wp2_with (go_at_call 22; refine (digit_any _ _ (by omega) (by omega)).mono ?_; rintro e w9 ⟨rfl, e9⟩; rw [e9]; clear e9)
        refine wp_region_noPanic ?_
        refine wp_region_held_drew (S := fun _ => True) (by kernel_rfl) trivial (fun hH => ?_)
        refine wpAnyH_take (i := 0) (oi := _) (v := .slice va n vc) rfl (by kernel_rfl) (by kernel_rfl) (by kernel_rfl) (fun _ _ _ h => h) (Or.inl ⟨by rfl, fun w' hw' => by go_simp⟩) hH ?_
        try simp only [Act.put, List.getElem_toArray, List.getElem_cons_zero, List.getElem_cons_succ, List.setIfInBounds_toArray, List.set_cons_zero, List.set_cons_succ]
        refine wpAnyH_take (i := 1) (oi := _) (v := .string s) rfl (by kernel_rfl) (by kernel_rfl) (by kernel_rfl) (fun _ _ _ h => h) (Or.inl ⟨by rfl, fun w' hw' => by go_simp⟩) hH ?_
        try simp only [Act.put, List.getElem_toArray, List.getElem_cons_zero, List.getElem_cons_succ, List.setIfInBounds_toArray, List.set_cons_zero, List.set_cons_succ]
        refine wpAnyH_take (i := 2) (oi := _) (v := .int .i64 (k : Int)) rfl (by kernel_rfl) (by kernel_rfl) (by kernel_rfl) (fun _ _ _ h => h) (Or.inl ⟨by rfl, fun w' hw' => by go_simp⟩) hH ?_
        try simp only [Act.put, List.getElem_toArray, List.getElem_cons_zero, List.getElem_cons_succ, List.setIfInBounds_toArray, List.set_cons_zero, List.set_cons_succ]
        refine wpAnyH_take (i := 3) (oi := _) (v := .int .i64 ((k : Int) + 1)) rfl (by kernel_rfl) (by kernel_rfl) (by kernel_rfl) (fun _ _ _ h => h) (Or.inl ⟨by rfl, fun w' hw' => by have hx := HW1.out; go_simp⟩) hH ?_
        try simp only [Act.put, List.getElem_toArray, List.getElem_cons_zero, List.getElem_cons_succ, List.setIfInBounds_toArray, List.set_cons_zero, List.set_cons_succ]
        refine wpAnyH_take (i := 4) (oi := _) (v := .int .u8 (a.toNat : Int)) rfl (by kernel_rfl) (by kernel_rfl) (by kernel_rfl) (fun _ _ _ h => h) (Or.inl ⟨by rfl, fun w' hw' => by have hx := HI1.out.1; have hy := HI1.out.2; go_simp⟩) hH ?_
        try simp only [Act.put, List.getElem_toArray, List.getElem_cons_zero, List.getElem_cons_succ, List.setIfInBounds_toArray, List.set_cons_zero, List.set_cons_succ]
        refine wpAnyH_take (i := 7) (oi := _) (v := .string s) rfl (by kernel_rfl) (by kernel_rfl) (by kernel_rfl) (fun _ _ _ h => h) (Or.inl ⟨by rfl, fun w' hw' => by go_simp⟩) hH ?_
        try simp only [Act.put, List.getElem_toArray, List.getElem_cons_zero, List.getElem_cons_succ, List.setIfInBounds_toArray, List.set_cons_zero, List.set_cons_succ]
        refine wpAnyH_take (i := 8) (oi := _) (v := .int .i64 (k : Int)) rfl (by kernel_rfl) (by kernel_rfl) (by kernel_rfl) (fun _ _ _ h => h) (Or.inl ⟨by rfl, fun w' hw' => by go_simp⟩) hH ?_
        try simp only [Act.put, List.getElem_toArray, List.getElem_cons_zero, List.getElem_cons_succ, List.setIfInBounds_toArray, List.set_cons_zero, List.set_cons_succ]
        refine wpAnyH_take (i := 9) (oi := _) (v := .int .i64 ((k : Int) + 2)) rfl (by kernel_rfl) (by kernel_rfl) (by kernel_rfl) (fun _ _ _ h => h) (Or.inl ⟨by rfl, fun w' hw' => by have hx := HW2.out; go_simp⟩) hH ?_
        try simp only [Act.put, List.getElem_toArray, List.getElem_cons_zero, List.getElem_cons_succ, List.setIfInBounds_toArray, List.set_cons_zero, List.set_cons_succ]
        refine wpAnyH_take (i := 10) (oi := _) (v := .int .u8 (b.toNat : Int)) rfl (by kernel_rfl) (by kernel_rfl) (by kernel_rfl) (fun _ _ _ h => h) (Or.inl ⟨by rfl, fun w' hw' => by go_simp; simp only [show ((k : Int) + 2).toNat = k + 2 from by omega]; rw [hbz]⟩) hH ?_
        try simp only [Act.put, List.getElem_toArray, List.getElem_cons_zero, List.getElem_cons_succ, List.setIfInBounds_toArray, List.set_cons_zero, List.set_cons_succ]
        refine wpAnyH_ready (rs := [5]) (by kernel_rfl) (by simp) ?_
        refine AllReadyH.cons (o := _) rfl (fun K hK => ?_) AllReadyH.nil
        go_simp
        refine (digit_any _ _ (by omega) (by omega)).mono ?_
        rintro e w9 ⟨rfl, e9⟩
        rw [e9]
        clear e9
        refine hK.out _ _ trivial (fun h5 => ?_)
        clear hK K hH
        try simp only [Act.put, List.getElem_toArray, List.getElem_cons_zero, List.getElem_cons_succ, List.setIfInBounds_toArray, List.set_cons_zero, List.set_cons_succ]
        refine wpAnyH_take (i := 6) (oi := _) (v := .int .i64 (16 * digI (a.toNat : Int))) rfl (by kernel_rfl) (by kernel_rfl) (by kernel_rfl) (fun _ _ _ h => h) (Or.inl ⟨by rfl, fun w' hw' => by have hx := HW3.out; go_simp⟩) h5 ?_
        try simp only [Act.put, List.getElem_toArray, List.getElem_cons_zero, List.getElem_cons_succ, List.setIfInBounds_toArray, List.set_cons_zero, List.set_cons_succ]
        refine wpAnyH_ready (rs := [11]) (by kernel_rfl) (by simp) ?_
        refine AllReadyH.cons (o := _) rfl (fun K hK => ?_) AllReadyH.nil
        go_simp
        refine (digit_any _ _ (by omega) (by omega)).mono ?_
        rintro e w9 ⟨rfl, e9⟩
        rw [e9]
        clear e9
        refine hK.out _ _ trivial (fun h6 => ?_)
        clear hK K h5
        try simp only [Act.put, List.getElem_toArray, List.getElem_cons_zero, List.getElem_cons_succ, List.setIfInBounds_toArray, List.set_cons_zero, List.set_cons_succ]
        refine wpAnyH_take (i := 12) (oi := _) (v := .int .i64 (16 * digI (a.toNat : Int) + digI (b.toNat : Int))) rfl (by kernel_rfl) (by kernel_rfl) (by kernel_rfl) (fun _ _ _ h => h) (Or.inl ⟨by rfl, fun w' hw' => by have hx := HW4.out; go_simp⟩) h6 ?_
        try simp only [Act.put, List.getElem_toArray, List.getElem_cons_zero, List.getElem_cons_succ, List.setIfInBounds_toArray, List.set_cons_zero, List.set_cons_succ]
        refine wpAnyH_take (i := 13) (oi := _) (v := .int .u8 (16 * digI (a.toNat : Int) + digI (b.toNat : Int))) rfl (by kernel_rfl) (by kernel_rfl) (by kernel_rfl) (fun _ _ _ h => h) (Or.inl ⟨by rfl, fun w' hw' => by have hx := HW5.out.1; have hy := HW5.out.2; go_simp⟩) h6 ?_
        try simp only [Act.put, List.getElem_toArray, List.getElem_cons_zero, List.getElem_cons_succ, List.setIfInBounds_toArray, List.set_cons_zero, List.set_cons_succ]
        refine wpAnyH_ready (rs := [14]) (by kernel_rfl) (by simp) ?_
        refine AllReadyH.cons (o := _) rfl (fun K hK => ?_) AllReadyH.nil
        go_simp
        refine hK.out _ _ trivial (fun h7 => ?_)
        clear hK K h6
        try simp only [Act.put, List.getElem_toArray, List.getElem_cons_zero, List.getElem_cons_succ, List.setIfInBounds_toArray, List.set_cons_zero, List.set_cons_succ]
        refine wpAnyH_ready (rs := [15]) (by kernel_rfl) (by simp) ?_
        refine AllReadyH.cons (o := _) rfl (fun K hK => ?_) AllReadyH.nil
        rw [if_pos (by rfl)]
        have HA := hide (show TxI s.data.toList w k o (.slice va n vc) (World.drew (wr.alloc (.cells #[.int .u8 (16 * digI (a.toNat : Int) + digI (b.toNat : Int))] 5))) from (HW.out.alloc _).drewT)
        refine wp_append_own_atT (.tmp 56) (.tmp 70) 22 rfl w.heap.size 5 i0 (.int .u8 0) 1 1 Tryz.underlying22 hi hz0 hz1 hz2 rfl (by decide) _ n _ rfl (show (World.drew (wr.alloc (.cells #[.int .u8 (16 * digI (a.toNat : Int) + digI (b.toNat : Int))] 5))).ownsRow w.heap.size 5 1 (.slice va n vc) n (Lib.byteCells o) from by have h := HA.out.own; rw [← HN.out] at h; exact h) ⟨wr.heap.size, 0, none⟩ 1 1 [.int .u8 (16 * digI (a.toNat : Int) + digI (b.toNat : Int))] rfl rfl (one_cell wr _ _) (one_one _) (by unfold maxLen; omega) (by omega) HA.out.bel.size ?_
        intro v2 w2 o2 g2 p2
        have HV := hide (TxI.push HA.out HN.out (by rw [HEN.out]) HTX.out o2 g2)
        refine hK.out _ _ trivial (fun h8 => ?_)
        clear hK K h7 o2 g2 p2
        try simp only [Act.put, List.getElem_toArray, List.getElem_cons_zero, List.getElem_cons_succ, List.setIfInBounds_toArray, List.set_cons_zero, List.set_cons_succ]
        refine wpAnyH_take (i := 16) (oi := _) (v := v2) rfl (by kernel_rfl) (by kernel_rfl) (by kernel_rfl) (fun _ _ _ h => h) (Or.inl ⟨by rfl, fun w' hw' => by go_simp⟩) h8 ?_
        try simp only [Act.put, List.getElem_toArray, List.getElem_cons_zero, List.getElem_cons_succ, List.setIfInBounds_toArray, List.set_cons_zero, List.set_cons_succ]
        refine wpAnyH_done (by kernel_rfl) (NoPanic.normal ?_) _
        clear h8
        go_wp2
        go_roundw
        case rel => exact ⟨k + 3, _, by omega, by go_num, HV⟩
        case measure => simp [intOf]; omega
      · have b3 : ((c.toNat : Int) != 37) = true := by
          have : (c.toNat : Int) ≠ 37 := by omega
          simpa using this
        have HTX := hide (HW.out.tx.plain HC.out HBD.out h37)
        clear h37
        go_wp2_with (at_builtin; refine wpList_append_own _ rfl (.tmp 29) (.tmp 33) 22 rfl w.heap.size 5 i0 (.int .u8 0) 1 1 Tryz.underlying22 hi hz0 hz1 hz2 rfl (by decide) _ n _ rfl (own_below HO.out ((Below.refl _ _).alloc (Nat.le_refl _) _)) ⟨wr.heap.size, 0, none⟩ 1 1 [.int .u8 (c.toNat : Int)] rfl rfl (one_cell wr _ _) (one_one _) (by unfold maxLen; omega) (by omega) (by have := HB.out; simp; omega) ?_; intro v2 w2 o2 g2 p2; have HV := hide (TxI.push (HW.out.alloc _) HN.out rfl HTX.out o2 g2); clear o2 g2 p2)
        go_roundw
        case rel => exact ⟨k + 1, _, by omega, by go_num, HV⟩
        case measure => simp [intOf]; omega
    · have HF := hide (show textV s.data.toList = .tuple #[.string (mk o), .bool true] from textV_yes (by rw [HR.out]; exact HW.out.tx.done (by rw [HLL.out]; omega)))
      have hcv := back_bytes HO.out
      go_wp2
      go_ret2
      refine ⟨ret_val ?_, HW.out.bel⟩
      rw [HF.out]
      rfl
end Go.Proofs.YtnljpaohkkdjjaaGreatDoor
