/- The law on TellAns, walked. -/
import Derived.Test.YtnljpaohkkdjjaaDoorTaJ
namespace Go.Proofs.YtnljpaohkkdjjaaDoor
set_option linter.unusedVariables false
set_option linter.unusedSimpArgs false
open Go.RowKit

/-- The same, with the numbers hidden. -/
structure AnsC (C : Array Value) (W : World) (R : Array Value → World → Prop) (Q : Prop) (st : ByteArray) : Prop where
  at_ : R C W
  bel : ∀ C W W', R C W → Below W.heap.size W W' → R C W'
  siz : ∀ C W, R C W → C.size = 24
  one : ∀ C W, R C W → C.all (·.oneCell') = true
  sz : ∀ C W, R C W → Calls Tryd.prog 4 #[.agg C, .int .i64 1048576] W fun e w' => ∃ z, e = .returned (.int .i64 z) ∧ (¬ z < 0 → Q) ∧ Below W.heap.size W w'
  to_ : Q → ∀ C W, R C W → Calls Tryd.prog 6 #[.agg C] W fun e w' => ∃ C', e = .returned (.agg C') ∧ R C' w' ∧ Below W.heap.size W w'
  eq_ : Q → ∀ C C2 W, R C W → R C2 W → Calls Tryd.prog 8 #[.agg C, .agg C2] W fun e w' => e = .returned (.bool true) ∧ Below W.heap.size W w'
  sp : Q → ∀ C W, R C W → Calls Tryd.prog 5 #[.agg C] W fun e w' => e = .returned (.string st) ∧ Below W.heap.size W w'
  im : Q → ∀ C W, R C W → Lib.TabIs Tryd.prog W "internal/strconv.uint64pow10" .u64 Lib.pow10Tab → Calls Tryd.prog 7 #[.agg C] W fun e w' => e = .returned (.string st) ∧ Below W.heap.size W w'
theorem ansC_of (cd nn : Int) (zs : List UInt8) (s0 s1 s2 s3 s4 s5 s6 s7 s8 s9 : Int) (L : List EK) (q0 q1 q2 q3 q4 q5 q6 q7 q8 q9 : Int) (C : Array Value) (W : World) (h : AnsAt cd nn zs s0 s1 s2 s3 s4 s5 s6 s7 s8 s9 L q0 q1 q2 q3 q4 q5 q6 q7 q8 q9 C W) (hm : ∀ e ∈ L, e.1.size ≤ maxLen) (hl : L.length ≤ maxLen) (hI : AnsIn cd nn zs s0 s1 s2 s3 s4 s5 s6 s7 s8 s9 L q0 q1 q2 q3 q4 q5 q6 q7 q8 q9) : AnsC C W (AnsAt cd nn zs s0 s1 s2 s3 s4 s5 s6 s7 s8 s9 L q0 q1 q2 q3 q4 q5 q6 q7 q8 q9) (zs.length ≤ 1048576 ∧ L.length + sizK L ≤ 1048576) (mk (tellL cd nn zs [s0, s1, s2, s3, s4, s5, s6, s7, s8, s9] L [q0, q1, q2, q3, q4, q5, q6, q7, q8, q9])) :=
  ⟨h, fun _ _ _ h hb => h.below hb, fun _ _ h => h.size, fun _ _ h => h.one, fun C W h => szA_any cd nn zs s0 s1 s2 s3 s4 s5 s6 s7 s8 s9 L q0 q1 q2 q3 q4 q5 q6 q7 q8 q9 C W h hm hl, fun q C W h => toA_any cd nn zs s0 s1 s2 s3 s4 s5 s6 s7 s8 s9 L q0 q1 q2 q3 q4 q5 q6 q7 q8 q9 C W h q.1 (by omega), fun q C C2 W h h2 => eqA_any cd nn zs s0 s1 s2 s3 s4 s5 s6 s7 s8 s9 L q0 q1 q2 q3 q4 q5 q6 q7 q8 q9 C C2 W h h2 (by omega), fun q C W h => spA_any cd nn zs s0 s1 s2 s3 s4 s5 s6 s7 s8 s9 L q0 q1 q2 q3 q4 q5 q6 q7 q8 q9 C W h hI q.1 q.2, fun q C W h ht => imA_any cd nn zs s0 s1 s2 s3 s4 s5 s6 s7 s8 s9 L q0 q1 q2 q3 q4 q5 q6 q7 q8 q9 C W h hI q.1 q.2 ht⟩
set_option maxRecDepth 100000 in
set_option maxHeartbeats 8000000 in
theorem lawTA (C : Array Value) (w : World) (R : Array Value → World → Prop) (Q : Prop) (st : ByteArray) (h : AnsC C w R Q st)
    (htab : Lib.TabIs Tryd.prog w "internal/strconv.uint64pow10" .u64 Lib.pow10Tab) :
    Calls Tryd.prog 3 #[.agg C] w fun x w' => x = .returned (.bool true) ∧ Below w.heap.size w w' := by
  have HT := hide (Lib.tabBelow_of_tabIs htab)
  have HC := hide h
  have HS := hide (h.siz C w h.at_)
  clear htab h
  have B0 := hide (show Below w.heap.size w (w.alloc (.cells C 29)) from (Below.refl _ _).alloc (Nat.le_refl _) _)
  have K0 := hide (Blk.new w C 29)
  go_enter Tryd.func3, Tryd.ntmps3
  go_upto_region 2 with fail
  generalize w.alloc (.cells C 29) = W at B0 K0 ⊢
  go_wp2_with (first | (refine wpList_load_row rfl 29 _ rfl w.heap.size rfl 29 C (0, 0) _ K0.out Tryd.underlying29 rfl (by rw [HS.out]; exact infoLAns) ?_) | (go_at_call 4; fail))
  refine (HC.out.sz C _ (HC.out.bel _ _ _ HC.out.at_ B0.out)).mono ?_
  rintro e w0 ⟨z, rfl, hz, b0⟩
  have B00 := hide (B0.out.trans (b0.mono B0.out.size))
  have K00 := hide (K0.out.below b0 K0.out.lt)
  clear b0 B0 K0
  by_cases hzn : z < 0
  · clear hz
    go_wp2
    go_ret
    exact ⟨rfl, B00.out⟩
  have HZ := hide (hz hzn)
  clear hz
  go_wp2_with (first | (refine wpList_load_row rfl 29 _ rfl w.heap.size rfl 29 C (0, 0) _ K00.out Tryd.underlying29 rfl (by rw [HS.out]; exact infoLAns) ?_) | (go_at_call 6; fail))
  refine (HC.out.to_ HZ.out C _ (HC.out.bel _ _ _ HC.out.at_ B00.out)).mono ?_
  rintro x w1 ⟨C1, rfl, r1, b1⟩
  have B1 := hide (B00.out.trans (b1.mono B00.out.size))
  have K1 := hide (K00.out.below b1 K00.out.lt)
  have R1 := hide r1
  clear b1 K00 B00 r1
  go_wp2_with (go_at_call 5; fail)
  refine (HC.out.sp HZ.out C1 w1 R1.out).mono ?_
  rintro x w2 ⟨rfl, b2⟩
  have B2 := hide (B1.out.trans (b2.mono B1.out.size))
  have K2 := hide (K1.out.below b2 K1.out.lt)
  clear b2 K1 B1 R1
  go_wp2_with (first | (refine wpList_load_row rfl 29 _ rfl w.heap.size rfl 29 C (0, 0) _ K2.out Tryd.underlying29 rfl (by rw [HS.out]; exact infoLAns) ?_) | (go_at_call 6; fail))
  refine (HC.out.to_ HZ.out C _ (HC.out.bel _ _ _ HC.out.at_ B2.out)).mono ?_
  rintro x w4 ⟨C4, rfl, r4, b4⟩
  have hs4 := HC.out.siz C4 w4 r4
  have B4 := hide (B2.out.trans (b4.mono B2.out.size))
  have bA := (Below.refl w4.heap.size w4).alloc (Nat.le_refl _) (.cells #[.int .i64 0, .int .i64 0, .slice none 0 0, .int .i64 0, .int .i64 0, .int .i64 0, .int .i64 0, .int .i64 0, .int .i64 0, .int .i64 0, .int .i64 0, .int .i64 0, .int .i64 0, .slice none 0 0, .int .i64 0, .int .i64 0, .int .i64 0, .int .i64 0, .int .i64 0, .int .i64 0, .int .i64 0, .int .i64 0, .int .i64 0, .int .i64 0] 36)
  have bS := below_setRowT bA (Nat.le_refl _) C4
  have K4 := K2.out.below b4 K2.out.lt
  have W5 := hide (show Below w.heap.size w ((w4.alloc (.cells #[.int .i64 0, .int .i64 0, .slice none 0 0, .int .i64 0, .int .i64 0, .int .i64 0, .int .i64 0, .int .i64 0, .int .i64 0, .int .i64 0, .int .i64 0, .int .i64 0, .int .i64 0, .slice none 0 0, .int .i64 0, .int .i64 0, .int .i64 0, .int .i64 0, .int .i64 0, .int .i64 0, .int .i64 0, .int .i64 0, .int .i64 0, .int .i64 0] 36)).setRow w4.heap.size C4) ∧ Blk ((w4.alloc (.cells #[.int .i64 0, .int .i64 0, .slice none 0 0, .int .i64 0, .int .i64 0, .int .i64 0, .int .i64 0, .int .i64 0, .int .i64 0, .int .i64 0, .int .i64 0, .int .i64 0, .int .i64 0, .slice none 0 0, .int .i64 0, .int .i64 0, .int .i64 0, .int .i64 0, .int .i64 0, .int .i64 0, .int .i64 0, .int .i64 0, .int .i64 0, .int .i64 0] 36)).setRow w4.heap.size C4) w.heap.size C 29 ∧ Blk ((w4.alloc (.cells #[.int .i64 0, .int .i64 0, .slice none 0 0, .int .i64 0, .int .i64 0, .int .i64 0, .int .i64 0, .int .i64 0, .int .i64 0, .int .i64 0, .int .i64 0, .int .i64 0, .int .i64 0, .slice none 0 0, .int .i64 0, .int .i64 0, .int .i64 0, .int .i64 0, .int .i64 0, .int .i64 0, .int .i64 0, .int .i64 0, .int .i64 0, .int .i64 0] 36)).setRow w4.heap.size C4) w4.heap.size C4 36 ∧ R C4 ((w4.alloc (.cells #[.int .i64 0, .int .i64 0, .slice none 0 0, .int .i64 0, .int .i64 0, .int .i64 0, .int .i64 0, .int .i64 0, .int .i64 0, .int .i64 0, .int .i64 0, .int .i64 0, .int .i64 0, .slice none 0 0, .int .i64 0, .int .i64 0, .int .i64 0, .int .i64 0, .int .i64 0, .int .i64 0, .int .i64 0, .int .i64 0, .int .i64 0, .int .i64 0] 36)).setRow w4.heap.size C4) from
    ⟨B4.out.trans (bS.mono B4.out.size), K4.below bS K4.lt, boxA (Blk.new w4 #[.int .i64 0, .int .i64 0, .slice none 0 0, .int .i64 0, .int .i64 0, .int .i64 0, .int .i64 0, .int .i64 0, .int .i64 0, .int .i64 0, .int .i64 0, .int .i64 0, .int .i64 0, .slice none 0 0, .int .i64 0, .int .i64 0, .int .i64 0, .int .i64 0, .int .i64 0, .int .i64 0, .int .i64 0, .int .i64 0, .int .i64 0, .int .i64 0] 36) C4, HC.out.bel _ _ _ r4 bS⟩)
  have HS4 := hide hs4
  have HO4 := hide (HC.out.one C4 w4 r4)
  clear B4 K2 b4 bA bS B2 r4 K4 hs4
  go_upto_region 7 with (refine wpList_store_row rfl 36 _ _ rfl w4.heap.size C4 rfl rfl 36 #[.int .i64 0, .int .i64 0, .slice none 0 0, .int .i64 0, .int .i64 0, .int .i64 0, .int .i64 0, .int .i64 0, .int .i64 0, .int .i64 0, .int .i64 0, .int .i64 0, .int .i64 0, .slice none 0 0, .int .i64 0, .int .i64 0, .int .i64 0, .int .i64 0, .int .i64 0, .int .i64 0, .int .i64 0, .int .i64 0, .int .i64 0, .int .i64 0] (Blk.new w4 #[.int .i64 0, .int .i64 0, .slice none 0 0, .int .i64 0, .int .i64 0, .int .i64 0, .int .i64 0, .int .i64 0, .int .i64 0, .int .i64 0, .int .i64 0, .int .i64 0, .int .i64 0, .slice none 0 0, .int .i64 0, .int .i64 0, .int .i64 0, .int .i64 0, .int .i64 0, .int .i64 0, .int .i64 0, .int .i64 0, .int .i64 0, .int .i64 0] 36) (by rw [HS4.out]; exact infoAns) (by rw [HS4.out]; rfl) HO4.out ?_; generalize (w4.alloc (.cells #[.int .i64 0, .int .i64 0, .slice none 0 0, .int .i64 0, .int .i64 0, .int .i64 0, .int .i64 0, .int .i64 0, .int .i64 0, .int .i64 0, .int .i64 0, .int .i64 0, .int .i64 0, .slice none 0 0, .int .i64 0, .int .i64 0, .int .i64 0, .int .i64 0, .int .i64 0, .int .i64 0, .int .i64 0, .int .i64 0, .int .i64 0, .int .i64 0] 36)).setRow w4.heap.size C4 = w5 at W5 ⊢)
  generalize hb4 : w4.heap.size = g4 at W5 ⊢
  clear hb4
  go_wp2_with (first | (refine wpList_load_row rfl 36 _ rfl g4 rfl 36 C4 (0, 0) _ W5.out.2.2.1 Tryd.underlying36 rfl (by rw [HS4.out]; exact infoAns) ?_) | (go_at_call 7; fail))
  refine (HC.out.im HZ.out C4 w5 W5.out.2.2.2 (HT.out w5 W5.out.1)).mono ?_
  rintro x w6 ⟨rfl, b6⟩
  have B6 := hide (W5.out.1.trans (b6.mono W5.out.1.size))
  have K6 := hide (W5.out.2.1.below b6 W5.out.2.1.lt)
  have J6 := hide (W5.out.2.2.1.below b6 W5.out.2.2.1.lt)
  have X6 := hide (HC.out.bel _ _ _ W5.out.2.2.2 b6)
  have hne : (st.toList != st.toList) = false := by simp
  clear b6 W5
  go_wp2_with fail
  refine wp_region_noPanic ?_
  refine wp_region_held_drew (S := fun w' => Below w6.heap.size w6 w') (by kernel_rfl) ((Below.refl _ _).drew) (fun hH => ?_)
  refine wpAnyH_take (i := 0) (oi := _) (v := .agg C4) rfl (by kernel_rfl) (by kernel_rfl) (by kernel_rfl) (fun _ _ _ h => h) (yieldsIf_load_mid (by rfl) 36 _ rfl g4 0 rfl C4.toList _ (fun w' h => ansAll (J6.out.below h J6.out.lt)) Tryd.underlying36 rfl (by rw [Array.length_toList, HS4.out]; exact infoAns)) hH ?_
  try simp only [Act.put, List.getElem_toArray, List.getElem_cons_zero, List.getElem_cons_succ, List.setIfInBounds_toArray, List.set_cons_zero, List.set_cons_succ]
  refine wpAnyH_take (i := 1) (oi := _) (v := .agg C) rfl (by kernel_rfl) (by kernel_rfl) (by kernel_rfl) (fun _ _ _ h => h) (yieldsIf_load_mid (by rfl) 29 _ rfl w.heap.size 0 rfl C.toList _ (fun w' h => ansAll (K6.out.below h K6.out.lt)) Tryd.underlying29 rfl (by rw [Array.length_toList, HS.out]; exact infoLAns)) hH ?_
  try simp only [Act.put, List.getElem_toArray, List.getElem_cons_zero, List.getElem_cons_succ, List.setIfInBounds_toArray, List.set_cons_zero, List.set_cons_succ]
  refine wpAnyH_ready (rs := [2]) (by kernel_rfl) (by simp) ?_
  refine AllReadyH.cons (o := _) rfl (fun K hK => ?_) AllReadyH.nil
  go_simp
  refine (HC.out.to_ HZ.out C _ (HC.out.bel _ _ _ HC.out.at_ (B6.out.trans (hH.mono B6.out.size)))).mono ?_
  rintro x w8 ⟨C8, rfl, r8, b8⟩
  have H8 := hide (hH.trans (b8.mono hH.size))
  have R8 := hide r8
  refine hK.out _ _ H8.out (fun h8 => ?_)
  clear hK K b8 r8 hH
  try simp only [Act.put, List.getElem_toArray, List.getElem_cons_zero, List.getElem_cons_succ, List.setIfInBounds_toArray, List.set_cons_zero, List.set_cons_succ]
  refine wpAnyH_ready (rs := [3]) (by kernel_rfl) (by simp) ?_
  refine AllReadyH.cons (o := _) rfl (fun K hK => ?_) AllReadyH.nil
  go_simp
  refine (HC.out.eq_ HZ.out C4 C8 _ (HC.out.bel _ _ _ X6.out H8.out) R8.out).mono ?_
  rintro x w9 ⟨rfl, b9⟩
  refine hK.out _ _ (h8.trans (b9.mono h8.size)) (fun h9 => ?_)
  clear hK K b9 h8
  try simp only [Act.put, List.getElem_toArray, List.getElem_cons_zero, List.getElem_cons_succ, List.setIfInBounds_toArray, List.set_cons_zero, List.set_cons_succ]
  refine wpAnyH_take (i := 4) (oi := _) (v := .bool false) rfl (by kernel_rfl) (by kernel_rfl) (by kernel_rfl) (fun _ _ _ h => h) (Or.inl ⟨by rfl, fun w' hw' => by go_simp⟩) h9 ?_
  try simp only [Act.put, List.getElem_toArray, List.getElem_cons_zero, List.getElem_cons_succ, List.setIfInBounds_toArray, List.set_cons_zero, List.set_cons_succ]
  refine wpAnyH_done (by kernel_rfl) (NoPanic.normal ?_) _
  have B9 := hide (B6.out.trans (h9.mono B6.out.size))
  clear h9
  go_wp2
  go_ret
  exact ⟨rfl, B9.out⟩
end Go.Proofs.YtnljpaohkkdjjaaDoor
