/- The program's look at a root record: fsinfoFault. -/
import Derived.Test.YtkbbnflblkkepaaGreatDoorZm27
namespace Go.Proofs.YtkbbnflblkkepaaGreatDoor
set_option linter.unusedVariables false
set_option linter.unusedSimpArgs false
open Go.RowKit

/-- A root record as sixty-eight integers. -/
def fsI (gen bl cu ck op ev lg s1 : Int) (ds1 : List Int) (p1 q1 s2 : Int) (ds2 : List Int) (p2 q2 : Int) (sn : List Int) : List Int := [gen, bl, cu, ck, op, ev, lg] ++ (rootI s1 ds1 p1 q1 ++ (rootI s2 ds2 p2 q2 ++ sn))
theorem fsI_len (gen bl cu ck op ev lg s1 : Int) (ds1 : List Int) (p1 q1 s2 : Int) (ds2 : List Int) (p2 q2 : Int) (sn : List Int) (h1 : ds1.length = 12) (h2 : ds2.length = 12) (h3 : sn.length = 31) : (fsI gen bl cu ck op ev lg s1 ds1 p1 q1 s2 ds2 p2 q2 sn).length = 68 := by
  simp [fsI, rootI_len _ _ _ _ h1, rootI_len _ _ _ _ h2, h3]
theorem info68 : (Tryz.prog.info? 37).map (·.size) = some 68 := by kernel_rfl
theorem info31 : (Tryz.prog.info? 35).map (·.size) = some 31 := by kernel_rfl
theorem fs_cut1 (gen bl cu ck op ev lg s1 : Int) (ds1 : List Int) (p1 q1 s2 : Int) (ds2 : List Int) (p2 q2 : Int) (sn : List Int) (h1 : ds1.length = 12) : ((fsI gen bl cu ck op ev lg s1 ds1 p1 q1 s2 ds2 p2 q2 sn).drop 7).take 15 = rootI s1 ds1 p1 q1 := by
  have h := rootI_len s1 ds1 p1 q1 h1
  unfold fsI
  rw [List.drop_append_of_le_length (by simp)]
  simp only [List.drop_succ_cons, List.drop_zero, List.nil_append]
  rw [List.take_append_of_le_length (by omega), List.take_of_length_le (by omega)]
theorem fs_cut2 (gen bl cu ck op ev lg s1 : Int) (ds1 : List Int) (p1 q1 s2 : Int) (ds2 : List Int) (p2 q2 : Int) (sn : List Int) (h1 : ds1.length = 12) (h2 : ds2.length = 12) : ((fsI gen bl cu ck op ev lg s1 ds1 p1 q1 s2 ds2 p2 q2 sn).drop 22).take 15 = rootI s2 ds2 p2 q2 := by
  have h := rootI_len s1 ds1 p1 q1 h1
  have h' := rootI_len s2 ds2 p2 q2 h2
  unfold fsI
  rw [List.drop_append, List.drop_of_length_le (by simp), List.nil_append, List.drop_append, List.drop_of_length_le (by simp; omega), List.nil_append]
  simp only [List.length_cons, List.length_nil, h]
  rw [List.drop_zero, List.take_append_of_le_length (by omega), List.take_of_length_le (by omega)]
theorem fs_cut3 (gen bl cu ck op ev lg s1 : Int) (ds1 : List Int) (p1 q1 s2 : Int) (ds2 : List Int) (p2 q2 : Int) (sn : List Int) (h1 : ds1.length = 12) (h2 : ds2.length = 12) (h3 : sn.length = 31) : ((fsI gen bl cu ck op ev lg s1 ds1 p1 q1 s2 ds2 p2 q2 sn).drop 37).take 31 = sn := by
  have h := rootI_len s1 ds1 p1 q1 h1
  have h' := rootI_len s2 ds2 p2 q2 h2
  unfold fsI
  rw [List.drop_append, List.drop_of_length_le (by simp), List.nil_append, List.drop_append, List.drop_of_length_le (by simp; omega), List.nil_append, List.drop_append, List.drop_of_length_le (by simp; omega), List.nil_append]
  simp only [List.length_cons, List.length_nil, h, h']
  rw [List.drop_zero, List.take_of_length_le (by omega)]
theorem fs_map0 (gen bl cu ck op ev lg s1 : Int) (ds1 : List Int) (p1 q1 s2 : Int) (ds2 : List Int) (p2 q2 : Int) (sn : List Int) (h1 : ds1.length = 12) : (cellsI (fsI gen bl cu ck op ev lg s1 ds1 p1 q1 s2 ds2 p2 q2 sn))[22]? = some (.int .i64 s2) := by
  have h := rootI_len s1 ds1 p1 q1 h1
  unfold fsI cellsI
  rw [List.getElem?_toArray, List.getElem?_map, List.getElem?_append_right (by simp), List.getElem?_append_right (by simp; omega)]
  simp [h, h1, rootI]
theorem fs_range1 (gen bl cu ck op ev lg s1 : Int) (ds1 : List Int) (p1 q1 s2 : Int) (ds2 : List Int) (p2 q2 : Int) (sn : List Int) (h1 : ds1.length = 12) {w : World} {b : Nat} {t : TypeId} (h : Blk w b (cellsI (fsI gen bl cu ck op ev lg s1 ds1 p1 q1 s2 ds2 p2 q2 sn)) t) : w.rangeAt b 7 ((rootI s1 ds1 p1 q1).map (Value.int .i64)) := by
  have hl := rootI_len s1 ds1 p1 q1 h1
  have hr := h.range 7 15 (by simp [fsI, hl])
  rw [fs_cut1 _ _ _ _ _ _ _ _ _ _ _ _ _ _ _ _ h1] at hr
  exact hr
theorem fs_range2 (gen bl cu ck op ev lg s1 : Int) (ds1 : List Int) (p1 q1 s2 : Int) (ds2 : List Int) (p2 q2 : Int) (sn : List Int) (h1 : ds1.length = 12) (h2 : ds2.length = 12) {w : World} {b : Nat} {t : TypeId} (h : Blk w b (cellsI (fsI gen bl cu ck op ev lg s1 ds1 p1 q1 s2 ds2 p2 q2 sn)) t) : w.rangeAt b 22 ((rootI s2 ds2 p2 q2).map (Value.int .i64)) := by
  have hl := rootI_len s1 ds1 p1 q1 h1
  have hl' := rootI_len s2 ds2 p2 q2 h2
  have hr := h.range 22 15 (by simp [fsI, hl, hl']; omega)
  rw [fs_cut2 _ _ _ _ _ _ _ _ _ _ _ _ _ _ _ _ h1 h2] at hr
  exact hr
theorem fs_range3 (gen bl cu ck op ev lg s1 : Int) (ds1 : List Int) (p1 q1 s2 : Int) (ds2 : List Int) (p2 q2 : Int) (sn : List Int) (h1 : ds1.length = 12) (h2 : ds2.length = 12) (h3 : sn.length = 31) {w : World} {b : Nat} {t : TypeId} (h : Blk w b (cellsI (fsI gen bl cu ck op ev lg s1 ds1 p1 q1 s2 ds2 p2 q2 sn)) t) : w.rangeAt b 37 (sn.map (Value.int .i64)) := by
  have hr := h.range 37 31 (by rw [fsI_len _ _ _ _ _ _ _ _ _ _ _ _ _ _ _ _ h1 h2 h3]; omega)
  rw [fs_cut3 _ _ _ _ _ _ _ _ _ _ _ _ _ _ _ _ h1 h2 h3] at hr
  exact hr
theorem index31 (sn : List Int) (k : Nat) (hd : sn.length = 31) (hk : k < 31) (w : World) : (Instr.index 35 (.agg (sn.map (Value.int .i64)).toArray) (.int .i64 k)).run Tryz.prog w = .ok (.int .i64 (sn.getD k 0)) w := by
  have hg : k < sn.length := by omega
  simp [Instr.index, run_underlying Tryz.underlying35, asIntOf, go_sem, hg]
  intro h
  omega
def logB (lg : Int) : Bool := decide (lg = 0) || (decide (8192 ≤ lg) && decide (lg ≤ 65536))
theorem isLog_any (lg : Int) (w : World) : Calls Tryz.prog 71 #[.int .i64 lg] w fun e w' => e = .returned (.bool (logB lg)) ∧ w = w' := by
  by_cases h0 : lg = 0
  · subst h0
    go_enter Tryz.func71, Tryz.ntmps71
    go_wp2
    go_ret
    exact ⟨rfl, rfl⟩
  · have hq : (lg == 0) = false := by simp [h0]
    by_cases h1 : 8192 ≤ lg
    · have HLB := hide (show logB lg = decide (lg ≤ 65536) from by unfold logB; simp [h0, h1])
      clear h0
      go_enter Tryz.func71, Tryz.ntmps71
      go_wp2
      go_ret
      exact ⟨ret_bool (by rw [HLB.out]), rfl⟩
    · have HLB := hide (show logB lg = false from by unfold logB; simp [h0, h1])
      have hq2 : decide (8192 ≤ lg) = false := by simp; omega
      clear h0
      go_enter Tryz.func71, Tryz.ntmps71
      go_wp2
      go_ret
      exact ⟨ret_bool (by first | rfl | rw [HLB.out]), rfl⟩
def mapB (s bl : Int) : Bool := decide (s = 4 * bl)
theorem map_true (s bl : Int) (hs : 0 ≤ s) (hm : (s % 4 == 0) = true) (_ : 0 ≤ s) (h : s ≤ 262144) : (wrap64 (s.tdiv 4) == bl) = mapB s bl := by
  have hm' : s % 4 = 0 := by simpa using hm
  rw [Int.tdiv_eq_ediv_of_nonneg hs, show wrap64 (s / 4) = s / 4 from by unfold wrap64; omega, mapB, Bool.eq_iff_iff]
  simp
  omega
theorem map_false (s bl : Int) (hm : (s % 4 == 0) = false) (_ : 0 ≤ s) (h : s ≤ 262144) : false = mapB s bl := by
  have hm' : s % 4 ≠ 0 := by simpa using hm
  symm
  rw [mapB, decide_eq_false_iff_not]
  omega
theorem map_ok (R P X : Bool) (s : Int) (ds : List Int) (p q bl : Int) (h : 0 ≤ s → s ≤ 262144 → X = mapB s bl) : (R && rightR s ds p q && P && X) = (R && rightR s ds p q && P && mapB s bl) := by
  by_cases h0 : 0 ≤ s
  · by_cases h1 : s ≤ 262144
    · rw [h h0 h1]
    · have hr : rightR s ds p q = false := by simp [rightR, h1]
      simp [hr]
  · have hr : rightR s ds p q = false := by simp [rightR, h0]
    simp [hr]
def snB (sn : List Int) (bl : Int) : Bool := sn.all fun x => ptrB x bl
/-- A right root record, as the program looks at it. -/
def rightF (gen bl cu ck op ev lg s1 : Int) (ds1 : List Int) (p1 q1 s2 : Int) (ds2 : List Int) (p2 q2 : Int) (sn : List Int) : Bool := wi gen 1 1099511627776 && wi ck 1 1099511627776 && wi op 0 1099511627776 && wi bl 64 2048 && (decide (2 ≤ cu) && decide (cu < bl)) && wi ev 0 1000 && logB lg && (rightR s1 ds1 p1 q1 && tabB s1) && ptrsB ds1 p1 q1 bl && rightR s2 ds2 p2 q2 && ptrsB ds2 p2 q2 bl && mapB s2 bl && snB sn bl

set_option maxRecDepth 100000 in
set_option maxHeartbeats 2000000 in
theorem fsFault_any (gen bl cu ck op ev lg s1 : Int) (ds1 : List Int) (p1 q1 s2 : Int) (ds2 : List Int) (p2 q2 : Int) (sn : List Int) (code : Int) (w : World) (hd1 : ds1.length = 12) (hd2 : ds2.length = 12) (hsn : sn.length = 31) :
    Calls Tryz.prog 40 #[.agg (cellsI (fsI gen bl cu ck op ev lg s1 ds1 p1 q1 s2 ds2 p2 q2 sn)), .int .i64 code] w fun e w' => ∃ ev', e = .returned ev' ∧ FaultIs w' w.heap.size (rightF gen bl cu ck op ev lg s1 ds1 p1 q1 s2 ds2 p2 q2 sn) ev' code ∧ Below w.heap.size w w' := by
  have HD := hide (And.intro hd1 (And.intro hd2 hsn))
  have HL := hide (fsI_len gen bl cu ck op ev lg s1 ds1 p1 q1 s2 ds2 p2 q2 sn hd1 hd2 hsn)
  have HLen1 := hide (show (cellsI (rootI s1 ds1 p1 q1)).size = 15 from by rw [cellsI_size]; exact rootI_len _ _ _ _ HD.out.1)
  have HLen2 := hide (show (cellsI (rootI s2 ds2 p2 q2)).size = 15 from by rw [cellsI_size]; exact rootI_len _ _ _ _ HD.out.2.1)
  have kB := (Blk.new w (cellsI (fsI gen bl cu ck op ev lg s1 ds1 p1 q1 s2 ds2 p2 q2 sn)) 37).alloc (.cells #[.int .i64 code, .nilIface] 99)
  have kC := Ck.fresh (w.alloc (.cells (cellsI (fsI gen bl cu ck op ev lg s1 ds1 p1 q1 s2 ds2 p2 q2 sn)) 37)) code 99
  rw [World.size_alloc] at kC
  have hb0 : Below w.heap.size w ((w.alloc (.cells (cellsI (fsI gen bl cu ck op ev lg s1 ds1 p1 q1 s2 ds2 p2 q2 sn)) 37)).alloc (.cells #[.int .i64 code, .nilIface] 99)) := ((Below.refl _ _).alloc (Nat.le_refl _) _).alloc (by simp) _
  have H0 := hide (show Kp w ((w.alloc (.cells (cellsI (fsI gen bl cu ck op ev lg s1 ds1 p1 q1 s2 ds2 p2 q2 sn)) 37)).alloc (.cells #[.int .i64 code, .nilIface] 99)) (cellsI (fsI gen bl cu ck op ev lg s1 ds1 p1 q1 s2 ds2 p2 q2 sn)) 37 code (true) from ⟨kB, kC, hb0⟩)
  have c0 : ((w.alloc (.cells (cellsI (fsI gen bl cu ck op ev lg s1 ds1 p1 q1 s2 ds2 p2 q2 sn)) 37)).alloc (.cells #[.int .i64 code, .nilIface] 99)).cell? ⟨w.heap.size, 0, none⟩ = some (.int .i64 gen) := (kB.cell 0).trans rfl
  have HF := hide (show rightF gen bl cu ck op ev lg s1 ds1 p1 q1 s2 ds2 p2 q2 sn = (wi gen 1 1099511627776 && wi ck 1 1099511627776 && wi op 0 1099511627776 && wi bl 64 2048 && (decide (2 ≤ cu) && decide (cu < bl)) && wi ev 0 1000 && logB lg && (rightR s1 ds1 p1 q1 && tabB s1) && ptrsB ds1 p1 q1 bl && rightR s2 ds2 p2 q2 && ptrsB ds2 p2 q2 bl && mapB s2 bl && snB sn bl) from rfl)
  have HX := hide (fun k hk w => index31 sn k HD.out.2.2 hk w)
  clear hd1 hd2 hsn kB kC hb0
  go_enter Tryz.func40, Tryz.ntmps40
  go_wp2_with (go_at_call 69; fail)
  refine (within_any (w.heap.size + 1) (w.heap.size + 1 + 1) _ code gen 1 1099511627776 _ _ H0.out.ck (by omega) H0.out.lo).mono ?_
  rintro e w1 ⟨rfl, hc, ht⟩
  rw [Bool.true_and] at hc
  have H1 := hide (H0.out.tch hc ht)
  clear hc ht H0 c0
  have c := (H1.out.blk.cell 3).trans (show (cellsI (fsI gen bl cu ck op ev lg s1 ds1 p1 q1 s2 ds2 p2 q2 sn))[3]? = some (.int .i64 ck) from rfl)
  go_wp2_with (go_at_call 69; fail)
  refine (within_any (w.heap.size + 1) (w.heap.size + 1 + 1) _ code ck 1 1099511627776 _ _ H1.out.ck (by omega) H1.out.lo).mono ?_
  rintro e w2 ⟨rfl, hc, ht⟩
  have H2 := hide (H1.out.tch hc ht)
  clear hc ht H1 c
  have c := (H2.out.blk.cell 4).trans (show (cellsI (fsI gen bl cu ck op ev lg s1 ds1 p1 q1 s2 ds2 p2 q2 sn))[4]? = some (.int .i64 op) from rfl)
  go_wp2_with (go_at_call 69; fail)
  refine (within_any (w.heap.size + 1) (w.heap.size + 1 + 1) _ code op 0 1099511627776 _ _ H2.out.ck (by omega) H2.out.lo).mono ?_
  rintro e w3 ⟨rfl, hc, ht⟩
  have H3 := hide (H2.out.tch hc ht)
  clear hc ht H2 c
  have c := (H3.out.blk.cell 1).trans (show (cellsI (fsI gen bl cu ck op ev lg s1 ds1 p1 q1 s2 ds2 p2 q2 sn))[1]? = some (.int .i64 bl) from rfl)
  go_wp2_with (go_at_call 69; fail)
  refine (within_any (w.heap.size + 1) (w.heap.size + 1 + 1) _ code bl 64 2048 _ _ H3.out.ck (by omega) H3.out.lo).mono ?_
  rintro e w4 ⟨rfl, hc, ht⟩
  have H4 := hide (H3.out.tch hc ht)
  clear hc ht H3 c
  have c := (H4.out.blk.cell 2).trans (show (cellsI (fsI gen bl cu ck op ev lg s1 ds1 p1 q1 s2 ds2 p2 q2 sn))[2]? = some (.int .i64 cu) from rfl)
  have d := (H4.out.blk.cell 1).trans (show (cellsI (fsI gen bl cu ck op ev lg s1 ds1 p1 q1 s2 ds2 p2 q2 sn))[1]? = some (.int .i64 bl) from rfl)
  go_wp2_with (first | (go_at_call 70; refine (isBlock_any cu bl _).mono ?_; rintro e wi' ⟨rfl, hwi⟩; rw [← hwi]; clear hwi wi') | (go_at_call 50; fail))
  refine (need_any (w.heap.size + 1) (w.heap.size + 1 + 1) _ code _ (decide (2 ≤ cu) && decide (cu < bl)) _ H4.out.ck (by omega) H4.out.lo).mono ?_
  rintro e w5 ⟨rfl, hc, ht⟩
  have H5 := hide (H4.out.tch hc ht)
  clear hc ht H4 c d
  have c := (H5.out.blk.cell 5).trans (show (cellsI (fsI gen bl cu ck op ev lg s1 ds1 p1 q1 s2 ds2 p2 q2 sn))[5]? = some (.int .i64 ev) from rfl)
  go_wp2_with (go_at_call 69; fail)
  refine (within_any (w.heap.size + 1) (w.heap.size + 1 + 1) _ code ev 0 1000 _ _ H5.out.ck (by omega) H5.out.lo).mono ?_
  rintro e w6 ⟨rfl, hc, ht⟩
  have H6 := hide (H5.out.tch hc ht)
  clear hc ht H5 c
  have c := (H6.out.blk.cell 6).trans (show (cellsI (fsI gen bl cu ck op ev lg s1 ds1 p1 q1 s2 ds2 p2 q2 sn))[6]? = some (.int .i64 lg) from rfl)
  go_wp2_with (first | (go_at_call 71; refine (isLog_any lg _).mono ?_; rintro e wi' ⟨rfl, hwi⟩; rw [← hwi]; clear hwi wi') | (go_at_call 50; fail))
  refine (need_any (w.heap.size + 1) (w.heap.size + 1 + 1) _ code _ (logB lg) _ H6.out.ck (by omega) H6.out.lo).mono ?_
  rintro e w7 ⟨rfl, hc, ht⟩
  have H7 := hide (H6.out.tch hc ht)
  clear hc ht H6 c
  have HR := hide (fs_range1 gen bl cu ck op ev lg s1 ds1 p1 q1 s2 ds2 p2 q2 sn HD.out.1 H7.out.blk)
  go_wp2_with (first | (refine wpList_load_mid rfl 34 _ rfl w.heap.size 7 rfl ((rootI s1 ds1 p1 q1).map (Value.int .i64)) _ HR.out Tryz.underlying34 rfl (by rw [List.length_map, ← cellsI_size, HLen1.out]; exact info15) ?_) | (go_at_call 72; fail))
  refine (tableFault_any s1 ds1 p1 q1 code _ HD.out.1).mono ?_
  rintro e w8 ⟨ev8, rfl, hf8, hb8⟩
  have H8 := hide (And.intro (H7.out.below hb8) (And.intro hf8 (And.intro H7.out.lo hb8.size)))
  clear hf8 hb8 HR
  go_wp2_with fail
  refine (inside_fault w w7 w8 _ _ code _ _ _ ev8 H8.out.1 H8.out.2.2.1 H8.out.2.2.2 H8.out.2.1).mono ?_
  rintro e w9 ⟨rfl, hk9⟩
  have H9 := hide hk9
  clear hk9 H8 H7
  have HR := hide (fs_range1 gen bl cu ck op ev lg s1 ds1 p1 q1 s2 ds2 p2 q2 sn HD.out.1 H9.out.blk)
  have d := (H9.out.blk.cell 1).trans (show (cellsI (fsI gen bl cu ck op ev lg s1 ds1 p1 q1 s2 ds2 p2 q2 sn))[1]? = some (.int .i64 bl) from rfl)
  go_wp2_with (first | (refine wpList_load_mid rfl 34 _ rfl w.heap.size 7 rfl ((rootI s1 ds1 p1 q1).map (Value.int .i64)) _ HR.out Tryz.underlying34 rfl (by rw [List.length_map, ← cellsI_size, HLen1.out]; exact info15) ?_) | (go_at_call 73; fail))
  refine (pointersFault_any s1 ds1 p1 q1 bl code _ HD.out.1).mono ?_
  rintro e w10 ⟨ev10, rfl, hf8, hb8⟩
  have H10 := hide (And.intro (H9.out.below hb8) (And.intro hf8 (And.intro H9.out.lo hb8.size)))
  clear hf8 hb8 HR d
  go_wp2_with fail
  refine (inside_fault w w9 w10 _ _ code _ _ _ ev10 H10.out.1 H10.out.2.2.1 H10.out.2.2.2 H10.out.2.1).mono ?_
  rintro e w11 ⟨rfl, hk11⟩
  have H11 := hide hk11
  clear hk11 H10 H9
  have HR := hide (fs_range2 gen bl cu ck op ev lg s1 ds1 p1 q1 s2 ds2 p2 q2 sn HD.out.1 HD.out.2.1 H11.out.blk)
  go_wp2_with (first | (refine wpList_load_mid rfl 34 _ rfl w.heap.size 22 rfl ((rootI s2 ds2 p2 q2).map (Value.int .i64)) _ HR.out Tryz.underlying34 rfl (by rw [List.length_map, ← cellsI_size, HLen2.out]; exact info15) ?_) | (go_at_call 74; fail))
  refine (rootFault_any s2 ds2 p2 q2 code _ HD.out.2.1).mono ?_
  rintro e w12 ⟨ev12, rfl, hf8, hb8⟩
  have H12 := hide (And.intro (H11.out.below hb8) (And.intro hf8 (And.intro H11.out.lo hb8.size)))
  clear hf8 hb8 HR
  go_wp2_with fail
  refine (inside_fault w w11 w12 _ _ code _ _ _ ev12 H12.out.1 H12.out.2.2.1 H12.out.2.2.2 H12.out.2.1).mono ?_
  rintro e w13 ⟨rfl, hk13⟩
  have H13 := hide hk13
  clear hk13 H12 H11
  have HR := hide (fs_range2 gen bl cu ck op ev lg s1 ds1 p1 q1 s2 ds2 p2 q2 sn HD.out.1 HD.out.2.1 H13.out.blk)
  have d := (H13.out.blk.cell 1).trans (show (cellsI (fsI gen bl cu ck op ev lg s1 ds1 p1 q1 s2 ds2 p2 q2 sn))[1]? = some (.int .i64 bl) from rfl)
  go_wp2_with (first | (refine wpList_load_mid rfl 34 _ rfl w.heap.size 22 rfl ((rootI s2 ds2 p2 q2).map (Value.int .i64)) _ HR.out Tryz.underlying34 rfl (by rw [List.length_map, ← cellsI_size, HLen2.out]; exact info15) ?_) | (go_at_call 73; fail))
  refine (pointersFault_any s2 ds2 p2 q2 bl code _ HD.out.2.1).mono ?_
  rintro e w14 ⟨ev14, rfl, hf8, hb8⟩
  have H14 := hide (And.intro (H13.out.below hb8) (And.intro hf8 (And.intro H13.out.lo hb8.size)))
  clear hf8 hb8 HR d
  go_wp2_with fail
  refine (inside_fault w w13 w14 _ _ code _ _ _ ev14 H14.out.1 H14.out.2.2.1 H14.out.2.2.2 H14.out.2.1).mono ?_
  rintro e w15 ⟨rfl, hk15⟩
  have H15 := hide hk15
  clear hk15 H14 H13
  have c := (H15.out.blk.cell 22).trans (fs_map0 gen bl cu ck op ev lg s1 ds1 p1 q1 s2 ds2 p2 q2 sn HD.out.1)
  have d := (H15.out.blk.cell 1).trans (show (cellsI (fsI gen bl cu ck op ev lg s1 ds1 p1 q1 s2 ds2 p2 q2 sn))[1]? = some (.int .i64 bl) from rfl)
  by_cases hs : 0 ≤ s2
  · cases hm : (s2 % 4 == 0) with
    | true =>
      go_wp2_with (go_at_call 50; fail)
      refine (need_any (w.heap.size + 1) (w.heap.size + 1 + 1) _ code _ _ _ H15.out.ck (by omega) H15.out.lo).mono ?_
      rintro e w16 ⟨rfl, hc, ht⟩
      rw [map_ok _ _ _ s2 ds2 p2 q2 bl (map_true s2 bl hs hm)] at hc
      obtain ⟨b, hkp, hbe⟩ : ∃ b, Kp w w16 (cellsI (fsI gen bl cu ck op ev lg s1 ds1 p1 q1 s2 ds2 p2 q2 sn)) 37 code b ∧ (b && snB sn bl) = rightF gen bl cu ck op ev lg s1 ds1 p1 q1 s2 ds2 p2 q2 sn := ⟨_, H15.out.tch hc ht, HF.out.symm⟩
      have H16 := hide hkp
      have HBE := hide hbe
      clear hc ht H15 c d hkp hbe HF
      have HR := hide (fs_range3 gen bl cu ck op ev lg s1 ds1 p1 q1 s2 ds2 p2 q2 sn HD.out.1 HD.out.2.1 HD.out.2.2 H16.out.blk)
      go_wp2_with (refine wpList_load_mid rfl 35 _ rfl w.heap.size 37 rfl (sn.map (Value.int .i64)) _ HR.out Tryz.underlying35 rfl (by rw [List.length_map, HD.out.2.2]; exact info31) ?_)
      go_loopw [76] (fun i wr => ∃ k : Nat, k ≤ 31 ∧ i = .int .i64 k ∧ Kp w wr (cellsI (fsI gen bl cu ck op ev lg s1 ds1 p1 q1 s2 ds2 p2 q2 sn)) 37 code (b && (sn.take k).all fun x => ptrB x bl)) (fun i _ => 31 - (intOf i).toNat)
      case atStart => exact ⟨0, by omega, rfl, by have h := H16.out; simpa using h⟩
      case round =>
        obtain ⟨k, hk, rfl, hkp⟩ := hrel
        have HK := hide hkp
        clear hkp H16 HR
        by_cases hlt : k < 31
        · have hix : ∀ w, (Instr.index 35 (.agg (sn.map (Value.int .i64)).toArray) (.int .i64 k)).run Tryz.prog w = .ok (.int .i64 (sn.getD k 0)) w := fun w => HX.out k hlt w
          have HT := hide (all_take' (fun x => ptrB x bl) sn k (by rw [HD.out.2.2]; exact hlt))
          have d := (HK.out.blk.cell 1).trans (show (cellsI (fsI gen bl cu ck op ev lg s1 ds1 p1 q1 s2 ds2 p2 q2 sn))[1]? = some (.int .i64 bl) from rfl)
          generalize sn.getD k 0 = z at hix HT
          go_wp2_with (first | (go_at_call 75; refine (isPointer_any z bl _).mono ?_; rintro e w17 ⟨rfl, rfl⟩) | (go_at_call 50; refine (need_any (w.heap.size + 1) (w.heap.size + 1 + 1) _ code _ (ptrB z bl) _ HK.out.ck (by omega) HK.out.lo).mono ?_; rintro e w17 ⟨rfl, hc1, ht1⟩))
          have H1 := hide (HK.out.tch hc1 ht1)
          clear hc1 ht1
          go_roundw
          case rel => exact ⟨k + 1, by omega, by go_num, by rw [HT.out, ← Bool.and_assoc]; exact H1.out⟩
          case measure => simp [intOf]; omega
        · have e31 : k = 31 := by omega
          subst e31
          rw [List.take_of_length_le (by rw [HD.out.2.2]; omega)] at HK
          obtain ⟨ev', c7, hf7⟩ := HK.out.fault
          have HV := hide (show FaultIs wr w.heap.size (rightF gen bl cu ck op ev lg s1 ds1 p1 q1 s2 ds2 p2 q2 sn) ev' code from by rw [← HBE.out]; exact hf7)
          clear hf7
          go_wp2
          go_ret
          exact ⟨ev', rfl, HV.out, HK.out.old⟩
    | false =>
      go_wp2_with (go_at_call 50; fail)
      refine (need_any (w.heap.size + 1) (w.heap.size + 1 + 1) _ code _ false _ H15.out.ck (by omega) H15.out.lo).mono ?_
      rintro e w16 ⟨rfl, hc, ht⟩
      rw [map_ok _ _ _ s2 ds2 p2 q2 bl (map_false s2 bl hm)] at hc
      obtain ⟨b, hkp, hbe⟩ : ∃ b, Kp w w16 (cellsI (fsI gen bl cu ck op ev lg s1 ds1 p1 q1 s2 ds2 p2 q2 sn)) 37 code b ∧ (b && snB sn bl) = rightF gen bl cu ck op ev lg s1 ds1 p1 q1 s2 ds2 p2 q2 sn := ⟨_, H15.out.tch hc ht, HF.out.symm⟩
      have H16 := hide hkp
      have HBE := hide hbe
      clear hc ht H15 c d hkp hbe HF
      have HR := hide (fs_range3 gen bl cu ck op ev lg s1 ds1 p1 q1 s2 ds2 p2 q2 sn HD.out.1 HD.out.2.1 HD.out.2.2 H16.out.blk)
      go_wp2_with (refine wpList_load_mid rfl 35 _ rfl w.heap.size 37 rfl (sn.map (Value.int .i64)) _ HR.out Tryz.underlying35 rfl (by rw [List.length_map, HD.out.2.2]; exact info31) ?_)
      go_loopw [76] (fun i wr => ∃ k : Nat, k ≤ 31 ∧ i = .int .i64 k ∧ Kp w wr (cellsI (fsI gen bl cu ck op ev lg s1 ds1 p1 q1 s2 ds2 p2 q2 sn)) 37 code (b && (sn.take k).all fun x => ptrB x bl)) (fun i _ => 31 - (intOf i).toNat)
      case atStart => exact ⟨0, by omega, rfl, by have h := H16.out; simpa using h⟩
      case round =>
        obtain ⟨k, hk, rfl, hkp⟩ := hrel
        have HK := hide hkp
        clear hkp H16 HR
        by_cases hlt : k < 31
        · have hix : ∀ w, (Instr.index 35 (.agg (sn.map (Value.int .i64)).toArray) (.int .i64 k)).run Tryz.prog w = .ok (.int .i64 (sn.getD k 0)) w := fun w => HX.out k hlt w
          have HT := hide (all_take' (fun x => ptrB x bl) sn k (by rw [HD.out.2.2]; exact hlt))
          have d := (HK.out.blk.cell 1).trans (show (cellsI (fsI gen bl cu ck op ev lg s1 ds1 p1 q1 s2 ds2 p2 q2 sn))[1]? = some (.int .i64 bl) from rfl)
          generalize sn.getD k 0 = z at hix HT
          go_wp2_with (first | (go_at_call 75; refine (isPointer_any z bl _).mono ?_; rintro e w17 ⟨rfl, rfl⟩) | (go_at_call 50; refine (need_any (w.heap.size + 1) (w.heap.size + 1 + 1) _ code _ (ptrB z bl) _ HK.out.ck (by omega) HK.out.lo).mono ?_; rintro e w17 ⟨rfl, hc1, ht1⟩))
          have H1 := hide (HK.out.tch hc1 ht1)
          clear hc1 ht1
          go_roundw
          case rel => exact ⟨k + 1, by omega, by go_num, by rw [HT.out, ← Bool.and_assoc]; exact H1.out⟩
          case measure => simp [intOf]; omega
        · have e31 : k = 31 := by omega
          subst e31
          rw [List.take_of_length_le (by rw [HD.out.2.2]; omega)] at HK
          obtain ⟨ev', c7, hf7⟩ := HK.out.fault
          have HV := hide (show FaultIs wr w.heap.size (rightF gen bl cu ck op ev lg s1 ds1 p1 q1 s2 ds2 p2 q2 sn) ev' code from by rw [← HBE.out]; exact hf7)
          clear hf7
          go_wp2
          go_ret
          exact ⟨ev', rfl, HV.out, HK.out.old⟩
  · have hneg : s2 < 0 := by omega
    go_wp2_with (go_at_call 50; fail)
    · have HNEG := hide hneg
      refine (need_any (w.heap.size + 1) (w.heap.size + 1 + 1) _ code _ _ _ H15.out.ck (by omega) H15.out.lo).mono ?_
      rintro e w16 ⟨rfl, hc, ht⟩
      rw [map_ok _ _ _ s2 ds2 p2 q2 bl (fun h => absurd h (by have := HNEG.out; omega))] at hc
      obtain ⟨b, hkp, hbe⟩ : ∃ b, Kp w w16 (cellsI (fsI gen bl cu ck op ev lg s1 ds1 p1 q1 s2 ds2 p2 q2 sn)) 37 code b ∧ (b && snB sn bl) = rightF gen bl cu ck op ev lg s1 ds1 p1 q1 s2 ds2 p2 q2 sn := ⟨_, H15.out.tch hc ht, HF.out.symm⟩
      have H16 := hide hkp
      have HBE := hide hbe
      clear hc ht H15 c d hkp hbe HF
      have HR := hide (fs_range3 gen bl cu ck op ev lg s1 ds1 p1 q1 s2 ds2 p2 q2 sn HD.out.1 HD.out.2.1 HD.out.2.2 H16.out.blk)
      go_wp2_with (refine wpList_load_mid rfl 35 _ rfl w.heap.size 37 rfl (sn.map (Value.int .i64)) _ HR.out Tryz.underlying35 rfl (by rw [List.length_map, HD.out.2.2]; exact info31) ?_)
      go_loopw [76] (fun i wr => ∃ k : Nat, k ≤ 31 ∧ i = .int .i64 k ∧ Kp w wr (cellsI (fsI gen bl cu ck op ev lg s1 ds1 p1 q1 s2 ds2 p2 q2 sn)) 37 code (b && (sn.take k).all fun x => ptrB x bl)) (fun i _ => 31 - (intOf i).toNat)
      case atStart => exact ⟨0, by omega, rfl, by have h := H16.out; simpa using h⟩
      case round =>
        obtain ⟨k, hk, rfl, hkp⟩ := hrel
        have HK := hide hkp
        clear hkp H16 HR
        by_cases hlt : k < 31
        · have hix : ∀ w, (Instr.index 35 (.agg (sn.map (Value.int .i64)).toArray) (.int .i64 k)).run Tryz.prog w = .ok (.int .i64 (sn.getD k 0)) w := fun w => HX.out k hlt w
          have HT := hide (all_take' (fun x => ptrB x bl) sn k (by rw [HD.out.2.2]; exact hlt))
          have d := (HK.out.blk.cell 1).trans (show (cellsI (fsI gen bl cu ck op ev lg s1 ds1 p1 q1 s2 ds2 p2 q2 sn))[1]? = some (.int .i64 bl) from rfl)
          generalize sn.getD k 0 = z at hix HT
          go_wp2_with (first | (go_at_call 75; refine (isPointer_any z bl _).mono ?_; rintro e w17 ⟨rfl, rfl⟩) | (go_at_call 50; refine (need_any (w.heap.size + 1) (w.heap.size + 1 + 1) _ code _ (ptrB z bl) _ HK.out.ck (by omega) HK.out.lo).mono ?_; rintro e w17 ⟨rfl, hc1, ht1⟩))
          have H1 := hide (HK.out.tch hc1 ht1)
          clear hc1 ht1
          go_roundw
          case rel => exact ⟨k + 1, by omega, by go_num, by rw [HT.out, ← Bool.and_assoc]; exact H1.out⟩
          case measure => simp [intOf]; omega
        · have e31 : k = 31 := by omega
          subst e31
          rw [List.take_of_length_le (by rw [HD.out.2.2]; omega)] at HK
          obtain ⟨ev', c7, hf7⟩ := HK.out.fault
          have HV := hide (show FaultIs wr w.heap.size (rightF gen bl cu ck op ev lg s1 ds1 p1 q1 s2 ds2 p2 q2 sn) ev' code from by rw [← HBE.out]; exact hf7)
          clear hf7
          go_wp2
          go_ret
          exact ⟨ev', rfl, HV.out, HK.out.old⟩
    · have HNEG := hide hneg
      refine (need_any (w.heap.size + 1) (w.heap.size + 1 + 1) _ code _ false _ H15.out.ck (by omega) H15.out.lo).mono ?_
      rintro e w16 ⟨rfl, hc, ht⟩
      rw [map_ok _ _ _ s2 ds2 p2 q2 bl (fun h => absurd h (by have := HNEG.out; omega))] at hc
      obtain ⟨b, hkp, hbe⟩ : ∃ b, Kp w w16 (cellsI (fsI gen bl cu ck op ev lg s1 ds1 p1 q1 s2 ds2 p2 q2 sn)) 37 code b ∧ (b && snB sn bl) = rightF gen bl cu ck op ev lg s1 ds1 p1 q1 s2 ds2 p2 q2 sn := ⟨_, H15.out.tch hc ht, HF.out.symm⟩
      have H16 := hide hkp
      have HBE := hide hbe
      clear hc ht H15 c d hkp hbe HF
      have HR := hide (fs_range3 gen bl cu ck op ev lg s1 ds1 p1 q1 s2 ds2 p2 q2 sn HD.out.1 HD.out.2.1 HD.out.2.2 H16.out.blk)
      go_wp2_with (refine wpList_load_mid rfl 35 _ rfl w.heap.size 37 rfl (sn.map (Value.int .i64)) _ HR.out Tryz.underlying35 rfl (by rw [List.length_map, HD.out.2.2]; exact info31) ?_)
      go_loopw [76] (fun i wr => ∃ k : Nat, k ≤ 31 ∧ i = .int .i64 k ∧ Kp w wr (cellsI (fsI gen bl cu ck op ev lg s1 ds1 p1 q1 s2 ds2 p2 q2 sn)) 37 code (b && (sn.take k).all fun x => ptrB x bl)) (fun i _ => 31 - (intOf i).toNat)
      case atStart => exact ⟨0, by omega, rfl, by have h := H16.out; simpa using h⟩
      case round =>
        obtain ⟨k, hk, rfl, hkp⟩ := hrel
        have HK := hide hkp
        clear hkp H16 HR
        by_cases hlt : k < 31
        · have hix : ∀ w, (Instr.index 35 (.agg (sn.map (Value.int .i64)).toArray) (.int .i64 k)).run Tryz.prog w = .ok (.int .i64 (sn.getD k 0)) w := fun w => HX.out k hlt w
          have HT := hide (all_take' (fun x => ptrB x bl) sn k (by rw [HD.out.2.2]; exact hlt))
          have d := (HK.out.blk.cell 1).trans (show (cellsI (fsI gen bl cu ck op ev lg s1 ds1 p1 q1 s2 ds2 p2 q2 sn))[1]? = some (.int .i64 bl) from rfl)
          generalize sn.getD k 0 = z at hix HT
          go_wp2_with (first | (go_at_call 75; refine (isPointer_any z bl _).mono ?_; rintro e w17 ⟨rfl, rfl⟩) | (go_at_call 50; refine (need_any (w.heap.size + 1) (w.heap.size + 1 + 1) _ code _ (ptrB z bl) _ HK.out.ck (by omega) HK.out.lo).mono ?_; rintro e w17 ⟨rfl, hc1, ht1⟩))
          have H1 := hide (HK.out.tch hc1 ht1)
          clear hc1 ht1
          go_roundw
          case rel => exact ⟨k + 1, by omega, by go_num, by rw [HT.out, ← Bool.and_assoc]; exact H1.out⟩
          case measure => simp [intOf]; omega
        · have e31 : k = 31 := by omega
          subst e31
          rw [List.take_of_length_le (by rw [HD.out.2.2]; omega)] at HK
          obtain ⟨ev', c7, hf7⟩ := HK.out.fault
          have HV := hide (show FaultIs wr w.heap.size (rightF gen bl cu ck op ev lg s1 ds1 p1 q1 s2 ds2 p2 q2 sn) ev' code from by rw [← HBE.out]; exact hf7)
          clear hf7
          go_wp2
          go_ret
          exact ⟨ev', rfl, HV.out, HK.out.old⟩
end Go.Proofs.YtkbbnflblkkepaaGreatDoor
