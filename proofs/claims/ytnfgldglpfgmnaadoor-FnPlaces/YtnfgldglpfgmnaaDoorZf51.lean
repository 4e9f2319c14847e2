/- The law FnPlaces, walked. -/
import Derived.Test.YtnfgldglpfgmnaaDoorZf46
import Derived.Test.YtnfgldglpfgmnaaDoorZf49
import Derived.Test.YtnfgldglpfgmnaaDoorZf50
import Derived.BigQuiet
import Derived.Deep.RegionHeld3
namespace Go.Proofs.YtnfgldglpfgmnaaDoor
set_option linter.unusedVariables false
set_option linter.unusedSimpArgs false
open Go.RowKit

/-- The source, and all that was there. -/
structure PlF (w W : World) (v : Value) (n : Nat) : Prop where
  src : Src W w.heap.size v n
  low : Below w.heap.size w W
theorem PlF.below {w W W' : World} {v : Value} {n : Nat} (h : PlF w W v n) (hb : Below W.heap.size W W') : PlF w W' v n := ⟨h.src.below hb h.src.lt, h.low.trans (hb.mono h.low.size)⟩
theorem PlF.N {w W : World} {v : Value} {zs : List Int} (h : PlF w W v zs.length) (hr : Rd .u8 w v zs) (hbd : ∀ z ∈ zs, 0 ≤ z ∧ z < 256) (hn : zs.length ≤ 1048576) :
    Calls Tryd.prog 8 #[.pointer (some ⟨w.heap.size, 0, none⟩), .int .i64 512] W fun e W' => ∃ r : Nat, e = .returned (.int .i64 (r : Int)) ∧ r < 512 ∧ PlF w W' v zs.length ∧ Dr w.heap.size W W' := by
  refine (N_any w.heap.size 512 v zs W h.src (hr.below h.low) hbd hn (by omega) (by omega) (fun hp c hc => ?_)).mono ?_
  · obtain ⟨b, off, cap, rfl, hb, _⟩ := hr.partsC hp
    simp [Value.ownBlock] at hc
    omega
  · rintro e W' ⟨r, rfl, hr1, hs, hd⟩
    exact ⟨r, rfl, hr1, ⟨hs, hd.under h.low (Nat.le_refl _)⟩, hd⟩
theorem Dr.blkR {b k : Nat} {W W' : World} {C : Array Value} {t : TypeId} (h : Dr b W W') (hk : Blk W k C t) (hne : k ≠ b) : Blk W' k C t := (h.1.block k hk.lt (fun e => hne (Option.some.inj e))).trans hk
theorem own_setR {w : World} {base : Nat} {e : TypeId} {size : Nat} {v : Value} {n : Nat} {xs : List Value} (h : w.ownsRow base e size v n xs) {g : Nat} (hg : v.ownBlock = some g) (o : Nat) (u : Value) : (w.setCell ⟨g, o, none⟩ u).ownsRow base e size v n (xs.set o u) := by
  rcases h.2 with ⟨rfl, _⟩ | ⟨g', cap, cur, rfl, hb, hc, hn, hm, hs, ht⟩
  · cases hg
  · obtain rfl : g' = g := by simpa [Value.ownBlock] using hg
    refine ⟨by simpa using h.1, .inr ⟨g', cap, cur.setIfInBounds o u, rfl, hb, heap_setCell_same w g' o cur e u hc, hn, hm, by simpa using hs, ?_⟩⟩
    rw [Array.toList_setIfInBounds, List.take_set, ht]
theorem own_full {w : World} {base g n : Nat} {e : TypeId} {xs : List Value} (h : w.ownsRow base e 1 (.slice (some ⟨g, 0, none⟩) n n) n xs) : Blk w g xs.toArray e := by
  rcases h.2 with ⟨e1, _⟩ | ⟨g', cap, cur, e1, hb, hc, hn, hm, hs, ht⟩
  · cases e1
  · injection e1 with e1 e2 e3
    injection e1 with e1
    injection e1 with e1 e4
    subst e1
    subst e3
    rw [Nat.mul_one] at hs ht
    have : cur.toList = xs := by rw [← ht, List.take_of_length_le (by rw [Array.length_toList]; omega)]
    have h2 : xs.toArray = cur := by rw [← this]
    rw [h2]
    exact hc
theorem rootC_at (Ls : Nat → List Int) (n j : Nat) (h : j < 14) : (rootC Ls n 14)[1 + j]? = some (.int .i64 (numAt Ls j)) := by
  rw [Nat.add_comm]
  simp only [rootC, cellsI, List.getElem?_toArray, List.map_cons, List.getElem?_cons_succ, List.getElem?_map, List.getElem?_range h, Option.map_some]
  rw [if_pos h]
/-- What TreeWrite's free numbers make. -/
theorem one_need (iv cv : Value) (a m : Nat) (ha : a < 512) (hm : m < 512) : One (rD3 iv cv none (farC a m) (a + 1)) a (-1) (-1) (-1) (padB (farC a m) a) :=
  one_of iv cv none (farC a m) a ha (fun i hi => far_zero a m i hi hm) (far_some a m hm) rfl rfl rfl (by decide) (by decide)
theorem one_write (iv cv : Value) (a m : Nat) (ha : a < 512) (hm : m < 512) : One (rD3 iv cv (some [20, 21, 22, 23]) (farC a m) (a + 1)) a 20 21 22 (padB (farC a m) a) :=
  one_of iv cv (some [20, 21, 22, 23]) (farC a m) a ha (fun i hi => far_zero a m i hi hm) (far_some a m hm) rfl rfl rfl (by decide) (by decide)
theorem One.blocks {D : RD} {a : Nat} {Y0 : List Int} (h : One D a 20 21 22 Y0) : ∀ x ∈ D.P, 2 ≤ x.1 ∧ x.1 < 64 := fun x hx => by
  have hc : a < 12 ∨ (12 ≤ a ∧ a < 140) ∨ 140 ≤ a := by omega
  rcases hc with c | ⟨c, c'⟩ | c
  · rw [(h.c0 c).2.2] at hx
    simp at hx
    subst hx
    simp
  · obtain ⟨_, _, w1, e, _⟩ := h.c1 c c'
    rw [e] at hx
    simp at hx
    rcases hx with rfl | rfl <;> simp
  · obtain ⟨_, _, w1, w2, e, _⟩ := h.c2 c
    rw [e] at hx
    simp at hx
    rcases hx with rfl | rfl | rfl <;> simp
set_option maxRecDepth 100000 in
set_option maxHeartbeats 8000000 in
theorem lawPlc (v : Value) (cs : List Int) (w : World) (h : Rd .u8 w v cs) (hbd : ∀ z ∈ cs, 0 ≤ z ∧ z < 256) (hg : ErrT w) :
    Calls Tryd.prog 3 #[v] w fun e w' => e = .returned (.bool true) ∧ Below w.heap.size w w' := by
  have hm := h.len
  unfold maxLen at hm
  have hsh : ∃ a cap, v = .slice a cs.length cap := by obtain ⟨a, cap, h1, _⟩ := h; exact ⟨a, cap, h1⟩
  obtain ⟨a0, cap0, rfl⟩ := hsh
  have H := hide (And.intro h (And.intro hbd hg))
  clear h hg hbd
  by_cases hbig : (1048576 : Int) < (cs.length : Int)
  · go_enter Tryd.func3, Tryd.ntmps3
    go_wp2
    go_ret
    exact ⟨rfl, Below.refl _ _⟩
  have hsm : cs.length ≤ 1048576 := by omega
  clear hbig hm
  go_enter Tryd.func3, Tryd.ntmps3
  go_wp2_with (go_at_call 7; fail)
  refine (draw_any _ cs _ H.out.1 hsm).mono ?_
  rintro e w1 ⟨rfl, s1, b1, hs1⟩
  have F1 := hide (show PlF w w1 _ cs.length from ⟨s1, b1⟩)
  clear s1 b1 hs1
  go_wp2_with (go_at_call 8; fail)
  refine (F1.out.N H.out.1 H.out.2.1 hsm).mono ?_
  rintro e w2 ⟨a, rfl, ha, f2, _⟩
  have F2 := hide f2
  clear f2 F1
  go_wp2_with (go_at_call 8; fail)
  refine (F2.out.N H.out.1 H.out.2.1 hsm).mono ?_
  rintro e w3 ⟨b, rfl, hb, f3, _⟩
  have F3 := hide f3
  clear f3 F2
  go_wp2_with (go_at_call 9; fail)
  refine (implP_any a _ ha).mono ?_
  rintro e w4 ⟨rfl, b4⟩
  have B4 := hide b4
  clear b4
  unfold placeV
  obtain ⟨L1, hL1⟩ : ∃ L1, L1 = plL a := ⟨_, rfl⟩
  obtain ⟨O1, hO1⟩ : ∃ O1, O1 = plO a := ⟨_, rfl⟩
  obtain ⟨I1, hI1⟩ : ∃ I1, I1 = plI a := ⟨_, rfl⟩
  rw [← hL1, ← hO1, ← hI1]
  have HP1 := hide (And.intro hL1 (And.intro hO1 hI1))
  clear hL1 hO1 hI1
  go_wp2_with (go_at_call 9; fail)
  refine (implP_any b _ hb).mono ?_
  rintro e w5 ⟨rfl, b5⟩
  have B5 := hide b5
  clear b5
  unfold placeV
  obtain ⟨L2, hL2⟩ : ∃ L2, L2 = plL b := ⟨_, rfl⟩
  obtain ⟨O2, hO2⟩ : ∃ O2, O2 = plO b := ⟨_, rfl⟩
  obtain ⟨I2, hI2⟩ : ∃ I2, I2 = plI b := ⟨_, rfl⟩
  rw [← hL2, ← hO2, ← hI2]
  have HP2 := hide (And.intro hL2 (And.intro hO2 hI2))
  clear hL2 hO2 hI2
  go_upto_region 8 with fail
  obtain ⟨Wp, hWp⟩ : ∃ Wp, Wp = w4.alloc (.cells #[.int .i64 L1, .int .i64 O1, .int .i64 I1] 27) := ⟨_, rfl⟩
  rw [← hWp] at B5
  obtain ⟨W6, hW6⟩ : ∃ W6, W6 = w5.alloc (.cells #[.int .i64 L2, .int .i64 O2, .int .i64 I2] 27) := ⟨_, rfl⟩
  have bp : Below w4.heap.size w4 Wp := by rw [hWp]; exact (Below.refl _ _).alloc (Nat.le_refl _) _
  have kp : Blk Wp w4.heap.size #[.int .i64 L1, .int .i64 O1, .int .i64 I1] 27 := by rw [hWp]; exact Blk.new w4 _ _
  have b6 : Below w5.heap.size w5 W6 := by rw [hW6]; exact (Below.refl _ _).alloc (Nat.le_refl _) _
  have K2 := hide (show Blk W6 w5.heap.size #[.int .i64 L2, .int .i64 O2, .int .i64 I2] 27 from by rw [hW6]; exact Blk.new w5 _ _)
  have K1 := hide (show Blk W6 w4.heap.size #[.int .i64 L1, .int .i64 O1, .int .i64 I1] 27 from (kp.below B5.out kp.lt).below b6 (kp.below B5.out kp.lt).lt)
  have F6 := hide (show PlF w W6 _ cs.length from (((F3.out.below B4.out).below bp).below B5.out).below b6)
  have hq : (w.heap.size < w4.heap.size ∧ w4.heap.size < W6.heap.size) := ⟨Nat.lt_of_lt_of_le F3.out.src.lt B4.out.size, K1.out.lt⟩
  rw [← hW6]
  clear hW6 hWp bp kp b6 B5 B4 F3
  have HEq := hide (show ∀ w' : World, (Op.equalIn 10000 27 (.agg #[.int .i64 L1, .int .i64 O1, .int .i64 I1]) (.agg #[.int .i64 L2, .int .i64 O2, .int .i64 I2])).run Tryd.prog w' = .ok (decide (a = b)) w' from fun w' => by
    have h1 : decide (a = b) = ((L1 == L2) && ((O1 == O2) && ((I1 == I2) && true))) := by
      have := pl_inj a b ha hb
      rw [← HP1.out.1, ← HP1.out.2.1, ← HP1.out.2.2, ← HP2.out.1, ← HP2.out.2.1, ← HP2.out.2.2] at this
      rw [Bool.eq_iff_iff]
      simp only [decide_eq_true_eq, Bool.and_eq_true, beq_iff_eq, and_true]
      exact this.symm
    rw [h1, run_equalIn_struct w' 9999 27 _ _ Tryd.underlying27 (by kernel_rfl)]
    exact eqFields_cons w' (by decide) (part_one w' Tryd.underlying3 rfl) (part_one w' Tryd.underlying3 rfl) (run_equalIn_int w' 9998 3 .i64 .i64 _ _ Tryd.underlying3)
      (eqFields_cons w' (by decide) (part_one w' Tryd.underlying3 rfl) (part_one w' Tryd.underlying3 rfl) (run_equalIn_int w' 9998 3 .i64 .i64 _ _ Tryd.underlying3)
      (eqFields_cons w' (by decide) (part_one w' Tryd.underlying3 rfl) (part_one w' Tryd.underlying3 rfl) (run_equalIn_int w' 9998 3 .i64 .i64 _ _ Tryd.underlying3) (by simp [Op.eqFields]))))
  obtain ⟨qe, hqe⟩ : ∃ qe : Bool, qe = decide (a = b) := ⟨_, rfl⟩
  have hq2 : ((a : Int) == (b : Int)) = qe := by rw [hqe, Bool.eq_iff_iff]; simp; omega
  have hq3 : (qe != qe) = false := by simp
  rw [← hqe] at HEq
  clear hqe
  go_upto_region 10 with (first
    | (refine wpList_load_rowG (by first | rfl | (simp [Region.wanted, yielded]; done)) 27 _ rfl w4.heap.size rfl 27 #[.int .i64 L1, .int .i64 O1, .int .i64 I1] (0, 0) _ K1.out Tryd.underlying27 rfl infoP3 ?_)
    | (refine wpList_load_rowG (by first | rfl | (simp [Region.wanted, yielded]; done)) 27 _ rfl w5.heap.size rfl 27 #[.int .i64 L2, .int .i64 O2, .int .i64 I2] (0, 0) _ K2.out Tryd.underlying27 rfl infoP3 ?_)
    | (refine wpList_eqlA (by first | rfl | (simp [Region.wanted, yielded]; done)) 27 _ _ _ rfl #[.int .i64 L1, .int .i64 O1, .int .i64 I1] #[.int .i64 L2, .int .i64 O2, .int .i64 I2] rfl rfl (by kernel_rfl) qe (HEq.out _) ?_))
  clear hq2 hq3 HEq K2 HP2
  obtain ⟨i0, hi, hz0, hz1, hz2⟩ := info_parts infoU8
  obtain ⟨N, hN⟩ : ∃ N, N = (a + 1) * 512 := ⟨_, rfl⟩
  have hNb : N ≤ 262144 := by omega
  have hN1 : 512 ≤ N := by omega
  have HN := hide hN
  have HNI := hide (show ((a : Int) + 1) * 512 = (N : Int) from by omega)
  clear hN
  go_upto_region 11 with (first | (refine wpList_make_full _ rfl _ _ 22 rfl W6.heap.size 5 i0 (.int .u8 0) 1 Tryd.underlying22 hi hz0 hz1 .i64 .i64 (((a : Int) + 1) * 512) (((a : Int) + 1) * 512) N rfl rfl HNI.out HNI.out (by rw [hz2]; omega) (by unfold maxLen; omega) (Nat.le_refl _) ?_; intro w7 o7 g7; rw [made_one _ _ rfl] at o7; have O7 := hide (And.intro o7 g7); clear o7 g7))
  have B7 := hide (show Below W6.heap.size W6 w7 from (Below.refl _ _).grown O7.out.2 (Nat.le_refl _) (fun k e => by cases e))
  have F7 := hide (F6.out.below B7.out)
  have K7 := hide (K1.out.below B7.out K1.out.lt)
  go_wp2_with (go_at_call 8; fail)
  refine (F7.out.N H.out.1 H.out.2.1 hsm).mono ?_
  rintro e w8 ⟨m, rfl, hm, f8, d8⟩
  have F8 := hide f8
  have O8 := hide (d8.own O7.out.1 (by omega))
  have K8 := hide (d8.blkR K7.out (by omega))
  clear f8 d8 F7 K7 F6 K1
  obtain ⟨p, hp⟩ : ∃ p, p = N - 1 - m := ⟨_, rfl⟩
  have hpI : (N : Int) - 1 - (m : Int) = (p : Int) := by omega
  have hpN : p < N := by omega
  have hpN2 : (p : Int) < (N : Int) := by omega
  have HPp := hide hp
  have kc := own_full O8.out
  have cc8 : w8.cell? ⟨W6.heap.size, p, none⟩ = some (.int .u8 0) := (kc.cell p).trans (by simp [hpN])
  have fc8 := kc.frozen p
  clear hp kc
  go_upto_region 12 with fail
  clear cc8 fc8
  obtain ⟨W9, hW9⟩ : ∃ W9, W9 = w8.setCell ⟨W6.heap.size, p, none⟩ (.int .u8 7) := ⟨_, rfl⟩
  have O9 := hide (show W9.ownsRow W6.heap.size 5 1 (.slice (some ⟨W6.heap.size, 0, none⟩) N N) N ((farC a m).map (Value.int .u8)) from by
    have := own_setR O8.out (g := W6.heap.size) rfl p (.int .u8 7)
    rw [← hW9] at this
    have e : (List.replicate N (Value.int .u8 0)).set p (.int .u8 7) = (farC a m).map (Value.int .u8) := by
      unfold farC
      rw [List.map_set, List.map_replicate, ← HN.out, ← HPp.out]
    rw [← e]
    simpa using this)
  have K9 := hide (show Blk W9 w4.heap.size #[.int .i64 L1, .int .i64 O1, .int .i64 I1] 27 from by rw [hW9]; exact K8.out.other _ _ (by show w4.heap.size ≠ W6.heap.size; omega))
  have L9 := hide (show Below w.heap.size w W9 from by rw [hW9]; exact F8.out.low.setCell (p := ⟨W6.heap.size, p, none⟩) (by show w.heap.size ≤ W6.heap.size; omega) _)
  rw [← hW9]
  clear hW9 F8 K8 O8 O7 B7
  obtain ⟨Q, hQ⟩ : ∃ Q : Nat, Q = 32768 := ⟨_, rfl⟩
  have HQI := hide (show (32768 : Int) = (Q : Int) from by omega)
  have hQb : Q ≤ 40000 := by omega
  have HSzQ := hide (show szOk (List.replicate Q (0 : Int)).length = true ∧ (((List.replicate Q (0 : Int)).length / 512 : Nat) : Int) = 64 from by rw [List.length_replicate, hQ]; exact ⟨by decide, by decide⟩)
  clear hQ
  go_upto_region 13 with (first | (refine wpList_make_full _ rfl _ _ 22 rfl W9.heap.size 5 i0 (.int .u8 0) 1 Tryd.underlying22 hi hz0 hz1 .i64 .i64 32768 32768 Q rfl rfl HQI.out HQI.out (by rw [hz2]; omega) (by unfold maxLen; omega) (Nat.le_refl _) ?_; intro w10 o10 g10; rw [made_one _ _ rfl] at o10; have O10 := hide (And.intro o10 g10); clear o10 g10))
  have B10 := hide (show Below W9.heap.size W9 w10 from (Below.refl _ _).grown O10.out.2 (Nat.le_refl _) (fun k e => by cases e))
  have L10 := hide (show Below w.heap.size w w10 from L9.out.trans (B10.out.mono L9.out.size))
  have RI := hide (show Rd .u8 w10 (.slice (some ⟨W9.heap.size, 0, none⟩) Q Q) (List.replicate Q 0) from by
    have := Rd.own (k := .u8) (zs := List.replicate Q 0) (show w10.ownsRow W9.heap.size 5 1 (.slice (some ⟨W9.heap.size, 0, none⟩) Q Q) (List.replicate Q (0 : Int)).length ((List.replicate Q (0 : Int)).map (Value.int .u8)) from by rw [List.length_replicate, List.map_replicate]; exact O10.out.1)
    exact this)
  have RC := hide (show Rd .u8 w10 (.slice (some ⟨W6.heap.size, 0, none⟩) N N) (farC a m) from by
    have := Rd.own (k := .u8) (zs := farC a m) (show W9.ownsRow W6.heap.size 5 1 (.slice (some ⟨W6.heap.size, 0, none⟩) N N) (farC a m).length ((farC a m).map (Value.int .u8)) from by rw [farC_len, ← HN.out]; exact O9.out)
    exact this.below B10.out)
  have K10 := hide (K9.out.below B10.out K9.out.lt)
  have hNl : N = (farC a m).length := by rw [farC_len]; exact HN.out
  have hcnt : a + 1 = (N + 511) / 512 := by have := HN.out; omega
  have HZb := hide (show ∀ z ∈ List.replicate Q (0 : Int), 0 ≤ z ∧ z < 256 from fun z hz => by rw [(List.mem_replicate.1 hz).2]; decide)
  have HNd := hide (one_need (.slice (some ⟨W9.heap.size, 0, none⟩) Q Q) (.slice (some ⟨W6.heap.size, 0, none⟩) N N) a m ha hm)
  have HWr := hide (one_write (.slice (some ⟨W9.heap.size, 0, none⟩) Q Q) (.slice (some ⟨W6.heap.size, 0, none⟩) N N) a m ha hm)
  have HNd2 := hide (treeNeed_any w10 (some ⟨W9.heap.size, 0, none⟩) (some ⟨W6.heap.size, 0, none⟩) Q Q N N (a + 1) (List.replicate Q 0) (farC a m) _ RI.out (by rw [List.length_replicate]; omega) HZb.out HSzQ.out.1 RC.out hNl (by rw [← hNl]; omega) hcnt (H.out.2.2.below L10.out) rfl HNd.out.sh (HNd.out.len ha))
  have HNl := hide hNl
  have HCnt := hide hcnt
  have HC1 := hide (HNd.out.count (by decide) (by decide) (by decide))
  have HC2 := hide (HWr.out.count (by decide) (by decide) (by decide))
  clear hNl hcnt O9 O10 K9 L9
  go_wp2_with (go_at_call 10; fail)
  refine HNd2.out.mono ?_
  rintro e w11 ⟨rfl, b11⟩
  rw [HC1.out.1, HC1.out.2, ← HP1.out.1]
  have B11 := hide b11
  have L11 := hide (show Below w.heap.size w w11 from L10.out.trans (b11.mono L10.out.size))
  have hpI2 := B11.out.size
  clear b11 HNd2
  obtain ⟨W12, hW12⟩ : ∃ W12, W12 = w11.alloc (.cells #[.int .i64 20, .int .i64 21, .int .i64 22, .int .i64 23] 3) := ⟨_, rfl⟩
  have B12 := hide (show Below w11.heap.size w11 W12 from by rw [hW12]; exact (Below.refl _ _).alloc (Nat.le_refl _) _)
  have B012 := hide (show Below w10.heap.size w10 W12 from B11.out.trans (B12.out.mono B11.out.size))
  have RF := hide (show Rd .i64 W12 (.slice (some ⟨w11.heap.size, 0, none⟩) 4 4) [20, 21, 22, 23] from by rw [hW12]; exact rd_arr (n := 4) (ms := [20, 21, 22, 23]) (Blk.new w11 _ _) rfl (by decide))
  have L12 := hide (show Below w.heap.size w W12 from L11.out.trans (B12.out.mono L11.out.size))
  obtain ⟨D, hD⟩ : ∃ D, D = rD3 (.slice (some ⟨W9.heap.size, 0, none⟩) Q Q) (.slice (some ⟨W6.heap.size, 0, none⟩) N N) (some [20, 21, 22, 23]) (farC a m) (a + 1) := ⟨_, rfl⟩
  rw [← hD] at HWr HC2
  have HTw := hide (treeWrite_any W12 (some ⟨W9.heap.size, 0, none⟩) (some ⟨W6.heap.size, 0, none⟩) (some ⟨w11.heap.size, 0, none⟩) Q Q N N 4 4 (a + 1) (List.replicate Q 0) (farC a m) [20, 21, 22, 23] D (RI.out.below B012.out) (by rw [List.length_replicate]) (by rw [List.length_replicate]; omega) HZb.out HSzQ.out.1 (RC.out.below B012.out) HNl.out (by rw [← HNl.out]; omega) HCnt.out (H.out.2.2.below L12.out) RF.out rfl hD HWr.out.sh (by have h1 := HC2.out.1; have h2 : plL a ≤ 2 := (by unfold plL; split <;> (try split) <;> omega); omega) (fun x hx => by rw [HSzQ.out.2]; exact HWr.out.blocks x hx))
  have HW12 := hide hW12
  clear hD hW12
  go_wp2_with (go_at_call 11; fail)
  rw [← HW12.out]
  refine HTw.out.mono ?_
  rintro e w13 ⟨pa, pc, vs, rfl, ow13, b13⟩
  have OW := hide ow13
  have B13 := hide b13
  obtain ⟨pn, hpn⟩ : ∃ pn, pn = D.P.length := ⟨_, rfl⟩
  rw [← hpn] at OW ⊢
  have hpI1 : (pn : Int) = 1 + L1 := by rw [hpn, HC2.out.1, HP1.out.1]
  have hL12 : 0 ≤ L1 ∧ L1 ≤ 2 := by rw [HP1.out.1]; unfold plL; split <;> (try split) <;> omega
  obtain ⟨RR, hRR⟩ : ∃ RR, RR = rootC D.Ln N 14 := ⟨_, rfl⟩
  rw [← hRR]
  have HRR := hide hRR
  have HInR := hide (show (Tryd.prog.info? 34).map (·.size) = some RR.size from by rw [hRR, rootC_size]; exact infoRt15)
  have HOR := hide (show RR.all (·.oneCell') = true from by rw [hRR]; exact i64_one _)
  have HSR := hide (show rootZ.size = RR.size from by rw [hRR, rootC_size]; rfl)
  have HPN := hide hpn
  clear ow13 b13 hpn hRR HTw
  go_upto_region 15 with (first | (refine wpList_store_row rfl 34 _ _ rfl w13.heap.size RR rfl rfl 34 rootZ (Blk.new w13 rootZ 34) HInR.out HSR.out HOR.out ?_))
  obtain ⟨W14, hW14⟩ : ∃ W14, W14 = (w13.alloc (.cells rootZ 34)).setRow w13.heap.size RR := ⟨_, rfl⟩
  have B14 := hide (show Below w13.heap.size w13 W14 from by rw [hW14]; exact below_setRow ((Below.refl _ _).alloc (Nat.le_refl _) _) (Nat.le_refl _) _)
  have KR := hide (show Blk W14 w13.heap.size RR 34 from by rw [hW14]; exact (Blk.new w13 rootZ 34).row _)
  have OW14 := hide (OW.out.below B14.out)
  have K14 := hide (show Blk W14 w4.heap.size #[.int .i64 L1, .int .i64 O1, .int .i64 I1] 27 from ((K10.out.below B012.out K10.out.lt).below B13.out (K10.out.below B012.out K10.out.lt).lt).below B14.out ((K10.out.below B012.out K10.out.lt).below B13.out (K10.out.below B012.out K10.out.lt).lt).lt)
  have L14 := hide (show Below w.heap.size w W14 from (L12.out.trans (B13.out.mono L12.out.size)).trans (B14.out.mono (Nat.le_trans L12.out.size B13.out.size)))
  rw [← hW14]
  clear hW14 OW B14 B13 B012 B12 B11 K10 L10 L11 L12 RI RC RF HW12
  have hpn0 : 0 < pn := by omega
  obtain ⟨pg, x0, v0, rfl, hrg0, hpgl, ys0, hP0, da0, dl0, dc0, rfl, hown0⟩ := put_at OW14.out HPN.out 0 hpn0
  have hx0 : x0 = 20 := by
    have hc : a < 12 ∨ (12 ≤ a ∧ a < 140) ∨ 140 ≤ a := by omega
    rcases hc with c | ⟨c, c'⟩ | c
    · rw [(HWr.out.c0 c).2.2] at hP0
      simp at hP0
      exact hP0.1.symm
    · obtain ⟨_, _, w1, e, _⟩ := HWr.out.c1 c c'
      rw [e] at hP0
      simp at hP0
      exact hP0.1.symm
    · obtain ⟨_, _, w1, w2, e, _⟩ := HWr.out.c2 c
      rw [e] at hP0
      simp at hP0
      exact hP0.1.symm
  subst hx0
  have cB0 : W14.cell? ⟨pg, 0, none⟩ = some (.int .i64 20) := by have := hrg0 0 _ rfl; simpa using this
  have cL0 : W14.cell? ⟨w4.heap.size, 0, none⟩ = some (.int .i64 L1) := (K14.out.cell 0).trans rfl
  have cL2 : W14.cell? ⟨w4.heap.size, 2, none⟩ = some (.int .i64 I1) := (K14.out.cell 2).trans rfl
  clear hrg0 hP0 hown0
  have hL1b := hL12.1
  have hL1c := hL12.2
  clear hL12
  go_upto_region 17 with fail
  have hc : a < 12 ∨ (12 ≤ a ∧ a < 140) ∨ 140 ≤ a := by omega
  have HKR := hide (show ∀ j, j < 14 → W14.cell? ⟨w13.heap.size, 1 + j, none⟩ = some (.int .i64 (numAt D.Ln j)) from fun j hj => (KR.out.cell (1 + j)).trans (by rw [HRR.out]; exact rootC_at D.Ln N j hj))
  rcases hc with c | ⟨c, c'⟩ | c
  · obtain rfl : L1 = 0 := by rw [HP1.out.1]; unfold plL; rw [if_pos c]
    obtain rfl : I1 = (a : Int) := by rw [HP1.out.2.2]; unfold plI; rw [if_pos c]
    have cR : W14.cell? ⟨w13.heap.size, 1 + a, none⟩ = some (.int .i64 20) := by
      rw [HKR.out a (by omega)]
      unfold numAt topL topR
      rw [if_pos c, if_pos c, HWr.out.n0, end_getD, if_pos rfl]
    have haI : (a : Int) < 12 := by omega
    go_wp2
    go_ret
    exact ⟨rfl, L14.out⟩
  · obtain ⟨k0, hk0⟩ : ∃ k0, k0 = a - 12 := ⟨_, rfl⟩
    obtain rfl : L1 = 1 := by rw [HP1.out.1]; unfold plL; rw [if_neg (by omega), if_pos c']
    obtain rfl : I1 = (k0 : Int) := by rw [HP1.out.2.2, hk0]; unfold plI; rw [if_neg (by omega), if_pos c']
    obtain ⟨e1, e2, w1, eP, ew⟩ := HWr.out.c1 c c'
    have hk : k0 < 128 := by omega
    rw [← hk0] at ew
    obtain ⟨ql, qb⟩ := enc_one k0 20 hk (by omega) w1 ew
    have cR : W14.cell? ⟨w13.heap.size, 13, none⟩ = some (.int .i64 21) := by
      rw [HKR.out 12 (by omega)]
      show some (Value.int .i64 ((D.Ln 1).getD 0 0)) = _
      rw [e1]
      rfl
    have hpn2 : pn = 2 := by omega
    obtain ⟨pg', x1, v1, epg, hrg1, hpgl1, ys1, hP1, da1, dl1, dc1, rfl, hown1⟩ := put_at OW14.out HPN.out 1 (by omega)
    cases epg
    rw [eP] at hP1
    simp at hP1
    obtain ⟨rfl, rfl⟩ := hP1
    have cD1 : W14.cell? ⟨pg, 3, none⟩ = some (.slice da1 dl1 dc1) := by have := hrg1 1 _ rfl; simpa using this
    have hR1 := Rd.own (k := .u8) hown1
    have hdl : dl1 = 512 := by obtain ⟨_, _, e, _⟩ := hR1; injection e with _ e _; rw [e, ql]
    subst hdl
    obtain ⟨qa, qc, qr, qs⟩ := slice_pieceR hR1 (4 * k0) (4 * k0 + 4) (by omega) (by rw [ql]; omega)
    rw [show 4 * k0 + 4 - 4 * k0 = 4 by omega, qb] at qr
    have qs2 : ∀ wx : World, (Instr.slice 22 (.slice da1 512 dc1) (some (.int .i64 (4 * (k0 : Int)))) (some (.int .i64 (4 * (k0 : Int) + 4))) none).run Tryd.prog wx = .ok (.slice qa 4 qc) wx := fun wx => by
      have := qs wx
      rw [show 4 * k0 + 4 - 4 * k0 = 4 by omega, show ((4 * k0 : Nat) : Int) = 4 * (k0 : Int) by omega, show ((4 * k0 + 4 : Nat) : Int) = 4 * (k0 : Int) + 4 by omega] at this
      exact this
    have HQR := hide qr
    have HSS := hide (show W14.cell? ⟨w13.heap.size, 13, none⟩ = some (.int .i64 21) ∧ W14.cell? ⟨pg, 3, none⟩ = some (.slice da1 512 dc1) ∧ W14.cell? ⟨w4.heap.size, 2, none⟩ = some (.int .i64 (k0 : Int)) from ⟨cR, cD1, cL2⟩)
    have hkI : (k0 : Int) < 128 := by omega
    have hpnI : (1 : Int) < (pn : Int) := by omega
    clear hrg1 hown1 hR1 qs qr qb ql eP ew e1 e2 hk0
    go_upto_region 21 with fail
    refine wp_region_noPanic ?_
    refine wp_region_held_drew (S := fun w' => w'.cell? ⟨w13.heap.size, 13, none⟩ = some (.int .i64 21) ∧ w'.cell? ⟨pg, 3, none⟩ = some (.slice da1 512 dc1) ∧ w'.cell? ⟨w4.heap.size, 2, none⟩ = some (.int .i64 (k0 : Int))) (by kernel_rfl) HSS.out (fun hH => ?_)
    refine wpAnyH_take (i := 0) (oi := _) (v := .pointer (some ⟨w13.heap.size, 13, none⟩)) rfl (by kernel_rfl) (by kernel_rfl) (by kernel_rfl) (fun _ _ _ h => h) (Or.inl ⟨by rfl, fun w' hw' => by go_simp⟩) hH ?_
    try simp only [Act.put, List.getElem_toArray, List.getElem_cons_zero, List.getElem_cons_succ, List.setIfInBounds_toArray, List.set_cons_zero, List.set_cons_succ]
    refine wpAnyH_take (i := 1) (oi := _) (v := .int .i64 21) rfl (by kernel_rfl) (by kernel_rfl) (by kernel_rfl) (fun _ _ _ h => h) (Or.inl ⟨by rfl, fun w' hw' => by obtain ⟨s1, s2, s3⟩ := hw'; go_simp⟩) hH ?_
    try simp only [Act.put, List.getElem_toArray, List.getElem_cons_zero, List.getElem_cons_succ, List.setIfInBounds_toArray, List.set_cons_zero, List.set_cons_succ]
    refine wpAnyH_take (i := 2) (oi := _) (v := .bool true) rfl (by kernel_rfl) (by kernel_rfl) (by kernel_rfl) (fun _ _ _ h => h) (Or.inl ⟨by rfl, fun w' hw' => by go_simp⟩) hH ?_
    try simp only [Act.put, List.getElem_toArray, List.getElem_cons_zero, List.getElem_cons_succ, List.setIfInBounds_toArray, List.set_cons_zero, List.set_cons_succ]
    refine wpAnyH_take (i := 3) (oi := _) (v := .bool true) rfl (by kernel_rfl) (by kernel_rfl) (by kernel_rfl) (fun _ _ _ h => h) (Or.inl ⟨by rfl, fun w' hw' => by go_simp⟩) hH ?_
    try simp only [Act.put, List.getElem_toArray, List.getElem_cons_zero, List.getElem_cons_succ, List.setIfInBounds_toArray, List.set_cons_zero, List.set_cons_succ]
    refine wpAnyH_take (i := 4) (oi := _) (v := .slice (some ⟨pg, 0, none⟩) pn pc) rfl (by kernel_rfl) (by kernel_rfl) (by kernel_rfl) (fun _ _ _ h => h) (Or.inl ⟨by rfl, fun w' hw' => by go_simp⟩) hH ?_
    try simp only [Act.put, List.getElem_toArray, List.getElem_cons_zero, List.getElem_cons_succ, List.setIfInBounds_toArray, List.set_cons_zero, List.set_cons_succ]
    refine wpAnyH_take (i := 5) (oi := _) (v := .pointer (some ⟨pg, 2, none⟩)) rfl (by kernel_rfl) (by kernel_rfl) (by kernel_rfl) (fun _ _ _ h => h) (Or.inl ⟨by rfl, fun w' hw' => by go_simp⟩) hH ?_
    try simp only [Act.put, List.getElem_toArray, List.getElem_cons_zero, List.getElem_cons_succ, List.setIfInBounds_toArray, List.set_cons_zero, List.set_cons_succ]
    refine wpAnyH_take (i := 6) (oi := _) (v := .pointer (some ⟨pg, 3, none⟩)) rfl (by kernel_rfl) (by kernel_rfl) (by kernel_rfl) (fun _ _ _ h => h) (Or.inl ⟨by rfl, fun w' hw' => by go_simp⟩) hH ?_
    try simp only [Act.put, List.getElem_toArray, List.getElem_cons_zero, List.getElem_cons_succ, List.setIfInBounds_toArray, List.set_cons_zero, List.set_cons_succ]
    refine wpAnyH_take (i := 7) (oi := _) (v := .slice da1 512 dc1) rfl (by kernel_rfl) (by kernel_rfl) (by kernel_rfl) (fun _ _ _ h => h) (Or.inl ⟨by rfl, fun w' hw' => by obtain ⟨s1, s2, s3⟩ := hw'; go_simp⟩) hH ?_
    try simp only [Act.put, List.getElem_toArray, List.getElem_cons_zero, List.getElem_cons_succ, List.setIfInBounds_toArray, List.set_cons_zero, List.set_cons_succ]
    refine wpAnyH_take (i := 8) (oi := _) (v := .pointer (some ⟨w4.heap.size, 2, none⟩)) rfl (by kernel_rfl) (by kernel_rfl) (by kernel_rfl) (fun _ _ _ h => h) (Or.inl ⟨by rfl, fun w' hw' => by go_simp⟩) hH ?_
    try simp only [Act.put, List.getElem_toArray, List.getElem_cons_zero, List.getElem_cons_succ, List.setIfInBounds_toArray, List.set_cons_zero, List.set_cons_succ]
    refine wpAnyH_take (i := 9) (oi := _) (v := .int .i64 (k0 : Int)) rfl (by kernel_rfl) (by kernel_rfl) (by kernel_rfl) (fun _ _ _ h => h) (Or.inl ⟨by rfl, fun w' hw' => by obtain ⟨s1, s2, s3⟩ := hw'; go_simp⟩) hH ?_
    try simp only [Act.put, List.getElem_toArray, List.getElem_cons_zero, List.getElem_cons_succ, List.setIfInBounds_toArray, List.set_cons_zero, List.set_cons_succ]
    refine wpAnyH_take (i := 10) (oi := _) (v := .int .i64 (4 * (k0 : Int))) rfl (by kernel_rfl) (by kernel_rfl) (by kernel_rfl) (fun _ _ _ h => h) (Or.inl ⟨by rfl, fun w' hw' => by have hw6 := wrapR (4 * (k0 : Int)) (by omega) (by omega); go_simp⟩) hH ?_
    try simp only [Act.put, List.getElem_toArray, List.getElem_cons_zero, List.getElem_cons_succ, List.setIfInBounds_toArray, List.set_cons_zero, List.set_cons_succ]
    refine wpAnyH_take (i := 11) (oi := _) (v := .pointer (some ⟨w4.heap.size, 2, none⟩)) rfl (by kernel_rfl) (by kernel_rfl) (by kernel_rfl) (fun _ _ _ h => h) (Or.inl ⟨by rfl, fun w' hw' => by go_simp⟩) hH ?_
    try simp only [Act.put, List.getElem_toArray, List.getElem_cons_zero, List.getElem_cons_succ, List.setIfInBounds_toArray, List.set_cons_zero, List.set_cons_succ]
    refine wpAnyH_take (i := 12) (oi := _) (v := .int .i64 (k0 : Int)) rfl (by kernel_rfl) (by kernel_rfl) (by kernel_rfl) (fun _ _ _ h => h) (Or.inl ⟨by rfl, fun w' hw' => by obtain ⟨s1, s2, s3⟩ := hw'; go_simp⟩) hH ?_
    try simp only [Act.put, List.getElem_toArray, List.getElem_cons_zero, List.getElem_cons_succ, List.setIfInBounds_toArray, List.set_cons_zero, List.set_cons_succ]
    refine wpAnyH_take (i := 13) (oi := _) (v := .int .i64 (4 * (k0 : Int))) rfl (by kernel_rfl) (by kernel_rfl) (by kernel_rfl) (fun _ _ _ h => h) (Or.inl ⟨by rfl, fun w' hw' => by have hw6 := wrapR (4 * (k0 : Int)) (by omega) (by omega); go_simp⟩) hH ?_
    try simp only [Act.put, List.getElem_toArray, List.getElem_cons_zero, List.getElem_cons_succ, List.setIfInBounds_toArray, List.set_cons_zero, List.set_cons_succ]
    refine wpAnyH_take (i := 14) (oi := _) (v := .int .i64 (4 * (k0 : Int) + 4)) rfl (by kernel_rfl) (by kernel_rfl) (by kernel_rfl) (fun _ _ _ h => h) (Or.inl ⟨by rfl, fun w' hw' => by have hw7 := wrapR (4 * (k0 : Int) + 4) (by omega) (by omega); go_simp⟩) hH ?_
    try simp only [Act.put, List.getElem_toArray, List.getElem_cons_zero, List.getElem_cons_succ, List.setIfInBounds_toArray, List.set_cons_zero, List.set_cons_succ]
    refine wpAnyH_take (i := 15) (oi := _) (v := .slice qa 4 qc) rfl (by kernel_rfl) (by kernel_rfl) (by kernel_rfl) (fun _ _ _ h => h) (Or.inl ⟨by rfl, fun w' hw' => by go_simp⟩) hH ?_
    try simp only [Act.put, List.getElem_toArray, List.getElem_cons_zero, List.getElem_cons_succ, List.setIfInBounds_toArray, List.set_cons_zero, List.set_cons_succ]
    refine wpAnyH_ready (rs := [16]) (by kernel_rfl) (by simp) ?_
    refine AllReadyH.cons (o := _) rfl (fun K hK => ?_) AllReadyH.nil
    rw [if_pos (by rfl)]
    go_simp
    obtain ⟨WX16, hWX16⟩ : ∃ WX16, WX16 = ((W14).alloc (.cells #[.int .u8 20, .int .u8 0, .int .u8 0, .int .u8 0] 5)).drew := ⟨_, rfl⟩
    have BX16 := hide (show Below (W14).heap.size (W14) WX16 from by rw [hWX16]; exact ((Below.refl _ _).alloc (Nat.le_refl _) _).drew)
    have RX16 := hide (show Rd .u8 WX16 (.slice (some ⟨(W14).heap.size, 0, none⟩) 4 4) [20, 0, 0, 0] from by rw [hWX16]; exact rd_arr (n := 4) (ms := [20, 0, 0, 0]) (show Blk ((W14).alloc (.cells #[.int .u8 20, .int .u8 0, .int .u8 0, .int .u8 0] 5)).drew (W14).heap.size _ 5 from Blk.new (W14) _ _) rfl (by decide))
    rw [← hWX16]
    clear hWX16
    refine hK.out _ _ (⟨(BX16.out.cell (p := ⟨w13.heap.size, 13, none⟩) (cell_lt HSS.out.1)).trans HSS.out.1, (BX16.out.cell (p := ⟨pg, 3, none⟩) (cell_lt HSS.out.2.1)).trans HSS.out.2.1, (BX16.out.cell (p := ⟨w4.heap.size, 2, none⟩) (cell_lt HSS.out.2.2)).trans HSS.out.2.2⟩) (fun hH => ?_)
    clear hK K
    try simp only [Act.put, List.getElem_toArray, List.getElem_cons_zero, List.getElem_cons_succ, List.setIfInBounds_toArray, List.set_cons_zero, List.set_cons_succ]
    refine wpAnyH_ready (rs := [17]) (by kernel_rfl) (by simp) ?_
    refine AllReadyH.cons (o := _) rfl (fun K hK => ?_) AllReadyH.nil
    rw [if_pos (by rfl)]
    go_simp
    refine (smB_any _ _ [20, 0, 0, 0] _ (HQR.out.below BX16.out) RX16.out).mono ?_
    rintro e w20 ⟨rfl, hw20⟩
    refine hK.out _ _ (by rw [hw20]; exact hH) (fun hH => ?_)
    clear hK K
    try simp only [Act.put, List.getElem_toArray, List.getElem_cons_zero, List.getElem_cons_succ, List.setIfInBounds_toArray, List.set_cons_zero, List.set_cons_succ]
    refine wpAnyH_take (i := 18) (oi := _) (v := .bool true) rfl (by kernel_rfl) (by kernel_rfl) (by kernel_rfl) (fun _ _ _ h => h) (Or.inl ⟨by rfl, fun w' hw' => by go_simp⟩) hH ?_
    try simp only [Act.put, List.getElem_toArray, List.getElem_cons_zero, List.getElem_cons_succ, List.setIfInBounds_toArray, List.set_cons_zero, List.set_cons_succ]
    refine wpAnyH_take (i := 19) (oi := _) (v := .bool true) rfl (by kernel_rfl) (by kernel_rfl) (by kernel_rfl) (fun _ _ _ h => h) (Or.inl ⟨by rfl, fun w' hw' => by go_simp⟩) hH ?_
    try simp only [Act.put, List.getElem_toArray, List.getElem_cons_zero, List.getElem_cons_succ, List.setIfInBounds_toArray, List.set_cons_zero, List.set_cons_succ]
    refine wpAnyH_done (by kernel_rfl) (NoPanic.normal ?_) _
    clear hH
    have LF := hide (show Below w.heap.size w w20 from by rw [hw20]; exact L14.out.trans (BX16.out.mono L14.out.size))
    go_wp2
    go_ret
    exact ⟨rfl, LF.out⟩
  · obtain ⟨k0, hk0⟩ : ∃ k0, k0 = (a - 140) % 128 := ⟨_, rfl⟩
    obtain ⟨k1, hk1⟩ : ∃ k1, k1 = (a - 140) / 128 := ⟨_, rfl⟩
    obtain rfl : L1 = 2 := by rw [HP1.out.1]; unfold plL; rw [if_neg (by omega), if_neg (by omega)]
    obtain rfl : I1 = (k0 : Int) := by rw [HP1.out.2.2, hk0]; unfold plI; rw [if_neg (by omega), if_neg (by omega)]
    obtain rfl : O1 = (k1 : Int) := by rw [HP1.out.2.1, hk1]; unfold plO; rw [if_neg (by omega)]
    obtain ⟨e1, e2, w1, w2, eP, ew1, ew2⟩ := HWr.out.c2 c
    have hk : k0 < 128 := by omega
    have hk' : k1 < 128 := by omega
    rw [← hk0] at ew1
    rw [← hk1] at ew2
    obtain ⟨ql, qb⟩ := enc_one k0 20 hk (by omega) w1 ew1
    obtain ⟨rl, rb⟩ := enc_one k1 21 hk' (by omega) w2 ew2
    have cR : W14.cell? ⟨w13.heap.size, 14, none⟩ = some (.int .i64 22) := by
      rw [HKR.out 13 (by omega)]
      show some (Value.int .i64 ((D.Ln 2).getD 0 0)) = _
      rw [e2]
      rfl
    have hpn2 : pn = 3 := by omega
    obtain ⟨pg', x1, v1, epg, hrg1, hpgl1, ys1, hP1, da1, dl1, dc1, rfl, hown1⟩ := put_at OW14.out HPN.out 1 (by omega)
    cases epg
    obtain ⟨pg'', x2, v2, epg2, hrg2, hpgl2, ys2, hP2, da2, dl2, dc2, rfl, hown2⟩ := put_at OW14.out HPN.out 2 (by omega)
    cases epg2
    rw [eP] at hP1 hP2
    simp at hP1 hP2
    obtain ⟨rfl, rfl⟩ := hP1
    obtain ⟨rfl, rfl⟩ := hP2
    have cD1 : W14.cell? ⟨pg, 3, none⟩ = some (.slice da1 dl1 dc1) := by have := hrg1 1 _ rfl; simpa using this
    have cD2 : W14.cell? ⟨pg, 5, none⟩ = some (.slice da2 dl2 dc2) := by have := hrg2 1 _ rfl; simpa using this
    have hR1 := Rd.own (k := .u8) hown1
    have hR2 := Rd.own (k := .u8) hown2
    have hdl : dl1 = 512 := by obtain ⟨_, _, e, _⟩ := hR1; injection e with _ e _; rw [e, ql]
    have hdl2 : dl2 = 512 := by obtain ⟨_, _, e, _⟩ := hR2; injection e with _ e _; rw [e, rl]
    subst hdl hdl2
    obtain ⟨qa, qc, qr, qs⟩ := slice_pieceR hR1 (4 * k0) (4 * k0 + 4) (by omega) (by rw [ql]; omega)
    rw [show 4 * k0 + 4 - 4 * k0 = 4 by omega, qb] at qr
    have qs2 : ∀ wx : World, (Instr.slice 22 (.slice da1 512 dc1) (some (.int .i64 (4 * (k0 : Int)))) (some (.int .i64 (4 * (k0 : Int) + 4))) none).run Tryd.prog wx = .ok (.slice qa 4 qc) wx := fun wx => by
      have := qs wx
      rw [show 4 * k0 + 4 - 4 * k0 = 4 by omega, show ((4 * k0 : Nat) : Int) = 4 * (k0 : Int) by omega, show ((4 * k0 + 4 : Nat) : Int) = 4 * (k0 : Int) + 4 by omega] at this
      exact this
    obtain ⟨ra, rc, rr, rs⟩ := slice_pieceR hR2 (4 * k1) (4 * k1 + 4) (by omega) (by rw [rl]; omega)
    rw [show 4 * k1 + 4 - 4 * k1 = 4 by omega, rb] at rr
    have rs2 : ∀ wx : World, (Instr.slice 22 (.slice da2 512 dc2) (some (.int .i64 (4 * (k1 : Int)))) (some (.int .i64 (4 * (k1 : Int) + 4))) none).run Tryd.prog wx = .ok (.slice ra 4 rc) wx := fun wx => by
      have := rs wx
      rw [show 4 * k1 + 4 - 4 * k1 = 4 by omega, show ((4 * k1 : Nat) : Int) = 4 * (k1 : Int) by omega, show ((4 * k1 + 4 : Nat) : Int) = 4 * (k1 : Int) + 4 by omega] at this
      exact this
    have HQR := hide qr
    have HRR2 := hide rr
    have cL1 : W14.cell? ⟨w4.heap.size, 1, none⟩ = some (.int .i64 (k1 : Int)) := (K14.out.cell 1).trans rfl
    have HSS := hide (show W14.cell? ⟨w13.heap.size, 14, none⟩ = some (.int .i64 22) ∧ W14.cell? ⟨pg, 3, none⟩ = some (.slice da1 512 dc1) ∧ W14.cell? ⟨w4.heap.size, 2, none⟩ = some (.int .i64 (k0 : Int)) ∧ W14.cell? ⟨pg, 5, none⟩ = some (.slice da2 512 dc2) ∧ W14.cell? ⟨w4.heap.size, 1, none⟩ = some (.int .i64 (k1 : Int)) from ⟨cR, cD1, cL2, cD2, cL1⟩)
    have hkI : (k0 : Int) < 128 := by omega
    have hkI1 : (k1 : Int) < 128 := by omega
    have hpnI : (1 : Int) < (pn : Int) := by omega
    clear hrg1 hown1 hR1 qs qr qb ql eP ew1 ew2 e1 e2 hk0 hk1 hrg2 hown2 hR2 rs rr rb rl
    go_upto_region 22 with fail
    refine wp_region_noPanic ?_
    refine wp_region_held_drew (S := fun w' => w'.cell? ⟨w13.heap.size, 14, none⟩ = some (.int .i64 22) ∧ w'.cell? ⟨pg, 3, none⟩ = some (.slice da1 512 dc1) ∧ w'.cell? ⟨w4.heap.size, 2, none⟩ = some (.int .i64 (k0 : Int)) ∧ w'.cell? ⟨pg, 5, none⟩ = some (.slice da2 512 dc2) ∧ w'.cell? ⟨w4.heap.size, 1, none⟩ = some (.int .i64 (k1 : Int))) (by kernel_rfl) HSS.out (fun hH => ?_)
    refine wpAnyH_take (i := 0) (oi := _) (v := .pointer (some ⟨w13.heap.size, 14, none⟩)) rfl (by kernel_rfl) (by kernel_rfl) (by kernel_rfl) (fun _ _ _ h => h) (Or.inl ⟨by rfl, fun w' hw' => by go_simp⟩) hH ?_
    try simp only [Act.put, List.getElem_toArray, List.getElem_cons_zero, List.getElem_cons_succ, List.setIfInBounds_toArray, List.set_cons_zero, List.set_cons_succ]
    refine wpAnyH_take (i := 1) (oi := _) (v := .int .i64 22) rfl (by kernel_rfl) (by kernel_rfl) (by kernel_rfl) (fun _ _ _ h => h) (Or.inl ⟨by rfl, fun w' hw' => by obtain ⟨s1, s2, s3, s4, s5⟩ := hw'; go_simp⟩) hH ?_
    try simp only [Act.put, List.getElem_toArray, List.getElem_cons_zero, List.getElem_cons_succ, List.setIfInBounds_toArray, List.set_cons_zero, List.set_cons_succ]
    refine wpAnyH_take (i := 2) (oi := _) (v := .bool true) rfl (by kernel_rfl) (by kernel_rfl) (by kernel_rfl) (fun _ _ _ h => h) (Or.inl ⟨by rfl, fun w' hw' => by go_simp⟩) hH ?_
    try simp only [Act.put, List.getElem_toArray, List.getElem_cons_zero, List.getElem_cons_succ, List.setIfInBounds_toArray, List.set_cons_zero, List.set_cons_succ]
    refine wpAnyH_take (i := 3) (oi := _) (v := .bool true) rfl (by kernel_rfl) (by kernel_rfl) (by kernel_rfl) (fun _ _ _ h => h) (Or.inl ⟨by rfl, fun w' hw' => by go_simp⟩) hH ?_
    try simp only [Act.put, List.getElem_toArray, List.getElem_cons_zero, List.getElem_cons_succ, List.setIfInBounds_toArray, List.set_cons_zero, List.set_cons_succ]
    refine wpAnyH_take (i := 4) (oi := _) (v := .slice (some ⟨pg, 0, none⟩) pn pc) rfl (by kernel_rfl) (by kernel_rfl) (by kernel_rfl) (fun _ _ _ h => h) (Or.inl ⟨by rfl, fun w' hw' => by go_simp⟩) hH ?_
    try simp only [Act.put, List.getElem_toArray, List.getElem_cons_zero, List.getElem_cons_succ, List.setIfInBounds_toArray, List.set_cons_zero, List.set_cons_succ]
    refine wpAnyH_take (i := 5) (oi := _) (v := .pointer (some ⟨pg, 2, none⟩)) rfl (by kernel_rfl) (by kernel_rfl) (by kernel_rfl) (fun _ _ _ h => h) (Or.inl ⟨by rfl, fun w' hw' => by go_simp⟩) hH ?_
    try simp only [Act.put, List.getElem_toArray, List.getElem_cons_zero, List.getElem_cons_succ, List.setIfInBounds_toArray, List.set_cons_zero, List.set_cons_succ]
    refine wpAnyH_take (i := 6) (oi := _) (v := .pointer (some ⟨pg, 3, none⟩)) rfl (by kernel_rfl) (by kernel_rfl) (by kernel_rfl) (fun _ _ _ h => h) (Or.inl ⟨by rfl, fun w' hw' => by go_simp⟩) hH ?_
    try simp only [Act.put, List.getElem_toArray, List.getElem_cons_zero, List.getElem_cons_succ, List.setIfInBounds_toArray, List.set_cons_zero, List.set_cons_succ]
    refine wpAnyH_take (i := 7) (oi := _) (v := .slice da1 512 dc1) rfl (by kernel_rfl) (by kernel_rfl) (by kernel_rfl) (fun _ _ _ h => h) (Or.inl ⟨by rfl, fun w' hw' => by obtain ⟨s1, s2, s3, s4, s5⟩ := hw'; go_simp⟩) hH ?_
    try simp only [Act.put, List.getElem_toArray, List.getElem_cons_zero, List.getElem_cons_succ, List.setIfInBounds_toArray, List.set_cons_zero, List.set_cons_succ]
    refine wpAnyH_take (i := 8) (oi := _) (v := .pointer (some ⟨w4.heap.size, 2, none⟩)) rfl (by kernel_rfl) (by kernel_rfl) (by kernel_rfl) (fun _ _ _ h => h) (Or.inl ⟨by rfl, fun w' hw' => by go_simp⟩) hH ?_
    try simp only [Act.put, List.getElem_toArray, List.getElem_cons_zero, List.getElem_cons_succ, List.setIfInBounds_toArray, List.set_cons_zero, List.set_cons_succ]
    refine wpAnyH_take (i := 9) (oi := _) (v := .int .i64 (k0 : Int)) rfl (by kernel_rfl) (by kernel_rfl) (by kernel_rfl) (fun _ _ _ h => h) (Or.inl ⟨by rfl, fun w' hw' => by obtain ⟨s1, s2, s3, s4, s5⟩ := hw'; go_simp⟩) hH ?_
    try simp only [Act.put, List.getElem_toArray, List.getElem_cons_zero, List.getElem_cons_succ, List.setIfInBounds_toArray, List.set_cons_zero, List.set_cons_succ]
    refine wpAnyH_take (i := 10) (oi := _) (v := .int .i64 (4 * (k0 : Int))) rfl (by kernel_rfl) (by kernel_rfl) (by kernel_rfl) (fun _ _ _ h => h) (Or.inl ⟨by rfl, fun w' hw' => by have hw6 := wrapR (4 * (k0 : Int)) (by omega) (by omega); go_simp⟩) hH ?_
    try simp only [Act.put, List.getElem_toArray, List.getElem_cons_zero, List.getElem_cons_succ, List.setIfInBounds_toArray, List.set_cons_zero, List.set_cons_succ]
    refine wpAnyH_take (i := 11) (oi := _) (v := .pointer (some ⟨w4.heap.size, 2, none⟩)) rfl (by kernel_rfl) (by kernel_rfl) (by kernel_rfl) (fun _ _ _ h => h) (Or.inl ⟨by rfl, fun w' hw' => by go_simp⟩) hH ?_
    try simp only [Act.put, List.getElem_toArray, List.getElem_cons_zero, List.getElem_cons_succ, List.setIfInBounds_toArray, List.set_cons_zero, List.set_cons_succ]
    refine wpAnyH_take (i := 12) (oi := _) (v := .int .i64 (k0 : Int)) rfl (by kernel_rfl) (by kernel_rfl) (by kernel_rfl) (fun _ _ _ h => h) (Or.inl ⟨by rfl, fun w' hw' => by obtain ⟨s1, s2, s3, s4, s5⟩ := hw'; go_simp⟩) hH ?_
    try simp only [Act.put, List.getElem_toArray, List.getElem_cons_zero, List.getElem_cons_succ, List.setIfInBounds_toArray, List.set_cons_zero, List.set_cons_succ]
    refine wpAnyH_take (i := 13) (oi := _) (v := .int .i64 (4 * (k0 : Int))) rfl (by kernel_rfl) (by kernel_rfl) (by kernel_rfl) (fun _ _ _ h => h) (Or.inl ⟨by rfl, fun w' hw' => by have hw6 := wrapR (4 * (k0 : Int)) (by omega) (by omega); go_simp⟩) hH ?_
    try simp only [Act.put, List.getElem_toArray, List.getElem_cons_zero, List.getElem_cons_succ, List.setIfInBounds_toArray, List.set_cons_zero, List.set_cons_succ]
    refine wpAnyH_take (i := 14) (oi := _) (v := .int .i64 (4 * (k0 : Int) + 4)) rfl (by kernel_rfl) (by kernel_rfl) (by kernel_rfl) (fun _ _ _ h => h) (Or.inl ⟨by rfl, fun w' hw' => by have hw7 := wrapR (4 * (k0 : Int) + 4) (by omega) (by omega); go_simp⟩) hH ?_
    try simp only [Act.put, List.getElem_toArray, List.getElem_cons_zero, List.getElem_cons_succ, List.setIfInBounds_toArray, List.set_cons_zero, List.set_cons_succ]
    refine wpAnyH_take (i := 15) (oi := _) (v := .slice qa 4 qc) rfl (by kernel_rfl) (by kernel_rfl) (by kernel_rfl) (fun _ _ _ h => h) (Or.inl ⟨by rfl, fun w' hw' => by go_simp⟩) hH ?_
    try simp only [Act.put, List.getElem_toArray, List.getElem_cons_zero, List.getElem_cons_succ, List.setIfInBounds_toArray, List.set_cons_zero, List.set_cons_succ]
    refine wpAnyH_ready (rs := [16]) (by kernel_rfl) (by simp) ?_
    refine AllReadyH.cons (o := _) rfl (fun K hK => ?_) AllReadyH.nil
    rw [if_pos (by rfl)]
    go_simp
    obtain ⟨WX16, hWX16⟩ : ∃ WX16, WX16 = ((W14).alloc (.cells #[.int .u8 20, .int .u8 0, .int .u8 0, .int .u8 0] 5)).drew := ⟨_, rfl⟩
    have BX16 := hide (show Below (W14).heap.size (W14) WX16 from by rw [hWX16]; exact ((Below.refl _ _).alloc (Nat.le_refl _) _).drew)
    have RX16 := hide (show Rd .u8 WX16 (.slice (some ⟨(W14).heap.size, 0, none⟩) 4 4) [20, 0, 0, 0] from by rw [hWX16]; exact rd_arr (n := 4) (ms := [20, 0, 0, 0]) (show Blk ((W14).alloc (.cells #[.int .u8 20, .int .u8 0, .int .u8 0, .int .u8 0] 5)).drew (W14).heap.size _ 5 from Blk.new (W14) _ _) rfl (by decide))
    rw [← hWX16]
    clear hWX16
    refine hK.out _ _ (⟨(BX16.out.cell (p := ⟨w13.heap.size, 14, none⟩) (cell_lt HSS.out.1)).trans HSS.out.1, (BX16.out.cell (p := ⟨pg, 3, none⟩) (cell_lt HSS.out.2.1)).trans HSS.out.2.1, (BX16.out.cell (p := ⟨w4.heap.size, 2, none⟩) (cell_lt HSS.out.2.2.1)).trans HSS.out.2.2.1, (BX16.out.cell (p := ⟨pg, 5, none⟩) (cell_lt HSS.out.2.2.2.1)).trans HSS.out.2.2.2.1, (BX16.out.cell (p := ⟨w4.heap.size, 1, none⟩) (cell_lt HSS.out.2.2.2.2)).trans HSS.out.2.2.2.2⟩) (fun hH => ?_)
    clear hK K
    try simp only [Act.put, List.getElem_toArray, List.getElem_cons_zero, List.getElem_cons_succ, List.setIfInBounds_toArray, List.set_cons_zero, List.set_cons_succ]
    refine wpAnyH_ready (rs := [17]) (by kernel_rfl) (by simp) ?_
    refine AllReadyH.cons (o := _) rfl (fun K hK => ?_) AllReadyH.nil
    rw [if_pos (by rfl)]
    go_simp
    refine (smB_any _ _ [20, 0, 0, 0] _ (HQR.out.below BX16.out) RX16.out).mono ?_
    rintro e w20 ⟨rfl, hw20⟩
    rw [hw20]
    clear hw20
    refine hK.out _ _ hH (fun hH => ?_)
    clear hK K
    try simp only [Act.put, List.getElem_toArray, List.getElem_cons_zero, List.getElem_cons_succ, List.setIfInBounds_toArray, List.set_cons_zero, List.set_cons_succ]
    refine wpAnyH_take (i := 18) (oi := _) (v := .bool true) rfl (by kernel_rfl) (by kernel_rfl) (by kernel_rfl) (fun _ _ _ h => h) (Or.inl ⟨by rfl, fun w' hw' => by go_simp⟩) hH ?_
    try simp only [Act.put, List.getElem_toArray, List.getElem_cons_zero, List.getElem_cons_succ, List.setIfInBounds_toArray, List.set_cons_zero, List.set_cons_succ]
    refine wpAnyH_take (i := 19) (oi := _) (v := .bool true) rfl (by kernel_rfl) (by kernel_rfl) (by kernel_rfl) (fun _ _ _ h => h) (Or.inl ⟨by rfl, fun w' hw' => by go_simp⟩) hH ?_
    try simp only [Act.put, List.getElem_toArray, List.getElem_cons_zero, List.getElem_cons_succ, List.setIfInBounds_toArray, List.set_cons_zero, List.set_cons_succ]
    refine wpAnyH_take (i := 20) (oi := _) (v := .slice (some ⟨pg, 0, none⟩) pn pc) rfl (by kernel_rfl) (by kernel_rfl) (by kernel_rfl) (fun _ _ _ h => h) (Or.inl ⟨by rfl, fun w' hw' => by go_simp⟩) hH ?_
    try simp only [Act.put, List.getElem_toArray, List.getElem_cons_zero, List.getElem_cons_succ, List.setIfInBounds_toArray, List.set_cons_zero, List.set_cons_succ]
    refine wpAnyH_take (i := 21) (oi := _) (v := .pointer (some ⟨pg, 4, none⟩)) rfl (by kernel_rfl) (by kernel_rfl) (by kernel_rfl) (fun _ _ _ h => h) (Or.inl ⟨by rfl, fun w' hw' => by go_simp⟩) hH ?_
    try simp only [Act.put, List.getElem_toArray, List.getElem_cons_zero, List.getElem_cons_succ, List.setIfInBounds_toArray, List.set_cons_zero, List.set_cons_succ]
    refine wpAnyH_take (i := 22) (oi := _) (v := .pointer (some ⟨pg, 5, none⟩)) rfl (by kernel_rfl) (by kernel_rfl) (by kernel_rfl) (fun _ _ _ h => h) (Or.inl ⟨by rfl, fun w' hw' => by go_simp⟩) hH ?_
    try simp only [Act.put, List.getElem_toArray, List.getElem_cons_zero, List.getElem_cons_succ, List.setIfInBounds_toArray, List.set_cons_zero, List.set_cons_succ]
    refine wpAnyH_take (i := 23) (oi := _) (v := .slice da2 512 dc2) rfl (by kernel_rfl) (by kernel_rfl) (by kernel_rfl) (fun _ _ _ h => h) (Or.inl ⟨by rfl, fun w' hw' => by obtain ⟨s1, s2, s3, s4, s5⟩ := hw'; go_simp⟩) hH ?_
    try simp only [Act.put, List.getElem_toArray, List.getElem_cons_zero, List.getElem_cons_succ, List.setIfInBounds_toArray, List.set_cons_zero, List.set_cons_succ]
    refine wpAnyH_take (i := 24) (oi := _) (v := .pointer (some ⟨w4.heap.size, 1, none⟩)) rfl (by kernel_rfl) (by kernel_rfl) (by kernel_rfl) (fun _ _ _ h => h) (Or.inl ⟨by rfl, fun w' hw' => by go_simp⟩) hH ?_
    try simp only [Act.put, List.getElem_toArray, List.getElem_cons_zero, List.getElem_cons_succ, List.setIfInBounds_toArray, List.set_cons_zero, List.set_cons_succ]
    refine wpAnyH_take (i := 25) (oi := _) (v := .int .i64 (k1 : Int)) rfl (by kernel_rfl) (by kernel_rfl) (by kernel_rfl) (fun _ _ _ h => h) (Or.inl ⟨by rfl, fun w' hw' => by obtain ⟨s1, s2, s3, s4, s5⟩ := hw'; go_simp⟩) hH ?_
    try simp only [Act.put, List.getElem_toArray, List.getElem_cons_zero, List.getElem_cons_succ, List.setIfInBounds_toArray, List.set_cons_zero, List.set_cons_succ]
    refine wpAnyH_take (i := 26) (oi := _) (v := .int .i64 (4 * (k1 : Int))) rfl (by kernel_rfl) (by kernel_rfl) (by kernel_rfl) (fun _ _ _ h => h) (Or.inl ⟨by rfl, fun w' hw' => by have hw6 := wrapR (4 * (k1 : Int)) (by omega) (by omega); go_simp⟩) hH ?_
    try simp only [Act.put, List.getElem_toArray, List.getElem_cons_zero, List.getElem_cons_succ, List.setIfInBounds_toArray, List.set_cons_zero, List.set_cons_succ]
    refine wpAnyH_take (i := 27) (oi := _) (v := .pointer (some ⟨w4.heap.size, 1, none⟩)) rfl (by kernel_rfl) (by kernel_rfl) (by kernel_rfl) (fun _ _ _ h => h) (Or.inl ⟨by rfl, fun w' hw' => by go_simp⟩) hH ?_
    try simp only [Act.put, List.getElem_toArray, List.getElem_cons_zero, List.getElem_cons_succ, List.setIfInBounds_toArray, List.set_cons_zero, List.set_cons_succ]
    refine wpAnyH_take (i := 28) (oi := _) (v := .int .i64 (k1 : Int)) rfl (by kernel_rfl) (by kernel_rfl) (by kernel_rfl) (fun _ _ _ h => h) (Or.inl ⟨by rfl, fun w' hw' => by obtain ⟨s1, s2, s3, s4, s5⟩ := hw'; go_simp⟩) hH ?_
    try simp only [Act.put, List.getElem_toArray, List.getElem_cons_zero, List.getElem_cons_succ, List.setIfInBounds_toArray, List.set_cons_zero, List.set_cons_succ]
    refine wpAnyH_take (i := 29) (oi := _) (v := .int .i64 (4 * (k1 : Int))) rfl (by kernel_rfl) (by kernel_rfl) (by kernel_rfl) (fun _ _ _ h => h) (Or.inl ⟨by rfl, fun w' hw' => by have hw6 := wrapR (4 * (k1 : Int)) (by omega) (by omega); go_simp⟩) hH ?_
    try simp only [Act.put, List.getElem_toArray, List.getElem_cons_zero, List.getElem_cons_succ, List.setIfInBounds_toArray, List.set_cons_zero, List.set_cons_succ]
    refine wpAnyH_take (i := 30) (oi := _) (v := .int .i64 (4 * (k1 : Int) + 4)) rfl (by kernel_rfl) (by kernel_rfl) (by kernel_rfl) (fun _ _ _ h => h) (Or.inl ⟨by rfl, fun w' hw' => by have hw7 := wrapR (4 * (k1 : Int) + 4) (by omega) (by omega); go_simp⟩) hH ?_
    try simp only [Act.put, List.getElem_toArray, List.getElem_cons_zero, List.getElem_cons_succ, List.setIfInBounds_toArray, List.set_cons_zero, List.set_cons_succ]
    refine wpAnyH_take (i := 31) (oi := _) (v := .slice ra 4 rc) rfl (by kernel_rfl) (by kernel_rfl) (by kernel_rfl) (fun _ _ _ h => h) (Or.inl ⟨by rfl, fun w' hw' => by go_simp⟩) hH ?_
    try simp only [Act.put, List.getElem_toArray, List.getElem_cons_zero, List.getElem_cons_succ, List.setIfInBounds_toArray, List.set_cons_zero, List.set_cons_succ]
    refine wpAnyH_ready (rs := [32]) (by kernel_rfl) (by simp) ?_
    refine AllReadyH.cons (o := _) rfl (fun K hK => ?_) AllReadyH.nil
    rw [if_pos (by rfl)]
    go_simp
    obtain ⟨WX32, hWX32⟩ : ∃ WX32, WX32 = (WX16).alloc (.cells #[.int .u8 21, .int .u8 0, .int .u8 0, .int .u8 0] 5) := ⟨_, rfl⟩
    have BQ0 := hide (show Below (WX16).heap.size (WX16) WX32 from by rw [hWX32]; exact (Below.refl _ _).alloc (Nat.le_refl _) _)
    have BX32 := hide (show Below W14.heap.size W14 WX32 from BX16.out.trans (BQ0.out.mono BX16.out.size))
    have RX32 := hide (show Rd .u8 WX32 (.slice (some ⟨(WX16).heap.size, 0, none⟩) 4 4) [21, 0, 0, 0] from by rw [hWX32]; exact rd_arr (n := 4) (ms := [21, 0, 0, 0]) (Blk.new (WX16) _ _) rfl (by decide))
    rw [← hWX32]
    clear hWX32
    refine hK.out _ _ (⟨(BX32.out.cell (p := ⟨w13.heap.size, 14, none⟩) (cell_lt HSS.out.1)).trans HSS.out.1, (BX32.out.cell (p := ⟨pg, 3, none⟩) (cell_lt HSS.out.2.1)).trans HSS.out.2.1, (BX32.out.cell (p := ⟨w4.heap.size, 2, none⟩) (cell_lt HSS.out.2.2.1)).trans HSS.out.2.2.1, (BX32.out.cell (p := ⟨pg, 5, none⟩) (cell_lt HSS.out.2.2.2.1)).trans HSS.out.2.2.2.1, (BX32.out.cell (p := ⟨w4.heap.size, 1, none⟩) (cell_lt HSS.out.2.2.2.2)).trans HSS.out.2.2.2.2⟩) (fun hH => ?_)
    clear hK K
    try simp only [Act.put, List.getElem_toArray, List.getElem_cons_zero, List.getElem_cons_succ, List.setIfInBounds_toArray, List.set_cons_zero, List.set_cons_succ]
    refine wpAnyH_ready (rs := [33]) (by kernel_rfl) (by simp) ?_
    refine AllReadyH.cons (o := _) rfl (fun K hK => ?_) AllReadyH.nil
    rw [if_pos (by rfl)]
    go_simp
    refine (smB_any _ _ [21, 0, 0, 0] _ (HRR2.out.below BX32.out) RX32.out).mono ?_
    rintro e w21 ⟨rfl, hw21⟩
    rw [hw21]
    clear hw21
    refine hK.out _ _ hH (fun hH => ?_)
    clear hK K
    try simp only [Act.put, List.getElem_toArray, List.getElem_cons_zero, List.getElem_cons_succ, List.setIfInBounds_toArray, List.set_cons_zero, List.set_cons_succ]
    refine wpAnyH_take (i := 34) (oi := _) (v := .bool true) rfl (by kernel_rfl) (by kernel_rfl) (by kernel_rfl) (fun _ _ _ h => h) (Or.inl ⟨by rfl, fun w' hw' => by go_simp⟩) hH ?_
    try simp only [Act.put, List.getElem_toArray, List.getElem_cons_zero, List.getElem_cons_succ, List.setIfInBounds_toArray, List.set_cons_zero, List.set_cons_succ]
    refine wpAnyH_take (i := 35) (oi := _) (v := .bool true) rfl (by kernel_rfl) (by kernel_rfl) (by kernel_rfl) (fun _ _ _ h => h) (Or.inl ⟨by rfl, fun w' hw' => by go_simp⟩) hH ?_
    try simp only [Act.put, List.getElem_toArray, List.getElem_cons_zero, List.getElem_cons_succ, List.setIfInBounds_toArray, List.set_cons_zero, List.set_cons_succ]
    refine wpAnyH_done (by kernel_rfl) (NoPanic.normal ?_) _
    clear hH
    have LF := hide (show Below w.heap.size w WX32 from L14.out.trans (BX32.out.mono L14.out.size))
    go_wp2
    go_ret
    exact ⟨rfl, LF.out⟩
end Go.Proofs.YtnfgldglpfgmnaaDoor
