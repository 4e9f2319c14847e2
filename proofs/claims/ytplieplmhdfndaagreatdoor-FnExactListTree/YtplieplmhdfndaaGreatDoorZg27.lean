/- The program's look at one node: nodeFault. The program's look at all nodes: nodesFault. -/
import Derived.Test.YtplieplmhdfndaaGreatDoorZg26
namespace Go.Proofs.YtplieplmhdfndaaGreatDoor
set_option linter.unusedVariables false
set_option linter.unusedSimpArgs false
open Go.RowKit

theorem zero_pts (s : Int) : allR s (List.replicate 12 0 ++ [0, 0]) 14 = true := by
  unfold allR
  rw [List.all_eq_true]
  intro k hk
  have hk := List.mem_range.1 hk
  have : (List.replicate 12 (0 : Int) ++ [0, 0]).getD k 0 = 0 := by
    match k, hk with
    | 0, _ | 1, _ | 2, _ | 3, _ | 4, _ | 5, _ | 6, _ | 7, _ | 8, _ | 9, _ | 10, _ | 11, _ | 12, _ | 13, _ => rfl
  rw [this]
  unfold okAt
  simp [ptrB]
theorem right_len0 (q : Nat) : rightR (q : Int) (List.replicate 12 0) 0 0 = decide (q ≤ 262144) := by
  unfold rightR
  rw [zero_pts]
  simp
  omega
theorem inB_ino (x : Nd) : rightIno x.k x.l x.m x.u x.g x.p x.e x.t x.c (x.d.length : Int) (List.replicate 12 0) 0 0 = inB x := by
  unfold rightIno inB
  rw [right_len0]
  congr 1
  rw [Bool.eq_iff_iff, zeroB_iff]
  unfold freeN inoI rootI
  simp [List.replicate, and_assoc]
theorem tmB_max (x : Nd) (C : Int) : decide (max (max x.e x.t) x.c ≤ C) = tmB x C := by
  unfold tmB
  rw [Bool.eq_iff_iff]
  simp
  omega
/-- The check at the head of the call, and what was there. -/
structure Kn (w wr : World) (ok : Bool) : Prop where
  ck : Ck wr w.heap.size (w.heap.size + 1) 21 ok
  old : Below w.heap.size w wr
theorem Kn.lo {w wr : World} {ok : Bool} (h : Kn w wr ok) : w.heap.size + 1 ≤ wr.heap.size := h.ck.lt
theorem Kn.below {w wr w' : World} {ok : Bool} (h : Kn w wr ok) (hb : Below wr.heap.size wr w') : Kn w w' ok := ⟨h.ck.below hb, h.old.trans (hb.mono h.old.size)⟩
theorem Kn.tch {w wr w' : World} {ok ok' : Bool} (h : Kn w wr ok) (hc : Ck w' w.heap.size (w.heap.size + 1) 21 ok') (ht : Tch w.heap.size wr w') : Kn w w' ok' :=
  ⟨hc, ht.under h.old (Nat.le_refl _) (Nat.le_of_lt h.lo)⟩
theorem Kn.code {w wr : World} {ok : Bool} (h : Kn w wr ok) : wr.cell? ⟨w.heap.size, 0, none⟩ = some (.int .i64 21) := h.ck.1
theorem Kn.fresh (w : World) : Kn w (w.alloc (.cells #[.int .i64 21, .nilIface] 127)) true := ⟨Ck.fresh w 21 _, (Below.refl _ _).alloc (Nat.le_refl _) _⟩
theorem Kn.need {w wr : World} {ok : Bool} (h : Kn w wr ok) (place : ByteArray) (hd : Bool) :
    Calls Tryz.prog 86 #[.pointer (some ⟨w.heap.size, 0, none⟩), .string place, .bool hd] wr fun e w' => e = .returned (.tuple #[]) ∧ Kn w w' (ok && hd) := by
  refine (need_any w.heap.size (w.heap.size + 1) place 21 ok hd wr h.ck (by omega) h.lo).mono ?_
  rintro e w' ⟨rfl, hc, ht⟩
  exact ⟨rfl, h.tch hc ht⟩
theorem Kn.within {w wr : World} {ok : Bool} (h : Kn w wr ok) (place : ByteArray) (n lo hi : Int) :
    Calls Tryz.prog 95 #[.pointer (some ⟨w.heap.size, 0, none⟩), .string place, .int .i64 n, .int .i64 lo, .int .i64 hi] wr fun e w' => e = .returned (.tuple #[]) ∧ Kn w w' (ok && wi n lo hi) := by
  refine (within_any w.heap.size (w.heap.size + 1) place 21 n lo hi ok wr h.ck (by omega) h.lo).mono ?_
  rintro e w' ⟨rfl, hc, ht⟩
  exact ⟨rfl, h.tch hc ht⟩
theorem Kn.inside {w wr w1 : World} {ok ok1 : Bool} {ev : Value} (h : Kn w wr ok) (hb : Below wr.heap.size wr w1) (hf : FaultIs w1 wr.heap.size ok1 ev 21) (place : ByteArray) :
    Calls Tryz.prog 61 #[.pointer (some ⟨w.heap.size, 0, none⟩), .string place, ev] w1 fun e w' => e = .returned (.tuple #[]) ∧ Kn w w' (ok && ok1) := by
  have h1 := h.below hb
  refine (inside_both w.heap.size (w.heap.size + 1) place 21 ok ok1 ev w1 h1.ck (hf.mono h.lo) (by omega) h1.lo).mono ?_
  rintro e w' ⟨rfl, hc, ht⟩
  exact ⟨rfl, h1.tch hc ht⟩
theorem Kn.fault {w wr : World} {ok : Bool} (h : Kn w wr ok) : ∃ ev, wr.cell? ⟨w.heap.size, 1, none⟩ = some ev ∧ FaultIs wr w.heap.size ok ev 21 := by
  obtain ⟨_, _, ev, h3, h4⟩ := h.ck
  refine ⟨ev, h3, ?_⟩
  rcases h4 with h4 | ⟨h4, n, h5⟩
  · exact .inl h4
  · exact .inr ⟨h4, n, h5.mono (by omega)⟩
set_option maxRecDepth 100000 in
set_option maxHeartbeats 4000000 in
theorem nodeFault_any (x : Nd) (a : Option Addr) (cap : Nat) (C : Int) (b off : Nat) (w : World) (hr : w.rangeAt b off (ndC x (.slice a x.d.length cap)).toList) (hd : Rd .u8 w (.slice a x.d.length cap) x.d) (hbd : ∀ z ∈ x.d, 0 ≤ z ∧ z < 256) (hnil : a = none → cap = 0) :
    Calls Tryz.prog 96 #[.pointer (some ⟨b, off, none⟩), .int .i64 C] w fun e w' => ∃ ev, e = .returned ev ∧ FaultIs w' w.heap.size (nodeB x C) ev 21 ∧ Below w.heap.size w w' := by
  have hbw : b < w.heap.size := cell_lt (hr 0 _ rfl)
  obtain ⟨q, hq⟩ : ∃ q, q = x.d.length := ⟨_, rfl⟩
  have hql : q ≤ maxLen := by rw [hq]; exact hd.len
  rw [← hq] at hr hd
  have HIN := hide (inB_ino x)
  rw [← hq] at HIN
  have HNB := hide (show nodeB x C = (inB x && tmB x C && (!decide (x.k = 3) || targB x.d)) from rfl)
  have HTG := hide (show targB x.d = (decide (1 ≤ q) && decide (q ≤ 255) && x.d.all (fun z => decide (z ≠ 0))) from by rw [hq]; rfl)
  have HCZ := hide (fun (W : World) (hW : Below w.heap.size w W) (b2 d2 : Nat) (h2 : W.cell? ⟨b2, 0, none⟩ = some (.int .u8 0)) => show Calls Tryz.prog 145 #[.slice a q cap, .slice (some ⟨b2, 0, none⟩) 1 d2] W fun e w' => e = .returned (.bool (!(x.d.all (fun z => decide (z ≠ 0))))) ∧ W = w' from by
    have := contains_zero a cap b2 d2 x.d W (by rw [← hq]; exact hd.below hW) hbd hnil h2
    rw [← hq] at this
    exact this)
  have HR := hide (show ∀ W, Below w.heap.size w W → W.rangeAt b off (ndC x (.slice a q cap)).toList from fun W hb i u hu => (hb.cell (p := ⟨b, off + i, none⟩) hbw).trans (hr i u hu))
  have K1 := hide (Kn.fresh w)
  obtain ⟨W1, hW1⟩ : ∃ W1, W1 = w.alloc (.cells #[.int .i64 21, .nilIface] 127) := ⟨_, rfl⟩
  rw [← hW1] at K1
  have HW1 := hide hW1
  have HQ := hide hq
  clear hW1 hr hd hbd hnil hq
  go_enter Tryz.func96, Tryz.ntmps96
  go_upto_region 2 with fail
  rw [← HW1.out]
  clear HW1
  refine wp_region_noPanic ?_
  refine wp_region_held_drew (S := fun w' => Below w.heap.size w w' ∧ w'.cell? ⟨w.heap.size, 0, none⟩ = some (.int .i64 21)) (by kernel_rfl) ⟨K1.out.old.drew, K1.out.code⟩ (fun hH => ?_)
  refine wpAnyH_take (i := 0) (oi := _) (v := .pointer (some ⟨b, off, none⟩)) rfl (by kernel_rfl) (by kernel_rfl) (by kernel_rfl) (fun _ _ _ h => h) (Or.inl ⟨by rfl, fun w' hw' => by go_simp⟩) hH ?_
  try simp only [Act.put, List.getElem_toArray, List.getElem_cons_zero, List.getElem_cons_succ, List.setIfInBounds_toArray, List.set_cons_zero, List.set_cons_succ]
  refine wpAnyH_take (i := 1) (oi := _) (v := .pointer (some ⟨b, off, none⟩)) rfl (by kernel_rfl) (by kernel_rfl) (by kernel_rfl) (fun _ _ _ h => h) (Or.inl ⟨by rfl, fun w' hw' => by go_simp⟩) hH ?_
  try simp only [Act.put, List.getElem_toArray, List.getElem_cons_zero, List.getElem_cons_succ, List.setIfInBounds_toArray, List.set_cons_zero, List.set_cons_succ]
  refine wpAnyH_take (i := 2) (oi := _) (v := .pointer (some ⟨b, off, none⟩)) rfl (by kernel_rfl) (by kernel_rfl) (by kernel_rfl) (fun _ _ _ h => h) (Or.inl ⟨by rfl, fun w' hw' => by go_simp⟩) hH ?_
  try simp only [Act.put, List.getElem_toArray, List.getElem_cons_zero, List.getElem_cons_succ, List.setIfInBounds_toArray, List.set_cons_zero, List.set_cons_succ]
  refine wpAnyH_take (i := 3) (oi := _) (v := .pointer (some ⟨b, off + 9, none⟩)) rfl (by kernel_rfl) (by kernel_rfl) (by kernel_rfl) (fun _ _ _ h => h) (Or.inl ⟨by rfl, fun w' hw' => by go_simp⟩) hH ?_
  try simp only [Act.put, List.getElem_toArray, List.getElem_cons_zero, List.getElem_cons_succ, List.setIfInBounds_toArray, List.set_cons_zero, List.set_cons_succ]
  refine wpAnyH_take (i := 4) (oi := _) (v := .slice a q cap) rfl (by kernel_rfl) (by kernel_rfl) (by kernel_rfl) (fun _ _ _ h => h) (Or.inl ⟨by rfl, fun w' hw' => by have h9 := HR.out w' hw'.1 9 _ rfl; go_simp⟩) hH ?_
  try simp only [Act.put, List.getElem_toArray, List.getElem_cons_zero, List.getElem_cons_succ, List.setIfInBounds_toArray, List.set_cons_zero, List.set_cons_succ]
  refine wpAnyH_take (i := 5) (oi := _) (v := .int .i64 (q : Int)) rfl (by kernel_rfl) (by kernel_rfl) (by kernel_rfl) (fun _ _ _ h => h) (Or.inl ⟨by rfl, fun w' hw' => by go_simp⟩) hH ?_
  try simp only [Act.put, List.getElem_toArray, List.getElem_cons_zero, List.getElem_cons_succ, List.setIfInBounds_toArray, List.set_cons_zero, List.set_cons_succ]
  refine wpAnyH_take (i := 6) (oi := _) (v := .agg #[.int .i64 (q : Int), .int .i64 0, .int .i64 0, .int .i64 0, .int .i64 0, .int .i64 0, .int .i64 0, .int .i64 0, .int .i64 0, .int .i64 0, .int .i64 0, .int .i64 0, .int .i64 0, .int .i64 0, .int .i64 0]) rfl (by kernel_rfl) (by kernel_rfl) (by kernel_rfl) (fun _ _ _ h => h) (Or.inl ⟨by rfl, fun w' hw' => by go_simp⟩) hH ?_
  try simp only [Act.put, List.getElem_toArray, List.getElem_cons_zero, List.getElem_cons_succ, List.setIfInBounds_toArray, List.set_cons_zero, List.set_cons_succ]
  refine wpAnyH_take (i := 8) (oi := _) (v := .pointer (some ⟨w.heap.size, 0, none⟩)) rfl (by kernel_rfl) (by kernel_rfl) (by kernel_rfl) (fun _ _ _ h => h) (Or.inl ⟨by rfl, fun w' hw' => by go_simp⟩) hH ?_
  try simp only [Act.put, List.getElem_toArray, List.getElem_cons_zero, List.getElem_cons_succ, List.setIfInBounds_toArray, List.set_cons_zero, List.set_cons_succ]
  refine wpAnyH_take (i := 9) (oi := _) (v := .int .i64 21) rfl (by kernel_rfl) (by kernel_rfl) (by kernel_rfl) (fun _ _ _ h => h) (Or.inl ⟨by rfl, fun w' hw' => by have h9 := hw'.2; go_simp⟩) hH ?_
  try simp only [Act.put, List.getElem_toArray, List.getElem_cons_zero, List.getElem_cons_succ, List.setIfInBounds_toArray, List.set_cons_zero, List.set_cons_succ]
  have KD := hide (K1.out.below ((Below.refl _ _).drew))
  clear hH
  refine wpAnyH_ready (rs := [7]) (by kernel_rfl) (by simp) ?_
  refine AllReadyH.cons (o := _) rfl (fun K hK => ?_) AllReadyH.nil
  go_simp
  refine (inodeOf_any x (.slice a q cap) (q : Int) b off _ (HR.out _ KD.out.old)).mono ?_
  rintro e w2 ⟨rfl, b2⟩
  have K2 := hide (KD.out.below b2)
  refine hK.out _ _ ⟨K2.out.old, K2.out.code⟩ (fun hH2 => ?_)
  clear hK K b2 KD hH2
  try simp only [Act.put, List.getElem_toArray, List.getElem_cons_zero, List.getElem_cons_succ, List.setIfInBounds_toArray, List.set_cons_zero, List.set_cons_succ]
  refine wpAnyH_ready (rs := [10]) (by kernel_rfl) (by simp) ?_
  refine AllReadyH.cons (o := _) rfl (fun K hK => ?_) AllReadyH.nil
  go_simp
  refine (inodeFault_any x.k x.l x.m x.u x.g x.p x.e x.t x.c (q : Int) (List.replicate 12 0) 0 0 21 w2 rfl).mono ?_
  rintro e w3 ⟨ev3, rfl, f3, b3⟩
  have K3 := hide (K2.out.below b3)
  rw [HIN.out] at f3
  have F3 := hide (K2.out.inside b3 f3)
  refine hK.out _ _ ⟨K3.out.old, K3.out.code⟩ (fun hH3 => ?_)
  clear hK K hH3 b3 f3 K2
  try simp only [Act.put, List.getElem_toArray, List.getElem_cons_zero, List.getElem_cons_succ, List.setIfInBounds_toArray, List.set_cons_zero, List.set_cons_succ]
  refine wpAnyH_ready (rs := [11]) (by kernel_rfl) (by simp) ?_
  refine AllReadyH.cons (o := _) rfl (fun K hK => ?_) AllReadyH.nil
  go_simp
  refine (F3.out _).mono ?_
  rintro e w4 ⟨rfl, k4⟩
  have K4 := hide k4
  refine hK.out _ _ ⟨K4.out.old, K4.out.code⟩ (fun hH4 => ?_)
  clear hK K hH4 k4 F3 K3
  try simp only [Act.put, List.getElem_toArray, List.getElem_cons_zero, List.getElem_cons_succ, List.setIfInBounds_toArray, List.set_cons_zero, List.set_cons_succ]
  refine wpAnyH_done (by kernel_rfl) (NoPanic.normal ?_) _
  rw [Bool.true_and] at K4
  go_upto_region 3 with fail
  refine wp_region_noPanic ?_
  refine wp_region_held_drew (S := fun w' => Below w.heap.size w w') (by kernel_rfl) K4.out.old.drew (fun hH => ?_)
  refine wpAnyH_take (i := 0) (oi := _) (v := .pointer (some ⟨b, off, none⟩)) rfl (by kernel_rfl) (by kernel_rfl) (by kernel_rfl) (fun _ _ _ h => h) (Or.inl ⟨by rfl, fun w' hw' => by go_simp⟩) hH ?_
  try simp only [Act.put, List.getElem_toArray, List.getElem_cons_zero, List.getElem_cons_succ, List.setIfInBounds_toArray, List.set_cons_zero, List.set_cons_succ]
  refine wpAnyH_take (i := 1) (oi := _) (v := .pointer (some ⟨b, off, none⟩)) rfl (by kernel_rfl) (by kernel_rfl) (by kernel_rfl) (fun _ _ _ h => h) (Or.inl ⟨by rfl, fun w' hw' => by go_simp⟩) hH ?_
  try simp only [Act.put, List.getElem_toArray, List.getElem_cons_zero, List.getElem_cons_succ, List.setIfInBounds_toArray, List.set_cons_zero, List.set_cons_succ]
  refine wpAnyH_take (i := 2) (oi := _) (v := .pointer (some ⟨b, off + 6, none⟩)) rfl (by kernel_rfl) (by kernel_rfl) (by kernel_rfl) (fun _ _ _ h => h) (Or.inl ⟨by rfl, fun w' hw' => by go_simp⟩) hH ?_
  try simp only [Act.put, List.getElem_toArray, List.getElem_cons_zero, List.getElem_cons_succ, List.setIfInBounds_toArray, List.set_cons_zero, List.set_cons_succ]
  refine wpAnyH_take (i := 3) (oi := _) (v := .int .i64 x.e) rfl (by kernel_rfl) (by kernel_rfl) (by kernel_rfl) (fun _ _ _ h => h) (Or.inl ⟨by rfl, fun w' hw' => by have h9 := HR.out w' hw' 6 _ rfl; go_simp⟩) hH ?_
  try simp only [Act.put, List.getElem_toArray, List.getElem_cons_zero, List.getElem_cons_succ, List.setIfInBounds_toArray, List.set_cons_zero, List.set_cons_succ]
  refine wpAnyH_take (i := 4) (oi := _) (v := .pointer (some ⟨b, off, none⟩)) rfl (by kernel_rfl) (by kernel_rfl) (by kernel_rfl) (fun _ _ _ h => h) (Or.inl ⟨by rfl, fun w' hw' => by go_simp⟩) hH ?_
  try simp only [Act.put, List.getElem_toArray, List.getElem_cons_zero, List.getElem_cons_succ, List.setIfInBounds_toArray, List.set_cons_zero, List.set_cons_succ]
  refine wpAnyH_take (i := 5) (oi := _) (v := .pointer (some ⟨b, off, none⟩)) rfl (by kernel_rfl) (by kernel_rfl) (by kernel_rfl) (fun _ _ _ h => h) (Or.inl ⟨by rfl, fun w' hw' => by go_simp⟩) hH ?_
  try simp only [Act.put, List.getElem_toArray, List.getElem_cons_zero, List.getElem_cons_succ, List.setIfInBounds_toArray, List.set_cons_zero, List.set_cons_succ]
  refine wpAnyH_take (i := 6) (oi := _) (v := .pointer (some ⟨b, off + 7, none⟩)) rfl (by kernel_rfl) (by kernel_rfl) (by kernel_rfl) (fun _ _ _ h => h) (Or.inl ⟨by rfl, fun w' hw' => by go_simp⟩) hH ?_
  try simp only [Act.put, List.getElem_toArray, List.getElem_cons_zero, List.getElem_cons_succ, List.setIfInBounds_toArray, List.set_cons_zero, List.set_cons_succ]
  refine wpAnyH_take (i := 7) (oi := _) (v := .int .i64 x.t) rfl (by kernel_rfl) (by kernel_rfl) (by kernel_rfl) (fun _ _ _ h => h) (Or.inl ⟨by rfl, fun w' hw' => by have h9 := HR.out w' hw' 7 _ rfl; go_simp⟩) hH ?_
  try simp only [Act.put, List.getElem_toArray, List.getElem_cons_zero, List.getElem_cons_succ, List.setIfInBounds_toArray, List.set_cons_zero, List.set_cons_succ]
  refine wpAnyH_take (i := 8) (oi := _) (v := .pointer (some ⟨b, off, none⟩)) rfl (by kernel_rfl) (by kernel_rfl) (by kernel_rfl) (fun _ _ _ h => h) (Or.inl ⟨by rfl, fun w' hw' => by go_simp⟩) hH ?_
  try simp only [Act.put, List.getElem_toArray, List.getElem_cons_zero, List.getElem_cons_succ, List.setIfInBounds_toArray, List.set_cons_zero, List.set_cons_succ]
  refine wpAnyH_take (i := 9) (oi := _) (v := .pointer (some ⟨b, off, none⟩)) rfl (by kernel_rfl) (by kernel_rfl) (by kernel_rfl) (fun _ _ _ h => h) (Or.inl ⟨by rfl, fun w' hw' => by go_simp⟩) hH ?_
  try simp only [Act.put, List.getElem_toArray, List.getElem_cons_zero, List.getElem_cons_succ, List.setIfInBounds_toArray, List.set_cons_zero, List.set_cons_succ]
  refine wpAnyH_take (i := 10) (oi := _) (v := .pointer (some ⟨b, off + 8, none⟩)) rfl (by kernel_rfl) (by kernel_rfl) (by kernel_rfl) (fun _ _ _ h => h) (Or.inl ⟨by rfl, fun w' hw' => by go_simp⟩) hH ?_
  try simp only [Act.put, List.getElem_toArray, List.getElem_cons_zero, List.getElem_cons_succ, List.setIfInBounds_toArray, List.set_cons_zero, List.set_cons_succ]
  refine wpAnyH_take (i := 11) (oi := _) (v := .int .i64 x.c) rfl (by kernel_rfl) (by kernel_rfl) (by kernel_rfl) (fun _ _ _ h => h) (Or.inl ⟨by rfl, fun w' hw' => by have h9 := HR.out w' hw' 8 _ rfl; go_simp⟩) hH ?_
  try simp only [Act.put, List.getElem_toArray, List.getElem_cons_zero, List.getElem_cons_succ, List.setIfInBounds_toArray, List.set_cons_zero, List.set_cons_succ]
  refine wpAnyH_take (i := 12) (oi := _) (v := .int .i64 (max (max x.e x.t) x.c)) rfl (by kernel_rfl) (by kernel_rfl) (by kernel_rfl) (fun _ _ _ h => h) (Or.inl ⟨by rfl, fun w' hw' => by go_simp; repeat (first | omega | split)⟩) hH ?_
  try simp only [Act.put, List.getElem_toArray, List.getElem_cons_zero, List.getElem_cons_succ, List.setIfInBounds_toArray, List.set_cons_zero, List.set_cons_succ]
  refine wpAnyH_take (i := 13) (oi := _) (v := .int .i64 C) rfl (by kernel_rfl) (by kernel_rfl) (by kernel_rfl) (fun _ _ _ h => h) (Or.inl ⟨by rfl, fun w' hw' => by go_simp⟩) hH ?_
  try simp only [Act.put, List.getElem_toArray, List.getElem_cons_zero, List.getElem_cons_succ, List.setIfInBounds_toArray, List.set_cons_zero, List.set_cons_succ]
  refine wpAnyH_take (i := 14) (oi := _) (v := .bool (tmB x C)) rfl (by kernel_rfl) (by kernel_rfl) (by kernel_rfl) (fun _ _ _ h => h) (Or.inl ⟨by rfl, fun w' hw' => by rw [← tmB_max]; go_simp⟩) hH ?_
  try simp only [Act.put, List.getElem_toArray, List.getElem_cons_zero, List.getElem_cons_succ, List.setIfInBounds_toArray, List.set_cons_zero, List.set_cons_succ]
  have KD := hide (K4.out.below ((Below.refl _ _).drew))
  clear hH K4
  refine wpAnyH_ready (rs := [15]) (by kernel_rfl) (by simp) ?_
  refine AllReadyH.cons (o := _) rfl (fun K hK => ?_) AllReadyH.nil
  go_simp
  refine (KD.out.need _ _).mono ?_
  rintro e w5 ⟨rfl, k5⟩
  have K5 := hide k5
  refine hK.out _ _ K5.out.old (fun hH5 => ?_)
  clear hK K hH5 k5 KD
  try simp only [Act.put, List.getElem_toArray, List.getElem_cons_zero, List.getElem_cons_succ, List.setIfInBounds_toArray, List.set_cons_zero, List.set_cons_succ]
  refine wpAnyH_done (by kernel_rfl) (NoPanic.normal ?_) _
  have c0 : w5.cell? ⟨b, off, none⟩ = some (.int .i64 x.k) := HR.out w5 K5.out.old 0 _ rfl
  by_cases hk : x.k = 3
  rotate_left
  · have hkb : (x.k == 3) = false := by simpa using hk
    have HNE := hide (show nodeB x C = (inB x && tmB x C) from by rw [HNB.out, decide_eq_false hk]; simp)
    obtain ⟨ev, ce, hf⟩ := K5.out.fault
    have HF := hide hf
    clear hk hf
    go_wp2
    go_ret
    exact ⟨_, rfl, by rw [HNE.out]; exact HF.out, K5.out.old⟩
  have hkb : (x.k == 3) = true := by simp [hk]
  have HNE := hide (show nodeB x C = (inB x && tmB x C && wi (q : Int) 1 255 && x.d.all (fun z => decide (z ≠ 0))) from by
    rw [HNB.out, decide_eq_true hk, HTG.out, Bool.and_assoc (inB x && tmB x C)]
    congr 1
    unfold wi
    congr 1
    rw [Bool.eq_iff_iff]
    simp
    omega)
  clear hk
  have c9 : w5.cell? ⟨b, off + 9, none⟩ = some (.slice a q cap) := HR.out w5 K5.out.old 9 _ rfl
  go_wp2_with (go_at_call 95; fail)
  refine (K5.out.within _ (q : Int) 1 255).mono ?_
  rintro e w6 ⟨rfl, k6⟩
  have K6 := hide k6
  clear k6 c9 c0 hkb
  have c9 : w6.cell? ⟨b, off + 9, none⟩ = some (.slice a q cap) := HR.out w6 K6.out.old 9 _ rfl
  go_wp2_with (go_at_call 145; fail)
  have hAl : Below w6.heap.size w6 (w6.alloc (.cells #[.int .u8 0] 5)) := (Below.refl _ _).alloc (Nat.le_refl _) _
  have K7 := hide (K6.out.below hAl)
  refine (HCZ.out _ K7.out.old w6.heap.size 1 (by simp)).mono ?_
  rintro e w7 ⟨rfl, rfl⟩
  clear c9 hAl
  obtain ⟨zb, hzb⟩ : ∃ zb, zb = x.d.all (fun z => decide (z ≠ 0)) := ⟨_, rfl⟩
  rw [← hzb] at HNE
  rw [← hzb]
  have HN6 := hide (fun (place : ByteArray) => show Calls Tryz.prog 86 #[.pointer (some ⟨w.heap.size, 0, none⟩), .string place, .bool zb] _ _ from K7.out.need place zb)
  clear hzb
  go_wp2_with (go_at_call 86; fail)
  refine (HN6.out _).mono ?_
  rintro e w8 ⟨rfl, k8⟩
  obtain ⟨ev, ce, hf⟩ := k8.fault
  have HF := hide hf
  have K8 := hide k8
  clear hf k8
  go_wp2
  go_ret
  exact ⟨_, rfl, by rw [HNE.out]; exact HF.out, K8.out.old⟩
end Go.Proofs.YtplieplmhdfndaaGreatDoor

namespace Go.Proofs.YtplieplmhdfndaaGreatDoor
set_option linter.unusedVariables false
set_option linter.unusedSimpArgs false
open Go.RowKit

theorem Kn.withinC {w wr : World} {ok : Bool} {c : Nat} (h : Kn w wr ok) (hc : c = w.heap.size) (place : ByteArray) (n lo hi : Int) :
    Calls Tryz.prog 95 #[.pointer (some ⟨c, 0, none⟩), .string place, .int .i64 n, .int .i64 lo, .int .i64 hi] wr fun e w' => e = .returned (.tuple #[]) ∧ Kn w w' (ok && wi n lo hi) := by subst hc; exact h.within place n lo hi
theorem Kn.insideC {w wr w1 : World} {ok ok1 : Bool} {ev : Value} {c : Nat} (h : Kn w wr ok) (hc : c = w.heap.size) (hb : Below wr.heap.size wr w1) (hf : FaultIs w1 wr.heap.size ok1 ev 21) (place : ByteArray) :
    Calls Tryz.prog 61 #[.pointer (some ⟨c, 0, none⟩), .string place, ev] w1 fun e w' => e = .returned (.tuple #[]) ∧ Kn w w' (ok && ok1) := by subst hc; exact h.inside hb hf place
theorem Kn.faultC {w wr : World} {ok : Bool} {c : Nat} (h : Kn w wr ok) (hc : c = w.heap.size) : ∃ ev, wr.cell? ⟨c, 1, none⟩ = some ev ∧ FaultIs wr w.heap.size ok ev 21 := by subst hc; exact h.fault
/-- The first k nodes are right, each alone. -/
def allN (L : List Nd) (C : Int) : Nat → Bool
  | 0 => true
  | k + 1 => allN L C k && nodeB (ndAt L k) C
theorem allN_iff (L : List Nd) (C : Int) : ∀ k, allN L C k = true ↔ ∀ i, i < k → nodeB (ndAt L i) C = true
  | 0 => by simp [allN]
  | k + 1 => by
    unfold allN
    rw [Bool.and_eq_true, allN_iff L C k]
    constructor
    · rintro ⟨h1, h2⟩ i hi
      rcases Nat.lt_or_ge i k with h | h
      · exact h1 i h
      · have : i = k := by omega
        subst this; exact h2
    · intro h
      exact ⟨fun i hi => h i (by omega), h k (by omega)⟩
/-- What nodesFault asks. -/
def nsB (C : Int) (L : List Nd) : Bool := wi C 1 1099511627776 && wi (L.length : Int) 2 1001 && allN L C L.length && wi (totN L : Int) 0 1048576
/-- A nil slice has no room. -/
def NilV (vs : List Value) : Prop := ∀ (i : Nat) (a : Option Addr) (n c : Nat), vs[i]? = some (Value.slice a n c) → a = none → c = 0
set_option maxRecDepth 100000 in
set_option maxHeartbeats 4000000 in
theorem nodesFault_any (C : Int) (v : Value) (L : List Nd) (vs : List Value) (w : World) (h : RdN w 9 v (L.map ndE) vs) (hT : totN L ≤ 1099511627776) (hL : L.length ≤ 1048576) (hbd : ∀ i, i < L.length → ∀ z ∈ (ndAt L i).d, 0 ≤ z ∧ z < 256) (hnil : NilV vs) :
    Calls Tryz.prog 62 #[.agg #[.int .i64 C, v]] w fun e w' => ∃ ev, e = .returned ev ∧ FaultIs w' w.heap.size (nsB C L) ev 21 ∧ Below w.heap.size w w' := by
  obtain ⟨a, cap, rfl, _⟩ := h.row
  rw [List.length_map] at h ⊢
  obtain ⟨N, hN⟩ : ∃ N, N = L.length := ⟨_, rfl⟩
  rw [← hN] at h hL ⊢
  have HN := hide hN
  have HR := hide h
  have HBD := hide hbd
  have HNIL := hide hnil
  have HTT := hide hT
  clear hN h hbd hnil hT
  obtain ⟨W0, hW0⟩ : ∃ W0, W0 = w.alloc (.cells #[.int .i64 C, .slice a N cap] 29) := ⟨_, rfl⟩
  have b0 : Below w.heap.size w W0 := by rw [hW0]; exact (Below.refl _ _).alloc (Nat.le_refl _) _
  have HS := hide (show w.heap.size + 1 = W0.heap.size from by rw [hW0]; simp)
  have k0 : Blk W0 w.heap.size #[.int .i64 C, .slice a N cap] 29 := by rw [hW0]; exact Blk.new w _ _
  have HST := hide (show ∀ W, Below W0.heap.size W0 W → W.cell? ⟨w.heap.size, 0, none⟩ = some (.int .i64 C) ∧ W.cell? ⟨w.heap.size, 1, none⟩ = some (.slice a N cap) ∧ RdN W 9 (.slice a N cap) (L.map ndE) vs ∧ Below w.heap.size w W from fun W hb => by
    have h1 := k0.below hb k0.lt
    exact ⟨(h1.cell 0).trans rfl, (h1.cell 1).trans rfl, HR.out.below (b0.trans (hb.mono b0.size)), b0.trans (hb.mono b0.size)⟩)
  have K1 := hide (Kn.fresh W0)
  obtain ⟨W1, hW1⟩ : ∃ W1, W1 = W0.alloc (.cells #[.int .i64 21, .nilIface] 127) := ⟨_, rfl⟩
  rw [← hW1] at K1
  have HW1 := hide hW1
  have HW0 := hide hW0
  obtain ⟨cc, hcc⟩ : ∃ cc, cc = w.heap.size + 1 := ⟨_, rfl⟩
  have HCC := hide (show cc = W0.heap.size from by rw [hcc]; exact HS.out)
  have HC1 := hide hcc
  clear hW1 hW0 b0 k0 HR hcc
  go_enter Tryz.func62, Tryz.ntmps62
  go_upto_region 2 with fail
  rw [← HW0.out, ← HC1.out]
  rw [← HW1.out]
  clear HW0 HW1 HC1
  have f1 := HST.out W1 K1.out.old
  have f10 := f1.1
  clear f1
  go_wp2_with (go_at_call 95; fail)
  refine (K1.out.withinC HCC.out _ C 1 1099511627776).mono ?_
  rintro e w2 ⟨rfl, k2⟩
  have K2 := hide k2
  clear k2 f10 K1
  have f21 := (HST.out w2 K2.out.old).2.1
  go_wp2_with (go_at_call 95; fail)
  refine (K2.out.withinC HCC.out _ (N : Int) 2 1001).mono ?_
  rintro e w3 ⟨rfl, k3⟩
  have K3 := hide k3
  clear k3 f21 K2
  have f31 := (HST.out w3 K3.out.old).2.1
  rw [Bool.true_and] at K3
  obtain ⟨ok0, hok0⟩ : ∃ ok0, ok0 = (wi C 1 1099511627776 && wi (N : Int) 2 1001) := ⟨_, rfl⟩
  rw [← hok0] at K3
  have HOK := hide hok0
  clear hok0
  go_upto_region 6 with fail
  clear f31
  go_loopw [4, 18] (fun sv iv wr => ∃ k : Nat, k ≤ N ∧ iv = .int .i64 (k : Int) ∧ sv = .int .i64 (totN (L.take k) : Int) ∧ Hid (Kn W0 wr (ok0 && allN L C k))) (fun _ iv _ => N - (intOf iv).toNat)
  case atStart => exact ⟨0, Nat.zero_le _, rfl, rfl, by rw [show allN L C 0 = true from rfl, Bool.and_true]; exact K3⟩
  case round =>
    obtain ⟨k, hk, rfl, rfl, KR⟩ := hrel
    have HTB := hide (show totN (L.take k) ≤ 1099511627776 from Nat.le_trans (totN_le L k) HTT.out)
    by_cases hlt : k < N
    · have fr := HST.out wr KR.out.old
      obtain ⟨b, off, cap', na, nc, e0, hb, hr, hvi, hrange⟩ := node_at fr.2.2.1 (i := k) (by rw [← HN.out]; omega)
      injection e0 with e1 e2 e3
      subst e1 e3
      have f0 := fr.1
      have f1 := fr.2.1
      have HRG := hide hrange
      have HT1 := hide (totN_succ L k (by rw [← HN.out]; exact hlt))
      have HTB1 := hide (show totN (L.take (k + 1)) ≤ 1099511627776 from Nat.le_trans (totN_le L (k + 1)) HTT.out)
      have HNC := hide (nodeFault_any (ndAt L k) na nc C b (off + k * 10) wr hrange hr (HBD.out k (by rw [← HN.out]; omega)) (HNIL.out k na _ nc hvi))
      obtain ⟨q, hq⟩ : ∃ q, q = (ndAt L k).d.length := ⟨_, rfl⟩
      rw [← hq] at HT1 HRG
      obtain ⟨tt, htt⟩ : ∃ tt, tt = totN (L.take k) := ⟨_, rfl⟩
      obtain ⟨tu, htu⟩ : ∃ tu, tu = totN (L.take (k + 1)) := ⟨_, rfl⟩
      rw [← htt, ← htu] at HT1
      rw [← htt] at HTB ⊢
      rw [← htu] at HTB1
      have HTU := hide htu
      have hbt : tt + q ≤ 1099511627776 := by have := HT1.out; have := HTB1.out; omega
      have HVI := hide hvi
      have HQ := hide hq
      clear e2 hrange hr hvi hb fr htt htu hq
      go_wp2_with (go_at_call 96; fail)
      refine HNC.out.mono ?_
      rintro e w4 ⟨ev4, rfl, hf4, b4⟩
      have HI := hide (fun place => KR.out.insideC HCC.out b4 hf4 place)
      have K4 := hide (KR.out.below b4)
      clear hf4 b4 f0 f1 HNC
      go_wp2_with (go_at_call 61; fail)
      refine (HI.out _).mono ?_
      rintro e w5 ⟨rfl, k5⟩
      have K5 := hide (show Kn W0 w5 (ok0 && allN L C (k + 1)) from by rw [show allN L C (k + 1) = (allN L C k && nodeB (ndAt L k) C) from rfl, ← Bool.and_assoc]; exact k5)
      have HQ9 := hide (show w5.cell? ⟨b, off + k * 10 + 9, none⟩ = some (.slice na q nc) from by
        obtain ⟨b', off', cap', na', nc', e0, _, _, hvi', hrange'⟩ := node_at (HST.out w5 K5.out.old).2.2.1 (i := k) (by rw [← HN.out]; omega)
        injection e0 with e1 e2 e3
        injection e1 with e1
        injection e1 with e4 e5
        subst e4 e5
        rw [HVI.out] at hvi'
        injection hvi' with hvi'
        injection hvi' with h1 h2 h3
        rw [HQ.out, h1, h3]
        exact hrange' 9 _ rfl)
      have f9 := HQ9.out
      clear k5 HI K4 KR
      go_wp2_with fail
      go_roundw
      case rel => exact ⟨k + 1, by omega, by go_num, by rw [← HTU.out, HT1.out]; go_num, K5⟩
      case measure => simp [intOf]; omega
    · have hkN : k = N := by omega
      have HTE := hide (show totN (L.take k) = totN L from by rw [hkN, HN.out, List.take_length])
      rw [HTE.out] at HTB ⊢
      obtain ⟨tt, htt⟩ : ∃ tt, tt = totN L := ⟨_, rfl⟩
      rw [← htt] at HTB ⊢
      have HNS := hide (show nsB C L = ((ok0 && allN L C k) && wi (tt : Int) 0 1048576) from by rw [HOK.out, hkN, htt, HN.out]; rfl)
      clear htt hkN
      go_wp2_with (go_at_call 95; fail)
      refine (KR.out.withinC HCC.out _ (tt : Int) 0 1048576).mono ?_
      rintro e w5 ⟨rfl, k5⟩
      obtain ⟨ev, ce, hf⟩ := k5.faultC HCC.out
      have HF := hide (hf.mono (show w.heap.size ≤ W0.heap.size from by have := HS.out; omega))
      have HB := hide (HST.out w5 k5.old).2.2.2
      clear hf k5
      go_wp2
      go_ret
      exact ⟨_, rfl, by rw [HNS.out]; exact HF.out, HB.out⟩
end Go.Proofs.YtplieplmhdfndaaGreatDoor
