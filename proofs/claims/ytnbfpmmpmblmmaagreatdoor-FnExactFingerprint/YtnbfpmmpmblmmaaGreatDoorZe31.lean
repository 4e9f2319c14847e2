/- The library's contract on bytes.Contains, laid at this program (as the library's own tool prints it), and what it says of a byte 0. The program's look at one node: nodeFault. -/
import Derived.Shelf.Bytes.SlIndexAt
import Derived.Test.YtnbfpmmpmblmmaaGreatDoorRows
import Derived.Test.YtnbfpmmpmblmmaaGreatDoorZe01
import Derived.Test.YtnbfpmmpmblmmaaGreatDoorZe30
namespace Go.Proofs.YtnbfpmmpmblmmaaGreatDoor
open Go.Shelf
def lays186_ren : Go.Shelf.Ren := ⟨fun | 186 => 73 | 185 => 91 | 187 => 104 | 115 => 105 | 253 => 106 | 224 => 107 | 254 => 108 | 255 => 111 | 291 => 112 | n => n, fun | 37 => 48 | 4 => 4 | 3 => 3 | 0 => 0 | 5 => 5 | 46 => 144 | 9 => 9 | 146 => 201 | 51 => 26 | n => n, fun | 1 => 1 | n => n⟩
theorem lays186 : Go.Proofs.Lays.n186 Tryz.prog lays186_ren := {
  mixed := by kernel_rfl
  f115 := Tryz.func105.trans (congrArg some (by kernel_rfl))
  f185 := Tryz.func91.trans (congrArg some (by kernel_rfl))
  f186 := Tryz.func73.trans (congrArg some (by kernel_rfl))
  f187 := Tryz.func104.trans (congrArg some (by kernel_rfl))
  f224 := Tryz.func107.trans (congrArg some (by kernel_rfl))
  f253 := Tryz.func106.trans (congrArg some (by kernel_rfl))
  f254 := Tryz.func108.trans (congrArg some (by kernel_rfl))
  f255 := Tryz.func111.trans (congrArg some (by kernel_rfl))
  f291 := Tryz.func112.trans (congrArg some (by kernel_rfl))
  t0 := Tryz.underlying0
  a0 := Tryz.isAgg0
  z0 := Tryz.sizeOf0
  v0 := Tryz.zeroValue0
  t3 := Tryz.underlying3
  a3 := Tryz.isAgg3
  z3 := Tryz.sizeOf3
  v3 := Tryz.zeroValue3
  t4 := Tryz.underlying4
  a4 := Tryz.isAgg4
  z4 := Tryz.sizeOf4
  v4 := Tryz.zeroValue4
  t5 := Tryz.underlying5
  a5 := Tryz.isAgg5
  z5 := Tryz.sizeOf5
  v5 := Tryz.zeroValue5
  t9 := Tryz.underlying9
  a9 := Tryz.isAgg9
  z9 := Tryz.sizeOf9
  v9 := Tryz.zeroValue9
  t37 := Tryz.underlying48
  a37 := Tryz.isAgg48
  z37 := Tryz.sizeOf48
  v37 := Tryz.zeroValue48
  t46 := Tryz.underlying144
  a46 := Tryz.isAgg144
  z46 := Tryz.sizeOf144
  v46 := Tryz.zeroValue144
  t51 := Tryz.underlying26
  a51 := Tryz.isAgg26
  z51 := Tryz.sizeOf26
  v51 := Tryz.zeroValue26
  t146 := Tryz.underlying201
  a146 := Tryz.isAgg201
  z146 := Tryz.sizeOf201
  v146 := Tryz.zeroValue201
  g1 := by kernel_rfl }
open Go.RowKit Go.Lib in
theorem contains_at (a : Addr) (n c b2 o2 d : Nat) (xs : List Int) (cv : Int) (w : World) (hx : xs.length = n) (hc : ∀ i, i < n → w.cell? (a.add i) = some (.int .u8 (xs.getD i 0))) (hc2 : w.cell? ⟨b2, o2, none⟩ = some (.int .u8 cv)) :
    Calls Tryz.prog 73 #[.slice (some a) n c, .slice (some ⟨b2, o2, none⟩) 1 d] w fun e w' => e = .returned (.bool (!(Lib.indexByte (Lib.bytesOf xs) cv.toNat.toUInt8 == -1))) ∧ w' = w := Any.bytes_Contains_one_at lays186 a n c b2 o2 d xs cv w hx hc hc2
open Go.RowKit Go.Lib in
theorem contains_nil (b2 o2 d : Nat) (cv : Int) (w : World) (hc2 : w.cell? ⟨b2, o2, none⟩ = some (.int .u8 cv)) :
    Calls Tryz.prog 73 #[.slice none 0 0, .slice (some ⟨b2, o2, none⟩) 1 d] w fun e w' => e = .returned (.bool false) ∧ w' = w := Any.bytes_Contains_one_nil lays186 b2 o2 d cv w hc2
theorem idx_neg (c : UInt8) : ∀ l : List UInt8, Lib.indexByte l c = -1 ∨ 0 ≤ Lib.indexByte l c
  | [] => .inl rfl
  | b :: l => by
    have ih := idx_neg c l
    unfold Lib.indexByte
    split
    · exact .inr (Int.le_refl _)
    · split
      · exact .inl rfl
      · rename_i h1 h2
        have h3 : Lib.indexByte l c ≠ -1 := by simpa using h2
        exact .inr (by omega)
theorem u8_zero {z : Int} (h : 0 ≤ z ∧ z < 256) (hz : z ≠ 0) : (UInt8.ofNat z.toNat == 0) = false := by
  rw [beq_eq_false_iff_ne]
  intro e
  have h1 := congrArg UInt8.toNat e
  rw [UInt8.toNat_ofNat'] at h1
  simp at h1
  omega
theorem idx_zero : ∀ zs : List Int, (∀ z ∈ zs, 0 ≤ z ∧ z < 256) → (Lib.indexByte (Lib.bytesOf zs) 0 == -1) = zs.all (fun z => decide (z ≠ 0))
  | [], _ => rfl
  | z :: zs, h => by
    have ih := idx_zero zs (fun y hy => h y (by simp [hy]))
    have hn := idx_neg 0 (Lib.bytesOf zs)
    rw [show Lib.bytesOf (z :: zs) = UInt8.ofNat z.toNat :: Lib.bytesOf zs from rfl, List.all_cons]
    by_cases hz : z = 0
    · subst hz
      simp [Lib.indexByte]
    · unfold Lib.indexByte
      rw [u8_zero (h z (by simp)) hz, ← ih, decide_eq_true hz]
      rcases hn with hn | hn
      · simp [hn]
      · have h1 : (Lib.indexByte (Lib.bytesOf zs) 0 == -1) = false := by rw [beq_eq_false_iff_ne]; omega
        rw [h1]
        simp
        omega
open Go.RowKit in
theorem contains_zero (a : Option Addr) (cap b2 d : Nat) (zs : List Int) (w : World) (h : Rd .u8 w (.slice a zs.length cap) zs) (hbd : ∀ z ∈ zs, 0 ≤ z ∧ z < 256) (hnil : a = none → cap = 0) (hc2 : w.cell? ⟨b2, 0, none⟩ = some (.int .u8 0)) :
    Calls Tryz.prog 73 #[.slice a zs.length cap, .slice (some ⟨b2, 0, none⟩) 1 d] w fun e w' => e = .returned (.bool (!(zs.all (fun z => decide (z ≠ 0))))) ∧ w = w' := by
  cases a with
  | none =>
    have h0 : zs = [] := by
      rcases Nat.eq_zero_or_pos zs.length with h1 | h1
      · exact List.length_eq_zero_iff.1 h1
      · obtain ⟨b, off, c, e, _⟩ := h.partsC h1
        injection e with e _ _
        cases e
    rw [hnil rfl, h0]
    refine (contains_nil b2 0 d 0 w hc2).mono ?_
    rintro e w' ⟨rfl, rfl⟩
    exact ⟨rfl, rfl⟩
  | some p =>
    refine (contains_at p zs.length cap b2 0 d zs 0 w rfl (fun i hi => ?_) hc2).mono ?_
    · obtain ⟨b, off, c, e, _, _, _, hc⟩ := h.partsC (by omega)
      injection e with e _ _
      injection e with e
      subst e
      have h9 := hc i hi
      unfold Addr.add
      split
      · rename_i h0
        subst h0
        exact h9
      · exact h9
    · rintro e w' ⟨rfl, rfl⟩
      refine ⟨?_, rfl⟩
      rw [show (0 : Int).toNat.toUInt8 = 0 from rfl, idx_zero zs hbd]
end Go.Proofs.YtnbfpmmpmblmmaaGreatDoor

namespace Go.Proofs.YtnbfpmmpmblmmaaGreatDoor
set_option linter.unusedVariables false
set_option linter.unusedSimpArgs false
open Go.RowKit

theorem zero_pts (s : Int) : allR s (List.replicate 12 0 ++ [0, 0]) 14 = true := by
  unfold allR
  rw [List.all_eq_true]
  intro k hk
  have hk := List.mem_range.1 hk
  have : (List.replicate 12 (0 : Int) ++ [0, 0]).getD k 0 = 0 := by
    match k, hk with
    | 0, _ | 1, _ | 2, _ | 3, _ | 4, _ | 5, _ | 6, _ | 7, _ | 8, _ | 9, _ | 10, _ | 11, _ | 12, _ | 13, _ => rfl
  rw [this]
  unfold okAt
  simp [ptrB]
theorem right_len0 (q : Nat) : rightR (q : Int) (List.replicate 12 0) 0 0 = decide (q ≤ 262144) := by
  unfold rightR
  rw [zero_pts]
  simp
  omega
theorem inB_ino (x : Nd) : rightIno x.k x.l x.m x.u x.g x.p x.e x.t x.c (x.d.length : Int) (List.replicate 12 0) 0 0 = inB x := by
  unfold rightIno inB
  rw [right_len0]
  congr 1
  rw [Bool.eq_iff_iff, zeroB_iff]
  unfold freeN inoI rootI
  simp [List.replicate, and_assoc]
theorem tmB_max (x : Nd) (C : Int) : decide (max (max x.e x.t) x.c ≤ C) = tmB x C := by
  unfold tmB
  rw [Bool.eq_iff_iff]
  simp
  omega
/-- The check at the head of the call, and what was there. -/
structure Kn (w wr : World) (ok : Bool) : Prop where
  ck : Ck wr w.heap.size (w.heap.size + 1) 21 ok
  old : Below w.heap.size w wr
theorem Kn.lo {w wr : World} {ok : Bool} (h : Kn w wr ok) : w.heap.size + 1 ≤ wr.heap.size := h.ck.lt
theorem Kn.below {w wr w' : World} {ok : Bool} (h : Kn w wr ok) (hb : Below wr.heap.size wr w') : Kn w w' ok := ⟨h.ck.below hb, h.old.trans (hb.mono h.old.size)⟩
theorem Kn.tch {w wr w' : World} {ok ok' : Bool} (h : Kn w wr ok) (hc : Ck w' w.heap.size (w.heap.size + 1) 21 ok') (ht : Tch w.heap.size wr w') : Kn w w' ok' :=
  ⟨hc, ht.under h.old (Nat.le_refl _) (Nat.le_of_lt h.lo)⟩
theorem Kn.code {w wr : World} {ok : Bool} (h : Kn w wr ok) : wr.cell? ⟨w.heap.size, 0, none⟩ = some (.int .i64 21) := h.ck.1
theorem Kn.fresh (w : World) : Kn w (w.alloc (.cells #[.int .i64 21, .nilIface] 64)) true := ⟨Ck.fresh w 21 _, (Below.refl _ _).alloc (Nat.le_refl _) _⟩
theorem Kn.need {w wr : World} {ok : Bool} (h : Kn w wr ok) (place : ByteArray) (hd : Bool) :
    Calls Tryz.prog 47 #[.pointer (some ⟨w.heap.size, 0, none⟩), .string place, .bool hd] wr fun e w' => e = .returned (.tuple #[]) ∧ Kn w w' (ok && hd) := by
  refine (need_any w.heap.size (w.heap.size + 1) place 21 ok hd wr h.ck (by omega) h.lo).mono ?_
  rintro e w' ⟨rfl, hc, ht⟩
  exact ⟨rfl, h.tch hc ht⟩
theorem Kn.within {w wr : World} {ok : Bool} (h : Kn w wr ok) (place : ByteArray) (n lo hi : Int) :
    Calls Tryz.prog 44 #[.pointer (some ⟨w.heap.size, 0, none⟩), .string place, .int .i64 n, .int .i64 lo, .int .i64 hi] wr fun e w' => e = .returned (.tuple #[]) ∧ Kn w w' (ok && wi n lo hi) := by
  refine (within_any w.heap.size (w.heap.size + 1) place 21 n lo hi ok wr h.ck (by omega) h.lo).mono ?_
  rintro e w' ⟨rfl, hc, ht⟩
  exact ⟨rfl, h.tch hc ht⟩
theorem Kn.inside {w wr w1 : World} {ok ok1 : Bool} {ev : Value} (h : Kn w wr ok) (hb : Below wr.heap.size wr w1) (hf : FaultIs w1 wr.heap.size ok1 ev 21) (place : ByteArray) :
    Calls Tryz.prog 27 #[.pointer (some ⟨w.heap.size, 0, none⟩), .string place, ev] w1 fun e w' => e = .returned (.tuple #[]) ∧ Kn w w' (ok && ok1) := by
  have h1 := h.below hb
  refine (inside_both w.heap.size (w.heap.size + 1) place 21 ok ok1 ev w1 h1.ck (hf.mono h.lo) (by omega) h1.lo).mono ?_
  rintro e w' ⟨rfl, hc, ht⟩
  exact ⟨rfl, h1.tch hc ht⟩
theorem Kn.fault {w wr : World} {ok : Bool} (h : Kn w wr ok) : ∃ ev, wr.cell? ⟨w.heap.size, 1, none⟩ = some ev ∧ FaultIs wr w.heap.size ok ev 21 := by
  obtain ⟨_, _, ev, h3, h4⟩ := h.ck
  refine ⟨ev, h3, ?_⟩
  rcases h4 with h4 | ⟨h4, n, h5⟩
  · exact .inl h4
  · exact .inr ⟨h4, n, h5.mono (by omega)⟩
set_option maxRecDepth 100000 in
set_option maxHeartbeats 4000000 in
theorem nodeFault_any (x : Nd) (a : Option Addr) (cap : Nat) (C : Int) (b off : Nat) (w : World) (hr : w.rangeAt b off (ndC x (.slice a x.d.length cap)).toList) (hd : Rd .u8 w (.slice a x.d.length cap) x.d) (hbd : ∀ z ∈ x.d, 0 ≤ z ∧ z < 256) (hnil : a = none → cap = 0) :
    Calls Tryz.prog 45 #[.pointer (some ⟨b, off, none⟩), .int .i64 C] w fun e w' => ∃ ev, e = .returned ev ∧ FaultIs w' w.heap.size (nodeB x C) ev 21 ∧ Below w.heap.size w w' := by
  have hbw : b < w.heap.size := cell_lt (hr 0 _ rfl)
  obtain ⟨q, hq⟩ : ∃ q, q = x.d.length := ⟨_, rfl⟩
  have hql : q ≤ maxLen := by rw [hq]; exact hd.len
  rw [← hq] at hr hd
  have HIN := hide (inB_ino x)
  rw [← hq] at HIN
  have HNB := hide (show nodeB x C = (inB x && tmB x C && (!decide (x.k = 3) || targB x.d)) from rfl)
  have HTG := hide (show targB x.d = (decide (1 ≤ q) && decide (q ≤ 255) && x.d.all (fun z => decide (z ≠ 0))) from by rw [hq]; rfl)
  have HCZ := hide (fun (W : World) (hW : Below w.heap.size w W) (b2 d2 : Nat) (h2 : W.cell? ⟨b2, 0, none⟩ = some (.int .u8 0)) => show Calls Tryz.prog 73 #[.slice a q cap, .slice (some ⟨b2, 0, none⟩) 1 d2] W fun e w' => e = .returned (.bool (!(x.d.all (fun z => decide (z ≠ 0))))) ∧ W = w' from by
    have := contains_zero a cap b2 d2 x.d W (by rw [← hq]; exact hd.below hW) hbd hnil h2
    rw [← hq] at this
    exact this)
  have HR := hide (show ∀ W, Below w.heap.size w W → W.rangeAt b off (ndC x (.slice a q cap)).toList from fun W hb i u hu => (hb.cell (p := ⟨b, off + i, none⟩) hbw).trans (hr i u hu))
  have K1 := hide (Kn.fresh w)
  obtain ⟨W1, hW1⟩ : ∃ W1, W1 = w.alloc (.cells #[.int .i64 21, .nilIface] 64) := ⟨_, rfl⟩
  rw [← hW1] at K1
  have HW1 := hide hW1
  have HQ := hide hq
  clear hW1 hr hd hbd hnil hq
  go_enter Tryz.func45, Tryz.ntmps45
  go_upto_region 2 with fail
  rw [← HW1.out]
  clear HW1
  refine wp_region_noPanic ?_
  refine wp_region_held_drew (S := fun w' => Below w.heap.size w w' ∧ w'.cell? ⟨w.heap.size, 0, none⟩ = some (.int .i64 21)) (by kernel_rfl) ⟨K1.out.old.drew, K1.out.code⟩ (fun hH => ?_)
  refine wpAnyH_take (i := 0) (oi := _) (v := .pointer (some ⟨b, off, none⟩)) rfl (by kernel_rfl) (by kernel_rfl) (by kernel_rfl) (fun _ _ _ h => h) (Or.inl ⟨by rfl, fun w' hw' => by go_simp⟩) hH ?_
  try simp only [Act.put, List.getElem_toArray, List.getElem_cons_zero, List.getElem_cons_succ, List.setIfInBounds_toArray, List.set_cons_zero, List.set_cons_succ]
  refine wpAnyH_take (i := 1) (oi := _) (v := .pointer (some ⟨b, off, none⟩)) rfl (by kernel_rfl) (by kernel_rfl) (by kernel_rfl) (fun _ _ _ h => h) (Or.inl ⟨by rfl, fun w' hw' => by go_simp⟩) hH ?_
  try simp only [Act.put, List.getElem_toArray, List.getElem_cons_zero, List.getElem_cons_succ, List.setIfInBounds_toArray, List.set_cons_zero, List.set_cons_succ]
  refine wpAnyH_take (i := 2) (oi := _) (v := .pointer (some ⟨b, off, none⟩)) rfl (by kernel_rfl) (by kernel_rfl) (by kernel_rfl) (fun _ _ _ h => h) (Or.inl ⟨by rfl, fun w' hw' => by go_simp⟩) hH ?_
  try simp only [Act.put, List.getElem_toArray, List.getElem_cons_zero, List.getElem_cons_succ, List.setIfInBounds_toArray, List.set_cons_zero, List.set_cons_succ]
  refine wpAnyH_take (i := 3) (oi := _) (v := .pointer (some ⟨b, off + 9, none⟩)) rfl (by kernel_rfl) (by kernel_rfl) (by kernel_rfl) (fun _ _ _ h => h) (Or.inl ⟨by rfl, fun w' hw' => by go_simp⟩) hH ?_
  try simp only [Act.put, List.getElem_toArray, List.getElem_cons_zero, List.getElem_cons_succ, List.setIfInBounds_toArray, List.set_cons_zero, List.set_cons_succ]
  refine wpAnyH_take (i := 4) (oi := _) (v := .slice a q cap) rfl (by kernel_rfl) (by kernel_rfl) (by kernel_rfl) (fun _ _ _ h => h) (Or.inl ⟨by rfl, fun w' hw' => by have h9 := HR.out w' hw'.1 9 _ rfl; go_simp⟩) hH ?_
  try simp only [Act.put, List.getElem_toArray, List.getElem_cons_zero, List.getElem_cons_succ, List.setIfInBounds_toArray, List.set_cons_zero, List.set_cons_succ]
  refine wpAnyH_take (i := 5) (oi := _) (v := .int .i64 (q : Int)) rfl (by kernel_rfl) (by kernel_rfl) (by kernel_rfl) (fun _ _ _ h => h) (Or.inl ⟨by rfl, fun w' hw' => by go_simp⟩) hH ?_
  try simp only [Act.put, List.getElem_toArray, List.getElem_cons_zero, List.getElem_cons_succ, List.setIfInBounds_toArray, List.set_cons_zero, List.set_cons_succ]
  refine wpAnyH_take (i := 6) (oi := _) (v := .agg #[.int .i64 (q : Int), .int .i64 0, .int .i64 0, .int .i64 0, .int .i64 0, .int .i64 0, .int .i64 0, .int .i64 0, .int .i64 0, .int .i64 0, .int .i64 0, .int .i64 0, .int .i64 0, .int .i64 0, .int .i64 0]) rfl (by kernel_rfl) (by kernel_rfl) (by kernel_rfl) (fun _ _ _ h => h) (Or.inl ⟨by rfl, fun w' hw' => by go_simp⟩) hH ?_
  try simp only [Act.put, List.getElem_toArray, List.getElem_cons_zero, List.getElem_cons_succ, List.setIfInBounds_toArray, List.set_cons_zero, List.set_cons_succ]
  refine wpAnyH_take (i := 8) (oi := _) (v := .pointer (some ⟨w.heap.size, 0, none⟩)) rfl (by kernel_rfl) (by kernel_rfl) (by kernel_rfl) (fun _ _ _ h => h) (Or.inl ⟨by rfl, fun w' hw' => by go_simp⟩) hH ?_
  try simp only [Act.put, List.getElem_toArray, List.getElem_cons_zero, List.getElem_cons_succ, List.setIfInBounds_toArray, List.set_cons_zero, List.set_cons_succ]
  refine wpAnyH_take (i := 9) (oi := _) (v := .int .i64 21) rfl (by kernel_rfl) (by kernel_rfl) (by kernel_rfl) (fun _ _ _ h => h) (Or.inl ⟨by rfl, fun w' hw' => by have h9 := hw'.2; go_simp⟩) hH ?_
  try simp only [Act.put, List.getElem_toArray, List.getElem_cons_zero, List.getElem_cons_succ, List.setIfInBounds_toArray, List.set_cons_zero, List.set_cons_succ]
  have KD := hide (K1.out.below ((Below.refl _ _).drew))
  clear hH
  refine wpAnyH_ready (rs := [7]) (by kernel_rfl) (by simp) ?_
  refine AllReadyH.cons (o := _) rfl (fun K hK => ?_) AllReadyH.nil
  go_simp
  refine (inodeOf_any x (.slice a q cap) (q : Int) b off _ (HR.out _ KD.out.old)).mono ?_
  rintro e w2 ⟨rfl, b2⟩
  have K2 := hide (KD.out.below b2)
  refine hK.out _ _ ⟨K2.out.old, K2.out.code⟩ (fun hH2 => ?_)
  clear hK K b2 KD hH2
  try simp only [Act.put, List.getElem_toArray, List.getElem_cons_zero, List.getElem_cons_succ, List.setIfInBounds_toArray, List.set_cons_zero, List.set_cons_succ]
  refine wpAnyH_ready (rs := [10]) (by kernel_rfl) (by simp) ?_
  refine AllReadyH.cons (o := _) rfl (fun K hK => ?_) AllReadyH.nil
  go_simp
  refine (inodeFault_any x.k x.l x.m x.u x.g x.p x.e x.t x.c (q : Int) (List.replicate 12 0) 0 0 21 w2 rfl).mono ?_
  rintro e w3 ⟨ev3, rfl, f3, b3⟩
  have K3 := hide (K2.out.below b3)
  rw [HIN.out] at f3
  have F3 := hide (K2.out.inside b3 f3)
  refine hK.out _ _ ⟨K3.out.old, K3.out.code⟩ (fun hH3 => ?_)
  clear hK K hH3 b3 f3 K2
  try simp only [Act.put, List.getElem_toArray, List.getElem_cons_zero, List.getElem_cons_succ, List.setIfInBounds_toArray, List.set_cons_zero, List.set_cons_succ]
  refine wpAnyH_ready (rs := [11]) (by kernel_rfl) (by simp) ?_
  refine AllReadyH.cons (o := _) rfl (fun K hK => ?_) AllReadyH.nil
  go_simp
  refine (F3.out _).mono ?_
  rintro e w4 ⟨rfl, k4⟩
  have K4 := hide k4
  refine hK.out _ _ ⟨K4.out.old, K4.out.code⟩ (fun hH4 => ?_)
  clear hK K hH4 k4 F3 K3
  try simp only [Act.put, List.getElem_toArray, List.getElem_cons_zero, List.getElem_cons_succ, List.setIfInBounds_toArray, List.set_cons_zero, List.set_cons_succ]
  refine wpAnyH_done (by kernel_rfl) (NoPanic.normal ?_) _
  rw [Bool.true_and] at K4
  go_upto_region 3 with fail
  refine wp_region_noPanic ?_
  refine wp_region_held_drew (S := fun w' => Below w.heap.size w w') (by kernel_rfl) K4.out.old.drew (fun hH => ?_)
  refine wpAnyH_take (i := 0) (oi := _) (v := .pointer (some ⟨b, off, none⟩)) rfl (by kernel_rfl) (by kernel_rfl) (by kernel_rfl) (fun _ _ _ h => h) (Or.inl ⟨by rfl, fun w' hw' => by go_simp⟩) hH ?_
  try simp only [Act.put, List.getElem_toArray, List.getElem_cons_zero, List.getElem_cons_succ, List.setIfInBounds_toArray, List.set_cons_zero, List.set_cons_succ]
  refine wpAnyH_take (i := 1) (oi := _) (v := .pointer (some ⟨b, off, none⟩)) rfl (by kernel_rfl) (by kernel_rfl) (by kernel_rfl) (fun _ _ _ h => h) (Or.inl ⟨by rfl, fun w' hw' => by go_simp⟩) hH ?_
  try simp only [Act.put, List.getElem_toArray, List.getElem_cons_zero, List.getElem_cons_succ, List.setIfInBounds_toArray, List.set_cons_zero, List.set_cons_succ]
  refine wpAnyH_take (i := 2) (oi := _) (v := .pointer (some ⟨b, off + 6, none⟩)) rfl (by kernel_rfl) (by kernel_rfl) (by kernel_rfl) (fun _ _ _ h => h) (Or.inl ⟨by rfl, fun w' hw' => by go_simp⟩) hH ?_
  try simp only [Act.put, List.getElem_toArray, List.getElem_cons_zero, List.getElem_cons_succ, List.setIfInBounds_toArray, List.set_cons_zero, List.set_cons_succ]
  refine wpAnyH_take (i := 3) (oi := _) (v := .int .i64 x.e) rfl (by kernel_rfl) (by kernel_rfl) (by kernel_rfl) (fun _ _ _ h => h) (Or.inl ⟨by rfl, fun w' hw' => by have h9 := HR.out w' hw' 6 _ rfl; go_simp⟩) hH ?_
  try simp only [Act.put, List.getElem_toArray, List.getElem_cons_zero, List.getElem_cons_succ, List.setIfInBounds_toArray, List.set_cons_zero, List.set_cons_succ]
  refine wpAnyH_take (i := 4) (oi := _) (v := .pointer (some ⟨b, off, none⟩)) rfl (by kernel_rfl) (by kernel_rfl) (by kernel_rfl) (fun _ _ _ h => h) (Or.inl ⟨by rfl, fun w' hw' => by go_simp⟩) hH ?_
  try simp only [Act.put, List.getElem_toArray, List.getElem_cons_zero, List.getElem_cons_succ, List.setIfInBounds_toArray, List.set_cons_zero, List.set_cons_succ]
  refine wpAnyH_take (i := 5) (oi := _) (v := .pointer (some ⟨b, off, none⟩)) rfl (by kernel_rfl) (by kernel_rfl) (by kernel_rfl) (fun _ _ _ h => h) (Or.inl ⟨by rfl, fun w' hw' => by go_simp⟩) hH ?_
  try simp only [Act.put, List.getElem_toArray, List.getElem_cons_zero, List.getElem_cons_succ, List.setIfInBounds_toArray, List.set_cons_zero, List.set_cons_succ]
  refine wpAnyH_take (i := 6) (oi := _) (v := .pointer (some ⟨b, off + 7, none⟩)) rfl (by kernel_rfl) (by kernel_rfl) (by kernel_rfl) (fun _ _ _ h => h) (Or.inl ⟨by rfl, fun w' hw' => by go_simp⟩) hH ?_
  try simp only [Act.put, List.getElem_toArray, List.getElem_cons_zero, List.getElem_cons_succ, List.setIfInBounds_toArray, List.set_cons_zero, List.set_cons_succ]
  refine wpAnyH_take (i := 7) (oi := _) (v := .int .i64 x.t) rfl (by kernel_rfl) (by kernel_rfl) (by kernel_rfl) (fun _ _ _ h => h) (Or.inl ⟨by rfl, fun w' hw' => by have h9 := HR.out w' hw' 7 _ rfl; go_simp⟩) hH ?_
  try simp only [Act.put, List.getElem_toArray, List.getElem_cons_zero, List.getElem_cons_succ, List.setIfInBounds_toArray, List.set_cons_zero, List.set_cons_succ]
  refine wpAnyH_take (i := 8) (oi := _) (v := .pointer (some ⟨b, off, none⟩)) rfl (by kernel_rfl) (by kernel_rfl) (by kernel_rfl) (fun _ _ _ h => h) (Or.inl ⟨by rfl, fun w' hw' => by go_simp⟩) hH ?_
  try simp only [Act.put, List.getElem_toArray, List.getElem_cons_zero, List.getElem_cons_succ, List.setIfInBounds_toArray, List.set_cons_zero, List.set_cons_succ]
  refine wpAnyH_take (i := 9) (oi := _) (v := .pointer (some ⟨b, off, none⟩)) rfl (by kernel_rfl) (by kernel_rfl) (by kernel_rfl) (fun _ _ _ h => h) (Or.inl ⟨by rfl, fun w' hw' => by go_simp⟩) hH ?_
  try simp only [Act.put, List.getElem_toArray, List.getElem_cons_zero, List.getElem_cons_succ, List.setIfInBounds_toArray, List.set_cons_zero, List.set_cons_succ]
  refine wpAnyH_take (i := 10) (oi := _) (v := .pointer (some ⟨b, off + 8, none⟩)) rfl (by kernel_rfl) (by kernel_rfl) (by kernel_rfl) (fun _ _ _ h => h) (Or.inl ⟨by rfl, fun w' hw' => by go_simp⟩) hH ?_
  try simp only [Act.put, List.getElem_toArray, List.getElem_cons_zero, List.getElem_cons_succ, List.setIfInBounds_toArray, List.set_cons_zero, List.set_cons_succ]
  refine wpAnyH_take (i := 11) (oi := _) (v := .int .i64 x.c) rfl (by kernel_rfl) (by kernel_rfl) (by kernel_rfl) (fun _ _ _ h => h) (Or.inl ⟨by rfl, fun w' hw' => by have h9 := HR.out w' hw' 8 _ rfl; go_simp⟩) hH ?_
  try simp only [Act.put, List.getElem_toArray, List.getElem_cons_zero, List.getElem_cons_succ, List.setIfInBounds_toArray, List.set_cons_zero, List.set_cons_succ]
  refine wpAnyH_take (i := 12) (oi := _) (v := .int .i64 (max (max x.e x.t) x.c)) rfl (by kernel_rfl) (by kernel_rfl) (by kernel_rfl) (fun _ _ _ h => h) (Or.inl ⟨by rfl, fun w' hw' => by go_simp; repeat (first | omega | split)⟩) hH ?_
  try simp only [Act.put, List.getElem_toArray, List.getElem_cons_zero, List.getElem_cons_succ, List.setIfInBounds_toArray, List.set_cons_zero, List.set_cons_succ]
  refine wpAnyH_take (i := 13) (oi := _) (v := .int .i64 C) rfl (by kernel_rfl) (by kernel_rfl) (by kernel_rfl) (fun _ _ _ h => h) (Or.inl ⟨by rfl, fun w' hw' => by go_simp⟩) hH ?_
  try simp only [Act.put, List.getElem_toArray, List.getElem_cons_zero, List.getElem_cons_succ, List.setIfInBounds_toArray, List.set_cons_zero, List.set_cons_succ]
  refine wpAnyH_take (i := 14) (oi := _) (v := .bool (tmB x C)) rfl (by kernel_rfl) (by kernel_rfl) (by kernel_rfl) (fun _ _ _ h => h) (Or.inl ⟨by rfl, fun w' hw' => by rw [← tmB_max]; go_simp⟩) hH ?_
  try simp only [Act.put, List.getElem_toArray, List.getElem_cons_zero, List.getElem_cons_succ, List.setIfInBounds_toArray, List.set_cons_zero, List.set_cons_succ]
  have KD := hide (K4.out.below ((Below.refl _ _).drew))
  clear hH K4
  refine wpAnyH_ready (rs := [15]) (by kernel_rfl) (by simp) ?_
  refine AllReadyH.cons (o := _) rfl (fun K hK => ?_) AllReadyH.nil
  go_simp
  refine (KD.out.need _ _).mono ?_
  rintro e w5 ⟨rfl, k5⟩
  have K5 := hide k5
  refine hK.out _ _ K5.out.old (fun hH5 => ?_)
  clear hK K hH5 k5 KD
  try simp only [Act.put, List.getElem_toArray, List.getElem_cons_zero, List.getElem_cons_succ, List.setIfInBounds_toArray, List.set_cons_zero, List.set_cons_succ]
  refine wpAnyH_done (by kernel_rfl) (NoPanic.normal ?_) _
  have c0 : w5.cell? ⟨b, off, none⟩ = some (.int .i64 x.k) := HR.out w5 K5.out.old 0 _ rfl
  by_cases hk : x.k = 3
  rotate_left
  · have hkb : (x.k == 3) = false := by simpa using hk
    have HNE := hide (show nodeB x C = (inB x && tmB x C) from by rw [HNB.out, decide_eq_false hk]; simp)
    obtain ⟨ev, ce, hf⟩ := K5.out.fault
    have HF := hide hf
    clear hk hf
    go_wp2
    go_ret
    exact ⟨_, rfl, by rw [HNE.out]; exact HF.out, K5.out.old⟩
  have hkb : (x.k == 3) = true := by simp [hk]
  have HNE := hide (show nodeB x C = (inB x && tmB x C && wi (q : Int) 1 255 && x.d.all (fun z => decide (z ≠ 0))) from by
    rw [HNB.out, decide_eq_true hk, HTG.out, Bool.and_assoc (inB x && tmB x C)]
    congr 1
    unfold wi
    congr 1
    rw [Bool.eq_iff_iff]
    simp
    omega)
  clear hk
  have c9 : w5.cell? ⟨b, off + 9, none⟩ = some (.slice a q cap) := HR.out w5 K5.out.old 9 _ rfl
  go_wp2_with (go_at_call 44; fail)
  refine (K5.out.within _ (q : Int) 1 255).mono ?_
  rintro e w6 ⟨rfl, k6⟩
  have K6 := hide k6
  clear k6 c9 c0 hkb
  have c9 : w6.cell? ⟨b, off + 9, none⟩ = some (.slice a q cap) := HR.out w6 K6.out.old 9 _ rfl
  go_wp2_with (go_at_call 73; fail)
  have hAl : Below w6.heap.size w6 (w6.alloc (.cells #[.int .u8 0] 5)) := (Below.refl _ _).alloc (Nat.le_refl _) _
  have K7 := hide (K6.out.below hAl)
  refine (HCZ.out _ K7.out.old w6.heap.size 1 (by simp)).mono ?_
  rintro e w7 ⟨rfl, rfl⟩
  clear c9 hAl
  obtain ⟨zb, hzb⟩ : ∃ zb, zb = x.d.all (fun z => decide (z ≠ 0)) := ⟨_, rfl⟩
  rw [← hzb] at HNE
  rw [← hzb]
  have HN6 := hide (fun (place : ByteArray) => show Calls Tryz.prog 47 #[.pointer (some ⟨w.heap.size, 0, none⟩), .string place, .bool zb] _ _ from K7.out.need place zb)
  clear hzb
  go_wp2_with (go_at_call 47; fail)
  refine (HN6.out _).mono ?_
  rintro e w8 ⟨rfl, k8⟩
  obtain ⟨ev, ce, hf⟩ := k8.fault
  have HF := hide hf
  have K8 := hide k8
  clear hf k8
  go_wp2
  go_ret
  exact ⟨_, rfl, by rw [HNE.out]; exact HF.out, K8.out.old⟩
end Go.Proofs.YtnbfpmmpmblmmaaGreatDoor
