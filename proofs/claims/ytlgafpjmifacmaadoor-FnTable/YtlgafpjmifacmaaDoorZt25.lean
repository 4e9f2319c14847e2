/- The program's DecodeInode. -/
import Derived.Test.YtlgafpjmifacmaaDoorZt24
import Derived.Test.YtlgafpjmifacmaaDoorZt19
import Derived.Deep.RegionHeld3
import Derived.Deep.MidRow
namespace Go.Proofs.YtlgafpjmifacmaaDoor
set_option linter.unusedVariables false
set_option linter.unusedSimpArgs false
open Go.RowKit

/-- All gaps of an inode's bytes are zeros. -/
def gapsZ (zs : List Int) : Bool := gaps2 zs && allz ((zs.drop 104).take 24)
/-- What DecodeInode's regions leave: an inode that was read, and whether it is told. -/
def ReadI (zs : List Int) (k0 k1 k2 k3 k4 k5 k6 k7 k8 s : Int) (ds : List Int) (p q : Int) (ok : Bool) : Prop :=
  ds.length = 12 ∧ (ok = true → InoAt zs k0 k1 k2 k3 k4 k5 k6 k7 k8 s ds p q ∧ rightIno k0 k1 k2 k3 k4 k5 k6 k7 k8 s ds p q = true ∧ zs.length = 128 ∧ gapsZ zs = true) ∧ (zs.length = 128 → gapsZ zs = true → InoAt zs k0 k1 k2 k3 k4 k5 k6 k7 k8 s ds p q ∧ ok = rightIno k0 k1 k2 k3 k4 k5 k6 k7 k8 s ds p q)

theorem readI_of (zs : List Int) (k0 k1 k2 k3 k4 k5 k6 k7 k8 s : Int) (ds : List Int) (p q : Int) (ok2 : Bool) (p2 : Nat) (ha : AdvC zs 104 (gaps2 zs) ok2 p2) (hv : ok2 = true → InoAt zs k0 k1 k2 k3 k4 k5 k6 k7 k8 s ds p q) (hd : ds.length = 12) :
    ReadI zs k0 k1 k2 k3 k4 k5 k6 k7 k8 s ds p q (ok2 && ((((zs.drop p2).take (128 - p2)).all fun z => decide (z = 0)) && decide (zs.length = 128)) && rightIno k0 k1 k2 k3 k4 k5 k6 k7 k8 s ds p q) := by
  obtain ⟨h1, h2, h3⟩ := ha
  refine ⟨hd, fun h => ?_, fun h hg => ?_⟩
  · simp only [Bool.and_eq_true, decide_eq_true_eq] at h
    have hp := h3 h.1.1
    subst hp
    refine ⟨hv h.1.1, h.2, h.1.2.2, ?_⟩
    unfold gapsZ
    rw [(h2.1 h.1.1).2, Bool.true_and]
    exact h.1.2.1
  · unfold gapsZ at hg
    rw [Bool.and_eq_true] at hg
    have ho := h2.2 ⟨by omega, hg.1⟩
    have hp := h3 ho
    subst hp
    refine ⟨hv ho, ?_⟩
    have hz : (((zs.drop 104).take (128 - 104)).all fun z => decide (z = 0)) = true := hg.2
    rw [ho, hz, decide_eq_true h]
    simp

theorem ino_whole (k0 k1 k2 k3 k4 k5 k6 k7 k8 s : Int) (ds : List Int) (p q : Int) (hd : ds.length = 12) {w : World} {b : Nat} {t : TypeId} (h : Blk w b (cellsI (inoI [k0, k1, k2, k3, k4, k5, k6, k7, k8] s ds p q)) t) : w.rangeAt b 0 ((inoI [k0, k1, k2, k3, k4, k5, k6, k7, k8] s ds p q).map (Value.int .i64)) := by
  have hl := inoI_len [k0, k1, k2, k3, k4, k5, k6, k7, k8] s ds p q rfl hd
  have := h.range 0 24 (by omega)
  rw [List.drop_zero, List.take_of_length_le (by omega)] at this
  exact this

set_option maxRecDepth 100000 in
set_option maxHeartbeats 2000000 in
theorem implDI_any (v : Value) (zs : List Int) (w : World) (h : Rd .u8 w v zs) (hbd : ∀ z ∈ zs, 0 ≤ z ∧ z < 256) (hz : zs.length ≤ 140737488355328) (hg : ErrT w) :
    Calls Tryd.prog 58 #[v] w fun e w' => ∃ k0 k1 k2 k3 k4 k5 k6 k7 k8 s ds p q ok, ReadI zs k0 k1 k2 k3 k4 k5 k6 k7 k8 s ds p q ok ∧ e = .returned (.tuple #[.agg (cellsI (if ok = true then inoI [k0, k1, k2, k3, k4, k5, k6, k7, k8] s ds p q else noIno)), .int .i64 (if ok = true then 0 else 21)]) ∧ Below w.heap.size w w' := by
  have HB := hide hbd
  have HR := hide (And.intro h hg)
  have hb0 : ∀ C, Below w.heap.size w (w.alloc C) := fun C => (Below.refl _ _).alloc (Nat.le_refl _) _
  have HB0 := hide hb0
  clear hbd hg hb0
  obtain ⟨a, cap, rfl, _⟩ := h
  go_enter Tryd.func58, Tryd.ntmps58
  go_wp2_with fail
  refine (newReader_any _ zs _ (HR.out.1.below (HB0.out _))).mono ?_
  rintro e w1 ⟨rfl, r1, b1⟩
  have ki1 : Blk w1 w.heap.size #[.int .i64 0, .int .i64 0, .int .i64 0, .int .i64 0, .int .i64 0, .int .i64 0, .int .i64 0, .int .i64 0, .int .i64 0, .int .i64 0, .int .i64 0, .int .i64 0, .int .i64 0, .int .i64 0, .int .i64 0, .int .i64 0, .int .i64 0, .int .i64 0, .int .i64 0, .int .i64 0, .int .i64 0, .int .i64 0, .int .i64 0, .int .i64 0] 44 := (Blk.new w #[.int .i64 0, .int .i64 0, .int .i64 0, .int .i64 0, .int .i64 0, .int .i64 0, .int .i64 0, .int .i64 0, .int .i64 0, .int .i64 0, .int .i64 0, .int .i64 0, .int .i64 0, .int .i64 0, .int .i64 0, .int .i64 0, .int .i64 0, .int .i64 0, .int .i64 0, .int .i64 0, .int .i64 0, .int .i64 0, .int .i64 0, .int .i64 0] 44).below b1 (by simp)
  have H1 := hide (And.intro r1 (And.intro ki1 ((HB0.out (.cells #[.int .i64 0, .int .i64 0, .int .i64 0, .int .i64 0, .int .i64 0, .int .i64 0, .int .i64 0, .int .i64 0, .int .i64 0, .int .i64 0, .int .i64 0, .int .i64 0, .int .i64 0, .int .i64 0, .int .i64 0, .int .i64 0, .int .i64 0, .int .i64 0, .int .i64 0, .int .i64 0, .int .i64 0, .int .i64 0, .int .i64 0, .int .i64 0] 44)).trans (b1.mono (by simp)))))
  clear r1 b1 ki1
  go_wp2_with fail
  have H1' := H1.out.1
  rw [World.size_alloc] at H1'
  refine (readInode_any _ _ _ _ _ zs H1' hz HB.out).mono ?_
  rintro e w2 ⟨k0, k1, k2, k3, k4, k5, k6, k7, k8, s, ds, p, q, ok2, p2, rfl, hdl, r2, a2, v2, g2⟩
  have HD := hide hdl
  have hs2 := g2.size
  have hlt1 := H1'.ck.lt
  have ki2 : Blk w2 w.heap.size (cellsI noIno) 44 := (g2.block _ (by omega) (by simp)).trans H1.out.2.1
  have hb12 : w.heap.size + 1 < w2.heap.size := r2.ck.lt
  have HZ := hide (show (cellsI (inoI [k0, k1, k2, k3, k4, k5, k6, k7, k8] s ds p q)).size = 24 from by rw [cellsI_size]; exact inoI_len _ _ _ _ _ rfl HD.out)
  have H2 := hide (show Rdr _ ((w2.alloc (.cells #[.int .i64 0, .int .i64 0, .int .i64 0, .int .i64 0, .int .i64 0, .int .i64 0, .int .i64 0, .int .i64 0, .int .i64 0, .int .i64 0, .int .i64 0, .int .i64 0, .int .i64 0, .int .i64 0, .int .i64 0, .int .i64 0, .int .i64 0, .int .i64 0, .int .i64 0, .int .i64 0, .int .i64 0, .int .i64 0, .int .i64 0, .int .i64 0] 44)).setRow w2.heap.size (cellsI (inoI [k0, k1, k2, k3, k4, k5, k6, k7, k8] s ds p q))) (w.heap.size + 1) _ ok2 _ zs p2 ∧ Blk ((w2.alloc (.cells #[.int .i64 0, .int .i64 0, .int .i64 0, .int .i64 0, .int .i64 0, .int .i64 0, .int .i64 0, .int .i64 0, .int .i64 0, .int .i64 0, .int .i64 0, .int .i64 0, .int .i64 0, .int .i64 0, .int .i64 0, .int .i64 0, .int .i64 0, .int .i64 0, .int .i64 0, .int .i64 0, .int .i64 0, .int .i64 0, .int .i64 0, .int .i64 0] 44)).setRow w2.heap.size (cellsI (inoI [k0, k1, k2, k3, k4, k5, k6, k7, k8] s ds p q))) w.heap.size (cellsI noIno) 44 ∧ Below w.heap.size w ((w2.alloc (.cells #[.int .i64 0, .int .i64 0, .int .i64 0, .int .i64 0, .int .i64 0, .int .i64 0, .int .i64 0, .int .i64 0, .int .i64 0, .int .i64 0, .int .i64 0, .int .i64 0, .int .i64 0, .int .i64 0, .int .i64 0, .int .i64 0, .int .i64 0, .int .i64 0, .int .i64 0, .int .i64 0, .int .i64 0, .int .i64 0, .int .i64 0, .int .i64 0] 44)).setRow w2.heap.size (cellsI (inoI [k0, k1, k2, k3, k4, k5, k6, k7, k8] s ds p q))) ∧ Blk ((w2.alloc (.cells #[.int .i64 0, .int .i64 0, .int .i64 0, .int .i64 0, .int .i64 0, .int .i64 0, .int .i64 0, .int .i64 0, .int .i64 0, .int .i64 0, .int .i64 0, .int .i64 0, .int .i64 0, .int .i64 0, .int .i64 0, .int .i64 0, .int .i64 0, .int .i64 0, .int .i64 0, .int .i64 0, .int .i64 0, .int .i64 0, .int .i64 0, .int .i64 0] 44)).setRow w2.heap.size (cellsI (inoI [k0, k1, k2, k3, k4, k5, k6, k7, k8] s ds p q))) w2.heap.size (cellsI (inoI [k0, k1, k2, k3, k4, k5, k6, k7, k8] s ds p q)) 44 from
    ⟨(r2.alloc _).row _ hb12 (Blk.new w2 (cellsI (List.replicate 24 0)) 44) (by decide), (setRow_block _ _ _ _ (by omega)).trans (ki2.alloc _), below_setRow ((H1.out.2.2.grown g2 (by omega) (fun k e => by cases e; omega)).alloc (by omega) _) (by omega) _, (Blk.new w2 #[.int .i64 0, .int .i64 0, .int .i64 0, .int .i64 0, .int .i64 0, .int .i64 0, .int .i64 0, .int .i64 0, .int .i64 0, .int .i64 0, .int .i64 0, .int .i64 0, .int .i64 0, .int .i64 0, .int .i64 0, .int .i64 0, .int .i64 0, .int .i64 0, .int .i64 0, .int .i64 0, .int .i64 0, .int .i64 0, .int .i64 0, .int .i64 0] 44).row _⟩)
  have HA := hide (And.intro a2 v2)
  have hp2 : p2 ≤ 128 := Nat.le_trans a2.1 (by omega)
  clear r2 ki2 g2 a2 v2 hdl H1' H1
  go_wp2_with (first | (refine wpList_store_row rfl 44 _ _ rfl w2.heap.size (cellsI (inoI [k0, k1, k2, k3, k4, k5, k6, k7, k8] s ds p q)) rfl rfl 44 _ (Blk.new w2 #[.int .i64 0, .int .i64 0, .int .i64 0, .int .i64 0, .int .i64 0, .int .i64 0, .int .i64 0, .int .i64 0, .int .i64 0, .int .i64 0, .int .i64 0, .int .i64 0, .int .i64 0, .int .i64 0, .int .i64 0, .int .i64 0, .int .i64 0, .int .i64 0, .int .i64 0, .int .i64 0, .int .i64 0, .int .i64 0, .int .i64 0, .int .i64 0] 44) (by rw [HZ.out]; exact info24) (by rw [HZ.out]; rfl) (cellsI_one _) ?_) | (go_at_call 85; fail))
  generalize hW3 : (w2.alloc (.cells #[.int .i64 0, .int .i64 0, .int .i64 0, .int .i64 0, .int .i64 0, .int .i64 0, .int .i64 0, .int .i64 0, .int .i64 0, .int .i64 0, .int .i64 0, .int .i64 0, .int .i64 0, .int .i64 0, .int .i64 0, .int .i64 0, .int .i64 0, .int .i64 0, .int .i64 0, .int .i64 0, .int .i64 0, .int .i64 0, .int .i64 0, .int .i64 0] 44)).setRow w2.heap.size (cellsI (inoI [k0, k1, k2, k3, k4, k5, k6, k7, k8] s ds p q)) = w3 at H2 ⊢
  clear hW3
  refine (end_any _ _ _ _ ok2 _ zs p2 128 H2.out.1 hp2 (by omega) (by omega) hz).mono ?_
  rintro e w4 ⟨rfl, g4, p4, r4⟩
  have hs4 := g4.size
  have hl3 := H2.out.2.2.2.lt
  have ki4 : Blk w4 w.heap.size (cellsI noIno) 44 := (g4.block _ (by omega) (by simp)).trans H2.out.2.1
  have kr4 : Blk w4 w2.heap.size (cellsI (inoI [k0, k1, k2, k3, k4, k5, k6, k7, k8] s ds p q)) 44 := (g4.block _ (by omega) (by simp; omega)).trans H2.out.2.2.2
  have H4 := hide (And.intro r4 (And.intro ki4 (And.intro (H2.out.2.2.1.grown g4 (by omega) (fun k e => by cases e; omega)) kr4)))
  clear r4 ki4 kr4 g4 H2
  have hl4 : w2.heap.size < w4.heap.size := by omega
  have hl5 : w.heap.size + 1 < w4.heap.size := by omega
  go_wp2_with fail
  refine wp_region_noPanic ?_
  refine wp_region_held_drew (S := fun w' => Blk w' w2.heap.size (cellsI (inoI [k0, k1, k2, k3, k4, k5, k6, k7, k8] s ds p q)) 44 ∧ w'.cell? ⟨w.heap.size + 1, 0, none⟩ = some (.int .i64 21)) (by kernel_rfl) ⟨H4.out.2.2.2, H4.out.1.ck.1⟩ (fun hH => ?_)
  refine wpAnyH_take (i := 0) (oi := _) (v := (.pointer (some ⟨w.heap.size + 1, 0, none⟩))) rfl (by kernel_rfl) (by kernel_rfl) (by kernel_rfl) (fun _ _ _ h => h) (Or.inl ⟨by rfl, fun w' hw' => by go_simp⟩) hH ?_
  try simp only [Act.put, List.setIfInBounds_toArray, List.set_cons_zero, List.set_cons_succ]
  refine wpAnyH_take (i := 1) (oi := _) (v := (.pointer (some ⟨w.heap.size + 1, 0, none⟩))) rfl (by kernel_rfl) (by kernel_rfl) (by kernel_rfl) (fun _ _ _ h => h) (Or.inl ⟨by rfl, fun w' hw' => by go_simp⟩) hH ?_
  try simp only [Act.put, List.setIfInBounds_toArray, List.set_cons_zero, List.set_cons_succ]
  refine wpAnyH_take (i := 2) (oi := _) (v := (.pointer (some ⟨w.heap.size + 1, 0, none⟩))) rfl (by kernel_rfl) (by kernel_rfl) (by kernel_rfl) (fun _ _ _ h => h) (Or.inl ⟨by rfl, fun w' hw' => by go_simp⟩) hH ?_
  try simp only [Act.put, List.setIfInBounds_toArray, List.set_cons_zero, List.set_cons_succ]
  refine wpAnyH_take (i := 3) (oi := _) (v := .agg (cellsI (inoI [k0, k1, k2, k3, k4, k5, k6, k7, k8] s ds p q))) rfl (by kernel_rfl) (by kernel_rfl) (by kernel_rfl) (fun _ _ _ h => h) (yieldsIf_load_mid (by rfl) 44 _ rfl w2.heap.size 0 rfl ((inoI [k0, k1, k2, k3, k4, k5, k6, k7, k8] s ds p q).map (Value.int .i64)) _ (fun w' h => ino_whole k0 k1 k2 k3 k4 k5 k6 k7 k8 s ds p q HD.out h.1) Tryd.underlying44 rfl (by rw [List.length_map, ← cellsI_size, HZ.out]; exact info24)) hH ?_
  try simp only [Act.put, List.setIfInBounds_toArray, List.set_cons_zero, List.set_cons_succ]
  refine wpAnyH_take (i := 4) (oi := _) (v := (.pointer (some ⟨w.heap.size + 1, 0, none⟩))) rfl (by kernel_rfl) (by kernel_rfl) (by kernel_rfl) (fun _ _ _ h => h) (Or.inl ⟨by rfl, fun w' hw' => by go_simp⟩) hH ?_
  try simp only [Act.put, List.setIfInBounds_toArray, List.set_cons_zero, List.set_cons_succ]
  refine wpAnyH_take (i := 5) (oi := _) (v := (.pointer (some ⟨w.heap.size + 1, 0, none⟩))) rfl (by kernel_rfl) (by kernel_rfl) (by kernel_rfl) (fun _ _ _ h => h) (Or.inl ⟨by rfl, fun w' hw' => by go_simp⟩) hH ?_
  try simp only [Act.put, List.setIfInBounds_toArray, List.set_cons_zero, List.set_cons_succ]
  refine wpAnyH_take (i := 6) (oi := _) (v := (.pointer (some ⟨w.heap.size + 1, 0, none⟩))) rfl (by kernel_rfl) (by kernel_rfl) (by kernel_rfl) (fun _ _ _ h => h) (Or.inl ⟨by rfl, fun w' hw' => by go_simp⟩) hH ?_
  try simp only [Act.put, List.setIfInBounds_toArray, List.set_cons_zero, List.set_cons_succ]
  refine wpAnyH_take (i := 7) (oi := _) (v := (.pointer (some ⟨w.heap.size + 1, 0, none⟩))) rfl (by kernel_rfl) (by kernel_rfl) (by kernel_rfl) (fun _ _ _ h => h) (Or.inl ⟨by rfl, fun w' hw' => by go_simp⟩) hH ?_
  try simp only [Act.put, List.setIfInBounds_toArray, List.set_cons_zero, List.set_cons_succ]
  refine wpAnyH_take (i := 8) (oi := _) (v := .int .i64 21) rfl (by kernel_rfl) (by kernel_rfl) (by kernel_rfl) (fun _ _ _ h => h) (Or.inl ⟨by rfl, fun w' hw' => by have hc := hw'.2; clear hw'; go_simp⟩) hH ?_
  try simp only [Act.put, List.setIfInBounds_toArray, List.set_cons_zero, List.set_cons_succ]
  refine wpAnyH_ready (rs := [9]) (by kernel_rfl) (by simp) ?_
  refine AllReadyH.cons (o := _) rfl (fun K hK => ?_) AllReadyH.nil
  go_simp
  refine (inodeFault_any k0 k1 k2 k3 k4 k5 k6 k7 k8 s ds p q 21 _ HD.out).mono ?_
  rintro e w5 ⟨ev, rfl, hf5, b5⟩
  have s5 : Blk w5 w2.heap.size (cellsI (inoI [k0, k1, k2, k3, k4, k5, k6, k7, k8] s ds p q)) 44 ∧ w5.cell? ⟨w.heap.size + 1, 0, none⟩ = some (.int .i64 21) := ⟨Blk.below (w := w4.drew) H4.out.2.2.2 b5 hl4, (b5.cell (p := ⟨w.heap.size + 1, 0, none⟩) hl5).trans H4.out.1.ck.1⟩
  have ck5 := H4.out.1.ck.below (((Below.refl _ _).drew).trans b5)
  have ki5 : Blk w5 w.heap.size (cellsI noIno) 44 := Blk.below (w := w4.drew) H4.out.2.1 b5 (by show w.heap.size < w4.heap.size; omega)
  have B5 := hide (H4.out.2.2.1.trans ((((Below.refl _ _).drew).trans b5).mono (by show w.heap.size ≤ w4.heap.size; omega)))
  have F5 := hide (hf5.mono (show w.heap.size + 1 + 1 ≤ w4.heap.size by omega))
  have hs5 : w4.heap.size ≤ w5.heap.size := b5.size
  have C5 := hide (And.intro ck5 (And.intro ki5 s5))
  clear hf5 b5 ck5 ki5
  refine hK.out _ _ s5 (fun hH5 => ?_)
  clear hK K hH s5
  try simp only [Act.put, List.setIfInBounds_toArray, List.set_cons_zero, List.set_cons_succ]
  refine wpAnyH_ready (rs := [10]) (by kernel_rfl) (by simp) ?_
  refine AllReadyH.cons (o := _) rfl (fun K hK => ?_) AllReadyH.nil
  go_simp
  refine (inside_both (w.heap.size + 1) (w.heap.size + 1 + 1) _ 21 _ _ ev _ C5.out.1 F5.out (by omega) (by omega)).mono ?_
  rintro e w6 ⟨rfl, hc6, ht6⟩
  have hs6 := ht6.1.size
  have s6 : Blk w6 w2.heap.size (cellsI (inoI [k0, k1, k2, k3, k4, k5, k6, k7, k8] s ds p q)) 44 := (ht6.1.block _ (by omega) (by simp; omega)).trans C5.out.2.2.1
  have ki6 : Blk w6 w.heap.size (cellsI noIno) 44 := (ht6.1.block _ (by omega) (by simp)).trans C5.out.2.1
  have B6 := hide (B5.out.grown ht6.1 (by omega) (fun k e => by cases e; omega))
  have K6 := hide (And.intro s6 ki6)
  have e6 := ht6.2.1 0 (by omega)
  refine hK.out _ _ ⟨s6, e6.trans C5.out.2.2.2⟩ (fun hH6 => ?_)
  clear hK K hH5 hH6 ht6 s6 ki6 e6 B5 F5 C5 H4
  try simp only [Act.put, List.setIfInBounds_toArray, List.set_cons_zero, List.set_cons_succ]
  refine wpAnyH_done (by kernel_rfl) (NoPanic.normal ?_) _
  have HOK := hide (readI_of zs k0 k1 k2 k3 k4 k5 k6 k7 k8 s ds p q ok2 p2 HA.out.1 HA.out.2 HD.out)
  generalize (ok2 && ((((zs.drop p2).take (128 - p2)).all fun z => decide (z = 0)) && decide (zs.length = 128)) && rightIno k0 k1 k2 k3 k4 k5 k6 k7 k8 s ds p q) = okF at hc6 HOK
  obtain ⟨c1, c2, ev6, c3, c4⟩ := hc6
  clear c1 c2
  rcases c4 with ⟨rfl, rfl⟩ | ⟨rfl, m, c4⟩
  · have C3 := hide c3
    clear c3
    go_wp2_with fail
    refine wp_region_noPanic ?_
    refine wp_region_held_drew (S := fun w' => Blk w' w2.heap.size (cellsI (inoI [k0, k1, k2, k3, k4, k5, k6, k7, k8] s ds p q)) 44 ∧ w'.cell? ⟨w.heap.size + 1, 1, none⟩ = some (.nilIface)) (by kernel_rfl) ⟨K6.out.1, C3.out⟩ (fun hH => ?_)
    refine wpAnyH_take (i := 0) (oi := _) (v := .agg (cellsI (inoI [k0, k1, k2, k3, k4, k5, k6, k7, k8] s ds p q))) rfl (by kernel_rfl) (by kernel_rfl) (by kernel_rfl) (fun _ _ _ h => h) (yieldsIf_load_mid (by rfl) 44 _ rfl w2.heap.size 0 rfl ((inoI [k0, k1, k2, k3, k4, k5, k6, k7, k8] s ds p q).map (Value.int .i64)) _ (fun w' h => ino_whole k0 k1 k2 k3 k4 k5 k6 k7 k8 s ds p q HD.out h.1) Tryd.underlying44 rfl (by rw [List.length_map, ← cellsI_size, HZ.out]; exact info24)) hH ?_
    try simp only [Act.put, List.setIfInBounds_toArray, List.set_cons_zero, List.set_cons_succ]
    refine wpAnyH_take (i := 1) (oi := _) (v := (.pointer (some ⟨w.heap.size + 1, 0, none⟩))) rfl (by kernel_rfl) (by kernel_rfl) (by kernel_rfl) (fun _ _ _ h => h) (Or.inl ⟨by rfl, fun w' hw' => by go_simp⟩) hH ?_
    try simp only [Act.put, List.setIfInBounds_toArray, List.set_cons_zero, List.set_cons_succ]
    refine wpAnyH_take (i := 2) (oi := _) (v := (.pointer (some ⟨w.heap.size + 1, 0, none⟩))) rfl (by kernel_rfl) (by kernel_rfl) (by kernel_rfl) (fun _ _ _ h => h) (Or.inl ⟨by rfl, fun w' hw' => by go_simp⟩) hH ?_
    try simp only [Act.put, List.setIfInBounds_toArray, List.set_cons_zero, List.set_cons_succ]
    refine wpAnyH_take (i := 3) (oi := _) (v := (.pointer (some ⟨w.heap.size + 1, 0, none⟩))) rfl (by kernel_rfl) (by kernel_rfl) (by kernel_rfl) (fun _ _ _ h => h) (Or.inl ⟨by rfl, fun w' hw' => by go_simp⟩) hH ?_
    try simp only [Act.put, List.setIfInBounds_toArray, List.set_cons_zero, List.set_cons_succ]
    refine wpAnyH_take (i := 4) (oi := _) (v := (.pointer (some ⟨w.heap.size + 1, 1, none⟩))) rfl (by kernel_rfl) (by kernel_rfl) (by kernel_rfl) (fun _ _ _ h => h) (Or.inl ⟨by rfl, fun w' hw' => by go_simp⟩) hH ?_
    try simp only [Act.put, List.setIfInBounds_toArray, List.set_cons_zero, List.set_cons_succ]
    refine wpAnyH_take (i := 5) (oi := _) (v := .nilIface) rfl (by kernel_rfl) (by kernel_rfl) (by kernel_rfl) (fun _ _ _ h => h) (Or.inl ⟨by rfl, fun w' hw' => by have hc := hw'.2; clear hw'; go_simp⟩) hH ?_
    try simp only [Act.put, List.setIfInBounds_toArray, List.set_cons_zero, List.set_cons_succ]
    refine wpAnyH_ready (rs := [6]) (by kernel_rfl) (by simp) ?_
    refine AllReadyH.cons (o := _) rfl (fun K hK => ?_) AllReadyH.nil
    go_simp
    refine (toldI_ok (inoI [k0, k1, k2, k3, k4, k5, k6, k7, k8] s ds p q) _ (inoI_len _ _ _ _ _ rfl HD.out)).mono ?_
    rintro e w7 ⟨rfl, b7⟩
    have hl8 : w2.heap.size < w6.heap.size := K6.out.1.lt
    have hl9 : w.heap.size + 1 < w6.heap.size := by omega
    have s7 : Blk w7 w2.heap.size (cellsI (inoI [k0, k1, k2, k3, k4, k5, k6, k7, k8] s ds p q)) 44 ∧ w7.cell? ⟨w.heap.size + 1, 1, none⟩ = some (.nilIface) := ⟨Blk.below (w := w6.drew) K6.out.1 b7 hl8, (b7.cell (p := ⟨w.heap.size + 1, 1, none⟩) hl9).trans C3.out⟩
    have kb7 : Blk w7 w.heap.size (cellsI noIno) 44 := Blk.below (w := w6.drew) K6.out.2 b7 (by show w.heap.size < w6.heap.size; omega)
    have HF := hide (And.intro kb7 (And.intro (kb7.row (cellsI (inoI [k0, k1, k2, k3, k4, k5, k6, k7, k8] s ds p q))) (below_setRow (B6.out.trans ((((Below.refl _ w6).drew).trans b7).mono (by show w.heap.size ≤ w6.heap.size; omega))) (Nat.le_refl _) (cellsI (inoI [k0, k1, k2, k3, k4, k5, k6, k7, k8] s ds p q)))))
    have HZ2 := hide (show (cellsI (inoI [k0, k1, k2, k3, k4, k5, k6, k7, k8] s ds p q)).size = 24 from by rw [cellsI_size]; exact inoI_len _ _ _ _ _ rfl HD.out)
    clear kb7 b7
    refine hK.out _ _ s7 (fun hH => ?_)
    clear hK K s7
    try simp only [Act.put, List.setIfInBounds_toArray, List.set_cons_zero, List.set_cons_succ]
    refine wpAnyH_take (i := 7) (oi := _) (v := .agg (cellsI (inoI [k0, k1, k2, k3, k4, k5, k6, k7, k8] s ds p q))) rfl (by kernel_rfl) (by kernel_rfl) (by kernel_rfl) (fun _ _ _ h => h) (Or.inl ⟨by rfl, fun w' hw' => by go_simp⟩) hH ?_
    try simp only [Act.put, List.setIfInBounds_toArray, List.set_cons_zero, List.set_cons_succ]
    refine wpAnyH_take (i := 8) (oi := _) (v := .int .i64 0) rfl (by kernel_rfl) (by kernel_rfl) (by kernel_rfl) (fun _ _ _ h => h) (Or.inl ⟨by rfl, fun w' hw' => by go_simp⟩) hH ?_
    try simp only [Act.put, List.setIfInBounds_toArray, List.set_cons_zero, List.set_cons_succ]
    refine wpAnyH_ready (rs := [9]) (by kernel_rfl) (by simp) ?_
    refine AllReadyH.cons (o := _) rfl (fun K hK => ?_) AllReadyH.nil
    rw [if_pos (by rfl)]
    refine wp_store_row 44 _ _ rfl w.heap.size (cellsI (inoI [k0, k1, k2, k3, k4, k5, k6, k7, k8] s ds p q)) rfl rfl 44 _ HF.out.1 (by rw [HZ2.out]; exact info24) (by first | (rw [HZ2.out]; done) | (rw [HZ2.out]; rfl)) (cellsI_one _) ?_
    refine hK.out _ _ ⟨(setRow_block _ _ _ _ (by omega)).trans hH.1, (World.cell?_of_block (a := ⟨w.heap.size + 1, 1, none⟩) (setRow_block _ _ _ _ (by show w.heap.size + 1 ≠ w.heap.size; omega))).trans hH.2⟩ (fun hH9 => ?_)
    clear hK K
    try simp only [Act.put, List.setIfInBounds_toArray, List.set_cons_zero, List.set_cons_succ]
    refine wpAnyH_ready (rs := [10]) (by kernel_rfl) (by simp) ?_
    refine AllReadyH.cons (o := _) rfl (fun K hK => ?_) AllReadyH.nil
    go_simp
    refine hK.out _ _ hH9 (fun hH10 => ?_)
    clear hK K
    try simp only [Act.put, List.setIfInBounds_toArray, List.set_cons_zero, List.set_cons_succ]
    refine wpAnyH_done (by kernel_rfl) (NoPanic.normal ?_) _
    clear hH hH9 hH10
    go_wp2
    refine bodyPost_ret (v := .tuple #[.agg (cellsI (inoI [k0, k1, k2, k3, k4, k5, k6, k7, k8] s ds p q)), .int .i64 0]) ?_ rfl ⟨k0, k1, k2, k3, k4, k5, k6, k7, k8, s, ds, p, q, true, HOK.out, rfl, HF.out.2.2⟩
    exact results_row_tmp rfl _ _ w.heap.size 44 (cellsI (inoI [k0, k1, k2, k3, k4, k5, k6, k7, k8] s ds p q)) (0, 0) _ _ rfl rfl HF.out.2.1 Tryd.underlying44 rfl (by rw [HZ2.out]; exact info24)
  · have H6f := hide c4
    obtain ⟨t', x', rfl⟩ := c4.iface
    clear c4
    have C3 := hide c3
    clear c3
    go_wp2_with fail
    refine wp_region_noPanic ?_
    refine wp_region_held_drew (S := fun w' => Blk w' w2.heap.size (cellsI (inoI [k0, k1, k2, k3, k4, k5, k6, k7, k8] s ds p q)) 44 ∧ w'.cell? ⟨w.heap.size + 1, 1, none⟩ = some (.iface t' (.pointer (some x')))) (by kernel_rfl) ⟨K6.out.1, C3.out⟩ (fun hH => ?_)
    refine wpAnyH_take (i := 0) (oi := _) (v := .agg (cellsI (inoI [k0, k1, k2, k3, k4, k5, k6, k7, k8] s ds p q))) rfl (by kernel_rfl) (by kernel_rfl) (by kernel_rfl) (fun _ _ _ h => h) (yieldsIf_load_mid (by rfl) 44 _ rfl w2.heap.size 0 rfl ((inoI [k0, k1, k2, k3, k4, k5, k6, k7, k8] s ds p q).map (Value.int .i64)) _ (fun w' h => ino_whole k0 k1 k2 k3 k4 k5 k6 k7 k8 s ds p q HD.out h.1) Tryd.underlying44 rfl (by rw [List.length_map, ← cellsI_size, HZ.out]; exact info24)) hH ?_
    try simp only [Act.put, List.setIfInBounds_toArray, List.set_cons_zero, List.set_cons_succ]
    refine wpAnyH_take (i := 1) (oi := _) (v := (.pointer (some ⟨w.heap.size + 1, 0, none⟩))) rfl (by kernel_rfl) (by kernel_rfl) (by kernel_rfl) (fun _ _ _ h => h) (Or.inl ⟨by rfl, fun w' hw' => by go_simp⟩) hH ?_
    try simp only [Act.put, List.setIfInBounds_toArray, List.set_cons_zero, List.set_cons_succ]
    refine wpAnyH_take (i := 2) (oi := _) (v := (.pointer (some ⟨w.heap.size + 1, 0, none⟩))) rfl (by kernel_rfl) (by kernel_rfl) (by kernel_rfl) (fun _ _ _ h => h) (Or.inl ⟨by rfl, fun w' hw' => by go_simp⟩) hH ?_
    try simp only [Act.put, List.setIfInBounds_toArray, List.set_cons_zero, List.set_cons_succ]
    refine wpAnyH_take (i := 3) (oi := _) (v := (.pointer (some ⟨w.heap.size + 1, 0, none⟩))) rfl (by kernel_rfl) (by kernel_rfl) (by kernel_rfl) (fun _ _ _ h => h) (Or.inl ⟨by rfl, fun w' hw' => by go_simp⟩) hH ?_
    try simp only [Act.put, List.setIfInBounds_toArray, List.set_cons_zero, List.set_cons_succ]
    refine wpAnyH_take (i := 4) (oi := _) (v := (.pointer (some ⟨w.heap.size + 1, 1, none⟩))) rfl (by kernel_rfl) (by kernel_rfl) (by kernel_rfl) (fun _ _ _ h => h) (Or.inl ⟨by rfl, fun w' hw' => by go_simp⟩) hH ?_
    try simp only [Act.put, List.setIfInBounds_toArray, List.set_cons_zero, List.set_cons_succ]
    refine wpAnyH_take (i := 5) (oi := _) (v := .iface t' (.pointer (some x'))) rfl (by kernel_rfl) (by kernel_rfl) (by kernel_rfl) (fun _ _ _ h => h) (Or.inl ⟨by rfl, fun w' hw' => by have hc := hw'.2; clear hw'; go_simp⟩) hH ?_
    try simp only [Act.put, List.setIfInBounds_toArray, List.set_cons_zero, List.set_cons_succ]
    refine wpAnyH_ready (rs := [6]) (by kernel_rfl) (by simp) ?_
    refine AllReadyH.cons (o := _) rfl (fun K hK => ?_) AllReadyH.nil
    go_simp
    refine (toldI_bad (inoI [k0, k1, k2, k3, k4, k5, k6, k7, k8] s ds p q) _ m _ 21 _ (inoI_len _ _ _ _ _ rfl HD.out) (H6f.out.below ((Below.refl _ _).drew)) ((HR.out.2.below B6.out).below ((Below.refl _ _).drew))).mono ?_
    rintro e w7 ⟨rfl, b7⟩
    have hl8 : w2.heap.size < w6.heap.size := K6.out.1.lt
    have hl9 : w.heap.size + 1 < w6.heap.size := by omega
    have s7 : Blk w7 w2.heap.size (cellsI (inoI [k0, k1, k2, k3, k4, k5, k6, k7, k8] s ds p q)) 44 ∧ w7.cell? ⟨w.heap.size + 1, 1, none⟩ = some (.iface t' (.pointer (some x'))) := ⟨Blk.below (w := w6.drew) K6.out.1 b7 hl8, (b7.cell (p := ⟨w.heap.size + 1, 1, none⟩) hl9).trans C3.out⟩
    have kb7 : Blk w7 w.heap.size (cellsI noIno) 44 := Blk.below (w := w6.drew) K6.out.2 b7 (by show w.heap.size < w6.heap.size; omega)
    have HF := hide (And.intro kb7 (And.intro (kb7.row (cellsI noIno)) (below_setRow (B6.out.trans ((((Below.refl _ w6).drew).trans b7).mono (by show w.heap.size ≤ w6.heap.size; omega))) (Nat.le_refl _) (cellsI noIno))))
    have HZ2 := hide (show (cellsI noIno).size = 24 from rfl)
    clear kb7 b7
    refine hK.out _ _ s7 (fun hH => ?_)
    clear hK K s7
    try simp only [Act.put, List.setIfInBounds_toArray, List.set_cons_zero, List.set_cons_succ]
    refine wpAnyH_take (i := 7) (oi := _) (v := .agg (cellsI noIno)) rfl (by kernel_rfl) (by kernel_rfl) (by kernel_rfl) (fun _ _ _ h => h) (Or.inl ⟨by rfl, fun w' hw' => by go_simp⟩) hH ?_
    try simp only [Act.put, List.setIfInBounds_toArray, List.set_cons_zero, List.set_cons_succ]
    refine wpAnyH_take (i := 8) (oi := _) (v := .int .i64 21) rfl (by kernel_rfl) (by kernel_rfl) (by kernel_rfl) (fun _ _ _ h => h) (Or.inl ⟨by rfl, fun w' hw' => by go_simp⟩) hH ?_
    try simp only [Act.put, List.setIfInBounds_toArray, List.set_cons_zero, List.set_cons_succ]
    refine wpAnyH_ready (rs := [9]) (by kernel_rfl) (by simp) ?_
    refine AllReadyH.cons (o := _) rfl (fun K hK => ?_) AllReadyH.nil
    rw [if_pos (by rfl)]
    refine wp_store_row 44 _ _ rfl w.heap.size (cellsI noIno) rfl rfl 44 _ HF.out.1 (by rw [HZ2.out]; exact info24) (by first | (rw [HZ2.out]; done) | (rw [HZ2.out]; rfl)) (cellsI_one _) ?_
    refine hK.out _ _ ⟨(setRow_block _ _ _ _ (by omega)).trans hH.1, (World.cell?_of_block (a := ⟨w.heap.size + 1, 1, none⟩) (setRow_block _ _ _ _ (by show w.heap.size + 1 ≠ w.heap.size; omega))).trans hH.2⟩ (fun hH9 => ?_)
    clear hK K
    try simp only [Act.put, List.setIfInBounds_toArray, List.set_cons_zero, List.set_cons_succ]
    refine wpAnyH_ready (rs := [10]) (by kernel_rfl) (by simp) ?_
    refine AllReadyH.cons (o := _) rfl (fun K hK => ?_) AllReadyH.nil
    go_simp
    refine hK.out _ _ hH9 (fun hH10 => ?_)
    clear hK K
    try simp only [Act.put, List.setIfInBounds_toArray, List.set_cons_zero, List.set_cons_succ]
    refine wpAnyH_done (by kernel_rfl) (NoPanic.normal ?_) _
    clear hH hH9 hH10
    go_wp2
    refine bodyPost_ret (v := .tuple #[.agg (cellsI noIno), .int .i64 21]) ?_ rfl ⟨k0, k1, k2, k3, k4, k5, k6, k7, k8, s, ds, p, q, false, HOK.out, rfl, HF.out.2.2⟩
    exact results_row_tmp rfl _ _ w.heap.size 44 (cellsI noIno) (0, 0) _ _ rfl rfl HF.out.2.1 Tryd.underlying44 rfl (by rw [HZ2.out]; exact info24)
end Go.Proofs.YtlgafpjmifacmaaDoor
