/- The program tells a root record: told at Fsinfo; DecodeFsinfo. -/
import Derived.Test.YtkbbnflblkkepaaGreatDoorZm26
import Derived.Test.YtkbbnflblkkepaaGreatDoorZm36
import Derived.Test.YtkbbnflblkkepaaGreatDoorZm29
import Derived.Deep.RegionHeld3
import Derived.Deep.MidRow
namespace Go.Proofs.YtkbbnflblkkepaaGreatDoor
set_option linter.unusedVariables false
set_option linter.unusedSimpArgs false
open Go.RowKit

def noFs : List Int := List.replicate 68 0

set_option maxRecDepth 100000 in
set_option maxHeartbeats 1000000 in
theorem toldF_ok (xs : List Int) (w : World) (hx : xs.length = 68) :
    Calls Tryz.prog 41 #[.agg (cellsI xs), .nilIface] w fun e w' => e = .returned (.tuple #[.agg (cellsI xs), .int .i64 0]) ∧ Below w.heap.size w w' := by
  have HZ := hide (show (cellsI xs).size = 68 from by rw [cellsI_size]; exact hx)
  have kB := (Blk.new w (cellsI xs) 37).alloc (.cells (cellsI noFs) 37)
  have kC := Blk.new (w.alloc (.cells (cellsI xs) 37)) (cellsI noFs) 37
  rw [World.size_alloc] at kC
  have K := hide (And.intro kB (And.intro kC (((Below.refl w.heap.size w).alloc (Nat.le_refl _) (.cells (cellsI xs) 37)).alloc (by simp) (.cells (cellsI noFs) 37))))
  clear kB kC hx
  go_enter Tryz.func41, Tryz.ntmps41
  go_wp2_with (first | (refine wpList_load_row rfl 37 _ rfl w.heap.size rfl 37 (cellsI xs) (0, 0) _ K.out.1 Tryz.underlying37 rfl (by rw [HZ.out]; exact info68) ?_) | (refine wpList_store_row rfl 37 _ _ rfl (w.heap.size + 1) (cellsI xs) rfl rfl 37 _ K.out.2.1 (by rw [HZ.out]; exact info68) (by rw [HZ.out]; rfl) (cellsI_one _) ?_))
  refine bodyPost_ret (v := .tuple #[.agg (cellsI xs), .int .i64 0]) ?_ rfl ⟨rfl, below_setRow K.out.2.2 (by omega) _⟩
  exact results_row_tmp rfl _ _ (w.heap.size + 1) 37 (cellsI xs) (0, 0) _ _ rfl rfl (K.out.2.1.row _) Tryz.underlying37 rfl (by rw [HZ.out]; exact info68)

theorem noFs_range {w : World} {b : Nat} {t : TypeId} (h : Blk w b (cellsI noFs) t) : w.rangeAt b 0 (noFs.map (Value.int .i64)) := by
  have := h.range 0 68 (by decide)
  exact this
set_option maxRecDepth 100000 in
set_option maxHeartbeats 2000000 in
theorem toldF_bad (xs : List Int) (lo n : Nat) (v : Value) (c : Int) (w : World) (hx : xs.length = 68) (hv : Flt w lo n v c) (hg : ErrT w) :
    Calls Tryz.prog 41 #[.agg (cellsI xs), v] w fun e w' => e = .returned (.tuple #[.agg (cellsI noFs), .int .i64 c]) ∧ Below w.heap.size w w' := by
  have HZ := hide (show (cellsI xs).size = 68 from by rw [cellsI_size]; exact hx)
  have HV := hide (And.intro hv hg)
  obtain ⟨t', x', rfl⟩ := hv.iface
  clear hv hg hx
  go_enter Tryz.func41, Tryz.ntmps41
  have kB := ((Blk.new (w.alloc (.cells (cellsI xs) 37)) Tryz.zeroCells37 37).alloc (.cells Tryz.zeroCells37 37))
  have kC := Blk.new ((w.alloc (.cells (cellsI xs) 37)).alloc (.cells Tryz.zeroCells37 37)) Tryz.zeroCells37 37
  rw [World.size_alloc] at kB
  rw [World.size_alloc, World.size_alloc] at kC
  have K0 := hide (And.intro kB (And.intro kC ((((Below.refl w.heap.size w).alloc (Nat.le_refl _) (.cells (cellsI xs) 37)).alloc (by simp) (.cells Tryz.zeroCells37 37)).alloc (by simp; omega) (.cells Tryz.zeroCells37 37))))
  clear kB kC
  go_wp2
  generalize hW : ((w.alloc (.cells (cellsI xs) 37)).alloc (.cells Tryz.zeroCells37 37)).alloc (.cells Tryz.zeroCells37 37) = W at K0 ⊢
  have hWs : W.heap.size = w.heap.size + 3 := by rw [← hW]; simp
  clear hW
  refine wp_region_noPanic ?_
  refine wp_region_held_drew (S := fun w' => Blk w' (w.heap.size + 1 + 1) (cellsI noFs) 37) (by kernel_rfl) (show Blk W.drew (w.heap.size + 1 + 1) (cellsI noFs) 37 from K0.out.2.1) (fun hH => ?_)
  refine wpAnyH_take (i := 0) (oi := _) (v := .agg (cellsI noFs)) rfl (by kernel_rfl) (by kernel_rfl) (by kernel_rfl) (fun _ _ _ h => h) (yieldsIf_load_mid (by rfl) 37 _ rfl (w.heap.size + 1 + 1) 0 rfl (noFs.map (Value.int .i64)) _ (fun w' h => noFs_range h) Tryz.underlying37 rfl info68) hH ?_
  try simp only [Act.put, List.setIfInBounds_toArray, List.set_cons_zero, List.set_cons_succ]
  refine wpAnyH_take (i := 1) (oi := _) (v := .iface t' (.pointer (some x'))) rfl (by kernel_rfl) (by kernel_rfl) (by kernel_rfl) (fun _ _ _ h => h) (Or.inl ⟨by rfl, fun w' hw' => by rfl⟩) hH ?_
  try simp only [Act.put, List.setIfInBounds_toArray, List.set_cons_zero, List.set_cons_succ]
  refine wpAnyH_ready (rs := [2]) (by kernel_rfl) (by simp) ?_
  refine AllReadyH.cons (o := _) rfl (fun K hK => ?_) AllReadyH.nil
  go_simp
  refine (codeOf_any n _ c lo _ (HV.out.1.below (K0.out.2.2.drew.mono (by omega))) (HV.out.2.below K0.out.2.2.drew)).mono ?_
  rintro e w5 ⟨rfl, b5⟩
  have s5 : Blk w5 (w.heap.size + 1 + 1) (cellsI noFs) 37 := Blk.below (w := W.drew) K0.out.2.1 b5 (by show _ < W.heap.size; omega)
  have kb5 : Blk w5 (w.heap.size + 1) (cellsI noFs) 37 := Blk.below (w := W.drew) K0.out.1 b5 (by show _ < W.heap.size; omega)
  have HF := hide (And.intro (kb5.row (cellsI noFs)) (below_setRow (g := w.heap.size + 1) (K0.out.2.2.trans ((((Below.refl _ W).drew).trans b5).mono (by show w.heap.size ≤ W.heap.size; omega))) (by omega) (cellsI noFs)))
  have KB5 := hide kb5
  clear b5 kb5
  refine hK.out _ _ s5 (fun hH5 => ?_)
  clear hK K hH
  try simp only [Act.put, List.setIfInBounds_toArray, List.set_cons_zero, List.set_cons_succ]
  refine wpAnyH_ready (rs := [3]) (by kernel_rfl) (by simp) ?_
  refine AllReadyH.cons (o := _) rfl (fun K hK => ?_) AllReadyH.nil
  rw [if_pos (by rfl)]
  refine wp_store_row 37 _ _ rfl (w.heap.size + 1) (cellsI noFs) rfl rfl 37 _ KB5.out info68 rfl (cellsI_one _) ?_
  refine hK.out _ _ (show Blk _ _ _ _ from (setRow_block _ _ _ _ (by omega)).trans hH5) (fun hH6 => ?_)
  clear hK K
  try simp only [Act.put, List.setIfInBounds_toArray, List.set_cons_zero, List.set_cons_succ]
  refine wpAnyH_ready (rs := [4]) (by kernel_rfl) (by simp) ?_
  refine AllReadyH.cons (o := _) rfl (fun K hK => ?_) AllReadyH.nil
  go_simp
  refine hK.out _ _ hH6 (fun hH7 => ?_)
  clear hK K
  try simp only [Act.put, List.setIfInBounds_toArray, List.set_cons_zero, List.set_cons_succ]
  refine wpAnyH_done (by kernel_rfl) (NoPanic.normal ?_) _
  clear hH5 hH6 hH7 s5
  go_wp2
  refine bodyPost_ret (v := .tuple #[.agg (cellsI noFs), .int .i64 c]) ?_ rfl ⟨rfl, HF.out.2⟩
  exact results_row_tmp rfl _ _ (w.heap.size + 1) 37 (cellsI noFs) (0, 0) _ _ rfl rfl HF.out.1 Tryz.underlying37 rfl info68
theorem row_whole {X : List Int} (hX : X.length = 68) {w : World} {b : Nat} {t : TypeId} (h : Blk w b (cellsI X) t) : w.rangeAt b 0 (X.map (Value.int .i64)) := by
  have := h.range 0 68 (by omega)
  rw [List.drop_zero, List.take_of_length_le (by omega)] at this
  exact this
/-- The block's sum and letters, and the zeros behind its bytes. -/
def sumB (zs : List Int) : Bool := decide (unle ((zs.drop 508).take 4) = Crc.crc (zs.take 508))
def frameF (zs : List Int) : Bool := sumB zs && decide (zs.take 8 = fsLet) && allz ((zs.drop 300).take 208)
/-- What DecodeFsinfo reads, and whether it is told. -/
def FsRead (zs X : List Int) (ok : Bool) : Prop :=
  ∃ gen bl cu ck op ev lg s1 ds1 p1 q1 s2 ds2 p2 q2 sn, ds1.length = 12 ∧ ds2.length = 12 ∧ sn.length = 31 ∧ X = fsI gen bl cu ck op ev lg s1 ds1 p1 q1 s2 ds2 p2 q2 sn ∧ (zs.length ≠ 512 → ok = false) ∧ (zs.length = 512 → frameF zs = false → ok = false) ∧ (zs.length = 512 → frameF zs = true → FsAt (zs.take 508) gen bl cu ck op ev lg s1 ds1 p1 q1 s2 ds2 p2 q2 sn ∧ ok = rightF gen bl cu ck op ev lg s1 ds1 p1 q1 s2 ds2 p2 q2 sn)
theorem fsRead_of (zs : List Int) (ok0 : Bool) (ys : List Int) (p0 : Nat) (hB : BlkRd zs fsLet ok0 ys p0) (gen bl cu ck op ev lg s1 : Int) (ds1 : List Int) (p1 q1 s2 : Int) (ds2 : List Int) (p2 q2 : Int) (sn : List Int) (hd1 : ds1.length = 12) (hd2 : ds2.length = 12) (hsn : sn.length = 31) (ok2 : Bool) (pr : Nat) (ha : AdvC ys 300 ok0 ok2 pr) (hv : ok2 = true → FsAt ys gen bl cu ck op ev lg s1 ds1 p1 q1 s2 ds2 p2 q2 sn) :
    FsRead zs (fsI gen bl cu ck op ev lg s1 ds1 p1 q1 s2 ds2 p2 q2 sn) (ok2 && ((((ys.drop pr).take (508 - pr)).all fun z => decide (z = 0)) && decide (ys.length = 508)) && rightF gen bl cu ck op ev lg s1 ds1 p1 q1 s2 ds2 p2 q2 sn) := by
  obtain ⟨h1, h2, h3⟩ := ha
  have hno : ok0 = false → ok2 = false := fun h => by
    cases h4 : ok2 with
    | false => rfl
    | true => have := (h2.1 h4).2; rw [h] at this; cases this
  refine ⟨gen, bl, cu, ck, op, ev, lg, s1, ds1, p1, q1, s2, ds2, p2, q2, sn, hd1, hd2, hsn, rfl, fun h => ?_, fun h hf => ?_, fun h hf => ?_⟩
  · rcases hB with ⟨_, hk, _, _⟩ | ⟨hk, _⟩
    · rw [hno hk]; rfl
    · exact absurd hk h
  · rcases hB with ⟨hk, _, _, _⟩ | ⟨_, rfl, hk, _, _⟩
    · exact absurd h hk
    · cases h4 : ok2 with
      | false => rfl
      | true =>
        have hp := h3 h4
        subst hp
        have hC := (h2.1 h4).2
        rw [hk] at hC
        have e : ((zs.take 508).drop 300).take (508 - 300) = (zs.drop 300).take 208 := by rw [List.drop_take, List.take_take]; rfl
        unfold frameF sumB at hf
        rw [hC, Bool.true_and] at hf
        rw [e]
        have hf' : ((zs.drop 300).take 208).all (fun z => decide (z = 0)) = false := hf
        rw [hf']
        rfl
  · rcases hB with ⟨hk, _, _, _⟩ | ⟨_, rfl, hk, _, _⟩
    · exact absurd h hk
    · unfold frameF sumB at hf
      rw [← hk, Bool.and_eq_true] at hf
      have hlen : (zs.take 508).length = 508 := by rw [List.length_take, h]; rfl
      have ho := h2.2 ⟨by omega, hf.1⟩
      have hp := h3 ho
      subst hp
      refine ⟨hv ho, ?_⟩
      have e : ((zs.take 508).drop 300).take (508 - 300) = (zs.drop 300).take 208 := by rw [List.drop_take, List.take_take]; rfl
      have hf' : ((zs.drop 300).take 208).all (fun z => decide (z = 0)) = true := hf.2
      rw [ho, e, hf', decide_eq_true hlen]
      rfl
set_option maxRecDepth 100000 in
set_option maxHeartbeats 4000000 in
theorem implDFs_any (v : Value) (zs : List Int) (w : World) (h : Rd .u8 w v zs) (hbd : ∀ z ∈ zs, 0 ≤ z ∧ z < 256) (hz : zs.length ≤ 140737488355328) (hg : ErrT w) (hL : LetF w) :
    Calls Tryz.prog 25 #[v] w fun e w' => ∃ X ok, FsRead zs X ok ∧ e = .returned (.tuple #[.agg (cellsI (if ok = true then X else noFs)), .int .i64 (if ok = true then 0 else 21)]) ∧ Below w.heap.size w w' := by
  have HB := hide hbd
  have HR := hide (And.intro h hg)
  have hb0 : ∀ C, Below w.heap.size w (w.alloc C) := fun C => (Below.refl _ _).alloc (Nat.le_refl _) _
  have HB0 := hide hb0
  have HLt := hide (fun C => hL.below (hb0 C))
  clear hbd hg hb0 hL
  obtain ⟨a, cap, rfl, _⟩ := h
  go_enter Tryz.func25, Tryz.ntmps25
  go_wp2_with (first | (refine wpList_load_mid rfl 94 _ rfl 0 0 rfl (fsLet.map (Value.int .u8)) _ (HLt.out _) Tryz.underlying94 rfl (by kernel_rfl) ?_) | (go_at_call 36; fail))
  refine (newBlock_any _ zs fsLet _ rfl (HR.out.1.below (HB0.out _)) HB.out hz).mono ?_
  rintro e w1 ⟨w0, rb, lo, ok0, dv, ys, p0, rfl, r1, b1, hrb, hBR⟩
  have hys : (∀ z ∈ ys, 0 ≤ z ∧ z < 256) ∧ ys.length ≤ 140737488355328 := by
    rcases hBR with ⟨_, _, _, rfl⟩ | ⟨_, rfl, _⟩
    · exact ⟨by simp, by simp⟩
    · exact ⟨fun z hz => HB.out z (List.mem_of_mem_take hz), by rw [List.length_take]; omega⟩
  have hA : AdvC ys 8 ok0 ok0 p0 := by
    rcases hBR with ⟨_, rfl, rfl, rfl⟩ | ⟨h5, rfl, h2, h3, h4⟩
    · exact ⟨by omega, ⟨(fun h => by cases h), (fun h => h.2)⟩, (fun h => by cases h)⟩
    · exact ⟨h3, ⟨fun h => ⟨by rw [List.length_take, h5]; decide, h⟩, fun h => h.2⟩, h4⟩
  rw [World.size_alloc] at hrb b1
  have ki1 : Blk w1 w.heap.size Tryz.zeroCells37 37 := (Blk.new w Tryz.zeroCells37 37).below b1 (by omega)
  have H1 := hide (And.intro r1 (And.intro ki1 ((HB0.out (.cells Tryz.zeroCells37 37)).trans (b1.mono (by omega)))))
  have HBR := hide hBR
  clear r1 b1 ki1 hBR
  go_wp2_with (go_at_call 37; fail)
  have H1' := H1.out.1
  refine (readFs_any _ _ _ _ ok0 _ ys p0 ok0 H1' hA hys.2 hys.1).mono ?_
  rintro e w2 ⟨gen, bl, cu, ck, op, ev0, lg, s1, ds1, p1, q1, s2, ds2, p22, q2, sn, ok2, p2, rfl, hd1, hd2, hsn, r2, a2, v2, g2⟩
  obtain ⟨X, hX⟩ : ∃ X, X = fsI gen bl cu ck op ev0 lg s1 ds1 p1 q1 s2 ds2 p22 q2 sn := ⟨_, rfl⟩
  have HXL := hide (show X.length = 68 from by rw [hX]; exact fsI_len _ _ _ _ _ _ _ _ _ _ _ _ _ _ _ _ hd1 hd2 hsn)
  obtain ⟨RF, hRF⟩ : ∃ RF, RF = rightF gen bl cu ck op ev0 lg s1 ds1 p1 q1 s2 ds2 p22 q2 sn := ⟨_, rfl⟩
  have HFF := hide (show ∀ w : World, Calls Tryz.prog 40 #[.agg (cellsI X), .int .i64 21] w fun e w' => ∃ ev', e = .returned ev' ∧ FaultIs w' w.heap.size RF ev' 21 ∧ Below w.heap.size w w' from fun w => by rw [hX, hRF]; exact fsFault_any _ _ _ _ _ _ _ _ _ _ _ _ _ _ _ _ 21 w hd1 hd2 hsn)
  have HOKF := hide (fsRead_of zs ok0 ys p0 HBR.out gen bl cu ck op ev0 lg s1 ds1 p1 q1 s2 ds2 p22 q2 sn hd1 hd2 hsn ok2 p2 a2 v2)
  rw [← hX, ← hRF] at HOKF
  rw [← hX]
  have HA := hide a2
  have hp2 : p2 ≤ 508 := Nat.le_trans a2.1 (by omega)
  clear hX hRF hd1 hd2 hsn v2 a2
  have hs2 := g2.size
  have hlt1 := H1'.ck.lt
  have hlo := r2.lo1
  have hlo2 := r2.lo2
  have ki2 : Blk w2 w.heap.size (cellsI noFs) 37 := (g2.block _ (by omega) (by simp; omega)).trans H1.out.2.1
  have hb12 : rb < w2.heap.size := r2.ck.lt
  have HZ := hide (show (cellsI X).size = 68 from by rw [cellsI_size]; exact HXL.out)
  have H2 := hide (show Rdr _ ((w2.alloc (.cells Tryz.zeroCells37 37)).setRow w2.heap.size (cellsI X)) rb _ ok2 _ ys p2 ∧ Blk ((w2.alloc (.cells Tryz.zeroCells37 37)).setRow w2.heap.size (cellsI X)) w.heap.size (cellsI noFs) 37 ∧ Below w.heap.size w ((w2.alloc (.cells Tryz.zeroCells37 37)).setRow w2.heap.size (cellsI X)) ∧ Blk ((w2.alloc (.cells Tryz.zeroCells37 37)).setRow w2.heap.size (cellsI X)) w2.heap.size (cellsI X) 37 from
    ⟨(r2.alloc _).row _ hb12 (Blk.new w2 (cellsI (List.replicate 68 0)) 37) (by decide), (setRow_block _ _ _ _ (by omega)).trans (ki2.alloc _), below_setRow ((H1.out.2.2.grown g2 (by omega) (fun k e => by cases e; omega)).alloc (by omega) _) (by omega) _, (Blk.new w2 Tryz.zeroCells37 37).row _⟩)
  clear r2 ki2 g2 H1' H1
  go_wp2_with (first | (refine wpList_store_row rfl 37 _ _ rfl w2.heap.size (cellsI X) rfl rfl 37 _ (Blk.new w2 Tryz.zeroCells37 37) (by rw [HZ.out]; exact info68) (by rw [HZ.out]; rfl) (cellsI_one _) ?_) | (go_at_call 38; fail))
  generalize hW3 : (w2.alloc (.cells Tryz.zeroCells37 37)).setRow w2.heap.size (cellsI X) = w3 at H2 ⊢
  clear hW3
  refine (end_any _ _ _ _ ok2 _ ys p2 508 H2.out.1 hp2 (by omega) (by omega) hys.2).mono ?_
  rintro e w4 ⟨rfl, g4, p4, r4⟩
  have hs4 := g4.size
  have hl3 := H2.out.2.2.2.lt
  have ki4 : Blk w4 w.heap.size (cellsI noFs) 37 := (g4.block _ (by omega) (by simp; omega)).trans H2.out.2.1
  have kr4 : Blk w4 w2.heap.size (cellsI X) 37 := (g4.block _ (by omega) (by simp; omega)).trans H2.out.2.2.2
  have H4 := hide (And.intro r4 (And.intro ki4 (And.intro (H2.out.2.2.1.grown g4 (by omega) (fun k e => by cases e; omega)) kr4)))
  clear r4 ki4 kr4 g4 H2
  have hl4 : w2.heap.size < w4.heap.size := by omega
  have hl5 : rb < w4.heap.size := by omega
  go_wp2_with fail
  refine wp_region_noPanic ?_
  refine wp_region_held_drew (S := fun w' => Blk w' w2.heap.size (cellsI X) 37 ∧ w'.cell? ⟨rb, 0, none⟩ = some (.int .i64 21)) (by kernel_rfl) ⟨H4.out.2.2.2, H4.out.1.ck.1⟩ (fun hH => ?_)
  refine wpAnyH_take (i := 0) (oi := _) (v := (.pointer (some ⟨rb, 0, none⟩))) rfl (by kernel_rfl) (by kernel_rfl) (by kernel_rfl) (fun _ _ _ h => h) (Or.inl ⟨by rfl, fun w' hw' => by go_simp⟩) hH ?_
  try simp only [Act.put, List.setIfInBounds_toArray, List.set_cons_zero, List.set_cons_succ]
  refine wpAnyH_take (i := 1) (oi := _) (v := (.pointer (some ⟨rb, 0, none⟩))) rfl (by kernel_rfl) (by kernel_rfl) (by kernel_rfl) (fun _ _ _ h => h) (Or.inl ⟨by rfl, fun w' hw' => by go_simp⟩) hH ?_
  try simp only [Act.put, List.setIfInBounds_toArray, List.set_cons_zero, List.set_cons_succ]
  refine wpAnyH_take (i := 2) (oi := _) (v := (.pointer (some ⟨rb, 0, none⟩))) rfl (by kernel_rfl) (by kernel_rfl) (by kernel_rfl) (fun _ _ _ h => h) (Or.inl ⟨by rfl, fun w' hw' => by go_simp⟩) hH ?_
  try simp only [Act.put, List.setIfInBounds_toArray, List.set_cons_zero, List.set_cons_succ]
  refine wpAnyH_take (i := 3) (oi := _) (v := .agg (cellsI X)) rfl (by kernel_rfl) (by kernel_rfl) (by kernel_rfl) (fun _ _ _ h => h) (yieldsIf_load_mid (by rfl) 37 _ rfl w2.heap.size 0 rfl (X.map (Value.int .i64)) _ (fun w' h => row_whole HXL.out h.1) Tryz.underlying37 rfl (by rw [List.length_map, ← cellsI_size, HZ.out]; exact info68)) hH ?_
  try simp only [Act.put, List.setIfInBounds_toArray, List.set_cons_zero, List.set_cons_succ]
  refine wpAnyH_take (i := 4) (oi := _) (v := (.pointer (some ⟨rb, 0, none⟩))) rfl (by kernel_rfl) (by kernel_rfl) (by kernel_rfl) (fun _ _ _ h => h) (Or.inl ⟨by rfl, fun w' hw' => by go_simp⟩) hH ?_
  try simp only [Act.put, List.setIfInBounds_toArray, List.set_cons_zero, List.set_cons_succ]
  refine wpAnyH_take (i := 5) (oi := _) (v := (.pointer (some ⟨rb, 0, none⟩))) rfl (by kernel_rfl) (by kernel_rfl) (by kernel_rfl) (fun _ _ _ h => h) (Or.inl ⟨by rfl, fun w' hw' => by go_simp⟩) hH ?_
  try simp only [Act.put, List.setIfInBounds_toArray, List.set_cons_zero, List.set_cons_succ]
  refine wpAnyH_take (i := 6) (oi := _) (v := (.pointer (some ⟨rb, 0, none⟩))) rfl (by kernel_rfl) (by kernel_rfl) (by kernel_rfl) (fun _ _ _ h => h) (Or.inl ⟨by rfl, fun w' hw' => by go_simp⟩) hH ?_
  try simp only [Act.put, List.setIfInBounds_toArray, List.set_cons_zero, List.set_cons_succ]
  refine wpAnyH_take (i := 7) (oi := _) (v := (.pointer (some ⟨rb, 0, none⟩))) rfl (by kernel_rfl) (by kernel_rfl) (by kernel_rfl) (fun _ _ _ h => h) (Or.inl ⟨by rfl, fun w' hw' => by go_simp⟩) hH ?_
  try simp only [Act.put, List.setIfInBounds_toArray, List.set_cons_zero, List.set_cons_succ]
  refine wpAnyH_take (i := 8) (oi := _) (v := .int .i64 21) rfl (by kernel_rfl) (by kernel_rfl) (by kernel_rfl) (fun _ _ _ h => h) (Or.inl ⟨by rfl, fun w' hw' => by have hc := hw'.2; clear hw'; go_simp⟩) hH ?_
  try simp only [Act.put, List.setIfInBounds_toArray, List.set_cons_zero, List.set_cons_succ]
  refine wpAnyH_ready (rs := [9]) (by kernel_rfl) (by simp) ?_
  refine AllReadyH.cons (o := _) rfl (fun K hK => ?_) AllReadyH.nil
  go_simp
  refine (HFF.out _).mono ?_
  rintro e w5 ⟨ev, rfl, hf5, b5⟩
  have s5 : Blk w5 w2.heap.size (cellsI X) 37 ∧ w5.cell? ⟨rb, 0, none⟩ = some (.int .i64 21) := ⟨Blk.below (w := w4.drew) H4.out.2.2.2 b5 hl4, (b5.cell (p := ⟨rb, 0, none⟩) hl5).trans H4.out.1.ck.1⟩
  have ck5 := H4.out.1.ck.below (((Below.refl _ _).drew).trans b5)
  have ki5 : Blk w5 w.heap.size (cellsI noFs) 37 := Blk.below (w := w4.drew) H4.out.2.1 b5 (by show w.heap.size < w4.heap.size; omega)
  have B5 := hide (H4.out.2.2.1.trans ((((Below.refl _ _).drew).trans b5).mono (by show w.heap.size ≤ w4.heap.size; omega)))
  have F5 := hide (hf5.mono (show lo ≤ w4.heap.size by omega))
  have hs5 : w4.heap.size ≤ w5.heap.size := b5.size
  have C5 := hide (And.intro ck5 (And.intro ki5 s5))
  clear hf5 b5 ck5 ki5
  refine hK.out _ _ s5 (fun hH5 => ?_)
  clear hK K hH s5
  try simp only [Act.put, List.setIfInBounds_toArray, List.set_cons_zero, List.set_cons_succ]
  refine wpAnyH_ready (rs := [10]) (by kernel_rfl) (by simp) ?_
  refine AllReadyH.cons (o := _) rfl (fun K hK => ?_) AllReadyH.nil
  go_simp
  refine (inside_both rb lo _ 21 _ _ ev _ C5.out.1 F5.out (by omega) (by omega)).mono ?_
  rintro e w6 ⟨rfl, hc6, ht6⟩
  have hs6 := ht6.1.size
  have s6 : Blk w6 w2.heap.size (cellsI X) 37 := (ht6.1.block _ (by omega) (by simp; omega)).trans C5.out.2.2.1
  have ki6 : Blk w6 w.heap.size (cellsI noFs) 37 := (ht6.1.block _ (by omega) (by simp; omega)).trans C5.out.2.1
  have B6 := hide (B5.out.grown ht6.1 (by omega) (fun k e => by cases e; omega))
  have K6 := hide (And.intro s6 ki6)
  have e6 := ht6.2.1 0 (by omega)
  refine hK.out _ _ ⟨s6, e6.trans C5.out.2.2.2⟩ (fun hH6 => ?_)
  clear hK K hH5 hH6 ht6 s6 ki6 e6 B5 F5 C5 H4
  try simp only [Act.put, List.setIfInBounds_toArray, List.set_cons_zero, List.set_cons_succ]
  refine wpAnyH_done (by kernel_rfl) (NoPanic.normal ?_) _
  have HOK := hide HOKF.out
  generalize (ok2 && ((((ys.drop p2).take (508 - p2)).all fun z => decide (z = 0)) && decide (ys.length = 508)) && RF) = okF at hc6 HOK
  clear HOKF
  obtain ⟨c1, c2, ev6, c3, c4⟩ := hc6
  clear c1 c2
  rcases c4 with ⟨rfl, rfl⟩ | ⟨rfl, m, c4⟩
  · have C3 := hide c3
    clear c3
    go_wp2_with fail
    refine wp_region_noPanic ?_
    refine wp_region_held_drew (S := fun w' => Blk w' w2.heap.size (cellsI X) 37 ∧ w'.cell? ⟨rb, 1, none⟩ = some (.nilIface)) (by kernel_rfl) ⟨K6.out.1, C3.out⟩ (fun hH => ?_)
    refine wpAnyH_take (i := 0) (oi := _) (v := .agg (cellsI X)) rfl (by kernel_rfl) (by kernel_rfl) (by kernel_rfl) (fun _ _ _ h => h) (yieldsIf_load_mid (by rfl) 37 _ rfl w2.heap.size 0 rfl (X.map (Value.int .i64)) _ (fun w' h => row_whole HXL.out h.1) Tryz.underlying37 rfl (by rw [List.length_map, ← cellsI_size, HZ.out]; exact info68)) hH ?_
    try simp only [Act.put, List.setIfInBounds_toArray, List.set_cons_zero, List.set_cons_succ]
    refine wpAnyH_take (i := 1) (oi := _) (v := (.pointer (some ⟨rb, 0, none⟩))) rfl (by kernel_rfl) (by kernel_rfl) (by kernel_rfl) (fun _ _ _ h => h) (Or.inl ⟨by rfl, fun w' hw' => by go_simp⟩) hH ?_
    try simp only [Act.put, List.setIfInBounds_toArray, List.set_cons_zero, List.set_cons_succ]
    refine wpAnyH_take (i := 2) (oi := _) (v := (.pointer (some ⟨rb, 0, none⟩))) rfl (by kernel_rfl) (by kernel_rfl) (by kernel_rfl) (fun _ _ _ h => h) (Or.inl ⟨by rfl, fun w' hw' => by go_simp⟩) hH ?_
    try simp only [Act.put, List.setIfInBounds_toArray, List.set_cons_zero, List.set_cons_succ]
    refine wpAnyH_take (i := 3) (oi := _) (v := (.pointer (some ⟨rb, 0, none⟩))) rfl (by kernel_rfl) (by kernel_rfl) (by kernel_rfl) (fun _ _ _ h => h) (Or.inl ⟨by rfl, fun w' hw' => by go_simp⟩) hH ?_
    try simp only [Act.put, List.setIfInBounds_toArray, List.set_cons_zero, List.set_cons_succ]
    refine wpAnyH_take (i := 4) (oi := _) (v := (.pointer (some ⟨rb, 1, none⟩))) rfl (by kernel_rfl) (by kernel_rfl) (by kernel_rfl) (fun _ _ _ h => h) (Or.inl ⟨by rfl, fun w' hw' => by go_simp⟩) hH ?_
    try simp only [Act.put, List.setIfInBounds_toArray, List.set_cons_zero, List.set_cons_succ]
    refine wpAnyH_take (i := 5) (oi := _) (v := .nilIface) rfl (by kernel_rfl) (by kernel_rfl) (by kernel_rfl) (fun _ _ _ h => h) (Or.inl ⟨by rfl, fun w' hw' => by have hc := hw'.2; clear hw'; go_simp⟩) hH ?_
    try simp only [Act.put, List.setIfInBounds_toArray, List.set_cons_zero, List.set_cons_succ]
    refine wpAnyH_ready (rs := [6]) (by kernel_rfl) (by simp) ?_
    refine AllReadyH.cons (o := _) rfl (fun K hK => ?_) AllReadyH.nil
    go_simp
    refine (toldF_ok X _ HXL.out).mono ?_
    rintro e w7 ⟨rfl, b7⟩
    have hl8 : w2.heap.size < w6.heap.size := K6.out.1.lt
    have hl9 : rb < w6.heap.size := by omega
    have s7 : Blk w7 w2.heap.size (cellsI X) 37 ∧ w7.cell? ⟨rb, 1, none⟩ = some (.nilIface) := ⟨Blk.below (w := w6.drew) K6.out.1 b7 hl8, (b7.cell (p := ⟨rb, 1, none⟩) hl9).trans C3.out⟩
    have kb7 : Blk w7 w.heap.size (cellsI noFs) 37 := Blk.below (w := w6.drew) K6.out.2 b7 (by show w.heap.size < w6.heap.size; omega)
    have HF := hide (And.intro kb7 (And.intro (kb7.row (cellsI X)) (below_setRow (B6.out.trans ((((Below.refl _ w6).drew).trans b7).mono (by show w.heap.size ≤ w6.heap.size; omega))) (Nat.le_refl _) (cellsI X))))
    have HZ2 := hide (show (cellsI X).size = 68 from by rw [cellsI_size]; exact HXL.out)
    clear kb7 b7
    refine hK.out _ _ s7 (fun hH => ?_)
    clear hK K s7
    try simp only [Act.put, List.setIfInBounds_toArray, List.set_cons_zero, List.set_cons_succ]
    refine wpAnyH_take (i := 7) (oi := _) (v := .agg (cellsI X)) rfl (by kernel_rfl) (by kernel_rfl) (by kernel_rfl) (fun _ _ _ h => h) (Or.inl ⟨by rfl, fun w' hw' => by go_simp⟩) hH ?_
    try simp only [Act.put, List.setIfInBounds_toArray, List.set_cons_zero, List.set_cons_succ]
    refine wpAnyH_take (i := 8) (oi := _) (v := .int .i64 0) rfl (by kernel_rfl) (by kernel_rfl) (by kernel_rfl) (fun _ _ _ h => h) (Or.inl ⟨by rfl, fun w' hw' => by go_simp⟩) hH ?_
    try simp only [Act.put, List.setIfInBounds_toArray, List.set_cons_zero, List.set_cons_succ]
    refine wpAnyH_ready (rs := [9]) (by kernel_rfl) (by simp) ?_
    refine AllReadyH.cons (o := _) rfl (fun K hK => ?_) AllReadyH.nil
    rw [if_pos (by rfl)]
    refine wp_store_row 37 _ _ rfl w.heap.size (cellsI X) rfl rfl 37 _ HF.out.1 (by rw [HZ2.out]; exact info68) (by first | (rw [HZ2.out]; done) | (rw [HZ2.out]; rfl)) (cellsI_one _) ?_
    refine hK.out _ _ ⟨(setRow_block _ _ _ _ (by omega)).trans hH.1, (World.cell?_of_block (a := ⟨rb, 1, none⟩) (setRow_block _ _ _ _ (by show rb ≠ w.heap.size; omega))).trans hH.2⟩ (fun hH9 => ?_)
    clear hK K
    try simp only [Act.put, List.setIfInBounds_toArray, List.set_cons_zero, List.set_cons_succ]
    refine wpAnyH_ready (rs := [10]) (by kernel_rfl) (by simp) ?_
    refine AllReadyH.cons (o := _) rfl (fun K hK => ?_) AllReadyH.nil
    go_simp
    refine hK.out _ _ hH9 (fun hH10 => ?_)
    clear hK K
    try simp only [Act.put, List.setIfInBounds_toArray, List.set_cons_zero, List.set_cons_succ]
    refine wpAnyH_done (by kernel_rfl) (NoPanic.normal ?_) _
    clear hH hH9 hH10
    go_wp2
    refine bodyPost_ret (v := .tuple #[.agg (cellsI X), .int .i64 0]) ?_ rfl ⟨X, true, HOK.out, rfl, HF.out.2.2⟩
    exact results_row_tmp rfl _ _ w.heap.size 37 (cellsI X) (0, 0) _ _ rfl rfl HF.out.2.1 Tryz.underlying37 rfl (by rw [HZ2.out]; exact info68)
  · have H6f := hide c4
    obtain ⟨t', x', rfl⟩ := c4.iface
    clear c4
    have C3 := hide c3
    clear c3
    go_wp2_with fail
    refine wp_region_noPanic ?_
    refine wp_region_held_drew (S := fun w' => Blk w' w2.heap.size (cellsI X) 37 ∧ w'.cell? ⟨rb, 1, none⟩ = some (.iface t' (.pointer (some x')))) (by kernel_rfl) ⟨K6.out.1, C3.out⟩ (fun hH => ?_)
    refine wpAnyH_take (i := 0) (oi := _) (v := .agg (cellsI X)) rfl (by kernel_rfl) (by kernel_rfl) (by kernel_rfl) (fun _ _ _ h => h) (yieldsIf_load_mid (by rfl) 37 _ rfl w2.heap.size 0 rfl (X.map (Value.int .i64)) _ (fun w' h => row_whole HXL.out h.1) Tryz.underlying37 rfl (by rw [List.length_map, ← cellsI_size, HZ.out]; exact info68)) hH ?_
    try simp only [Act.put, List.setIfInBounds_toArray, List.set_cons_zero, List.set_cons_succ]
    refine wpAnyH_take (i := 1) (oi := _) (v := (.pointer (some ⟨rb, 0, none⟩))) rfl (by kernel_rfl) (by kernel_rfl) (by kernel_rfl) (fun _ _ _ h => h) (Or.inl ⟨by rfl, fun w' hw' => by go_simp⟩) hH ?_
    try simp only [Act.put, List.setIfInBounds_toArray, List.set_cons_zero, List.set_cons_succ]
    refine wpAnyH_take (i := 2) (oi := _) (v := (.pointer (some ⟨rb, 0, none⟩))) rfl (by kernel_rfl) (by kernel_rfl) (by kernel_rfl) (fun _ _ _ h => h) (Or.inl ⟨by rfl, fun w' hw' => by go_simp⟩) hH ?_
    try simp only [Act.put, List.setIfInBounds_toArray, List.set_cons_zero, List.set_cons_succ]
    refine wpAnyH_take (i := 3) (oi := _) (v := (.pointer (some ⟨rb, 0, none⟩))) rfl (by kernel_rfl) (by kernel_rfl) (by kernel_rfl) (fun _ _ _ h => h) (Or.inl ⟨by rfl, fun w' hw' => by go_simp⟩) hH ?_
    try simp only [Act.put, List.setIfInBounds_toArray, List.set_cons_zero, List.set_cons_succ]
    refine wpAnyH_take (i := 4) (oi := _) (v := (.pointer (some ⟨rb, 1, none⟩))) rfl (by kernel_rfl) (by kernel_rfl) (by kernel_rfl) (fun _ _ _ h => h) (Or.inl ⟨by rfl, fun w' hw' => by go_simp⟩) hH ?_
    try simp only [Act.put, List.setIfInBounds_toArray, List.set_cons_zero, List.set_cons_succ]
    refine wpAnyH_take (i := 5) (oi := _) (v := .iface t' (.pointer (some x'))) rfl (by kernel_rfl) (by kernel_rfl) (by kernel_rfl) (fun _ _ _ h => h) (Or.inl ⟨by rfl, fun w' hw' => by have hc := hw'.2; clear hw'; go_simp⟩) hH ?_
    try simp only [Act.put, List.setIfInBounds_toArray, List.set_cons_zero, List.set_cons_succ]
    refine wpAnyH_ready (rs := [6]) (by kernel_rfl) (by simp) ?_
    refine AllReadyH.cons (o := _) rfl (fun K hK => ?_) AllReadyH.nil
    go_simp
    refine (toldF_bad X _ m _ 21 _ HXL.out (H6f.out.below ((Below.refl _ _).drew)) ((HR.out.2.below B6.out).below ((Below.refl _ _).drew))).mono ?_
    rintro e w7 ⟨rfl, b7⟩
    have hl8 : w2.heap.size < w6.heap.size := K6.out.1.lt
    have hl9 : rb < w6.heap.size := by omega
    have s7 : Blk w7 w2.heap.size (cellsI X) 37 ∧ w7.cell? ⟨rb, 1, none⟩ = some (.iface t' (.pointer (some x'))) := ⟨Blk.below (w := w6.drew) K6.out.1 b7 hl8, (b7.cell (p := ⟨rb, 1, none⟩) hl9).trans C3.out⟩
    have kb7 : Blk w7 w.heap.size (cellsI noFs) 37 := Blk.below (w := w6.drew) K6.out.2 b7 (by show w.heap.size < w6.heap.size; omega)
    have HF := hide (And.intro kb7 (And.intro (kb7.row (cellsI noFs)) (below_setRow (B6.out.trans ((((Below.refl _ w6).drew).trans b7).mono (by show w.heap.size ≤ w6.heap.size; omega))) (Nat.le_refl _) (cellsI noFs))))
    have HZ2 := hide (show (cellsI noFs).size = 68 from rfl)
    clear kb7 b7
    refine hK.out _ _ s7 (fun hH => ?_)
    clear hK K s7
    try simp only [Act.put, List.setIfInBounds_toArray, List.set_cons_zero, List.set_cons_succ]
    refine wpAnyH_take (i := 7) (oi := _) (v := .agg (cellsI noFs)) rfl (by kernel_rfl) (by kernel_rfl) (by kernel_rfl) (fun _ _ _ h => h) (Or.inl ⟨by rfl, fun w' hw' => by go_simp⟩) hH ?_
    try simp only [Act.put, List.setIfInBounds_toArray, List.set_cons_zero, List.set_cons_succ]
    refine wpAnyH_take (i := 8) (oi := _) (v := .int .i64 21) rfl (by kernel_rfl) (by kernel_rfl) (by kernel_rfl) (fun _ _ _ h => h) (Or.inl ⟨by rfl, fun w' hw' => by go_simp⟩) hH ?_
    try simp only [Act.put, List.setIfInBounds_toArray, List.set_cons_zero, List.set_cons_succ]
    refine wpAnyH_ready (rs := [9]) (by kernel_rfl) (by simp) ?_
    refine AllReadyH.cons (o := _) rfl (fun K hK => ?_) AllReadyH.nil
    rw [if_pos (by rfl)]
    refine wp_store_row 37 _ _ rfl w.heap.size (cellsI noFs) rfl rfl 37 _ HF.out.1 (by rw [HZ2.out]; exact info68) (by first | (rw [HZ2.out]; done) | (rw [HZ2.out]; rfl)) (cellsI_one _) ?_
    refine hK.out _ _ ⟨(setRow_block _ _ _ _ (by omega)).trans hH.1, (World.cell?_of_block (a := ⟨rb, 1, none⟩) (setRow_block _ _ _ _ (by show rb ≠ w.heap.size; omega))).trans hH.2⟩ (fun hH9 => ?_)
    clear hK K
    try simp only [Act.put, List.setIfInBounds_toArray, List.set_cons_zero, List.set_cons_succ]
    refine wpAnyH_ready (rs := [10]) (by kernel_rfl) (by simp) ?_
    refine AllReadyH.cons (o := _) rfl (fun K hK => ?_) AllReadyH.nil
    go_simp
    refine hK.out _ _ hH9 (fun hH10 => ?_)
    clear hK K
    try simp only [Act.put, List.setIfInBounds_toArray, List.set_cons_zero, List.set_cons_succ]
    refine wpAnyH_done (by kernel_rfl) (NoPanic.normal ?_) _
    clear hH hH9 hH10
    go_wp2
    refine bodyPost_ret (v := .tuple #[.agg (cellsI noFs), .int .i64 21]) ?_ rfl ⟨X, false, HOK.out, rfl, HF.out.2.2⟩
    exact results_row_tmp rfl _ _ w.heap.size 37 (cellsI noFs) (0, 0) _ _ rfl rfl HF.out.2.1 Tryz.underlying37 rfl (by rw [HZ2.out]; exact info68)
end Go.Proofs.YtkbbnflblkkepaaGreatDoor
