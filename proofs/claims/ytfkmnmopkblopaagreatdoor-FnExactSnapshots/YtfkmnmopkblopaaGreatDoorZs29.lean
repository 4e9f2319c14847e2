/- The program tells a snapshot: end at any place, told at Snap; DecodeSnap. -/
import Derived.Test.YtfkmnmopkblopaaGreatDoorZs27
import Derived.Test.YtfkmnmopkblopaaGreatDoorZs28
import Derived.Test.YtfkmnmopkblopaaGreatDoorZs24
import Derived.Deep.RegionHeld3
import Derived.Deep.MidRow
namespace Go.Proofs.YtfkmnmopkblopaaGreatDoor
set_option linter.unusedVariables false
set_option linter.unusedSimpArgs false
open Go.RowKit

set_option maxRecDepth 100000 in
set_option maxHeartbeats 1000000 in
theorem end_neg (w0 w : World) (b lo : Nat) (ok : Bool) (dv : Value) (zs : List Int) (pos at_ : Nat) (h : Rdr w0 w b lo ok dv zs pos) (hp : at_ < pos) (hn : pos ≤ 4294967296) :
    Calls Tryz.prog 46 #[.pointer (some ⟨b, 0, none⟩), .int .i64 at_] w fun e w' => e = .returned (.tuple #[]) ∧ Rdr w0 w' b lo false dv zs pos ∧ w.grownBy w' (some b) := by
  have H := hide h
  obtain ⟨a, cap, rfl⟩ : ∃ a cap, dv = .slice a zs.length cap := by obtain ⟨a, cap, h1, _⟩ := h.rd; exact ⟨a, cap, h1⟩
  clear h
  go_enter Tryz.func46, Tryz.ntmps46
  go_wp2_with fail
  refine (zeros_neg w0 _ b lo ok _ zs pos at_ H.out hp hn).mono ?_
  rintro e w1 ⟨rfl, hr, hg⟩
  have HR := hide hr
  have HG := hide hg
  have hd1 := hr.data
  have ha1 := hr.at_
  have hlt1 := hr.ck.lt
  clear hr hg H
  go_wp2
  go_region_held (fun w' => w'.cell? ⟨b, 2, none⟩ = some (.slice a zs.length cap) ∧ w'.cell? ⟨b, 3, none⟩ = some (.int .i64 pos)) (go_keep) ((go_at_call 32; refine (need_any b lo _ 21 false _ _ (HR.out.ck.below ((Below.refl _ _).drew)) HR.out.lo1 HR.out.lo2).mono ?_; rintro e w2 ⟨rfl, hc2, ht2⟩; have hd2 := (ht2.2.1 2 (by omega)).trans hd1; have ha2 := (ht2.2.1 3 (by omega)).trans ha1))
  rw [Bool.false_and] at hc2
  have ht2' : Tch b w1 w2 := (Tch.of_below hlt1 ((Below.refl _ _).drew)).trans ht2
  have HW := hide (show Rdr w0 w2 b lo false (.slice a zs.length cap) zs pos ∧ w.grownBy w2 (some b) from ⟨HR.out.tch hc2 ht2', grownBy_trans HG.out ht2'.1⟩)
  clear hc2 ht2 ht2' hd2 ha2
  go_wp2
  go_end0
  exact ⟨rfl, HW.out.1, HW.out.2⟩
theorem endS_any (w0 w : World) (b lo : Nat) (ok : Bool) (dv : Value) (zs : List Int) (pos at_ : Nat) (h : Rdr w0 w b lo ok dv zs pos) (hok : ok = true → pos ≤ at_) (hn0 : 0 < at_) (hn : at_ ≤ 4294967296) (hz : zs.length ≤ 1048576) :
    Calls Tryz.prog 46 #[.pointer (some ⟨b, 0, none⟩), .int .i64 at_] w fun e w' => e = .returned (.tuple #[]) ∧ Ed w0 w w' b lo ok dv zs pos at_ := by
  by_cases hp : pos ≤ at_
  · exact end_any w0 w b lo ok dv zs pos at_ h hp hn0 hn (by omega)
  · refine (end_neg w0 w b lo ok dv zs pos at_ h (by omega) (by have := h.le; omega)).mono ?_
    rintro e w' ⟨rfl, hr, hg⟩
    have hk : ok = false := by
      cases hk : ok with
      | false => rfl
      | true => exact absurd (hok hk) hp
    refine ⟨rfl, hg, pos, ?_⟩
    rw [hk, Bool.false_and]
    exact hr
def noSn : Array Value := snapC 0 ⟨#[]⟩ 0 0 0 (List.replicate 12 0) 0 0
theorem noSn_one : noSn.all (·.oneCell') = true := snapC_one _ _ _ _ _ _ _ _
theorem blk_range {w : World} {b : Nat} {t : TypeId} {C : Array Value} (h : Blk w b C t) : w.rangeAt b 0 C.toList := by
  intro j v hv
  rw [Nat.zero_add, h.cell j]
  simpa using hv

set_option maxRecDepth 100000 in
set_option maxHeartbeats 1000000 in
theorem toldS_ok (C : Array Value) (w : World) (hx : C.size = 19) (h1 : C.all (·.oneCell') = true) :
    Calls Tryz.prog 56 #[.agg C, .nilIface] w fun e w' => e = .returned (.tuple #[.agg C, .int .i64 0]) ∧ Below w.heap.size w w' := by
  have HZ := hide (show C.size = 19 from hx)
  have kB := (Blk.new w C 41).alloc (.cells noSn 41)
  have kC := Blk.new (w.alloc (.cells C 41)) noSn 41
  rw [World.size_alloc] at kC
  have K := hide (And.intro kB (And.intro kC (((Below.refl w.heap.size w).alloc (Nat.le_refl _) (.cells C 41)).alloc (by simp) (.cells noSn 41))))
  clear kB kC hx
  go_enter Tryz.func56, Tryz.ntmps56
  go_wp2_with (first | (refine wpList_load_row rfl 41 _ rfl w.heap.size rfl 41 C (0, 0) _ K.out.1 Tryz.underlying41 rfl (by rw [HZ.out]; exact info19) ?_) | (refine wpList_store_row rfl 41 _ _ rfl (w.heap.size + 1) C rfl rfl 41 _ K.out.2.1 (by rw [HZ.out]; exact info19) (by rw [HZ.out]; rfl) h1 ?_))
  refine bodyPost_ret (v := .tuple #[.agg C, .int .i64 0]) ?_ rfl ⟨rfl, below_setRow K.out.2.2 (by omega) _⟩
  exact results_row_tmp rfl _ _ (w.heap.size + 1) 41 C (0, 0) _ _ rfl rfl (K.out.2.1.row _) Tryz.underlying41 rfl (by rw [HZ.out]; exact info19)

set_option maxRecDepth 100000 in
set_option maxHeartbeats 2000000 in
theorem toldS_bad (C : Array Value) (lo n : Nat) (v : Value) (c : Int) (w : World) (hx : C.size = 19) (h1 : C.all (·.oneCell') = true) (hv : Flt w lo n v c) (hg : ErrT w) :
    Calls Tryz.prog 56 #[.agg C, v] w fun e w' => e = .returned (.tuple #[.agg noSn, .int .i64 c]) ∧ Below w.heap.size w w' := by
  have HZ := hide (show C.size = 19 from hx)
  have HV := hide (And.intro hv hg)
  obtain ⟨t', x', rfl⟩ := hv.iface
  clear hv hg hx
  go_enter Tryz.func56, Tryz.ntmps56
  have kB := ((Blk.new (w.alloc (.cells C 41)) #[.int .i64 0, .string ⟨#[]⟩, .int .i64 0, .int .i64 0, .int .i64 0, .int .i64 0, .int .i64 0, .int .i64 0, .int .i64 0, .int .i64 0, .int .i64 0, .int .i64 0, .int .i64 0, .int .i64 0, .int .i64 0, .int .i64 0, .int .i64 0, .int .i64 0, .int .i64 0] 41).alloc (.cells #[.int .i64 0, .string ⟨#[]⟩, .int .i64 0, .int .i64 0, .int .i64 0, .int .i64 0, .int .i64 0, .int .i64 0, .int .i64 0, .int .i64 0, .int .i64 0, .int .i64 0, .int .i64 0, .int .i64 0, .int .i64 0, .int .i64 0, .int .i64 0, .int .i64 0, .int .i64 0] 41))
  have kC := Blk.new ((w.alloc (.cells C 41)).alloc (.cells #[.int .i64 0, .string ⟨#[]⟩, .int .i64 0, .int .i64 0, .int .i64 0, .int .i64 0, .int .i64 0, .int .i64 0, .int .i64 0, .int .i64 0, .int .i64 0, .int .i64 0, .int .i64 0, .int .i64 0, .int .i64 0, .int .i64 0, .int .i64 0, .int .i64 0, .int .i64 0] 41)) #[.int .i64 0, .string ⟨#[]⟩, .int .i64 0, .int .i64 0, .int .i64 0, .int .i64 0, .int .i64 0, .int .i64 0, .int .i64 0, .int .i64 0, .int .i64 0, .int .i64 0, .int .i64 0, .int .i64 0, .int .i64 0, .int .i64 0, .int .i64 0, .int .i64 0, .int .i64 0] 41
  rw [World.size_alloc] at kB
  rw [World.size_alloc, World.size_alloc] at kC
  have K0 := hide (And.intro kB (And.intro kC ((((Below.refl w.heap.size w).alloc (Nat.le_refl _) (.cells C 41)).alloc (by simp) (.cells #[.int .i64 0, .string ⟨#[]⟩, .int .i64 0, .int .i64 0, .int .i64 0, .int .i64 0, .int .i64 0, .int .i64 0, .int .i64 0, .int .i64 0, .int .i64 0, .int .i64 0, .int .i64 0, .int .i64 0, .int .i64 0, .int .i64 0, .int .i64 0, .int .i64 0, .int .i64 0] 41)).alloc (by simp; omega) (.cells #[.int .i64 0, .string ⟨#[]⟩, .int .i64 0, .int .i64 0, .int .i64 0, .int .i64 0, .int .i64 0, .int .i64 0, .int .i64 0, .int .i64 0, .int .i64 0, .int .i64 0, .int .i64 0, .int .i64 0, .int .i64 0, .int .i64 0, .int .i64 0, .int .i64 0, .int .i64 0] 41))))
  clear kB kC
  go_wp2
  generalize hW : ((w.alloc (.cells C 41)).alloc (.cells #[.int .i64 0, .string ⟨#[]⟩, .int .i64 0, .int .i64 0, .int .i64 0, .int .i64 0, .int .i64 0, .int .i64 0, .int .i64 0, .int .i64 0, .int .i64 0, .int .i64 0, .int .i64 0, .int .i64 0, .int .i64 0, .int .i64 0, .int .i64 0, .int .i64 0, .int .i64 0] 41)).alloc (.cells #[.int .i64 0, .string ⟨#[]⟩, .int .i64 0, .int .i64 0, .int .i64 0, .int .i64 0, .int .i64 0, .int .i64 0, .int .i64 0, .int .i64 0, .int .i64 0, .int .i64 0, .int .i64 0, .int .i64 0, .int .i64 0, .int .i64 0, .int .i64 0, .int .i64 0, .int .i64 0] 41) = W at K0 ⊢
  have hWs : W.heap.size = w.heap.size + 3 := by rw [← hW]; simp
  clear hW
  refine wp_region_noPanic ?_
  refine wp_region_held_drew (S := fun w' => Blk w' (w.heap.size + 1 + 1) noSn 41) (by kernel_rfl) (show Blk W.drew (w.heap.size + 1 + 1) noSn 41 from K0.out.2.1) (fun hH => ?_)
  refine wpAnyH_take (i := 0) (oi := _) (v := .agg noSn) rfl (by kernel_rfl) (by kernel_rfl) (by kernel_rfl) (fun _ _ _ h => h) (yieldsIf_load_mid (by rfl) 41 _ rfl (w.heap.size + 1 + 1) 0 rfl noSn.toList _ (fun w' h => blk_range h) Tryz.underlying41 rfl info19) hH ?_
  try simp only [Act.put, List.setIfInBounds_toArray, List.set_cons_zero, List.set_cons_succ]
  refine wpAnyH_take (i := 1) (oi := _) (v := .iface t' (.pointer (some x'))) rfl (by kernel_rfl) (by kernel_rfl) (by kernel_rfl) (fun _ _ _ h => h) (Or.inl ⟨by rfl, fun w' hw' => by rfl⟩) hH ?_
  try simp only [Act.put, List.setIfInBounds_toArray, List.set_cons_zero, List.set_cons_succ]
  refine wpAnyH_ready (rs := [2]) (by kernel_rfl) (by simp) ?_
  refine AllReadyH.cons (o := _) rfl (fun K hK => ?_) AllReadyH.nil
  go_simp
  refine (codeOf_any n _ c lo _ (HV.out.1.below (K0.out.2.2.drew.mono (by omega))) (HV.out.2.below K0.out.2.2.drew)).mono ?_
  rintro e w5 ⟨rfl, b5⟩
  have s5 : Blk w5 (w.heap.size + 1 + 1) noSn 41 := Blk.below (w := W.drew) K0.out.2.1 b5 (by show _ < W.heap.size; omega)
  have kb5 : Blk w5 (w.heap.size + 1) noSn 41 := Blk.below (w := W.drew) K0.out.1 b5 (by show _ < W.heap.size; omega)
  have HF := hide (And.intro (kb5.row noSn) (below_setRow (g := w.heap.size + 1) (K0.out.2.2.trans ((((Below.refl _ W).drew).trans b5).mono (by show w.heap.size ≤ W.heap.size; omega))) (by omega) noSn))
  have KB5 := hide kb5
  clear b5 kb5
  refine hK.out _ _ s5 (fun hH5 => ?_)
  clear hK K hH
  try simp only [Act.put, List.setIfInBounds_toArray, List.set_cons_zero, List.set_cons_succ]
  refine wpAnyH_ready (rs := [3]) (by kernel_rfl) (by simp) ?_
  refine AllReadyH.cons (o := _) rfl (fun K hK => ?_) AllReadyH.nil
  rw [if_pos (by rfl)]
  refine wp_store_row 41 _ _ rfl (w.heap.size + 1) noSn rfl rfl 41 _ KB5.out info19 rfl noSn_one ?_
  refine hK.out _ _ (show Blk _ _ _ _ from (setRow_block _ _ _ _ (by omega)).trans hH5) (fun hH6 => ?_)
  clear hK K
  try simp only [Act.put, List.setIfInBounds_toArray, List.set_cons_zero, List.set_cons_succ]
  refine wpAnyH_ready (rs := [4]) (by kernel_rfl) (by simp) ?_
  refine AllReadyH.cons (o := _) rfl (fun K hK => ?_) AllReadyH.nil
  go_simp
  refine hK.out _ _ hH6 (fun hH7 => ?_)
  clear hK K
  try simp only [Act.put, List.setIfInBounds_toArray, List.set_cons_zero, List.set_cons_succ]
  refine wpAnyH_done (by kernel_rfl) (NoPanic.normal ?_) _
  clear hH5 hH6 hH7 s5
  go_wp2
  refine bodyPost_ret (v := .tuple #[.agg noSn, .int .i64 c]) ?_ rfl ⟨rfl, HF.out.2⟩
  exact results_row_tmp rfl _ _ (w.heap.size + 1) 41 noSn (0, 0) _ _ rfl rfl HF.out.1 Tryz.underlying41 rfl info19
/-- What stands around a snapshot's fields: the sum, the letters, the zeros. -/
def frameS (zs : List Int) : Bool := sumB zs && decide (zs.take 8 = snapLet) && gapN (zs.take 508) && allz ((zs.drop 120).take 388)
/-- What DecodeSnap reads, and whether it is told. -/
def SnapRead (zs : List Int) (C : Array Value) (ok : Bool) : Prop :=
  ∃ pl nm ge cl s ds p q, ds.length = 12 ∧ nm.size ≤ 255 ∧ C = snapC pl nm ge cl s ds p q ∧ (zs.length ≠ 512 → ok = false) ∧ (zs.length = 512 → frameS zs = false → ok = false) ∧ (zs.length = 512 → frameS zs = true → SnapAt (zs.take 508) pl nm ge cl s ds p q ∧ ok = rightS pl nm ge cl s ds p q)
theorem snapRead_of (zs : List Int) (ok0 : Bool) (ys : List Int) (p0 : Nat) (hB : BlkRd zs snapLet ok0 ys p0) (pl : Int) (nm : ByteArray) (ge cl s : Int) (ds : List Int) (p q : Int) (hd : ds.length = 12) (hnm : nm.size ≤ 255) (ok2 : Bool) (pr : Nat) (ha : AdvE ys 120 (ok0 && gapN ys) ok2 pr) (hv : ok2 = true → SnapAt ys pl nm ge cl s ds p q) :
    SnapRead zs (snapC pl nm ge cl s ds p q) (ok2 && ((((ys.drop pr).take (508 - pr)).all fun z => decide (z = 0)) && decide (ys.length = 508)) && rightS pl nm ge cl s ds p q) := by
  obtain ⟨h2, h3⟩ := ha
  have hno : ok0 = false → ok2 = false := fun h => by
    cases h4 : ok2 with
    | false => rfl
    | true => have := (h2.1 h4).2; rw [h, Bool.false_and] at this; cases this
  refine ⟨pl, nm, ge, cl, s, ds, p, q, hd, hnm, rfl, fun h => ?_, fun h hf => ?_, fun h hf => ?_⟩
  · rcases hB with ⟨_, hk, _, _⟩ | ⟨hk, _⟩
    · rw [hno hk]; rfl
    · exact absurd hk h
  · rcases hB with ⟨hk, _, _, _⟩ | ⟨_, rfl, hk, _, _⟩
    · exact absurd h hk
    · cases h4 : ok2 with
      | false => rfl
      | true =>
        have hp := h3 h4
        subst hp
        have hC := (h2.1 h4).2
        rw [hk] at hC
        have e : ((zs.take 508).drop 120).take (508 - 120) = (zs.drop 120).take 388 := by rw [List.drop_take, List.take_take]; rfl
        unfold frameS sumB at hf
        rw [hC, Bool.true_and] at hf
        rw [e]
        have hf' : ((zs.drop 120).take 388).all (fun z => decide (z = 0)) = false := hf
        rw [hf']
        rfl
  · rcases hB with ⟨hk, _, _, _⟩ | ⟨_, rfl, hk, _, _⟩
    · exact absurd h hk
    · unfold frameS sumB at hf
      rw [← hk, Bool.and_eq_true] at hf
      have hlen : (zs.take 508).length = 508 := by rw [List.length_take, h]; rfl
      have ho := h2.2 ⟨by omega, hf.1⟩
      have hp := h3 ho
      subst hp
      refine ⟨hv ho, ?_⟩
      have e : ((zs.take 508).drop 120).take (508 - 120) = (zs.drop 120).take 388 := by rw [List.drop_take, List.take_take]; rfl
      have hf' : ((zs.drop 120).take 388).all (fun z => decide (z = 0)) = true := hf.2
      rw [ho, e, hf', decide_eq_true hlen]
      rfl
set_option maxRecDepth 100000 in
set_option maxHeartbeats 4000000 in
theorem implDS_any (v : Value) (zs : List Int) (w : World) (h : Rd .u8 w v zs) (hbd : ∀ z ∈ zs, 0 ≤ z ∧ z < 256) (hz : zs.length ≤ 1048576) (hg : ErrT w) (hL : LetS w) :
    Calls Tryz.prog 30 #[v] w fun e w' => ∃ C ok, SnapRead zs C ok ∧ e = .returned (.tuple #[.agg (if ok = true then C else noSn), .int .i64 (if ok = true then 0 else 21)]) ∧ Below w.heap.size w w' := by
  have HB := hide hbd
  have HR := hide (And.intro h hg)
  have hb0 : ∀ C, Below w.heap.size w (w.alloc C) := fun C => (Below.refl _ _).alloc (Nat.le_refl _) _
  have HB0 := hide hb0
  have HLt := hide (fun C => hL.below (hb0 C))
  clear hbd hg hb0 hL
  obtain ⟨a, cap, rfl, _⟩ := h
  go_enter Tryz.func30, Tryz.ntmps30
  go_wp2_with (first | (refine wpList_load_mid rfl 104 _ rfl 2 0 rfl (snapLet.map (Value.int .u8)) _ (HLt.out _) Tryz.underlying104 rfl (by kernel_rfl) ?_) | (go_at_call 44; fail))
  refine (newBlock_any _ zs snapLet _ rfl (HR.out.1.below (HB0.out _)) HB.out (by omega)).mono ?_
  rintro e w1 ⟨w0, rb, lo, ok0, dv, ys, p0, rfl, r1, b1, hrb, hBR⟩
  have hys : (∀ z ∈ ys, 0 ≤ z ∧ z < 256) ∧ ys.length ≤ 1048576 := by
    rcases hBR with ⟨_, _, _, rfl⟩ | ⟨_, rfl, _⟩
    · exact ⟨by simp, by simp⟩
    · exact ⟨fun z hz => HB.out z (List.mem_of_mem_take hz), by rw [List.length_take]; omega⟩
  have hA : AdvE ys 8 ok0 ok0 p0 := by
    rcases hBR with ⟨_, rfl, rfl, rfl⟩ | ⟨h5, rfl, h2, h3, h4⟩
    · exact ⟨⟨(fun h => by cases h), (fun h => h.2)⟩, (fun h => by cases h)⟩
    · exact ⟨⟨fun h => ⟨by rw [List.length_take, h5]; decide, h⟩, fun h => h.2⟩, h4⟩
  rw [World.size_alloc] at hrb b1
  have ki1 : Blk w1 w.heap.size #[.int .i64 0, .string ⟨#[]⟩, .int .i64 0, .int .i64 0, .int .i64 0, .int .i64 0, .int .i64 0, .int .i64 0, .int .i64 0, .int .i64 0, .int .i64 0, .int .i64 0, .int .i64 0, .int .i64 0, .int .i64 0, .int .i64 0, .int .i64 0, .int .i64 0, .int .i64 0] 41 := (Blk.new w #[.int .i64 0, .string ⟨#[]⟩, .int .i64 0, .int .i64 0, .int .i64 0, .int .i64 0, .int .i64 0, .int .i64 0, .int .i64 0, .int .i64 0, .int .i64 0, .int .i64 0, .int .i64 0, .int .i64 0, .int .i64 0, .int .i64 0, .int .i64 0, .int .i64 0, .int .i64 0] 41).below b1 (by omega)
  have H1 := hide (And.intro r1 (And.intro ki1 ((HB0.out (.cells #[.int .i64 0, .string ⟨#[]⟩, .int .i64 0, .int .i64 0, .int .i64 0, .int .i64 0, .int .i64 0, .int .i64 0, .int .i64 0, .int .i64 0, .int .i64 0, .int .i64 0, .int .i64 0, .int .i64 0, .int .i64 0, .int .i64 0, .int .i64 0, .int .i64 0, .int .i64 0] 41)).trans (b1.mono (by omega)))))
  have HBR := hide hBR
  clear r1 b1 ki1 hBR
  go_wp2_with (go_at_call 54; fail)
  have H1' := H1.out.1
  refine (readSnap_any _ _ _ _ ok0 _ ys p0 ok0 H1' hA hys.2 hys.1).mono ?_
  rintro e w2 ⟨pl, nm, ge, cl, s, ds, p, q, ok2, p2, rfl, hdl, hnm, r2, a2, v2, g2⟩
  obtain ⟨C, hC⟩ : ∃ C, C = snapC pl nm ge cl s ds p q := ⟨_, rfl⟩
  have HZ := hide (show C.size = 19 from by rw [hC]; exact snapC_size _ _ _ _ _ _ _ _ hdl)
  have HC1 := hide (show C.all (·.oneCell') = true from by rw [hC]; exact snapC_one _ _ _ _ _ _ _ _)
  obtain ⟨RF, hRF⟩ : ∃ RF, RF = rightS pl nm ge cl s ds p q := ⟨_, rfl⟩
  have HFF := hide (show ∀ w : World, Calls Tryz.prog 55 #[.agg C, .int .i64 21] w fun e w' => ∃ ev', e = .returned ev' ∧ FaultIs w' w.heap.size RF ev' 21 ∧ Below w.heap.size w w' from fun w => by rw [hC, hRF]; exact snapFault_any _ _ _ _ _ _ _ _ 21 w hdl (by unfold maxLen; omega))
  have HOKF := hide (snapRead_of zs ok0 ys p0 HBR.out pl nm ge cl s ds p q hdl hnm ok2 p2 a2 v2)
  rw [← hC, ← hRF] at HOKF
  rw [← hC]
  have hok2 : ok2 = true → p2 ≤ 508 := fun h => by have := a2.2 h; omega
  clear hC hRF hdl hnm v2 a2
  have hs2 := g2.size
  have hlt1 := H1'.ck.lt
  have hlo := r2.lo1
  have hlo2 := r2.lo2
  have ki2 : Blk w2 w.heap.size noSn 41 := (g2.block _ (by omega) (by simp; omega)).trans H1.out.2.1
  have hb12 : rb < w2.heap.size := r2.ck.lt
  have H2 := hide (show Rdr _ ((w2.alloc (.cells #[.int .i64 0, .string ⟨#[]⟩, .int .i64 0, .int .i64 0, .int .i64 0, .int .i64 0, .int .i64 0, .int .i64 0, .int .i64 0, .int .i64 0, .int .i64 0, .int .i64 0, .int .i64 0, .int .i64 0, .int .i64 0, .int .i64 0, .int .i64 0, .int .i64 0, .int .i64 0] 41)).setRow w2.heap.size C) rb _ ok2 _ ys p2 ∧ Blk ((w2.alloc (.cells #[.int .i64 0, .string ⟨#[]⟩, .int .i64 0, .int .i64 0, .int .i64 0, .int .i64 0, .int .i64 0, .int .i64 0, .int .i64 0, .int .i64 0, .int .i64 0, .int .i64 0, .int .i64 0, .int .i64 0, .int .i64 0, .int .i64 0, .int .i64 0, .int .i64 0, .int .i64 0] 41)).setRow w2.heap.size C) w.heap.size noSn 41 ∧ Below w.heap.size w ((w2.alloc (.cells #[.int .i64 0, .string ⟨#[]⟩, .int .i64 0, .int .i64 0, .int .i64 0, .int .i64 0, .int .i64 0, .int .i64 0, .int .i64 0, .int .i64 0, .int .i64 0, .int .i64 0, .int .i64 0, .int .i64 0, .int .i64 0, .int .i64 0, .int .i64 0, .int .i64 0, .int .i64 0] 41)).setRow w2.heap.size C) ∧ Blk ((w2.alloc (.cells #[.int .i64 0, .string ⟨#[]⟩, .int .i64 0, .int .i64 0, .int .i64 0, .int .i64 0, .int .i64 0, .int .i64 0, .int .i64 0, .int .i64 0, .int .i64 0, .int .i64 0, .int .i64 0, .int .i64 0, .int .i64 0, .int .i64 0, .int .i64 0, .int .i64 0, .int .i64 0] 41)).setRow w2.heap.size C) w2.heap.size C 41 from
    ⟨(r2.alloc _).rowS _ hb12 (Blk.new w2 (snapC 0 ⟨#[]⟩ 0 0 0 (List.replicate 12 0) 0 0) 41), (setRow_block _ _ _ _ (by omega)).trans (ki2.alloc _), below_setRow ((H1.out.2.2.grown g2 (by omega) (fun k e => by cases e; omega)).alloc (by omega) _) (by omega) _, (Blk.new w2 #[.int .i64 0, .string ⟨#[]⟩, .int .i64 0, .int .i64 0, .int .i64 0, .int .i64 0, .int .i64 0, .int .i64 0, .int .i64 0, .int .i64 0, .int .i64 0, .int .i64 0, .int .i64 0, .int .i64 0, .int .i64 0, .int .i64 0, .int .i64 0, .int .i64 0, .int .i64 0] 41).row _⟩)
  clear r2 ki2 g2 H1' H1
  go_wp2_with (first | (refine wpList_store_row rfl 41 _ _ rfl w2.heap.size C rfl rfl 41 _ (Blk.new w2 #[.int .i64 0, .string ⟨#[]⟩, .int .i64 0, .int .i64 0, .int .i64 0, .int .i64 0, .int .i64 0, .int .i64 0, .int .i64 0, .int .i64 0, .int .i64 0, .int .i64 0, .int .i64 0, .int .i64 0, .int .i64 0, .int .i64 0, .int .i64 0, .int .i64 0, .int .i64 0] 41) (by rw [HZ.out]; exact info19) (by rw [HZ.out]; rfl) (by first | exact HC1.out | exact noSn_one) ?_) | (go_at_call 46; fail))
  generalize hW3 : (w2.alloc (.cells #[.int .i64 0, .string ⟨#[]⟩, .int .i64 0, .int .i64 0, .int .i64 0, .int .i64 0, .int .i64 0, .int .i64 0, .int .i64 0, .int .i64 0, .int .i64 0, .int .i64 0, .int .i64 0, .int .i64 0, .int .i64 0, .int .i64 0, .int .i64 0, .int .i64 0, .int .i64 0] 41)).setRow w2.heap.size C = w3 at H2 ⊢
  clear hW3
  refine (endS_any _ _ _ _ ok2 _ ys p2 508 H2.out.1 hok2 (by omega) (by omega) hys.2).mono ?_
  rintro e w4 ⟨rfl, g4, p4, r4⟩
  have hs4 := g4.size
  have hl3 := H2.out.2.2.2.lt
  have ki4 : Blk w4 w.heap.size noSn 41 := (g4.block _ (by omega) (by simp; omega)).trans H2.out.2.1
  have kr4 : Blk w4 w2.heap.size C 41 := (g4.block _ (by omega) (by simp; omega)).trans H2.out.2.2.2
  have H4 := hide (And.intro r4 (And.intro ki4 (And.intro (H2.out.2.2.1.grown g4 (by omega) (fun k e => by cases e; omega)) kr4)))
  clear r4 ki4 kr4 g4 H2
  have hl4 : w2.heap.size < w4.heap.size := by omega
  have hl5 : rb < w4.heap.size := by omega
  go_wp2_with fail
  refine wp_region_noPanic ?_
  refine wp_region_held_drew (S := fun w' => Blk w' w2.heap.size C 41 ∧ w'.cell? ⟨rb, 0, none⟩ = some (.int .i64 21)) (by kernel_rfl) ⟨H4.out.2.2.2, H4.out.1.ck.1⟩ (fun hH => ?_)
  refine wpAnyH_take (i := 0) (oi := _) (v := (.pointer (some ⟨rb, 0, none⟩))) rfl (by kernel_rfl) (by kernel_rfl) (by kernel_rfl) (fun _ _ _ h => h) (Or.inl ⟨by rfl, fun w' hw' => by go_simp⟩) hH ?_
  try simp only [Act.put, List.setIfInBounds_toArray, List.set_cons_zero, List.set_cons_succ]
  refine wpAnyH_take (i := 1) (oi := _) (v := (.pointer (some ⟨rb, 0, none⟩))) rfl (by kernel_rfl) (by kernel_rfl) (by kernel_rfl) (fun _ _ _ h => h) (Or.inl ⟨by rfl, fun w' hw' => by go_simp⟩) hH ?_
  try simp only [Act.put, List.setIfInBounds_toArray, List.set_cons_zero, List.set_cons_succ]
  refine wpAnyH_take (i := 2) (oi := _) (v := (.pointer (some ⟨rb, 0, none⟩))) rfl (by kernel_rfl) (by kernel_rfl) (by kernel_rfl) (fun _ _ _ h => h) (Or.inl ⟨by rfl, fun w' hw' => by go_simp⟩) hH ?_
  try simp only [Act.put, List.setIfInBounds_toArray, List.set_cons_zero, List.set_cons_succ]
  refine wpAnyH_take (i := 3) (oi := _) (v := .agg C) rfl (by kernel_rfl) (by kernel_rfl) (by kernel_rfl) (fun _ _ _ h => h) (yieldsIf_load_mid (by rfl) 41 _ rfl w2.heap.size 0 rfl C.toList _ (fun w' h => blk_range h.1) Tryz.underlying41 rfl (by rw [Array.length_toList, HZ.out]; exact info19)) hH ?_
  try simp only [Act.put, List.setIfInBounds_toArray, List.set_cons_zero, List.set_cons_succ]
  refine wpAnyH_take (i := 4) (oi := _) (v := (.pointer (some ⟨rb, 0, none⟩))) rfl (by kernel_rfl) (by kernel_rfl) (by kernel_rfl) (fun _ _ _ h => h) (Or.inl ⟨by rfl, fun w' hw' => by go_simp⟩) hH ?_
  try simp only [Act.put, List.setIfInBounds_toArray, List.set_cons_zero, List.set_cons_succ]
  refine wpAnyH_take (i := 5) (oi := _) (v := (.pointer (some ⟨rb, 0, none⟩))) rfl (by kernel_rfl) (by kernel_rfl) (by kernel_rfl) (fun _ _ _ h => h) (Or.inl ⟨by rfl, fun w' hw' => by go_simp⟩) hH ?_
  try simp only [Act.put, List.setIfInBounds_toArray, List.set_cons_zero, List.set_cons_succ]
  refine wpAnyH_take (i := 6) (oi := _) (v := (.pointer (some ⟨rb, 0, none⟩))) rfl (by kernel_rfl) (by kernel_rfl) (by kernel_rfl) (fun _ _ _ h => h) (Or.inl ⟨by rfl, fun w' hw' => by go_simp⟩) hH ?_
  try simp only [Act.put, List.setIfInBounds_toArray, List.set_cons_zero, List.set_cons_succ]
  refine wpAnyH_take (i := 7) (oi := _) (v := (.pointer (some ⟨rb, 0, none⟩))) rfl (by kernel_rfl) (by kernel_rfl) (by kernel_rfl) (fun _ _ _ h => h) (Or.inl ⟨by rfl, fun w' hw' => by go_simp⟩) hH ?_
  try simp only [Act.put, List.setIfInBounds_toArray, List.set_cons_zero, List.set_cons_succ]
  refine wpAnyH_take (i := 8) (oi := _) (v := .int .i64 21) rfl (by kernel_rfl) (by kernel_rfl) (by kernel_rfl) (fun _ _ _ h => h) (Or.inl ⟨by rfl, fun w' hw' => by have hc := hw'.2; clear hw'; go_simp⟩) hH ?_
  try simp only [Act.put, List.setIfInBounds_toArray, List.set_cons_zero, List.set_cons_succ]
  refine wpAnyH_ready (rs := [9]) (by kernel_rfl) (by simp) ?_
  refine AllReadyH.cons (o := _) rfl (fun K hK => ?_) AllReadyH.nil
  go_simp
  refine (HFF.out _).mono ?_
  rintro e w5 ⟨ev, rfl, hf5, b5⟩
  have s5 : Blk w5 w2.heap.size C 41 ∧ w5.cell? ⟨rb, 0, none⟩ = some (.int .i64 21) := ⟨Blk.below (w := w4.drew) H4.out.2.2.2 b5 hl4, (b5.cell (p := ⟨rb, 0, none⟩) hl5).trans H4.out.1.ck.1⟩
  have ck5 := H4.out.1.ck.below (((Below.refl _ _).drew).trans b5)
  have ki5 : Blk w5 w.heap.size noSn 41 := Blk.below (w := w4.drew) H4.out.2.1 b5 (by show w.heap.size < w4.heap.size; omega)
  have B5 := hide (H4.out.2.2.1.trans ((((Below.refl _ _).drew).trans b5).mono (by show w.heap.size ≤ w4.heap.size; omega)))
  have F5 := hide (hf5.mono (show lo ≤ w4.heap.size by omega))
  have hs5 : w4.heap.size ≤ w5.heap.size := b5.size
  have C5 := hide (And.intro ck5 (And.intro ki5 s5))
  clear hf5 b5 ck5 ki5
  refine hK.out _ _ s5 (fun hH5 => ?_)
  clear hK K hH s5
  try simp only [Act.put, List.setIfInBounds_toArray, List.set_cons_zero, List.set_cons_succ]
  refine wpAnyH_ready (rs := [10]) (by kernel_rfl) (by simp) ?_
  refine AllReadyH.cons (o := _) rfl (fun K hK => ?_) AllReadyH.nil
  go_simp
  refine (inside_both rb lo _ 21 _ _ ev _ C5.out.1 F5.out (by omega) (by omega)).mono ?_
  rintro e w6 ⟨rfl, hc6, ht6⟩
  have hs6 := ht6.1.size
  have s6 : Blk w6 w2.heap.size C 41 := (ht6.1.block _ (by omega) (by simp; omega)).trans C5.out.2.2.1
  have ki6 : Blk w6 w.heap.size noSn 41 := (ht6.1.block _ (by omega) (by simp; omega)).trans C5.out.2.1
  have B6 := hide (B5.out.grown ht6.1 (by omega) (fun k e => by cases e; omega))
  have K6 := hide (And.intro s6 ki6)
  have e6 := ht6.2.1 0 (by omega)
  refine hK.out _ _ ⟨s6, e6.trans C5.out.2.2.2⟩ (fun hH6 => ?_)
  clear hK K hH5 hH6 ht6 s6 ki6 e6 B5 F5 C5 H4
  try simp only [Act.put, List.setIfInBounds_toArray, List.set_cons_zero, List.set_cons_succ]
  refine wpAnyH_done (by kernel_rfl) (NoPanic.normal ?_) _
  have HOK := hide HOKF.out
  generalize (ok2 && ((((ys.drop p2).take (508 - p2)).all fun z => decide (z = 0)) && decide (ys.length = 508)) && RF) = okF at hc6 HOK
  clear HOKF
  obtain ⟨c1, c2, ev6, c3, c4⟩ := hc6
  clear c1 c2
  rcases c4 with ⟨rfl, rfl⟩ | ⟨rfl, m, c4⟩
  · have C3 := hide c3
    clear c3
    go_wp2_with fail
    refine wp_region_noPanic ?_
    refine wp_region_held_drew (S := fun w' => Blk w' w2.heap.size C 41 ∧ w'.cell? ⟨rb, 1, none⟩ = some (.nilIface)) (by kernel_rfl) ⟨K6.out.1, C3.out⟩ (fun hH => ?_)
    refine wpAnyH_take (i := 0) (oi := _) (v := .agg C) rfl (by kernel_rfl) (by kernel_rfl) (by kernel_rfl) (fun _ _ _ h => h) (yieldsIf_load_mid (by rfl) 41 _ rfl w2.heap.size 0 rfl C.toList _ (fun w' h => blk_range h.1) Tryz.underlying41 rfl (by rw [Array.length_toList, HZ.out]; exact info19)) hH ?_
    try simp only [Act.put, List.setIfInBounds_toArray, List.set_cons_zero, List.set_cons_succ]
    refine wpAnyH_take (i := 1) (oi := _) (v := (.pointer (some ⟨rb, 0, none⟩))) rfl (by kernel_rfl) (by kernel_rfl) (by kernel_rfl) (fun _ _ _ h => h) (Or.inl ⟨by rfl, fun w' hw' => by go_simp⟩) hH ?_
    try simp only [Act.put, List.setIfInBounds_toArray, List.set_cons_zero, List.set_cons_succ]
    refine wpAnyH_take (i := 2) (oi := _) (v := (.pointer (some ⟨rb, 0, none⟩))) rfl (by kernel_rfl) (by kernel_rfl) (by kernel_rfl) (fun _ _ _ h => h) (Or.inl ⟨by rfl, fun w' hw' => by go_simp⟩) hH ?_
    try simp only [Act.put, List.setIfInBounds_toArray, List.set_cons_zero, List.set_cons_succ]
    refine wpAnyH_take (i := 3) (oi := _) (v := (.pointer (some ⟨rb, 0, none⟩))) rfl (by kernel_rfl) (by kernel_rfl) (by kernel_rfl) (fun _ _ _ h => h) (Or.inl ⟨by rfl, fun w' hw' => by go_simp⟩) hH ?_
    try simp only [Act.put, List.setIfInBounds_toArray, List.set_cons_zero, List.set_cons_succ]
    refine wpAnyH_take (i := 4) (oi := _) (v := (.pointer (some ⟨rb, 1, none⟩))) rfl (by kernel_rfl) (by kernel_rfl) (by kernel_rfl) (fun _ _ _ h => h) (Or.inl ⟨by rfl, fun w' hw' => by go_simp⟩) hH ?_
    try simp only [Act.put, List.setIfInBounds_toArray, List.set_cons_zero, List.set_cons_succ]
    refine wpAnyH_take (i := 5) (oi := _) (v := .nilIface) rfl (by kernel_rfl) (by kernel_rfl) (by kernel_rfl) (fun _ _ _ h => h) (Or.inl ⟨by rfl, fun w' hw' => by have hc := hw'.2; clear hw'; go_simp⟩) hH ?_
    try simp only [Act.put, List.setIfInBounds_toArray, List.set_cons_zero, List.set_cons_succ]
    refine wpAnyH_ready (rs := [6]) (by kernel_rfl) (by simp) ?_
    refine AllReadyH.cons (o := _) rfl (fun K hK => ?_) AllReadyH.nil
    go_simp
    refine (toldS_ok C _ HZ.out HC1.out).mono ?_
    rintro e w7 ⟨rfl, b7⟩
    have hl8 : w2.heap.size < w6.heap.size := K6.out.1.lt
    have hl9 : rb < w6.heap.size := by omega
    have s7 : Blk w7 w2.heap.size C 41 ∧ w7.cell? ⟨rb, 1, none⟩ = some (.nilIface) := ⟨Blk.below (w := w6.drew) K6.out.1 b7 hl8, (b7.cell (p := ⟨rb, 1, none⟩) hl9).trans C3.out⟩
    have kb7 : Blk w7 w.heap.size noSn 41 := Blk.below (w := w6.drew) K6.out.2 b7 (by show w.heap.size < w6.heap.size; omega)
    have HF := hide (And.intro kb7 (And.intro (kb7.row C) (below_setRow (B6.out.trans ((((Below.refl _ w6).drew).trans b7).mono (by show w.heap.size ≤ w6.heap.size; omega))) (Nat.le_refl _) C)))
    have HZ2 := hide (show C.size = 19 from HZ.out)
    clear kb7 b7
    refine hK.out _ _ s7 (fun hH => ?_)
    clear hK K s7
    try simp only [Act.put, List.setIfInBounds_toArray, List.set_cons_zero, List.set_cons_succ]
    refine wpAnyH_take (i := 7) (oi := _) (v := .agg C) rfl (by kernel_rfl) (by kernel_rfl) (by kernel_rfl) (fun _ _ _ h => h) (Or.inl ⟨by rfl, fun w' hw' => by go_simp⟩) hH ?_
    try simp only [Act.put, List.setIfInBounds_toArray, List.set_cons_zero, List.set_cons_succ]
    refine wpAnyH_take (i := 8) (oi := _) (v := .int .i64 0) rfl (by kernel_rfl) (by kernel_rfl) (by kernel_rfl) (fun _ _ _ h => h) (Or.inl ⟨by rfl, fun w' hw' => by go_simp⟩) hH ?_
    try simp only [Act.put, List.setIfInBounds_toArray, List.set_cons_zero, List.set_cons_succ]
    refine wpAnyH_ready (rs := [9]) (by kernel_rfl) (by simp) ?_
    refine AllReadyH.cons (o := _) rfl (fun K hK => ?_) AllReadyH.nil
    rw [if_pos (by rfl)]
    refine wp_store_row 41 _ _ rfl w.heap.size C rfl rfl 41 _ HF.out.1 (by rw [HZ2.out]; exact info19) (by first | (rw [HZ2.out]; done) | (rw [HZ2.out]; rfl)) (by first | exact HC1.out | exact noSn_one) ?_
    refine hK.out _ _ ⟨(setRow_block _ _ _ _ (by omega)).trans hH.1, (World.cell?_of_block (a := ⟨rb, 1, none⟩) (setRow_block _ _ _ _ (by show rb ≠ w.heap.size; omega))).trans hH.2⟩ (fun hH9 => ?_)
    clear hK K
    try simp only [Act.put, List.setIfInBounds_toArray, List.set_cons_zero, List.set_cons_succ]
    refine wpAnyH_ready (rs := [10]) (by kernel_rfl) (by simp) ?_
    refine AllReadyH.cons (o := _) rfl (fun K hK => ?_) AllReadyH.nil
    go_simp
    refine hK.out _ _ hH9 (fun hH10 => ?_)
    clear hK K
    try simp only [Act.put, List.setIfInBounds_toArray, List.set_cons_zero, List.set_cons_succ]
    refine wpAnyH_done (by kernel_rfl) (NoPanic.normal ?_) _
    clear hH hH9 hH10
    go_wp2
    refine bodyPost_ret (v := .tuple #[.agg C, .int .i64 0]) ?_ rfl ⟨C, true, HOK.out, rfl, HF.out.2.2⟩
    exact results_row_tmp rfl _ _ w.heap.size 41 C (0, 0) _ _ rfl rfl HF.out.2.1 Tryz.underlying41 rfl (by rw [HZ2.out]; exact info19)
  · have H6f := hide c4
    obtain ⟨t', x', rfl⟩ := c4.iface
    clear c4
    have C3 := hide c3
    clear c3
    go_wp2_with fail
    refine wp_region_noPanic ?_
    refine wp_region_held_drew (S := fun w' => Blk w' w2.heap.size C 41 ∧ w'.cell? ⟨rb, 1, none⟩ = some (.iface t' (.pointer (some x')))) (by kernel_rfl) ⟨K6.out.1, C3.out⟩ (fun hH => ?_)
    refine wpAnyH_take (i := 0) (oi := _) (v := .agg C) rfl (by kernel_rfl) (by kernel_rfl) (by kernel_rfl) (fun _ _ _ h => h) (yieldsIf_load_mid (by rfl) 41 _ rfl w2.heap.size 0 rfl C.toList _ (fun w' h => blk_range h.1) Tryz.underlying41 rfl (by rw [Array.length_toList, HZ.out]; exact info19)) hH ?_
    try simp only [Act.put, List.setIfInBounds_toArray, List.set_cons_zero, List.set_cons_succ]
    refine wpAnyH_take (i := 1) (oi := _) (v := (.pointer (some ⟨rb, 0, none⟩))) rfl (by kernel_rfl) (by kernel_rfl) (by kernel_rfl) (fun _ _ _ h => h) (Or.inl ⟨by rfl, fun w' hw' => by go_simp⟩) hH ?_
    try simp only [Act.put, List.setIfInBounds_toArray, List.set_cons_zero, List.set_cons_succ]
    refine wpAnyH_take (i := 2) (oi := _) (v := (.pointer (some ⟨rb, 0, none⟩))) rfl (by kernel_rfl) (by kernel_rfl) (by kernel_rfl) (fun _ _ _ h => h) (Or.inl ⟨by rfl, fun w' hw' => by go_simp⟩) hH ?_
    try simp only [Act.put, List.setIfInBounds_toArray, List.set_cons_zero, List.set_cons_succ]
    refine wpAnyH_take (i := 3) (oi := _) (v := (.pointer (some ⟨rb, 0, none⟩))) rfl (by kernel_rfl) (by kernel_rfl) (by kernel_rfl) (fun _ _ _ h => h) (Or.inl ⟨by rfl, fun w' hw' => by go_simp⟩) hH ?_
    try simp only [Act.put, List.setIfInBounds_toArray, List.set_cons_zero, List.set_cons_succ]
    refine wpAnyH_take (i := 4) (oi := _) (v := (.pointer (some ⟨rb, 1, none⟩))) rfl (by kernel_rfl) (by kernel_rfl) (by kernel_rfl) (fun _ _ _ h => h) (Or.inl ⟨by rfl, fun w' hw' => by go_simp⟩) hH ?_
    try simp only [Act.put, List.setIfInBounds_toArray, List.set_cons_zero, List.set_cons_succ]
    refine wpAnyH_take (i := 5) (oi := _) (v := .iface t' (.pointer (some x'))) rfl (by kernel_rfl) (by kernel_rfl) (by kernel_rfl) (fun _ _ _ h => h) (Or.inl ⟨by rfl, fun w' hw' => by have hc := hw'.2; clear hw'; go_simp⟩) hH ?_
    try simp only [Act.put, List.setIfInBounds_toArray, List.set_cons_zero, List.set_cons_succ]
    refine wpAnyH_ready (rs := [6]) (by kernel_rfl) (by simp) ?_
    refine AllReadyH.cons (o := _) rfl (fun K hK => ?_) AllReadyH.nil
    go_simp
    refine (toldS_bad C _ m _ 21 _ HZ.out HC1.out (H6f.out.below ((Below.refl _ _).drew)) ((HR.out.2.below B6.out).below ((Below.refl _ _).drew))).mono ?_
    rintro e w7 ⟨rfl, b7⟩
    have hl8 : w2.heap.size < w6.heap.size := K6.out.1.lt
    have hl9 : rb < w6.heap.size := by omega
    have s7 : Blk w7 w2.heap.size C 41 ∧ w7.cell? ⟨rb, 1, none⟩ = some (.iface t' (.pointer (some x'))) := ⟨Blk.below (w := w6.drew) K6.out.1 b7 hl8, (b7.cell (p := ⟨rb, 1, none⟩) hl9).trans C3.out⟩
    have kb7 : Blk w7 w.heap.size noSn 41 := Blk.below (w := w6.drew) K6.out.2 b7 (by show w.heap.size < w6.heap.size; omega)
    have HF := hide (And.intro kb7 (And.intro (kb7.row noSn) (below_setRow (B6.out.trans ((((Below.refl _ w6).drew).trans b7).mono (by show w.heap.size ≤ w6.heap.size; omega))) (Nat.le_refl _) noSn)))
    have HZ2 := hide (show noSn.size = 19 from rfl)
    clear kb7 b7
    refine hK.out _ _ s7 (fun hH => ?_)
    clear hK K s7
    try simp only [Act.put, List.setIfInBounds_toArray, List.set_cons_zero, List.set_cons_succ]
    refine wpAnyH_take (i := 7) (oi := _) (v := .agg noSn) rfl (by kernel_rfl) (by kernel_rfl) (by kernel_rfl) (fun _ _ _ h => h) (Or.inl ⟨by rfl, fun w' hw' => by go_simp⟩) hH ?_
    try simp only [Act.put, List.setIfInBounds_toArray, List.set_cons_zero, List.set_cons_succ]
    refine wpAnyH_take (i := 8) (oi := _) (v := .int .i64 21) rfl (by kernel_rfl) (by kernel_rfl) (by kernel_rfl) (fun _ _ _ h => h) (Or.inl ⟨by rfl, fun w' hw' => by go_simp⟩) hH ?_
    try simp only [Act.put, List.setIfInBounds_toArray, List.set_cons_zero, List.set_cons_succ]
    refine wpAnyH_ready (rs := [9]) (by kernel_rfl) (by simp) ?_
    refine AllReadyH.cons (o := _) rfl (fun K hK => ?_) AllReadyH.nil
    rw [if_pos (by rfl)]
    refine wp_store_row 41 _ _ rfl w.heap.size noSn rfl rfl 41 _ HF.out.1 (by rw [HZ2.out]; exact info19) (by first | (rw [HZ2.out]; done) | (rw [HZ2.out]; rfl)) (by first | exact HC1.out | exact noSn_one) ?_
    refine hK.out _ _ ⟨(setRow_block _ _ _ _ (by omega)).trans hH.1, (World.cell?_of_block (a := ⟨rb, 1, none⟩) (setRow_block _ _ _ _ (by show rb ≠ w.heap.size; omega))).trans hH.2⟩ (fun hH9 => ?_)
    clear hK K
    try simp only [Act.put, List.setIfInBounds_toArray, List.set_cons_zero, List.set_cons_succ]
    refine wpAnyH_ready (rs := [10]) (by kernel_rfl) (by simp) ?_
    refine AllReadyH.cons (o := _) rfl (fun K hK => ?_) AllReadyH.nil
    go_simp
    refine hK.out _ _ hH9 (fun hH10 => ?_)
    clear hK K
    try simp only [Act.put, List.setIfInBounds_toArray, List.set_cons_zero, List.set_cons_succ]
    refine wpAnyH_done (by kernel_rfl) (NoPanic.normal ?_) _
    clear hH hH9 hH10
    go_wp2
    refine bodyPost_ret (v := .tuple #[.agg noSn, .int .i64 21]) ?_ rfl ⟨C, false, HOK.out, rfl, HF.out.2.2⟩
    exact results_row_tmp rfl _ _ w.heap.size 41 noSn (0, 0) _ _ rfl rfl HF.out.2.1 Tryz.underlying41 rfl (by rw [HZ2.out]; exact info19)
end Go.Proofs.YtfkmnmopkblopaaGreatDoor
