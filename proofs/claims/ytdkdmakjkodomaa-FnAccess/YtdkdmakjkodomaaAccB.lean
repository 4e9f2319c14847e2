/- The law on MayAccess: eqNode, the walk. -/
import Derived.Test.YtdkdmakjkodomaaNodeA
import Derived.Deep.RegionHeld
import Derived.Deep.MidRow
import Derived.Deep.RegionHeld3
namespace Go.Proofs.Ytdkdmakjkodomaa
set_option linter.unusedVariables false
set_option linter.unusedSimpArgs false
open Go.RowKit

theorem eqNode_same (k l m u g p e t c : Int) (v1 v2 : Value) (zs : List Int) (w : World) (h1 : Rd .u8 w v1 zs) (h2 : Rd .u8 w v2 zs) :
    Calls Try.prog 13 #[nodeV k l m u g p e t c v1, nodeV k l m u g p e t c v2] w fun x w' => x = .returned (.bool true) ∧ Below w.heap.size w w' := by
  have H := hide (And.intro h1 h2)
  have hsh : ∃ a cap, v1 = .slice a zs.length cap := by obtain ⟨a, cap, h1, _⟩ := h1; exact ⟨a, cap, h1⟩
  obtain ⟨a, cap, rfl⟩ := hsh
  have hsh : ∃ a cap, v2 = .slice a zs.length cap := by obtain ⟨a, cap, h1, _⟩ := h2; exact ⟨a, cap, h1⟩
  obtain ⟨a2, cap2, rfl⟩ := hsh
  have HB := hide (show ∀ o o2, Below w.heap.size w ((w.alloc o).alloc o2) from fun o o2 => ((Below.refl _ _).alloc (Nat.le_refl _) o).alloc (by simp) o2)
  clear h1 h2
  go_enter Try.func13, Try.ntmps13
  go_wp2_with (go_at_call 27; refine (eqByteS_same _ _ zs _ (H.out.1.below (HB.out _ _)) (H.out.2.below (HB.out _ _))).mono ?_; rintro e w1 ⟨rfl, b1⟩; have HB2 := hide ((HB.out _ _).trans (b1.mono (HB.out _ _).size)); clear b1)
  go_ret
  exact ⟨rfl, HB2.out⟩

theorem infoN10 : (Try.prog.info? 27).map (·.size) = some 10 := by kernel_rfl
theorem infoLN10 : (Try.prog.info? 31).map (·.size) = some 10 := by kernel_rfl
theorem node_range {w : World} {b : Nat} {C : Array Value} {t : TypeId} (h : Blk w b C t) : w.rangeAt b 0 C.toList := by
  intro j v hv
  rw [h.cell (0 + j), Nat.zero_add]
  simpa using hv

set_option maxRecDepth 100000 in
set_option maxHeartbeats 1000000 in
theorem lawMay (k l m u g p e t c uid gid want : Int) (v : Value) (zs : List Int) (w : World) (h : Rd .u8 w v zs) :
    Calls Try.prog 4 #[nodeV k l m u g p e t c v, .int .i64 uid, .int .i64 gid, .int .i64 want] w fun x w' => x = .returned (.bool true) ∧ Below w.heap.size w w' := by
  have HR := hide h
  have hsh : ∃ a cap, v = .slice a zs.length cap := by obtain ⟨a, cap, h1, _⟩ := h; exact ⟨a, cap, h1⟩
  obtain ⟨a, cap, rfl⟩ := hsh
  clear h
  have B0 := hide (show Below w.heap.size w (w.alloc (.cells #[.int .i64 k, .int .i64 l, .int .i64 m, .int .i64 u, .int .i64 g, .int .i64 p, .int .i64 e, .int .i64 t, .int .i64 c, .slice a zs.length cap] 31)) from (Below.refl _ _).alloc (Nat.le_refl _) _)
  have K0 := hide (Blk.new w #[.int .i64 k, .int .i64 l, .int .i64 m, .int .i64 u, .int .i64 g, .int .i64 p, .int .i64 e, .int .i64 t, .int .i64 c, .slice a zs.length cap] 31)
  by_cases hbig : (1048576 : Int) < (zs.length : Int)
  · have HS := hide (show (if (1048576 : Int) < zs.length then (-1 : Int) else 1048576 - (zs.length : Int)) = -1 from if_pos hbig)
    go_enter Try.func4, Try.ntmps4
    go_wp2_with (go_at_call 10; fail)
    refine (szNode_any k l m u g p e t c _ zs 1048576 _ (HR.out.below B0.out) (by omega) (by omega)).mono ?_
    rintro x w1 ⟨rfl, b1⟩
    rw [HS.out]
    have B1 := hide (B0.out.trans (b1.mono B0.out.size))
    clear b1
    go_wp2
    go_ret
    exact ⟨rfl, B1.out⟩
  · have HS := hide (show (if (1048576 : Int) < zs.length then (-1 : Int) else 1048576 - (zs.length : Int)) = 1048576 - (zs.length : Int) from if_neg hbig)
    have hn : zs.length ≤ 1048576 := by omega
    have HN := hide hn
    go_enter Try.func4, Try.ntmps4
    go_wp2_with (go_at_call 10; fail)
    refine (szNode_any k l m u g p e t c _ zs 1048576 _ (HR.out.below B0.out) (by omega) (by omega)).mono ?_
    rintro x w1 ⟨rfl, b1⟩
    rw [HS.out]
    have B1 := hide (B0.out.trans (b1.mono B0.out.size))
    have K1 := hide (K0.out.below b1 K0.out.lt)
    have hl : decide ((1048576 : Int) - (zs.length : Int) < 0) = false := by simp; omega
    clear b1 K0 B0
    go_wp2_with (first | (refine wpList_load_row rfl 31 _ rfl w.heap.size rfl 31 #[.int .i64 k, .int .i64 l, .int .i64 m, .int .i64 u, .int .i64 g, .int .i64 p, .int .i64 e, .int .i64 t, .int .i64 c, .slice a zs.length cap] (0, 0) _ K1.out Try.underlying31 rfl infoLN10 ?_) | (go_at_call 12; fail))
    refine (toNode_any k l m u g p e t c _ zs _ (HR.out.below B1.out) HN.out).mono ?_
    rintro x w2 ⟨v2, rfl, o2, b2⟩
    have B2 := hide (B1.out.trans (b2.mono B1.out.size))
    have K2 := hide (K1.out.below b2 K1.out.lt)
    clear b2 K1 B1 o2
    go_wp2_with fail
    refine (specMay_any k l m u g p e t c v2 uid gid want _).mono ?_
    rintro x w3 ⟨rfl, b3⟩
    have B3 := hide (B2.out.trans (b3.mono B2.out.size))
    have K3 := hide (K2.out.below b3 K2.out.lt)
    clear b3 K2 B2
    go_wp2_with (first | (refine wpList_load_row rfl 31 _ rfl w.heap.size rfl 31 #[.int .i64 k, .int .i64 l, .int .i64 m, .int .i64 u, .int .i64 g, .int .i64 p, .int .i64 e, .int .i64 t, .int .i64 c, .slice a zs.length cap] (0, 0) _ K3.out Try.underlying31 rfl infoLN10 ?_) | (go_at_call 12; fail))
    refine (toNode_any k l m u g p e t c _ zs _ (HR.out.below B3.out) HN.out).mono ?_
    rintro x w4 ⟨v4, rfl, o4, b4⟩
    have hz2 : ∃ a1 cap1, v4 = .slice a1 zs.length cap1 := by obtain ⟨a1, cap1, h1, _⟩ := Rd.own o4; exact ⟨a1, cap1, h1⟩
    obtain ⟨a4, cap4, rfl⟩ := hz2
    have B4 := hide (B3.out.trans (b4.mono B3.out.size))
    have K4 := hide (K3.out.below b4 K3.out.lt)
    have O4 := hide (Rd.own o4)
    clear b4 K3 B3 o4
    have B5 := hide (show Below w.heap.size w (w4.alloc (.cells #[.int .i64 k, .int .i64 l, .int .i64 m, .int .i64 u, .int .i64 g, .int .i64 p, .int .i64 e, .int .i64 t, .int .i64 c, .slice a4 zs.length cap4] 27)) from B4.out.alloc B4.out.size _)
    have K5 := hide (K4.out.alloc (.cells #[.int .i64 k, .int .i64 l, .int .i64 m, .int .i64 u, .int .i64 g, .int .i64 p, .int .i64 e, .int .i64 t, .int .i64 c, .slice a4 zs.length cap4] 27))
    have J5 := hide (Blk.new w4 #[.int .i64 k, .int .i64 l, .int .i64 m, .int .i64 u, .int .i64 g, .int .i64 p, .int .i64 e, .int .i64 t, .int .i64 c, .slice a4 zs.length cap4] 27)
    have O5 := hide (O4.out.below (show Below w4.heap.size w4 (w4.alloc (.cells #[.int .i64 k, .int .i64 l, .int .i64 m, .int .i64 u, .int .i64 g, .int .i64 p, .int .i64 e, .int .i64 t, .int .i64 c, .slice a4 zs.length cap4] 27)) from (Below.refl _ _).alloc (Nat.le_refl _) _))
    have hlt := B4.out.size
    clear B4 K4 O4
    go_wp2_with (go_at_call 9; fail)
    refine (implMay_any k l m u g p e t c _ uid gid want _).mono ?_
    rintro x w6 ⟨rfl, b6⟩
    have B6 := hide (B5.out.trans (b6.mono B5.out.size))
    have K6 := hide (K5.out.below b6 K5.out.lt)
    have J6 := hide (J5.out.below b6 J5.out.lt)
    have O6 := hide (O5.out.below b6)
    have hbb : ((mayB m u g uid gid want) != (mayB m u g uid gid want)) = false := by simp
    clear b6 B5 K5 J5 O5
    go_wp2_with fail
    refine wp_region_noPanic ?_
    refine wp_region_held_drew (S := fun w' => Below w6.heap.size w6 w') (by kernel_rfl) ((Below.refl _ _).drew) (fun hH => ?_)
    refine wpAnyH_take (i := 0) (oi := _) (v := .agg #[.int .i64 k, .int .i64 l, .int .i64 m, .int .i64 u, .int .i64 g, .int .i64 p, .int .i64 e, .int .i64 t, .int .i64 c, .slice a4 zs.length cap4]) rfl (by kernel_rfl) (by kernel_rfl) (by kernel_rfl) (fun _ _ _ h => h) (yieldsIf_load_mid (by rfl) 27 _ rfl w4.heap.size 0 rfl (#[.int .i64 k, .int .i64 l, .int .i64 m, .int .i64 u, .int .i64 g, .int .i64 p, .int .i64 e, .int .i64 t, .int .i64 c, .slice a4 zs.length cap4] : Array Value).toList _ (fun w' h => node_range (J6.out.below h J6.out.lt)) Try.underlying27 rfl infoN10) hH ?_
    try simp only [Act.put, List.getElem_toArray, List.getElem_cons_zero, List.getElem_cons_succ, List.setIfInBounds_toArray, List.set_cons_zero, List.set_cons_succ]
    refine wpAnyH_take (i := 1) (oi := _) (v := .agg #[.int .i64 k, .int .i64 l, .int .i64 m, .int .i64 u, .int .i64 g, .int .i64 p, .int .i64 e, .int .i64 t, .int .i64 c, .slice a zs.length cap]) rfl (by kernel_rfl) (by kernel_rfl) (by kernel_rfl) (fun _ _ _ h => h) (yieldsIf_load_mid (by rfl) 31 _ rfl w.heap.size 0 rfl (#[.int .i64 k, .int .i64 l, .int .i64 m, .int .i64 u, .int .i64 g, .int .i64 p, .int .i64 e, .int .i64 t, .int .i64 c, .slice a zs.length cap] : Array Value).toList _ (fun w' h => node_range (K6.out.below h K6.out.lt)) Try.underlying31 rfl infoLN10) hH ?_
    try simp only [Act.put, List.getElem_toArray, List.getElem_cons_zero, List.getElem_cons_succ, List.setIfInBounds_toArray, List.set_cons_zero, List.set_cons_succ]
    refine wpAnyH_ready (rs := [2]) (by kernel_rfl) (by simp) ?_
    refine AllReadyH.cons (o := _) rfl (fun K hK => ?_) AllReadyH.nil
    go_simp
    refine (toNode_any k l m u g p e t c _ zs _ (HR.out.below (B6.out.trans (hH.mono B6.out.size))) HN.out).mono ?_
    rintro x w7 ⟨v7, rfl, o7, b7⟩
    have B7 := hide (hH.trans (b7.mono hH.size))
    have O7 := hide (Rd.own o7)
    refine hK.out _ _ B7.out (fun hH7 => ?_)
    clear hK K hH o7 b7
    try simp only [Act.put, List.getElem_toArray, List.getElem_cons_zero, List.getElem_cons_succ, List.setIfInBounds_toArray, List.set_cons_zero, List.set_cons_succ]
    refine wpAnyH_ready (rs := [3]) (by kernel_rfl) (by simp) ?_
    refine AllReadyH.cons (o := _) rfl (fun K hK => ?_) AllReadyH.nil
    go_simp
    refine (eqNode_same k l m u g p e t c _ _ zs _ (O6.out.below B7.out) O7.out).mono ?_
    rintro x w8 ⟨rfl, b8⟩
    have B8 := hide (B7.out.trans (b8.mono B7.out.size))
    refine hK.out _ _ B8.out (fun hH8 => ?_)
    clear hK K hH7 b8 B7 O7
    try simp only [Act.put, List.getElem_toArray, List.getElem_cons_zero, List.getElem_cons_succ, List.setIfInBounds_toArray, List.set_cons_zero, List.set_cons_succ]
    refine wpAnyH_take (i := 4) (oi := _) (v := .bool false) rfl (by kernel_rfl) (by kernel_rfl) (by kernel_rfl) (fun _ _ _ h => h) (Or.inl ⟨by rfl, fun w' hw' => by go_simp⟩) hH8 ?_
    try simp only [Act.put, List.getElem_toArray, List.getElem_cons_zero, List.getElem_cons_succ, List.setIfInBounds_toArray, List.set_cons_zero, List.set_cons_succ]
    refine wpAnyH_done (by kernel_rfl) (NoPanic.normal ?_) _
    have B9 := hide (B6.out.trans (B8.out.mono B6.out.size))
    clear hH8 B8 B6
    go_wp2
    go_ret
    exact ⟨rfl, B9.out⟩
end Go.Proofs.Ytdkdmakjkodomaa
