/- Rows of strings: two held against each other, marked, held; markText. -/
import Derived.Test.YtdkdmakjkodomaaSplA
import Derived.Laws.BytesArg
import Derived.Deep.RegionHeld3
namespace Go.Proofs.Ytdkdmakjkodomaa
set_option linter.unusedVariables false
set_option linter.unusedSimpArgs false
open Go.RowKit

theorem eqStringS_same (v1 v2 : Value) (L : List ByteArray) (w : World) (h1 : RdS w v1 L) (h2 : RdS w v2 L) :
    Calls Try.prog 16 #[v1, v2] w fun e w' => e = .returned (.bool true) ∧ Below w.heap.size w w' := by
  obtain ⟨a1, cap1, rfl, hc1, hm1, hcell1⟩ := h1
  obtain ⟨a2, cap2, rfl, hc2, hm2, hcell2⟩ := h2
  have hcap1 : cap1 ≤ 9223372036854775807 := hm1
  have hcap2 : cap2 ≤ 9223372036854775807 := hm2
  have HC := hide (And.intro hcell1 hcell2)
  clear hm1 hm2 hcell1 hcell2
  go_enter Try.func16, Try.ntmps16
  go_wp2
  go_loopw [5] (fun i wr => ∃ k : Nat, k ≤ L.length ∧ i = .int .i64 k ∧ Below w.heap.size w wr) (fun i _ => L.length - (intOf i).toNat)
  case atStart => exact ⟨0, by omega, rfl, Below.refl _ _⟩
  case round =>
    obtain ⟨k, hk, rfl, hb⟩ := hrel
    have HB := hide hb
    by_cases hlt : k < L.length
    · obtain ⟨b1, rfl, hb1, hcc1⟩ := HC.out.1 (by omega)
      obtain ⟨b2, rfl, hb2, hcc2⟩ := HC.out.2 (by omega)
      have c1 := (hb.cell (p := ⟨b1, k, none⟩) hb1).trans (hcc1 k hlt)
      have c2 := (hb.cell (p := ⟨b2, k, none⟩) hb2).trans (hcc2 k hlt)
      generalize L.getD k ⟨#[]⟩ = x at c1 c2
      have hxx : (x.toList == x.toList) = true := by simp
      clear hb hcc1 hcc2
      go_wp2
      go_quiet (fail)
      go_wp2
      go_roundw
      case rel => exact ⟨k + 1, by omega, by go_num, ⟨HB.out.os, HB.out.tape, HB.out.output, HB.out.size, HB.out.block⟩⟩
      case measure => simp [intOf]; omega
    · clear hb
      go_wp2
      go_ret
      exact ⟨rfl, HB.out⟩

/-- The decimal signs of q, ahead of t. -/
def digsF : Nat → Nat → ByteArray → ByteArray
  | 0, _, t => t
  | f + 1, q, t => if q = 0 then t else digsF f (q / 10) (strOfNums [48 + (q : Int) % 10] ++ t)
theorem digsF_zero (f : Nat) (t : ByteArray) : digsF f 0 t = t := by cases f <;> simp [digsF]
theorem digsF_step (f q : Nat) (t : ByteArray) (h : q ≠ 0) : digsF (f + 1) q t = digsF f (q / 10) (strOfNums [48 + (q : Int) % 10] ++ t) := by simp [digsF, h]
def mtx (m : Nat) : ByteArray := ⟨#[109]⟩ ++ digsF m m ⟨#[]⟩
theorem markText_any (m : Nat) (w : World) (h1 : 1 ≤ m) (h2 : m ≤ 2000) :
    Calls Try.prog 32 #[.int .i64 (m : Int)] w fun e w' => e = .returned (.string (mtx m)) ∧ Below w.heap.size w w' := by
  go_enter Try.func32, Try.ntmps32
  go_wp2
  go_loopw [0, 3] (fun a t wr => ∃ (q f : Nat) (x : ByteArray), a = .int .i64 (q : Int) ∧ t = .string x ∧ q ≤ f ∧ digsF f q x = digsF m m ⟨#[]⟩ ∧ x.size + q ≤ m ∧ Below w.heap.size w wr) (fun a _ _ => (intOf a).toNat)
  case atStart => exact ⟨m, m, ⟨#[]⟩, rfl, rfl, Nat.le_refl _, rfl, by simp [ByteArray.size], Below.refl _ _⟩
  case round =>
    obtain ⟨q, f, x, rfl, rfl, hqf, hd, hx, hb⟩ := hrel
    have HB := hide (And.intro hb hd)
    have hsz := hb.size
    clear hb hd
    by_cases hq : 0 < q
    · obtain ⟨f', rfl⟩ : ∃ f', f = f' + 1 := ⟨f - 1, by omega⟩
      have HD := hide ((digsF_step f' q x (by omega)).symm.trans HB.out.2)
      have hcv : (convert 22 9 (.slice (some ⟨wr.heap.size, 0, none⟩) 1 1)).run Try.prog (wr.alloc (.cells #[.int .u8 (48 + (q : Int) % 10)] 5)) = .ok (.string (strOfNums [48 + (q : Int) % 10])) (wr.alloc (.cells #[.int .u8 (48 + (q : Int) % 10)] 5)) :=
        run_convert_bytes_arg _ 22 5 Try.underlying22 Try.underlying5 wr.heap.size 0 1 1 [48 + (q : Int) % 10] rfl (fun i hi => by
          obtain rfl : i = 0 := by simp at hi; omega
          simp) 9 Try.underlying9
      have hs1 : (strOfNums [48 + (q : Int) % 10]).size = 1 := strOfNums_size _
      generalize strOfNums [48 + (q : Int) % 10] = y at hcv HD hs1
      have hcat : ¬ 9223372036854775807 < y.size + x.size := by omega
      have HS := hide (show (y ++ x).size + q / 10 ≤ m from by rw [ByteArray.size_append]; omega)
      go_wp2_with fail
      go_roundw
      case rel => exact ⟨q / 10, f', y ++ x, by go_num, rfl, by omega, HD.out, HS.out, HB.out.1.alloc hsz _⟩
      case measure => simp [intOf]; omega
    · obtain rfl : q = 0 := by omega
      have HD := hide ((digsF_zero f x).symm.trans HB.out.2)
      go_wp2
      go_ret
      refine ⟨ret_val ?_, HB.out.1⟩
      unfold mtx
      rw [← HD.out]
      rfl

def mkS (k0 n : Nat) : List ByteArray := (List.range n).map fun i => mtx (k0 + i)
theorem mkS_len (k0 n : Nat) : (mkS k0 n).length = n := by simp [mkS]
theorem mkS_get (k0 n k : Nat) (h : k < n) : (mkS k0 n)[k]? = some (mtx (k0 + k)) := by simp [mkS, h]
theorem mkS_getD (k0 n k : Nat) (h : k < n) : (mkS k0 n).getD k ⟨#[]⟩ = mtx (k0 + k) := by rw [List.getD_eq_getElem?_getD, mkS_get k0 n k h]; rfl
theorem set_overS (zs xs : List Value) (z : Value) (k n : Nat) (hk : k < n) (hz : zs.length = n) (hx : xs.length = n) (he : zs[k]? = some z) : (zs.take k ++ xs.drop k).set k z = zs.take (k + 1) ++ xs.drop (k + 1) := by
  apply List.ext_getElem?
  intro i
  by_cases hi : i = k
  · subst hi
    rw [List.getElem?_set_self (by simp; omega), List.getElem?_append_left (by simp; omega), List.getElem?_take, if_pos (by omega), he]
  · rw [List.getElem?_set_ne (fun e => hi e.symm)]
    rcases Nat.lt_or_ge i k with h | h
    · rw [List.getElem?_append_left (by simp; omega), List.getElem?_append_left (by simp; omega), List.getElem?_take, List.getElem?_take, if_pos h, if_pos (by omega)]
    · rw [List.getElem?_append_right (by simp; omega), List.getElem?_append_right (by simp; omega), List.getElem?_drop, List.getElem?_drop]
      congr 1
      simp
      omega

set_option maxHeartbeats 400000 in
theorem markStringS_any (v : Value) (base n k0 : Nat) (xs : List Value) (w : World) (h : w.ownsRow base 9 1 v n xs) (hn : n ≤ 600) (hk1 : 1 ≤ k0) (hk0 : k0 ≤ 600) :
    Calls Try.prog 17 #[v, .int .i64 k0] w fun e w' => e = .returned (.int .i64 ((k0 + n : Nat) : Int)) ∧ w'.ownsRow base 9 1 v n ((mkS k0 n).map Value.string) ∧ w.grownBy w' v.ownBlock := by
  rcases h.2 with ⟨rfl, rfl⟩ | ⟨g, cap, cur, rfl, hb, hg, hnc, hcm, hcs, htake⟩
  · clear h
    go_enter Try.func17, Try.ntmps17
    go_wp2
    refine wp_loop_rounds 1 ?_
    rw [rounds_succ]
    go_wp2
    go_ret
    exact ⟨rfl, World.ownsRow_nil _ _ _ _, World.grownBy.refl _ _⟩
  · have hown : w.ownsRow base 9 1 (.slice (some ⟨g, 0, none⟩) n cap) n xs := h
    have hxl : xs.length = n := by have := h.1; omega
    have hcap : cap ≤ 9223372036854775807 := hcm
    clear h hg hcs htake hb hcm
    go_enter Try.func17, Try.ntmps17
    go_wp2
    go_loopw [1, 5] (fun q i wr => ∃ k : Nat, k ≤ n ∧ i = .int .i64 k ∧ q = .int .i64 ((k0 + k : Nat) : Int) ∧ wr.ownsRow base 9 1 (.slice (some ⟨g, 0, none⟩) n cap) n (((mkS k0 n).map Value.string).take k ++ xs.drop k) ∧ w.grownBy wr (some g)) (fun _ i _ => n - (intOf i).toNat)
    case atStart => exact ⟨0, Nat.zero_le _, rfl, rfl, by simpa using hown, World.grownBy.refl _ _⟩
    case round =>
      clear hown
      obtain ⟨k, hk, rfl, rfl, hown, hgr⟩ := hrel
      have HO := hide (And.intro hown hgr)
      have HX := hide hxl
      clear hown hgr hxl
      by_cases hlt : k < n
      · generalize hq : k0 + k = q
        have HQ := hide hq
        have hq1 : 1 ≤ q := by omega
        have hq2 : q ≤ 1300 := by omega
        clear hq
        go_wp2_with (go_at_call 32; fail)
        refine (markText_any q _ hq1 (by omega)).mono ?_
        rintro e w1 ⟨rfl, b1⟩
        have hown := own_below HO.out.1 b1
        have hst := hown.stored k (.string (mtx q))
        have hfr := hown.frozenAt k
        obtain ⟨old, hco⟩ : ∃ u, w1.cell? ⟨g, k, none⟩ = some u := by
          rw [hown.cellAt k (by omega)]
          exact ⟨_, List.getElem?_eq_getElem (by simp [mkS_len, HX.out]; omega)⟩
        have HS := hide (show (w1.setCell ⟨g, k, none⟩ (.string (mtx q))).ownsRow base 9 1 (.slice (some ⟨g, 0, none⟩) n cap) n (((mkS k0 n).map Value.string).take (k + 1) ++ xs.drop (k + 1)) ∧ w.grownBy (w1.setCell ⟨g, k, none⟩ (.string (mtx q))) (some g) from by
          refine ⟨?_, grownBy_trans (grownBy_trans HO.out.2 ⟨b1.os, b1.tape, b1.output, b1.size, fun k hk _ => b1.block k hk⟩) hst.2⟩
          rw [← set_overS ((mkS k0 n).map Value.string) xs (.string (mtx q)) k n hlt (by simp [mkS_len]) HX.out (by rw [List.getElem?_map, mkS_get k0 n k hlt, HQ.out]; rfl)]
          exact hst.1)
        clear hst hown b1 HO
        go_wp2_with fail
        go_roundw
        case rel => exact ⟨k + 1, by omega, by go_num, by rw [← Nat.add_assoc, HQ.out]; go_num, HS.out.1, HS.out.2⟩
        case measure => simp [intOf]; omega
      · obtain rfl : k = n := by omega
        go_wp2
        go_ret
        have hown := HO.out.1
        have e : ((mkS k0 k).map Value.string).take k = (mkS k0 k).map Value.string := List.take_of_length_le (by simp [mkS_len])
        rw [e, List.drop_of_length_le (by rw [HX.out]; omega)] at hown
        exact ⟨rfl, by simpa using hown, HO.out.2⟩

set_option maxRecDepth 100000 in
set_option maxHeartbeats 1000000 in
theorem heldStringS_any (v : Value) (n k0 : Nat) (w : World) (h : RdS w v (mkS k0 n)) (hn : n ≤ 600) (hk1 : 1 ≤ k0) (hk0 : k0 ≤ 600) :
    Calls Try.prog 18 #[v, .int .i64 k0] w fun e w' => e = .returned (.int .i64 ((k0 + n : Nat) : Int)) ∧ Below w.heap.size w w' := by
  obtain ⟨a, cap, rfl, hc1, hm1, hcell⟩ := h
  rw [mkS_len] at hc1 hcell ⊢
  have hcap : cap ≤ 9223372036854775807 := hm1
  have HC := hide hcell
  clear hm1 hcell
  go_enter Try.func18, Try.ntmps18
  go_wp2
  go_loopw [1, 5] (fun q i wr => ∃ k : Nat, k ≤ n ∧ i = .int .i64 k ∧ q = .int .i64 ((k0 + k : Nat) : Int) ∧ Below w.heap.size w wr) (fun _ i _ => n - (intOf i).toNat)
  case atStart => exact ⟨0, by omega, rfl, rfl, Below.refl _ _⟩
  case round =>
    obtain ⟨k, hk, rfl, rfl, hb⟩ := hrel
    have HB := hide hb
    clear hb
    by_cases hlt : k < n
    · obtain ⟨b, rfl, hbw, hcc⟩ := HC.out (by omega)
      have c0 := hcc k hlt
      rw [mkS_getD k0 n k hlt] at c0
      clear hcc
      generalize hq : k0 + k = q at c0 ⊢
      have HQ := hide hq
      have hq1 : 1 ≤ q := by omega
      have hq2 : q ≤ 1300 := by omega
      clear hq
      have HC0 := hide (show ∀ W, Below w.heap.size w W → W.cell? ⟨b, k, none⟩ = some (.string (mtx q)) from fun W hW => (hW.cell (p := ⟨b, k, none⟩) hbw).trans c0)
      clear c0
      go_wp2_with fail
      refine wp_region_noPanic ?_
      refine wp_region_held_drew (S := fun w' => Below w.heap.size w w') (by kernel_rfl) (HB.out.drew) (fun hH => ?_)
      refine wpAnyH_take (i := 0) (oi := _) (v := .slice (some ⟨b, 0, none⟩) n cap) rfl (by kernel_rfl) (by kernel_rfl) (by kernel_rfl) (fun _ _ _ h => h) (Or.inl ⟨by rfl, fun w' hw' => by go_simp⟩) hH ?_
      try simp only [Act.put, List.getElem_toArray, List.getElem_cons_zero, List.getElem_cons_succ, List.setIfInBounds_toArray, List.set_cons_zero, List.set_cons_succ]
      refine wpAnyH_take (i := 1) (oi := _) (v := .int .i64 (k : Int)) rfl (by kernel_rfl) (by kernel_rfl) (by kernel_rfl) (fun _ _ _ h => h) (Or.inl ⟨by rfl, fun w' hw' => by go_simp⟩) hH ?_
      try simp only [Act.put, List.getElem_toArray, List.getElem_cons_zero, List.getElem_cons_succ, List.setIfInBounds_toArray, List.set_cons_zero, List.set_cons_succ]
      refine wpAnyH_take (i := 2) (oi := _) (v := .pointer (some ⟨b, k, none⟩)) rfl (by kernel_rfl) (by kernel_rfl) (by kernel_rfl) (fun _ _ _ h => h) (Or.inl ⟨by rfl, fun w' hw' => by go_simp⟩) hH ?_
      try simp only [Act.put, List.getElem_toArray, List.getElem_cons_zero, List.getElem_cons_succ, List.setIfInBounds_toArray, List.set_cons_zero, List.set_cons_succ]
      refine wpAnyH_take (i := 3) (oi := _) (v := .string (mtx q)) rfl (by kernel_rfl) (by kernel_rfl) (by kernel_rfl) (fun _ _ _ h => h) (Or.inl ⟨by rfl, fun w' hw' => by have hc := HC0.out w' hw'; clear hw'; go_simp⟩) hH ?_
      try simp only [Act.put, List.getElem_toArray, List.getElem_cons_zero, List.getElem_cons_succ, List.setIfInBounds_toArray, List.set_cons_zero, List.set_cons_succ]
      refine wpAnyH_take (i := 4) (oi := _) (v := .int .i64 (q : Int)) rfl (by kernel_rfl) (by kernel_rfl) (by kernel_rfl) (fun _ _ _ h => h) (Or.inl ⟨by rfl, fun w' hw' => by go_simp⟩) hH ?_
      try simp only [Act.put, List.getElem_toArray, List.getElem_cons_zero, List.getElem_cons_succ, List.setIfInBounds_toArray, List.set_cons_zero, List.set_cons_succ]
      refine wpAnyH_ready (rs := [5]) (by kernel_rfl) (by simp) ?_
      refine AllReadyH.cons (o := _) rfl (fun K hK => ?_) AllReadyH.nil
      go_simp
      refine (markText_any q _ hq1 (by omega)).mono ?_
      rintro e w4 ⟨rfl, b4⟩
      have H4 := hide (hH.trans (b4.mono hH.size))
      refine hK.out _ _ H4.out (fun hH => ?_)
      clear hK K b4
      try simp only [Act.put, List.getElem_toArray, List.getElem_cons_zero, List.getElem_cons_succ, List.setIfInBounds_toArray, List.set_cons_zero, List.set_cons_succ]
      refine wpAnyH_take (i := 6) (oi := _) (v := .bool false) rfl (by kernel_rfl) (by kernel_rfl) (by kernel_rfl) (fun _ _ _ h => h) (Or.inl ⟨by rfl, fun w' hw' => by have hne : ((mtx q).toList != (mtx q).toList) = false := (by simp); go_simp⟩) hH ?_
      try simp only [Act.put, List.getElem_toArray, List.getElem_cons_zero, List.getElem_cons_succ, List.setIfInBounds_toArray, List.set_cons_zero, List.set_cons_succ]
      refine wpAnyH_done (by kernel_rfl) (NoPanic.normal ?_) _
      clear hH
      have hne : ((mtx q).toList != (mtx q).toList) = false := by simp
      go_wp2
      go_roundw
      case rel => exact ⟨k + 1, by omega, by go_num, by rw [← Nat.add_assoc, HQ.out]; go_num, H4.out⟩
      case measure => simp [intOf]; omega
    · obtain rfl : k = n := by omega
      go_wp2
      go_ret
      exact ⟨rfl, HB.out⟩
end Go.Proofs.Ytdkdmakjkodomaa
