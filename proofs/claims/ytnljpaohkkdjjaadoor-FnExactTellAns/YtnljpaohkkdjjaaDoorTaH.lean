/- The law's helpers over an answer: szAns, toAns, eqAns and what they call. -/
import Derived.Test.YtnljpaohkkdjjaaDoorTaF
import Derived.Test.YtnljpaohkkdjjaaDoorBytes
namespace Go.Proofs.YtnljpaohkkdjjaaDoor
set_option linter.unusedVariables false
set_option linter.unusedSimpArgs false
open Go.RowKit

theorem szByteT (v : Value) (zs : List Int) (l : Int) (w : World) (h : Rd .u8 w v zs) (h0 : 0 ≤ l) (h1 : l ≤ 1048576) :
    Calls Tryd.prog 9 #[v, .int .i64 l] w fun e w' => e = .returned (.int .i64 (if l < (zs.length : Int) then -1 else l - zs.length)) ∧ w' = w := by
  have hm := h.len
  unfold maxLen at hm
  obtain ⟨a, cap, rfl, _⟩ := h
  by_cases hb : l < (zs.length : Int)
  · rw [if_pos hb]
    go_enter Tryd.func9, Tryd.ntmps9
    go_wp2
    go_ret
    exact ⟨rfl, rfl⟩
  · rw [if_neg hb]
    go_enter Tryd.func9, Tryd.ntmps9
    go_wp2
    go_ret
    exact ⟨rfl, rfl⟩
theorem szDirentT (nm : ByteArray) (ino kd left : Int) (w : World) (hnm : nm.size ≤ maxLen) (h0 : 0 ≤ left) (h1 : left ≤ 1048576) :
    Calls Tryd.prog 24 #[.agg #[.string nm, .int .i64 ino, .int .i64 kd], .int .i64 left] w fun e w' => e = .returned (.int .i64 (if left < (nm.size : Int) then -1 else left - nm.size)) ∧ Below w.heap.size w w' := by
  unfold maxLen at hnm
  have HB := hide (show ∀ o, Below w.heap.size w (w.alloc o) from fun o => (Below.refl _ _).alloc (Nat.le_refl _) o)
  by_cases hb : left < (nm.size : Int)
  · rw [if_pos hb]
    go_enter Tryd.func24, Tryd.ntmps24
    go_wp2
    go_ret
    exact ⟨rfl, HB.out _⟩
  · rw [if_neg hb]
    go_enter Tryd.func24, Tryd.ntmps24
    go_wp2
    go_ret
    exact ⟨rfl, HB.out _⟩
theorem toDirentT (nm : ByteArray) (ino kd : Int) (w : World) :
    Calls Tryd.prog 25 #[.agg #[.string nm, .int .i64 ino, .int .i64 kd]] w fun e w' => e = .returned (.agg #[.string nm, .int .i64 ino, .int .i64 kd]) ∧ Below w.heap.size w w' := by
  have HB := hide (show ∀ a b c, Below w.heap.size w (((w.alloc a).alloc b).alloc c) from fun a b c => (((Below.refl _ _).alloc (Nat.le_refl _) a).alloc (by simp) b).alloc (by simp; omega) c)
  go_enter Tryd.func25, Tryd.ntmps25
  go_wp2
  exact bodyPost_ret (v := .agg #[.string nm, .int .i64 ino, .int .i64 kd]) (by simp [results, Tryd.results25, go_sem]) rfl ⟨rfl, HB.out _ _ _⟩
theorem eqDirentT (nm : ByteArray) (ino kd : Int) (w : World) :
    Calls Tryd.prog 28 #[.agg #[.string nm, .int .i64 ino, .int .i64 kd], .agg #[.string nm, .int .i64 ino, .int .i64 kd]] w fun e w' => e = .returned (.bool true) ∧ Below w.heap.size w w' := by
  have HB := hide (show ∀ a b, Below w.heap.size w ((w.alloc a).alloc b) from fun a b => ((Below.refl _ _).alloc (Nat.le_refl _) a).alloc (by simp) b)
  have n0 : (nm.toList != nm.toList) = false := by simp
  have n1 : (ino != ino) = false := by simp
  have n2 : (kd != kd) = false := by simp
  go_enter Tryd.func28, Tryd.ntmps28
  go_wp2
  go_ret
  exact ⟨rfl, HB.out _ _⟩
theorem sizK_snoc {L : List EK} {k : Nat} {e : EK} (h : L[k]? = some e) : sizK (L.take (k + 1)) = sizK (L.take k) + e.1.size := by
  rw [List.take_add_one, h]
  simp [sizK]
theorem RdE.parts {w : World} {a : Option Addr} {cap k : Nat} {L : List EK} {e : EK} (h : RdE w (.slice a L.length cap) L) (he : L[k]? = some e) : ∃ b off, a = some ⟨b, off, none⟩ ∧ b < w.heap.size ∧ w.cell? ⟨b, off + k * 3, none⟩ = some (.string e.1) ∧ w.cell? ⟨b, off + k * 3 + 1, none⟩ = some (.int .i64 e.2.1) ∧ w.cell? ⟨b, off + k * 3 + 2, none⟩ = some (.int .i64 e.2.2) := by
  have hl : k < L.length := by
    rcases Nat.lt_or_ge k L.length with h1 | h1
    · exact h1
    · rw [List.getElem?_eq_none h1] at he; cases he
  obtain ⟨a', cap', e1, hc⟩ := h
  injection e1 with e1 _ _
  obtain ⟨b, off, e2, hb, hcell⟩ := hc (by omega)
  exact ⟨b, off, e1.trans e2, hb, hcell k e he⟩
set_option maxRecDepth 100000 in
set_option maxHeartbeats 1000000 in
theorem szDirentsT (v : Value) (L : List EK) (left : Int) (w : World) (h : RdE w v L) (hm : ∀ e ∈ L, e.1.size ≤ maxLen) (hl : L.length ≤ maxLen) (h0 : 0 ≤ left) (h1 : left ≤ 1048576) :
    Calls Tryd.prog 10 #[v, .int .i64 left] w fun e w' => ∃ z, e = .returned (.int .i64 z) ∧ (¬ z < 0 → (L.length : Int) + sizK L ≤ left) ∧ Below w.heap.size w w' := by
  have HR := hide h
  obtain ⟨a, cap, rfl⟩ : ∃ a cap, v = .slice a L.length cap := by obtain ⟨a, cap, h1, _⟩ := h; exact ⟨a, cap, h1⟩
  unfold maxLen at hl
  clear h
  by_cases hb : left < (L.length : Int)
  · go_enter Tryd.func10, Tryd.ntmps10
    go_wp2
    go_ret
    exact ⟨-1, rfl, fun h => by omega, Below.refl _ _⟩
  go_enter Tryd.func10, Tryd.ntmps10
  go_wp2
  go_loopw [1, 5] (fun q i wr => ∃ (k : Nat) (z : Int), k ≤ L.length ∧ i = .int .i64 (k : Int) ∧ q = .int .i64 z ∧ 0 ≤ z ∧ z ≤ 1048576 ∧ Hid (z = left - L.length - sizK (L.take k) ∧ Below w.heap.size w wr)) (fun _ i _ => L.length - (intOf i).toNat)
  case atStart => exact ⟨0, left - L.length, Nat.zero_le _, rfl, rfl, by omega, by omega, ⟨by simp [sizK], Below.refl _ _⟩⟩
  case round =>
    obtain ⟨k, z, hk, rfl, rfl, hz0, hz1, HZ⟩ := hrel
    by_cases hlt : k < L.length
    · obtain ⟨e, he⟩ : ∃ x, L[k]? = some x := ⟨_, List.getElem?_eq_getElem hlt⟩
      obtain ⟨bn, off, en, hbn, d0, d1, d2⟩ := (HR.out.below HZ.out.2).parts he
      subst en
      have hes := hm e (List.mem_of_getElem? he)
      have hsn := sizK_snoc he
      obtain ⟨nm, ino, kd⟩ := e
      simp only at d0 d1 d2 hes hsn
      have HS := hide hsn
      clear he hsn
      by_cases hq : z < (nm.size : Int)
      · go_wp2_with (go_at_call 24; refine (szDirentT nm ino kd z _ hes hz0 hz1).mono ?_; rintro e w1 ⟨rfl, b1⟩; rw [if_pos hq]; have B1 := hide (HZ.out.2.trans (b1.mono HZ.out.2.size)); clear b1)
        go_ret
        exact ⟨-1, rfl, fun h => by omega, B1.out⟩
      · go_wp2_with (go_at_call 24; refine (szDirentT nm ino kd z _ hes hz0 hz1).mono ?_; rintro e w1 ⟨rfl, b1⟩; rw [if_neg hq]; have B1 := hide (HZ.out.2.trans (b1.mono HZ.out.2.size)); clear b1)
        go_roundw
        case rel => exact ⟨k + 1, z - nm.size, by omega, by go_num, rfl, by omega, by omega, ⟨by rw [HS.out, HZ.out.1]; omega, B1.out⟩⟩
        case measure => simp [intOf]; omega
    · obtain rfl : k = L.length := by omega
      have HE := hide (show z = left - L.length - sizK L from by have h := HZ.out.1; rwa [List.take_of_length_le (Nat.le_refl _)] at h)
      go_wp2
      go_ret
      exact ⟨z, rfl, fun _ => by have := HE.out; omega, HZ.out.2⟩
theorem own_blkT {w : World} {base g n : Nat} {e : TypeId} {xs : List Value} (h : w.ownsRow base e 3 (.slice (some ⟨g, 0, none⟩) n n) n xs) : ∃ C : Array Value, C.size = n * 3 ∧ Blk w g C e := by
  rcases h.2 with ⟨e0, _⟩ | ⟨g', cap, cur, e1, hb, hg, hnc, hcm, hcs, htake⟩
  · simp at e0
  · injection e1 with e1 e2 e3
    injection e1 with e1
    injection e1 with e4
    subst e3 e4
    exact ⟨cur, hcs, hg⟩
/-- The first k entries of a new row. -/
structure DrI (w : World) (L : List EK) (k : Nat) (wr : World) (C : Array Value) : Prop where
  siz : C.size = L.length * 3
  blk : Blk wr w.heap.size C 47
  cel : ∀ i e, i < k → L[i]? = some e → C[i * 3]? = some (.string e.1) ∧ C[i * 3 + 1]? = some (.int .i64 e.2.1) ∧ C[i * 3 + 2]? = some (.int .i64 e.2.2)
  bel : Below w.heap.size w wr
theorem DrI.step {w wr : World} {L : List EK} {k : Nat} {C : Array Value} {nm : ByteArray} {ino kd : Int} (h : DrI w L k wr C) (hk : k < L.length) (he : L[k]? = some (nm, ino, kd)) :
    DrI w L (k + 1) (((wr.setCell ⟨w.heap.size, k * 3, none⟩ (.string nm)).setCell ⟨w.heap.size, k * 3 + 1, none⟩ (.int .i64 ino)).setCell ⟨w.heap.size, k * 3 + 2, none⟩ (.int .i64 kd)) (((C.setIfInBounds (k * 3) (.string nm)).setIfInBounds (k * 3 + 1) (.int .i64 ino)).setIfInBounds (k * 3 + 2) (.int .i64 kd)) := by
  have hs := h.siz
  refine ⟨by simpa using h.siz, ((h.blk.set _ _).set _ _).set _ _, fun i e hi hie => ?_, ((h.bel.setCell (Nat.le_refl _) _).setCell (Nat.le_refl _) _).setCell (Nat.le_refl _) _⟩
  by_cases hik : i = k
  · subst hik
    rw [he] at hie
    obtain rfl := (Option.some.inj hie).symm
    simp [Array.getElem?_setIfInBounds, hs]
    omega
  · have h1 := h.cel i e (by omega) hie
    have a1 : ∀ j m, j < 3 → m < 3 → k * 3 + m ≠ i * 3 + j := fun j m h2 h3 => by omega
    refine ⟨?_, ?_, ?_⟩
    · rw [Array.getElem?_setIfInBounds_ne (by have := a1 0 2 (by omega) (by omega); omega), Array.getElem?_setIfInBounds_ne (by have := a1 0 1 (by omega) (by omega); omega), Array.getElem?_setIfInBounds_ne (by have := a1 0 0 (by omega) (by omega); omega)]; exact h1.1
    · rw [Array.getElem?_setIfInBounds_ne (by have := a1 1 2 (by omega) (by omega); omega), Array.getElem?_setIfInBounds_ne (by have := a1 1 1 (by omega) (by omega); omega), Array.getElem?_setIfInBounds_ne (by have := a1 1 0 (by omega) (by omega); omega)]; exact h1.2.1
    · rw [Array.getElem?_setIfInBounds_ne (by have := a1 2 2 (by omega) (by omega); omega), Array.getElem?_setIfInBounds_ne (by have := a1 2 1 (by omega) (by omega); omega), Array.getElem?_setIfInBounds_ne (by have := a1 2 0 (by omega) (by omega); omega)]; exact h1.2.2
theorem infoET : (Tryd.prog.info? 47).map (fun i => (i.zero, i.size, i.bytes)) = some (some (.agg #[.string ⟨#[]⟩, .int .i64 0, .int .i64 0]), 3, 32) := by kernel_rfl
set_option maxRecDepth 100000 in
set_option maxHeartbeats 2000000 in
theorem toDirentsT (v : Value) (L : List EK) (w : World) (h : RdE w v L) (hl : L.length ≤ 1048576) :
    Calls Tryd.prog 16 #[v] w fun e w' => ∃ v', e = .returned v' ∧ RdE w' v' L ∧ (∀ b off n c, v' = .slice (some ⟨b, off, none⟩) n c → w.heap.size ≤ b) ∧ Below w.heap.size w w' := by
  have HR := hide h
  obtain ⟨a, cap, rfl⟩ : ∃ a cap, v = .slice a L.length cap := by obtain ⟨a, cap, h1, _⟩ := h; exact ⟨a, cap, h1⟩
  obtain ⟨i0, hi, hz0, hz1, hz2⟩ := info_parts infoET
  clear h
  obtain ⟨n, hn⟩ : ∃ n, n = L.length := ⟨_, rfl⟩
  have HN := hide hn
  rw [← hn] at hl ⊢
  clear hn
  go_enter Tryd.func16, Tryd.ntmps16
  go_wp2_with (refine wpList_make_full _ rfl (.tmp 6) (.tmp 6) 33 rfl w.heap.size 47 i0 (.agg #[.string ⟨#[]⟩, .int .i64 0, .int .i64 0]) 3 Tryd.underlying33 hi hz0 hz1 .i64 .i64 n n n rfl rfl rfl rfl (by rw [hz2]; omega) (by unfold maxLen; omega) (Nat.le_refl _) ?_; intro w1 hown hgrow)
  have hb1 : Below w.heap.size w w1 := (Below.refl _ _).grown hgrow (Nat.le_refl _) (fun k h => by cases h)
  obtain ⟨C0, hC0, K0⟩ := own_blkT hown
  have D0 := hide (show DrI w L 0 w1 C0 from ⟨by rw [← HN.out]; exact hC0, K0, fun i e hi => absurd hi (by omega), hb1⟩)
  clear hgrow hown hb1 hC0 K0
  go_loopw [4] (fun i wr => ∃ k : Nat, k ≤ n ∧ i = .int .i64 k ∧ Hid (∃ C, DrI w L k wr C)) (fun i _ => n - (intOf i).toNat)
  case atStart => exact ⟨0, Nat.zero_le _, rfl, ⟨C0, D0.out⟩⟩
  case round =>
    obtain ⟨k, hk, rfl, HK⟩ := hrel
    obtain ⟨C, hD⟩ := HK.out
    have D := hide hD
    clear hD HK
    by_cases hlt : k < n
    · obtain ⟨e, he⟩ : ∃ x, L[k]? = some x := ⟨_, List.getElem?_eq_getElem (by rw [← HN.out]; exact hlt)⟩
      obtain ⟨bn, off, en, hbn, d0, d1, d2⟩ := (HR.out.below D.out.bel).parts he
      subst en
      obtain ⟨nm, ino, kd⟩ := e
      simp only at d0 d1 d2
      have HE := hide he
      clear he
      go_wp2_with (go_at_call 25; fail)
      refine (toDirentT nm ino kd _).mono ?_
      rintro e w2 ⟨rfl, b2⟩
      have D2 := hide (show DrI w L k w2 C from ⟨D.out.siz, D.out.blk.below b2 D.out.blk.lt, D.out.cel, D.out.bel.trans (b2.mono D.out.bel.size)⟩)
      have hC : ∀ j, j < n * 3 → ∃ u, w2.cell? ⟨w.heap.size, j, none⟩ = some u := fun j hj => ⟨C[j]'(by rw [D2.out.siz, ← HN.out]; exact hj), by rw [D2.out.blk.cell j]; exact Array.getElem?_eq_getElem _⟩
      obtain ⟨o0, c0⟩ := hC (k * 3) (by omega)
      obtain ⟨o1, c1⟩ := hC (k * 3 + 1) (by omega)
      obtain ⟨o2, c2⟩ := hC (k * 3 + 2) (by omega)
      have f0 := D2.out.blk.frozen (k * 3)
      have f1 := D2.out.blk.frozen (k * 3 + 1)
      have f2 := D2.out.blk.frozen (k * 3 + 2)
      have D3 := hide (D2.out.step (by rw [← HN.out]; exact hlt) HE.out)
      clear b2 hC d0 d1 d2
      go_wp2_with fail
      go_roundw
      case rel => exact ⟨k + 1, by omega, by go_num, ⟨_, D3.out⟩⟩
      case measure => simp [intOf]; omega
    · obtain rfl : k = n := by omega
      go_wp2
      go_ret
      refine ⟨_, rfl, ?_, (fun b off n c e => by injection e with e _ _; injection e with e; injection e with e _ _; omega), D.out.bel⟩
      refine ⟨some ⟨w.heap.size, 0, none⟩, k, by rw [← HN.out]; rfl, fun _ => ⟨w.heap.size, 0, rfl, D.out.blk.lt, fun i e he => ?_⟩⟩
      have hi : i < L.length := by
        rcases Nat.lt_or_ge i L.length with h1 | h1
        · exact h1
        · rw [List.getElem?_eq_none h1] at he; cases he
      have h1 := D.out.cel i e (by rw [HN.out]; exact hi) he
      rw [Nat.zero_add, D.out.blk.cell, D.out.blk.cell, D.out.blk.cell]
      exact h1
set_option maxRecDepth 100000 in
set_option maxHeartbeats 2000000 in
theorem eqDirentsT (v1 v2 : Value) (L : List EK) (w : World) (h1 : RdE w v1 L) (h2 : RdE w v2 L) (hl : L.length ≤ 1048576) :
    Calls Tryd.prog 22 #[v1, v2] w fun e w' => e = .returned (.bool true) ∧ Below w.heap.size w w' := by
  have H := hide (And.intro h1 h2)
  obtain ⟨a1, cap1, rfl⟩ : ∃ a cap, v1 = .slice a L.length cap := by obtain ⟨a, cap, h1, _⟩ := h1; exact ⟨a, cap, h1⟩
  obtain ⟨a2, cap2, rfl⟩ : ∃ a cap, v2 = .slice a L.length cap := by obtain ⟨a, cap, h1, _⟩ := h2; exact ⟨a, cap, h1⟩
  clear h1 h2
  have hne : (((L.length : Nat) : Int) != ((L.length : Nat) : Int)) = false := by simp
  go_enter Tryd.func22, Tryd.ntmps22
  go_wp2
  clear hne
  go_loopw [5] (fun i wr => ∃ k : Nat, k ≤ L.length ∧ i = .int .i64 (k : Int) ∧ Hid (Below w.heap.size w wr)) (fun i _ => L.length - (intOf i).toNat)
  case atStart => exact ⟨0, Nat.zero_le _, rfl, Below.refl _ _⟩
  case round =>
    obtain ⟨k, hk, rfl, HB⟩ := hrel
    by_cases hlt : k < L.length
    · obtain ⟨e, he⟩ : ∃ x, L[k]? = some x := ⟨_, List.getElem?_eq_getElem hlt⟩
      obtain ⟨b1, o1, e1, hb1, _⟩ := (H.out.1.below HB.out).parts he
      obtain ⟨b2, o2, e2, hb2, _⟩ := (H.out.2.below HB.out).parts he
      subst e1 e2
      have HP := hide (fun (w' : World) (h : Below wr.heap.size wr w') => And.intro ((H.out.1.below HB.out).below h) ((H.out.2.below HB.out).below h))
      obtain ⟨nm, ino, kd⟩ := e
      have HE := hide he
      clear he
      have HC := hide (fun (w' : World) (h : Below wr.heap.size wr w') => show ((w'.cell? ⟨b1, o1 + k * 3, none⟩ = some (.string nm) ∧ w'.cell? ⟨b1, o1 + k * 3 + 1, none⟩ = some (.int .i64 ino) ∧ w'.cell? ⟨b1, o1 + k * 3 + 2, none⟩ = some (.int .i64 kd)) ∧ (w'.cell? ⟨b2, o2 + k * 3, none⟩ = some (.string nm) ∧ w'.cell? ⟨b2, o2 + k * 3 + 1, none⟩ = some (.int .i64 ino) ∧ w'.cell? ⟨b2, o2 + k * 3 + 2, none⟩ = some (.int .i64 kd))) from by
        obtain ⟨x1, y1, q1, _, g1⟩ := (HP.out w' h).1.parts HE.out
        obtain ⟨x2, y2, q2, _, g2⟩ := (HP.out w' h).2.parts HE.out
        injection q1 with q1
        injection q1 with q1 q1' _
        injection q2 with q2
        injection q2 with q2 q2' _
        subst q1 q1' q2 q2'
        exact ⟨g1, g2⟩)
      clear HP
      go_wp2_with fail
      refine wp_region_noPanic ?_
      refine wp_region_held_drew (S := fun w' => Below wr.heap.size wr w') (by kernel_rfl) ((Below.refl _ _).drew) (fun hH => ?_)
      refine wpAnyH_take (i := 0) (oi := _) (v := .slice (some ⟨b1, o1, none⟩) L.length cap1) rfl (by kernel_rfl) (by kernel_rfl) (by kernel_rfl) (fun _ _ _ h => h) (Or.inl ⟨by rfl, fun w' hw' => by go_simp⟩) hH ?_
      try simp only [Act.put, List.getElem_toArray, List.getElem_cons_zero, List.getElem_cons_succ, List.setIfInBounds_toArray, List.set_cons_zero, List.set_cons_succ]
      refine wpAnyH_take (i := 1) (oi := _) (v := .int .i64 (k : Int)) rfl (by kernel_rfl) (by kernel_rfl) (by kernel_rfl) (fun _ _ _ h => h) (Or.inl ⟨by rfl, fun w' hw' => by go_simp⟩) hH ?_
      try simp only [Act.put, List.getElem_toArray, List.getElem_cons_zero, List.getElem_cons_succ, List.setIfInBounds_toArray, List.set_cons_zero, List.set_cons_succ]
      refine wpAnyH_take (i := 2) (oi := _) (v := .pointer (some ⟨b1, o1 + k * 3, none⟩)) rfl (by kernel_rfl) (by kernel_rfl) (by kernel_rfl) (fun _ _ _ h => h) (Or.inl ⟨by rfl, fun w' hw' => by go_simp⟩) hH ?_
      try simp only [Act.put, List.getElem_toArray, List.getElem_cons_zero, List.getElem_cons_succ, List.setIfInBounds_toArray, List.set_cons_zero, List.set_cons_succ]
      refine wpAnyH_take (i := 3) (oi := _) (v := .agg #[.string nm, .int .i64 ino, .int .i64 kd]) rfl (by kernel_rfl) (by kernel_rfl) (by kernel_rfl) (fun _ _ _ h => h) (Or.inl ⟨by rfl, fun w' hw' => by obtain ⟨⟨x0, x1, x2⟩, ⟨y0, y1, y2⟩⟩ := HC.out w' hw'; clear hw'; go_simp⟩) hH ?_
      try simp only [Act.put, List.getElem_toArray, List.getElem_cons_zero, List.getElem_cons_succ, List.setIfInBounds_toArray, List.set_cons_zero, List.set_cons_succ]
      refine wpAnyH_take (i := 4) (oi := _) (v := .slice (some ⟨b2, o2, none⟩) L.length cap2) rfl (by kernel_rfl) (by kernel_rfl) (by kernel_rfl) (fun _ _ _ h => h) (Or.inl ⟨by rfl, fun w' hw' => by go_simp⟩) hH ?_
      try simp only [Act.put, List.getElem_toArray, List.getElem_cons_zero, List.getElem_cons_succ, List.setIfInBounds_toArray, List.set_cons_zero, List.set_cons_succ]
      refine wpAnyH_take (i := 5) (oi := _) (v := .int .i64 (k : Int)) rfl (by kernel_rfl) (by kernel_rfl) (by kernel_rfl) (fun _ _ _ h => h) (Or.inl ⟨by rfl, fun w' hw' => by go_simp⟩) hH ?_
      try simp only [Act.put, List.getElem_toArray, List.getElem_cons_zero, List.getElem_cons_succ, List.setIfInBounds_toArray, List.set_cons_zero, List.set_cons_succ]
      refine wpAnyH_take (i := 6) (oi := _) (v := .pointer (some ⟨b2, o2 + k * 3, none⟩)) rfl (by kernel_rfl) (by kernel_rfl) (by kernel_rfl) (fun _ _ _ h => h) (Or.inl ⟨by rfl, fun w' hw' => by go_simp⟩) hH ?_
      try simp only [Act.put, List.getElem_toArray, List.getElem_cons_zero, List.getElem_cons_succ, List.setIfInBounds_toArray, List.set_cons_zero, List.set_cons_succ]
      refine wpAnyH_take (i := 7) (oi := _) (v := .agg #[.string nm, .int .i64 ino, .int .i64 kd]) rfl (by kernel_rfl) (by kernel_rfl) (by kernel_rfl) (fun _ _ _ h => h) (Or.inl ⟨by rfl, fun w' hw' => by obtain ⟨⟨x0, x1, x2⟩, ⟨y0, y1, y2⟩⟩ := HC.out w' hw'; clear hw'; go_simp⟩) hH ?_
      try simp only [Act.put, List.getElem_toArray, List.getElem_cons_zero, List.getElem_cons_succ, List.setIfInBounds_toArray, List.set_cons_zero, List.set_cons_succ]
      refine wpAnyH_ready (rs := [8]) (by kernel_rfl) (by simp) ?_
      refine AllReadyH.cons (o := _) rfl (fun K hK => ?_) AllReadyH.nil
      go_simp
      refine (eqDirentT nm ino kd _).mono ?_
      rintro e w4 ⟨rfl, b4⟩
      refine hK.out _ _ (hH.trans (b4.mono hH.size)) (fun h4 => ?_)
      clear hK K b4
      try simp only [Act.put, List.getElem_toArray, List.getElem_cons_zero, List.getElem_cons_succ, List.setIfInBounds_toArray, List.set_cons_zero, List.set_cons_succ]
      refine wpAnyH_take (i := 9) (oi := _) (v := .bool false) rfl (by kernel_rfl) (by kernel_rfl) (by kernel_rfl) (fun _ _ _ h => h) (Or.inl ⟨by rfl, fun w' hw' => by go_simp⟩) h4 ?_
      try simp only [Act.put, List.getElem_toArray, List.getElem_cons_zero, List.getElem_cons_succ, List.setIfInBounds_toArray, List.set_cons_zero, List.set_cons_succ]
      refine wpAnyH_done (by kernel_rfl) (NoPanic.normal ?_) _
      have B2 := hide (HB.out.trans (h4.mono HB.out.size))
      clear h4 hH
      go_wp2
      go_roundw
      case rel => exact ⟨k + 1, by omega, by go_num, B2⟩
      case measure => simp [intOf]; omega
    · go_wp2
      go_ret
      exact ⟨rfl, HB.out⟩
set_option maxHeartbeats 1000000 in
theorem toStatT_any (s0 s1 s2 s3 s4 s5 s6 s7 s8 s9 : Int) (w : World) :
    Calls Tryd.prog 15 #[.agg #[.int .i64 s0, .int .i64 s1, .int .i64 s2, .int .i64 s3, .int .i64 s4, .int .i64 s5, .int .i64 s6, .int .i64 s7, .int .i64 s8, .int .i64 s9]] w fun e w' => e = .returned (.agg #[.int .i64 s0, .int .i64 s1, .int .i64 s2, .int .i64 s3, .int .i64 s4, .int .i64 s5, .int .i64 s6, .int .i64 s7, .int .i64 s8, .int .i64 s9]) ∧ Below w.heap.size w w' := by
  have HB := hide (show ∀ a b c, Below w.heap.size w (((w.alloc a).alloc b).alloc c) from fun a b c => (((Below.refl _ _).alloc (Nat.le_refl _) a).alloc (by simp) b).alloc (by simp; omega) c)
  go_enter Tryd.func15, Tryd.ntmps15
  go_wp2
  exact bodyPost_ret (v := .agg #[.int .i64 s0, .int .i64 s1, .int .i64 s2, .int .i64 s3, .int .i64 s4, .int .i64 s5, .int .i64 s6, .int .i64 s7, .int .i64 s8, .int .i64 s9]) (by simp [results, Tryd.results15, go_sem]) rfl ⟨rfl, HB.out _ _ _⟩
set_option maxHeartbeats 1000000 in
theorem toUsageT_any (s0 s1 s2 s3 s4 s5 s6 s7 s8 s9 : Int) (w : World) :
    Calls Tryd.prog 17 #[.agg #[.int .i64 s0, .int .i64 s1, .int .i64 s2, .int .i64 s3, .int .i64 s4, .int .i64 s5, .int .i64 s6, .int .i64 s7, .int .i64 s8, .int .i64 s9]] w fun e w' => e = .returned (.agg #[.int .i64 s0, .int .i64 s1, .int .i64 s2, .int .i64 s3, .int .i64 s4, .int .i64 s5, .int .i64 s6, .int .i64 s7, .int .i64 s8, .int .i64 s9]) ∧ Below w.heap.size w w' := by
  have HB := hide (show ∀ a b c, Below w.heap.size w (((w.alloc a).alloc b).alloc c) from fun a b c => (((Below.refl _ _).alloc (Nat.le_refl _) a).alloc (by simp) b).alloc (by simp; omega) c)
  go_enter Tryd.func17, Tryd.ntmps17
  go_wp2
  exact bodyPost_ret (v := .agg #[.int .i64 s0, .int .i64 s1, .int .i64 s2, .int .i64 s3, .int .i64 s4, .int .i64 s5, .int .i64 s6, .int .i64 s7, .int .i64 s8, .int .i64 s9]) (by simp [results, Tryd.results17, go_sem]) rfl ⟨rfl, HB.out _ _ _⟩
set_option maxHeartbeats 1000000 in
theorem eqStatT_same (s0 s1 s2 s3 s4 s5 s6 s7 s8 s9 : Int) (w : World) :
    Calls Tryd.prog 21 #[.agg #[.int .i64 s0, .int .i64 s1, .int .i64 s2, .int .i64 s3, .int .i64 s4, .int .i64 s5, .int .i64 s6, .int .i64 s7, .int .i64 s8, .int .i64 s9], .agg #[.int .i64 s0, .int .i64 s1, .int .i64 s2, .int .i64 s3, .int .i64 s4, .int .i64 s5, .int .i64 s6, .int .i64 s7, .int .i64 s8, .int .i64 s9]] w fun e w' => e = .returned (.bool true) ∧ Below w.heap.size w w' := by
  have HB := hide (show ∀ a b, Below w.heap.size w ((w.alloc a).alloc b) from fun a b => ((Below.refl _ _).alloc (Nat.le_refl _) a).alloc (by simp) b)
  have n0 : (s0 != s0) = false := by simp
  have n1 : (s1 != s1) = false := by simp
  have n2 : (s2 != s2) = false := by simp
  have n3 : (s3 != s3) = false := by simp
  have n4 : (s4 != s4) = false := by simp
  have n5 : (s5 != s5) = false := by simp
  have n6 : (s6 != s6) = false := by simp
  have n7 : (s7 != s7) = false := by simp
  have n8 : (s8 != s8) = false := by simp
  have n9 : (s9 != s9) = false := by simp
  go_enter Tryd.func21, Tryd.ntmps21
  go_wp2
  go_ret
  exact ⟨rfl, HB.out _ _⟩
set_option maxHeartbeats 1000000 in
theorem eqUsageT_same (s0 s1 s2 s3 s4 s5 s6 s7 s8 s9 : Int) (w : World) :
    Calls Tryd.prog 23 #[.agg #[.int .i64 s0, .int .i64 s1, .int .i64 s2, .int .i64 s3, .int .i64 s4, .int .i64 s5, .int .i64 s6, .int .i64 s7, .int .i64 s8, .int .i64 s9], .agg #[.int .i64 s0, .int .i64 s1, .int .i64 s2, .int .i64 s3, .int .i64 s4, .int .i64 s5, .int .i64 s6, .int .i64 s7, .int .i64 s8, .int .i64 s9]] w fun e w' => e = .returned (.bool true) ∧ Below w.heap.size w w' := by
  have HB := hide (show ∀ a b, Below w.heap.size w ((w.alloc a).alloc b) from fun a b => ((Below.refl _ _).alloc (Nat.le_refl _) a).alloc (by simp) b)
  have n0 : (s0 != s0) = false := by simp
  have n1 : (s1 != s1) = false := by simp
  have n2 : (s2 != s2) = false := by simp
  have n3 : (s3 != s3) = false := by simp
  have n4 : (s4 != s4) = false := by simp
  have n5 : (s5 != s5) = false := by simp
  have n6 : (s6 != s6) = false := by simp
  have n7 : (s7 != s7) = false := by simp
  have n8 : (s8 != s8) = false := by simp
  have n9 : (s9 != s9) = false := by simp
  go_enter Tryd.func23, Tryd.ntmps23
  go_wp2
  go_ret
  exact ⟨rfl, HB.out _ _⟩
end Go.Proofs.YtnljpaohkkdjjaaDoor
