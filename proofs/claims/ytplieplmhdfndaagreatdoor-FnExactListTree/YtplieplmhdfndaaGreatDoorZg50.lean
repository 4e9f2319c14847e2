/- Lists of what was found in the laws: two held against each other, marked, held. -/
import Derived.Test.YtplieplmhdfndaaGreatDoorZg49
import Derived.Deep.RegionHeld3
import Derived.Deep.MidRow
import Derived.BigQuiet
namespace Go.Proofs.YtplieplmhdfndaaGreatDoor
set_option linter.unusedVariables false
set_option linter.unusedSimpArgs false
open Go.RowKit

def fcC (e : ByteArray × Int) : Array Value := #[.string e.1, .int .i64 e.2]
theorem infoF2 : (Tryz.prog.info? 54).map (·.size) = some 2 := by kernel_rfl
theorem foC_at : ∀ {L : List (ByteArray × Int)} {k : Nat} {e : ByteArray × Int}, L[k]? = some e → ∀ (j : Nat) (u : Value), (fcC e).toList[j]? = some u → (foC L)[k * 2 + j]? = some u
  | [], k, e, h, j, u, hu => by simp at h
  | x :: L, 0, e, h, j, u, hu => by
    obtain rfl : x = e := by simpa using h
    have hj : j < 2 := (List.getElem?_eq_some_iff.1 hu).1
    have e1 : foC (x :: L) = (fcC x).toList ++ foC L := rfl
    rw [e1, Nat.zero_mul, Nat.zero_add, List.getElem?_append_left hj]
    exact hu
  | x :: L, k + 1, e, h, j, u, hu => by
    have ih := foC_at (L := L) (k := k) (e := e) (by simpa using h) j u hu
    have e1 : foC (x :: L) = (fcC x).toList ++ foC L := rfl
    rw [e1, List.getElem?_append_right (by show 2 ≤ _; omega)]
    have e2 : (k + 1) * 2 + j - (fcC x).toList.length = k * 2 + j := by show (k + 1) * 2 + j - 2 = _; omega
    rw [e2]
    exact ih
theorem fo_range {w : World} {g : Nat} {L : List (ByteArray × Int)} (h : ∀ j u, (foC L)[j]? = some u → w.cell? ((⟨g, 0, none⟩ : Addr).add j) = some u) {k : Nat} {e : ByteArray × Int} (he : L[k]? = some e) : w.rangeAt g (k * 2) (fcC e).toList := by
  intro j u hu
  have h1 := h (k * 2 + j) u (foC_at he j u hu)
  rwa [Addr.add_mid, Nat.zero_add] at h1
set_option maxRecDepth 100000 in
theorem eqFound_same (e : ByteArray × Int) (w : World) :
    Calls Tryz.prog 40 #[.agg (fcC e), .agg (fcC e)] w fun r w' => r = .returned (.bool true) ∧ Below w.heap.size w w' := by
  obtain ⟨nm, z⟩ := e
  unfold fcC
  have h1 : (nm.toList != nm.toList) = false := by simp
  have h2 : (z != z) = false := by simp
  go_enter Tryz.func40, Tryz.ntmps40
  go_wp2
  go_ret
  exact ⟨rfl, ((Below.refl _ _).alloc (Nat.le_refl _) _).alloc (by simp) _⟩
set_option maxRecDepth 100000 in
set_option maxHeartbeats 1000000 in
theorem eqFoundS_same (base1 base2 : Nat) (v1 v2 : Value) (L : List (ByteArray × Int)) (w : World) (h1 : w.ownsRow base1 54 2 v1 L.length (foC L)) (h2 : w.ownsRow base2 54 2 v2 L.length (foC L)) (hL : L.length ≤ 32768) :
    Calls Tryz.prog 15 #[v1, v2] w fun e w' => e = .returned (.bool true) ∧ Below w.heap.size w w' := by
  have H := hide (And.intro h1 h2)
  obtain ⟨a1, cap1, rfl⟩ := ownD_shape h1
  obtain ⟨a2, cap2, rfl⟩ := ownD_shape h2
  clear h1 h2
  go_enter Tryz.func15, Tryz.ntmps15
  go_wp2
  go_loopw [5] (fun i wr => ∃ k : Nat, k ≤ L.length ∧ i = .int .i64 (k : Int) ∧ Below w.heap.size w wr) (fun i _ => L.length - (intOf i).toNat)
  case atStart => exact ⟨0, Nat.zero_le _, rfl, Below.refl _ _⟩
  case round =>
    obtain ⟨k, hk, rfl, hb⟩ := hrel
    have HB := hide hb
    clear hb
    by_cases hlt : k < L.length
    · obtain ⟨b1, c1, ee, hg1, hgl1, hcc1⟩ := own_sliceD H.out.1 (by omega)
      injection ee with e1 e2 e3
      subst e1
      subst e3
      obtain ⟨b2, c2, ee, hg2, hgl2, hcc2⟩ := own_sliceD H.out.2 (by omega)
      injection ee with e1 e4 e3
      subst e1
      subst e3
      obtain ⟨e, he⟩ : ∃ x, L[k]? = some x := ⟨_, List.getElem?_eq_getElem hlt⟩
      have HR := hide (show wr.rangeAt b1 (k * 2) (fcC e).toList from fun j u hu => (HB.out.cell (p := ⟨b1, k * 2 + j, none⟩) hgl1).trans (fo_range hcc1 he j u hu))
      have HR' := hide (show wr.rangeAt b2 (k * 2) (fcC e).toList from fun j u hu => (HB.out.cell (p := ⟨b2, k * 2 + j, none⟩) hgl2).trans (fo_range hcc2 he j u hu))
      have hl1 : b1 < wr.heap.size := Nat.lt_of_lt_of_le hgl1 HB.out.size
      have hl2 : b2 < wr.heap.size := Nat.lt_of_lt_of_le hgl2 HB.out.size
      clear hcc1 hcc2 he e2 e4 hg1 hg2
      go_wp2_with fail
      refine wp_region_noPanic ?_
      refine wp_region_held_drew (S := fun w' => w'.rangeAt b1 (k * 2) (fcC e).toList ∧ w'.rangeAt b2 (k * 2) (fcC e).toList) (by kernel_rfl) ⟨HR.out, HR'.out⟩ (fun hH => ?_)
      refine wpAnyH_take (i := 0) (oi := _) (v := .slice (some ⟨b1, 0, none⟩) L.length cap1) rfl (by kernel_rfl) (by kernel_rfl) (by kernel_rfl) (fun _ _ _ h => h) (Or.inl ⟨by rfl, fun w' hw' => by go_simp⟩) hH ?_
      try simp only [Act.put, List.getElem_toArray, List.getElem_cons_zero, List.getElem_cons_succ, List.setIfInBounds_toArray, List.set_cons_zero, List.set_cons_succ]
      refine wpAnyH_take (i := 1) (oi := _) (v := .int .i64 (k : Int)) rfl (by kernel_rfl) (by kernel_rfl) (by kernel_rfl) (fun _ _ _ h => h) (Or.inl ⟨by rfl, fun w' hw' => by go_simp⟩) hH ?_
      try simp only [Act.put, List.getElem_toArray, List.getElem_cons_zero, List.getElem_cons_succ, List.setIfInBounds_toArray, List.set_cons_zero, List.set_cons_succ]
      refine wpAnyH_take (i := 2) (oi := _) (v := .pointer (some ⟨b1, k * 2, none⟩)) rfl (by kernel_rfl) (by kernel_rfl) (by kernel_rfl) (fun _ _ _ h => h) (Or.inl ⟨by rfl, fun w' hw' => by go_simp⟩) hH ?_
      try simp only [Act.put, List.getElem_toArray, List.getElem_cons_zero, List.getElem_cons_succ, List.setIfInBounds_toArray, List.set_cons_zero, List.set_cons_succ]
      refine wpAnyH_take (i := 3) (oi := _) (v := .agg (fcC e)) rfl (by kernel_rfl) (by kernel_rfl) (by kernel_rfl) (fun _ _ _ h => h) (yieldsIf_load_mid (by rfl) 54 _ rfl b1 (k * 2) rfl (fcC e).toList _ (fun w' h => h.1) Tryz.underlying54 rfl infoF2) hH ?_
      try simp only [Act.put, List.getElem_toArray, List.getElem_cons_zero, List.getElem_cons_succ, List.setIfInBounds_toArray, List.set_cons_zero, List.set_cons_succ]
      refine wpAnyH_take (i := 4) (oi := _) (v := .slice (some ⟨b2, 0, none⟩) L.length cap2) rfl (by kernel_rfl) (by kernel_rfl) (by kernel_rfl) (fun _ _ _ h => h) (Or.inl ⟨by rfl, fun w' hw' => by go_simp⟩) hH ?_
      try simp only [Act.put, List.getElem_toArray, List.getElem_cons_zero, List.getElem_cons_succ, List.setIfInBounds_toArray, List.set_cons_zero, List.set_cons_succ]
      refine wpAnyH_take (i := 5) (oi := _) (v := .int .i64 (k : Int)) rfl (by kernel_rfl) (by kernel_rfl) (by kernel_rfl) (fun _ _ _ h => h) (Or.inl ⟨by rfl, fun w' hw' => by go_simp⟩) hH ?_
      try simp only [Act.put, List.getElem_toArray, List.getElem_cons_zero, List.getElem_cons_succ, List.setIfInBounds_toArray, List.set_cons_zero, List.set_cons_succ]
      refine wpAnyH_take (i := 6) (oi := _) (v := .pointer (some ⟨b2, k * 2, none⟩)) rfl (by kernel_rfl) (by kernel_rfl) (by kernel_rfl) (fun _ _ _ h => h) (Or.inl ⟨by rfl, fun w' hw' => by go_simp⟩) hH ?_
      try simp only [Act.put, List.getElem_toArray, List.getElem_cons_zero, List.getElem_cons_succ, List.setIfInBounds_toArray, List.set_cons_zero, List.set_cons_succ]
      refine wpAnyH_take (i := 7) (oi := _) (v := .agg (fcC e)) rfl (by kernel_rfl) (by kernel_rfl) (by kernel_rfl) (fun _ _ _ h => h) (yieldsIf_load_mid (by rfl) 54 _ rfl b2 (k * 2) rfl (fcC e).toList _ (fun w' h => h.2) Tryz.underlying54 rfl infoF2) hH ?_
      try simp only [Act.put, List.getElem_toArray, List.getElem_cons_zero, List.getElem_cons_succ, List.setIfInBounds_toArray, List.set_cons_zero, List.set_cons_succ]
      refine wpAnyH_ready (rs := [8]) (by kernel_rfl) (by simp) ?_
      refine AllReadyH.cons (o := _) rfl (fun K hK => ?_) AllReadyH.nil
      go_simp
      refine (eqFound_same e _).mono ?_
      rintro x w2 ⟨rfl, bb⟩
      have b3 := ((Below.refl _ _).drew).trans bb
      have B2 := hide (HB.out.trans (b3.mono HB.out.size))
      have s2 : w2.rangeAt b1 (k * 2) (fcC e).toList ∧ w2.rangeAt b2 (k * 2) (fcC e).toList := ⟨fun j u hu => (b3.cell (p := ⟨b1, k * 2 + j, none⟩) hl1).trans (HR.out j u hu), fun j u hu => (b3.cell (p := ⟨b2, k * 2 + j, none⟩) hl2).trans (HR'.out j u hu)⟩
      refine hK.out _ _ s2 (fun hH => ?_)
      clear hK K s2 bb b3 HB
      try simp only [Act.put, List.getElem_toArray, List.getElem_cons_zero, List.getElem_cons_succ, List.setIfInBounds_toArray, List.set_cons_zero, List.set_cons_succ]
      refine wpAnyH_take (i := 9) (oi := _) (v := .bool false) rfl (by kernel_rfl) (by kernel_rfl) (by kernel_rfl) (fun _ _ _ h => h) (Or.inl ⟨by rfl, fun w' hw' => by go_simp⟩) hH ?_
      try simp only [Act.put, List.getElem_toArray, List.getElem_cons_zero, List.getElem_cons_succ, List.setIfInBounds_toArray, List.set_cons_zero, List.set_cons_succ]
      refine wpAnyH_done (by kernel_rfl) (NoPanic.normal ?_) _
      go_wp2
      go_roundw
      case rel => exact ⟨k + 1, by omega, by go_num, B2.out⟩
      case measure => simp [intOf]; omega
    · go_wp2
      go_ret
      exact ⟨rfl, HB.out⟩

theorem there_ownF {w : World} {base : Nat} {t : TypeId} {g n cap : Nat} {xs : List Value} (h : w.ownsRow base t 2 (.slice (some ⟨g, 0, none⟩) n cap) n xs) {k : Nat} (hk : k < n) : w.there g (k * 2) 2 := by
  rcases h.2 with ⟨e, _⟩ | ⟨g', cap', cur, e, hb, hc, hn, hm, hs, ht⟩
  · cases e
  · injection e with e1 e2 e3
    injection e1 with e1
    injection e1 with e1 e4
    subst e1
    intro j hj
    have hlt : k * 2 + j < cur.size := by rw [hs]; omega
    have hB : Blk w g cur t := hc
    refine ⟨?_, hB.frozen _⟩
    rw [hB.cell (k * 2 + j), Array.getElem?_eq_getElem hlt]
    rfl
def mkF (n : Nat) : List (ByteArray × Int) := (List.range n).map fun i => (mtx (1 + 2 * i), ((1 + 2 * i : Nat) : Int) + 1)
theorem mkF_len (n : Nat) : (mkF n).length = n := by simp [mkF]
theorem mkF_get (n k : Nat) (h : k < n) : (mkF n)[k]? = some (mtx (1 + 2 * k), ((1 + 2 * k : Nat) : Int) + 1) := by simp [mkF, h]
theorem putF_set : ∀ (L : List (ByteArray × Int)) (k : Nat) (nm : ByteArray) (z : Int), ((foC L).set (k * 2) (.string nm)).set (k * 2 + 1) (.int .i64 z) = foC (L.set k (nm, z))
  | [], k, nm, z => rfl
  | e :: L, 0, nm, z => rfl
  | e :: L, k + 1, nm, z => by
    have ih := putF_set L k nm z
    have e1 : foC (e :: L) = .string e.1 :: .int .i64 e.2 :: foC L := rfl
    rw [List.set_cons_succ, show foC (e :: L.set k (nm, z)) = .string e.1 :: .int .i64 e.2 :: foC (L.set k (nm, z)) from rfl, ← ih, e1, show (k + 1) * 2 = k * 2 + 1 + 1 from by omega, List.set_cons_succ, List.set_cons_succ, List.set_cons_succ, List.set_cons_succ]
theorem set_overF {zs xs : List (ByteArray × Int)} {z : ByteArray × Int} {k n : Nat} (hk : k < n) (hz : zs.length = n) (hx : xs.length = n) (he : zs[k]? = some z) : (zs.take k ++ xs.drop k).set k z = zs.take (k + 1) ++ xs.drop (k + 1) := by
  apply List.ext_getElem?
  intro i
  by_cases hi : i = k
  · subst hi
    rw [List.getElem?_set_self (by simp; omega), List.getElem?_append_left (by simp; omega), List.getElem?_take, if_pos (by omega), he]
  · rw [List.getElem?_set_ne (fun e => hi e.symm)]
    rcases Nat.lt_or_ge i k with h | h
    · rw [List.getElem?_append_left (by simp; omega), List.getElem?_append_left (by simp; omega), List.getElem?_take, List.getElem?_take, if_pos h, if_pos (by omega)]
    · rw [List.getElem?_append_right (by simp; omega), List.getElem?_append_right (by simp; omega), List.getElem?_drop, List.getElem?_drop]
      congr 1
      simp
      omega
set_option maxRecDepth 100000 in
set_option maxHeartbeats 1000000 in
theorem markFoundS_any (v : Value) (base : Nat) (L : List (ByteArray × Int)) (w : World) (h : w.ownsRow base 54 2 v L.length (foC L)) (hn : L.length ≤ 32768) :
    Calls Tryz.prog 17 #[v, .int .i64 1] w fun e w' => e = .returned (.int .i64 ((1 + 2 * L.length : Nat) : Int)) ∧ w'.ownsRow base 54 2 v L.length (foC (mkF L.length)) ∧ w.grownBy w' v.ownBlock := by
  have HO := hide h
  obtain ⟨a, cap, rfl⟩ := ownD_shape h
  clear h
  obtain ⟨n, hn0⟩ : ∃ n, n = L.length := ⟨_, rfl⟩
  have HN := hide hn0
  go_enter Tryz.func17, Tryz.ntmps17
  go_wp2
  go_loopw [1, 5] (fun q i wr => ∃ k : Nat, k ≤ L.length ∧ i = .int .i64 (k : Int) ∧ q = .int .i64 ((1 + 2 * k : Nat) : Int) ∧ wr.ownsRow base 54 2 (.slice a L.length cap) L.length (foC ((mkF L.length).take k ++ L.drop k)) ∧ w.grownBy wr (Value.slice a L.length cap).ownBlock) (fun _ i _ => L.length - (intOf i).toNat)
  case atStart => exact ⟨0, Nat.zero_le _, rfl, rfl, by simpa using HO.out, World.grownBy.refl _ _⟩
  case round =>
    obtain ⟨k, hk, rfl, rfl, ho, hg⟩ := hrel
    have HK := hide (And.intro ho hg)
    clear ho hg
    by_cases hlt : k < L.length
    · obtain ⟨g, cp, ee, hg1, hg2, hcc⟩ := own_sliceD HK.out.1 (by omega)
      injection ee with e1 e2 e3
      subst e1
      subst e3
      clear hcc e2
      generalize hq : 1 + 2 * k = q
      have HQ := hide hq
      have hq1 : 1 ≤ q ∧ q ≤ 70000 := by omega
      clear hq
      go_wp2_with (go_at_call 42; fail)
      refine (markText_any q _ hq1.1 (by omega)).mono ?_
      rintro e w1 ⟨rfl, b1⟩
      have hown := own_below HK.out.1 b1
      have O1 := hide hown
      have G1 := hide (show w.grownBy w1 (some g) from grownBy_trans HK.out.2 ⟨b1.os, b1.tape, b1.output, b1.size, fun k hk _ => b1.block k hk⟩)
      have hth := there_ownF hown hlt
      obtain ⟨o0, c0⟩ := Option.isSome_iff_exists.1 (hth 0 (by omega)).1
      obtain ⟨o1, c1⟩ := Option.isSome_iff_exists.1 (hth 1 (by omega)).1
      have f0 := (hth 0 (by omega)).2
      have f1 := (hth 1 (by omega)).2
      rw [Nat.add_zero] at c0 f0
      have HS := hide (show ((w1.setCell ⟨g, k * 2, none⟩ (.string (mtx q))).setCell ⟨g, k * 2 + 1, none⟩ (.int .i64 ((q : Int) + 1))).ownsRow base 54 2 (.slice (some ⟨g, 0, none⟩) L.length cap) L.length (foC ((mkF L.length).take (k + 1) ++ L.drop (k + 1))) ∧ w.grownBy ((w1.setCell ⟨g, k * 2, none⟩ (.string (mtx q))).setCell ⟨g, k * 2 + 1, none⟩ (.int .i64 ((q : Int) + 1))) (some g) from by
        have h1 := own_setCell (own_setCell O1.out (g := g) rfl (k * 2) (.string (mtx q))) (g := g) rfl (k * 2 + 1) (.int .i64 ((q : Int) + 1))
        rw [putF_set, set_overF hlt (mkF_len _) rfl (by rw [mkF_get _ _ hlt, HQ.out])] at h1
        exact ⟨h1, grown_set (grown_set G1.out _ _) _ _⟩)
      clear hown b1 HK hth
      go_wp2_with fail
      go_roundw
      case rel => exact ⟨k + 1, by omega, by go_num, by have := HQ.out; go_num, HS.out.1, HS.out.2⟩
      case measure => simp [intOf]; omega
    · obtain rfl : k = L.length := by omega
      go_wp2
      go_ret
      have ho := HK.out.1
      rw [List.take_of_length_le (by rw [mkF_len]; omega), List.drop_of_length_le (by omega), List.append_nil] at ho
      exact ⟨rfl, ho, HK.out.2⟩
set_option maxRecDepth 100000 in
set_option maxHeartbeats 1000000 in
theorem heldFoundS_any (v : Value) (base n : Nat) (w : World) (h : w.ownsRow base 54 2 v n (foC (mkF n))) (hn : n ≤ 32768) :
    Calls Tryz.prog 18 #[v, .int .i64 1] w fun e w' => e = .returned (.int .i64 ((1 + 2 * n : Nat) : Int)) ∧ Below w.heap.size w w' := by
  have HO := hide h
  obtain ⟨a, cap, rfl⟩ := ownD_shape h
  clear h
  go_enter Tryz.func18, Tryz.ntmps18
  go_wp2
  go_loopw [1, 5] (fun q i wr => ∃ k : Nat, k ≤ n ∧ i = .int .i64 (k : Int) ∧ q = .int .i64 ((1 + 2 * k : Nat) : Int) ∧ Below w.heap.size w wr) (fun _ i _ => n - (intOf i).toNat)
  case atStart => exact ⟨0, Nat.zero_le _, rfl, rfl, Below.refl _ _⟩
  case round =>
    obtain ⟨k, hk, rfl, rfl, hb⟩ := hrel
    have HB := hide hb
    clear hb
    by_cases hlt : k < n
    · obtain ⟨b, cp, ee, hg1, hg2, hcc⟩ := own_sliceD HO.out (by omega)
      injection ee with e1 e2 e3
      subst e1
      subst e3
      have HR := hide (fun j u hu => fo_range hcc (mkF_get n k hlt) j u hu)
      clear hcc e2 hg1
      generalize hq : 1 + 2 * k = q at HR ⊢
      have HQ := hide hq
      have hq1 : 1 ≤ q ∧ q ≤ 70000 := by omega
      clear hq
      have HC := hide (show ∀ W, Below w.heap.size w W → W.cell? ⟨b, k * 2, none⟩ = some (.string (mtx q)) ∧ W.cell? ⟨b, k * 2 + 1, none⟩ = some (.int .i64 ((q : Int) + 1)) from fun W hW => ⟨(hW.cell (p := ⟨b, k * 2, none⟩) hg2).trans (HR.out 0 _ rfl), (hW.cell (p := ⟨b, k * 2 + 1, none⟩) hg2).trans (HR.out 1 _ rfl)⟩)
      clear HR
      go_wp2_with fail
      refine wp_region_noPanic ?_
      refine wp_region_held_drew (S := fun w' => Below w.heap.size w w') (by kernel_rfl) (HB.out.drew) (fun hH => ?_)
      refine wpAnyH_take (i := 0) (oi := _) (v := .slice (some ⟨b, 0, none⟩) n cap) rfl (by kernel_rfl) (by kernel_rfl) (by kernel_rfl) (fun _ _ _ h => h) (Or.inl ⟨by rfl, fun w' hw' => by go_simp⟩) hH ?_
      try simp only [Act.put, List.getElem_toArray, List.getElem_cons_zero, List.getElem_cons_succ, List.setIfInBounds_toArray, List.set_cons_zero, List.set_cons_succ]
      refine wpAnyH_take (i := 1) (oi := _) (v := .int .i64 (k : Int)) rfl (by kernel_rfl) (by kernel_rfl) (by kernel_rfl) (fun _ _ _ h => h) (Or.inl ⟨by rfl, fun w' hw' => by go_simp⟩) hH ?_
      try simp only [Act.put, List.getElem_toArray, List.getElem_cons_zero, List.getElem_cons_succ, List.setIfInBounds_toArray, List.set_cons_zero, List.set_cons_succ]
      refine wpAnyH_take (i := 2) (oi := _) (v := .pointer (some ⟨b, k * 2, none⟩)) rfl (by kernel_rfl) (by kernel_rfl) (by kernel_rfl) (fun _ _ _ h => h) (Or.inl ⟨by rfl, fun w' hw' => by go_simp⟩) hH ?_
      try simp only [Act.put, List.getElem_toArray, List.getElem_cons_zero, List.getElem_cons_succ, List.setIfInBounds_toArray, List.set_cons_zero, List.set_cons_succ]
      refine wpAnyH_take (i := 3) (oi := _) (v := .pointer (some ⟨b, k * 2, none⟩)) rfl (by kernel_rfl) (by kernel_rfl) (by kernel_rfl) (fun _ _ _ h => h) (Or.inl ⟨by rfl, fun w' hw' => by go_simp⟩) hH ?_
      try simp only [Act.put, List.getElem_toArray, List.getElem_cons_zero, List.getElem_cons_succ, List.setIfInBounds_toArray, List.set_cons_zero, List.set_cons_succ]
      refine wpAnyH_take (i := 4) (oi := _) (v := .string (mtx q)) rfl (by kernel_rfl) (by kernel_rfl) (by kernel_rfl) (fun _ _ _ h => h) (Or.inl ⟨by rfl, fun w' hw' => by have hc := (HC.out w' hw').1; clear hw'; go_simp⟩) hH ?_
      try simp only [Act.put, List.getElem_toArray, List.getElem_cons_zero, List.getElem_cons_succ, List.setIfInBounds_toArray, List.set_cons_zero, List.set_cons_succ]
      refine wpAnyH_take (i := 5) (oi := _) (v := .int .i64 (q : Int)) rfl (by kernel_rfl) (by kernel_rfl) (by kernel_rfl) (fun _ _ _ h => h) (Or.inl ⟨by rfl, fun w' hw' => by go_simp⟩) hH ?_
      try simp only [Act.put, List.getElem_toArray, List.getElem_cons_zero, List.getElem_cons_succ, List.setIfInBounds_toArray, List.set_cons_zero, List.set_cons_succ]
      refine wpAnyH_ready (rs := [6]) (by kernel_rfl) (by simp) ?_
      refine AllReadyH.cons (o := _) rfl (fun K hK => ?_) AllReadyH.nil
      go_simp
      refine (markText_any q _ hq1.1 (by omega)).mono ?_
      rintro e w4 ⟨rfl, b4⟩
      have H4 := hide (hH.trans (b4.mono hH.size))
      refine hK.out _ _ H4.out (fun hH => ?_)
      clear hK K b4
      try simp only [Act.put, List.getElem_toArray, List.getElem_cons_zero, List.getElem_cons_succ, List.setIfInBounds_toArray, List.set_cons_zero, List.set_cons_succ]
      refine wpAnyH_take (i := 7) (oi := _) (v := .bool false) rfl (by kernel_rfl) (by kernel_rfl) (by kernel_rfl) (fun _ _ _ h => h) (Or.inl ⟨by rfl, fun w' hw' => by have hne : ((mtx q).toList != (mtx q).toList) = false := (by simp); go_simp⟩) hH ?_
      try simp only [Act.put, List.getElem_toArray, List.getElem_cons_zero, List.getElem_cons_succ, List.setIfInBounds_toArray, List.set_cons_zero, List.set_cons_succ]
      refine wpAnyH_done (by kernel_rfl) (NoPanic.normal ?_) _
      clear hH
      have c1 := (HC.out w4 H4.out).2
      have hne : ((mtx q).toList != (mtx q).toList) = false := by simp
      go_wp2
      go_roundw
      case rel => exact ⟨k + 1, by omega, by go_num, by have := HQ.out; go_num, H4.out⟩
      case measure => simp [intOf]; omega
    · obtain rfl : k = n := by omega
      go_wp2
      go_ret
      exact ⟨rfl, HB.out⟩
end Go.Proofs.YtplieplmhdfndaaGreatDoor
