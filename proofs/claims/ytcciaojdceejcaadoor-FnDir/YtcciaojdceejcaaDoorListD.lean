/- Lists of entries in the laws: two held against each other, marked, held; markText. -/
import Derived.Test.YtcciaojdceejcaaDoorListN
import Derived.Test.YtcciaojdceejcaaDoorJdJ
import Derived.Laws.BytesArg
import Derived.Deep.RegionHeld3
import Derived.Deep.MidRow
import Derived.BigQuiet
namespace Go.Proofs.YtcciaojdceejcaaDoor
set_option linter.unusedVariables false
set_option linter.unusedSimpArgs false
open Go.RowKit

/-- The decimal signs of q, ahead of t. -/
def digsF : Nat → Nat → ByteArray → ByteArray
  | 0, _, t => t
  | f + 1, q, t => if q = 0 then t else digsF f (q / 10) (strOfNums [48 + (q : Int) % 10] ++ t)
theorem digsF_zero (f : Nat) (t : ByteArray) : digsF f 0 t = t := by cases f <;> simp [digsF]
theorem digsF_step (f q : Nat) (t : ByteArray) (h : q ≠ 0) : digsF (f + 1) q t = digsF f (q / 10) (strOfNums [48 + (q : Int) % 10] ++ t) := by simp [digsF, h]
def mtx (m : Nat) : ByteArray := ⟨#[109]⟩ ++ digsF m m ⟨#[]⟩
theorem markText_any (m : Nat) (w : World) (h1 : 1 ≤ m) (h2 : m ≤ 100000) :
    Calls Tryd.prog 49 #[.int .i64 (m : Int)] w fun e w' => e = .returned (.string (mtx m)) ∧ Below w.heap.size w w' := by
  go_enter Tryd.func49, Tryd.ntmps49
  go_wp2
  go_loopw [0, 3] (fun a t wr => ∃ (q f : Nat) (x : ByteArray), a = .int .i64 (q : Int) ∧ t = .string x ∧ q ≤ f ∧ digsF f q x = digsF m m ⟨#[]⟩ ∧ x.size + q ≤ m ∧ Below w.heap.size w wr) (fun a _ _ => (intOf a).toNat)
  case atStart => exact ⟨m, m, ⟨#[]⟩, rfl, rfl, Nat.le_refl _, rfl, by simp [ByteArray.size], Below.refl _ _⟩
  case round =>
    obtain ⟨q, f, x, rfl, rfl, hqf, hd, hx, hb⟩ := hrel
    have HB := hide (And.intro hb hd)
    have hsz := hb.size
    clear hb hd
    by_cases hq : 0 < q
    · obtain ⟨f', rfl⟩ : ∃ f', f = f' + 1 := ⟨f - 1, by omega⟩
      have HD := hide ((digsF_step f' q x (by omega)).symm.trans HB.out.2)
      have hcv : (convert 22 9 (.slice (some ⟨wr.heap.size, 0, none⟩) 1 1)).run Tryd.prog (wr.alloc (.cells #[.int .u8 (48 + (q : Int) % 10)] 5)) = .ok (.string (strOfNums [48 + (q : Int) % 10])) (wr.alloc (.cells #[.int .u8 (48 + (q : Int) % 10)] 5)) :=
        run_convert_bytes_arg _ 22 5 Tryd.underlying22 Tryd.underlying5 wr.heap.size 0 1 1 [48 + (q : Int) % 10] rfl (fun i hi => by
          obtain rfl : i = 0 := by simp at hi; omega
          simp) 9 Tryd.underlying9
      have hs1 : (strOfNums [48 + (q : Int) % 10]).size = 1 := strOfNums_size _
      generalize strOfNums [48 + (q : Int) % 10] = y at hcv HD hs1
      have hcat : ¬ 9223372036854775807 < y.size + x.size := by omega
      have HS := hide (show (y ++ x).size + q / 10 ≤ m from by rw [ByteArray.size_append]; omega)
      go_wp2_with fail
      go_roundw
      case rel => exact ⟨q / 10, f', y ++ x, by go_num, rfl, by omega, HD.out, HS.out, HB.out.1.alloc hsz _⟩
      case measure => simp [intOf]; omega
    · obtain rfl : q = 0 := by omega
      have HD := hide ((digsF_zero f x).symm.trans HB.out.2)
      go_wp2
      go_ret
      refine ⟨ret_val ?_, HB.out.1⟩
      unfold mtx
      rw [← HD.out]
      rfl


theorem ents_range {w : World} {g : Nat} {L : List EI} (h : ∀ j u, (entsI L)[j]? = some u → w.cell? ((⟨g, 0, none⟩ : Addr).add j) = some u) {k : Nat} {e : EI} (he : L[k]? = some e) : w.rangeAt g (k * 3) (entC e.1 e.2.1 e.2.2).toList := by
  intro j u hu
  have h1 := h (k * 3 + j) u (entsI_at he j u hu)
  rwa [Addr.add_mid, Nat.zero_add] at h1
set_option maxRecDepth 100000 in
set_option maxHeartbeats 1000000 in
theorem eqDirentS_same (base1 base2 : Nat) (v1 v2 : Value) (L : List EI) (w : World) (h1 : w.ownsRow base1 34 3 v1 L.length (entsI L)) (h2 : w.ownsRow base2 34 3 v2 L.length (entsI L)) (hL : L.length ≤ 8192) :
    Calls Tryd.prog 29 #[v1, v2] w fun e w' => e = .returned (.bool true) ∧ Below w.heap.size w w' := by
  have H := hide (And.intro h1 h2)
  obtain ⟨a1, cap1, rfl⟩ := ownD_shape h1
  obtain ⟨a2, cap2, rfl⟩ := ownD_shape h2
  clear h1 h2
  go_enter Tryd.func29, Tryd.ntmps29
  go_wp2
  go_loopw [5] (fun i wr => ∃ k : Nat, k ≤ L.length ∧ i = .int .i64 (k : Int) ∧ Below w.heap.size w wr) (fun i _ => L.length - (intOf i).toNat)
  case atStart => exact ⟨0, Nat.zero_le _, rfl, Below.refl _ _⟩
  case round =>
    obtain ⟨k, hk, rfl, hb⟩ := hrel
    have HB := hide hb
    clear hb
    by_cases hlt : k < L.length
    · obtain ⟨b1, c1, ee, hg1, hgl1, hcc1⟩ := own_sliceD H.out.1 (by omega)
      injection ee with e1 e2 e3
      subst e1
      subst e3
      obtain ⟨b2, c2, ee, hg2, hgl2, hcc2⟩ := own_sliceD H.out.2 (by omega)
      injection ee with e1 e4 e3
      subst e1
      subst e3
      obtain ⟨e, he⟩ : ∃ x, L[k]? = some x := ⟨_, List.getElem?_eq_getElem hlt⟩
      have HR := hide (show wr.rangeAt b1 (k * 3) (entC e.1 e.2.1 e.2.2).toList from fun j u hu => (HB.out.cell (p := ⟨b1, k * 3 + j, none⟩) hgl1).trans (ents_range hcc1 he j u hu))
      have HR' := hide (show wr.rangeAt b2 (k * 3) (entC e.1 e.2.1 e.2.2).toList from fun j u hu => (HB.out.cell (p := ⟨b2, k * 3 + j, none⟩) hgl2).trans (ents_range hcc2 he j u hu))
      have hl1 : b1 < wr.heap.size := Nat.lt_of_lt_of_le hgl1 HB.out.size
      have hl2 : b2 < wr.heap.size := Nat.lt_of_lt_of_le hgl2 HB.out.size
      clear hcc1 hcc2 he e2 e4 hg1 hg2
      go_wp2_with fail
      refine wp_region_noPanic ?_
      refine wp_region_held_drew (S := fun w' => w'.rangeAt b1 (k * 3) (entC e.1 e.2.1 e.2.2).toList ∧ w'.rangeAt b2 (k * 3) (entC e.1 e.2.1 e.2.2).toList) (by kernel_rfl) ⟨HR.out, HR'.out⟩ (fun hH => ?_)
      refine wpAnyH_take (i := 0) (oi := _) (v := .slice (some ⟨b1, 0, none⟩) L.length cap1) rfl (by kernel_rfl) (by kernel_rfl) (by kernel_rfl) (fun _ _ _ h => h) (Or.inl ⟨by rfl, fun w' hw' => by go_simp⟩) hH ?_
      try simp only [Act.put, List.getElem_toArray, List.getElem_cons_zero, List.getElem_cons_succ, List.setIfInBounds_toArray, List.set_cons_zero, List.set_cons_succ]
      refine wpAnyH_take (i := 1) (oi := _) (v := .int .i64 (k : Int)) rfl (by kernel_rfl) (by kernel_rfl) (by kernel_rfl) (fun _ _ _ h => h) (Or.inl ⟨by rfl, fun w' hw' => by go_simp⟩) hH ?_
      try simp only [Act.put, List.getElem_toArray, List.getElem_cons_zero, List.getElem_cons_succ, List.setIfInBounds_toArray, List.set_cons_zero, List.set_cons_succ]
      refine wpAnyH_take (i := 2) (oi := _) (v := .pointer (some ⟨b1, k * 3, none⟩)) rfl (by kernel_rfl) (by kernel_rfl) (by kernel_rfl) (fun _ _ _ h => h) (Or.inl ⟨by rfl, fun w' hw' => by go_simp⟩) hH ?_
      try simp only [Act.put, List.getElem_toArray, List.getElem_cons_zero, List.getElem_cons_succ, List.setIfInBounds_toArray, List.set_cons_zero, List.set_cons_succ]
      refine wpAnyH_take (i := 3) (oi := _) (v := .agg (entC e.1 e.2.1 e.2.2)) rfl (by kernel_rfl) (by kernel_rfl) (by kernel_rfl) (fun _ _ _ h => h) (yieldsIf_load_mid (by rfl) 34 _ rfl b1 (k * 3) rfl (entC e.1 e.2.1 e.2.2).toList _ (fun w' h => h.1) Tryd.underlying34 rfl infoD3) hH ?_
      try simp only [Act.put, List.getElem_toArray, List.getElem_cons_zero, List.getElem_cons_succ, List.setIfInBounds_toArray, List.set_cons_zero, List.set_cons_succ]
      refine wpAnyH_take (i := 4) (oi := _) (v := .slice (some ⟨b2, 0, none⟩) L.length cap2) rfl (by kernel_rfl) (by kernel_rfl) (by kernel_rfl) (fun _ _ _ h => h) (Or.inl ⟨by rfl, fun w' hw' => by go_simp⟩) hH ?_
      try simp only [Act.put, List.getElem_toArray, List.getElem_cons_zero, List.getElem_cons_succ, List.setIfInBounds_toArray, List.set_cons_zero, List.set_cons_succ]
      refine wpAnyH_take (i := 5) (oi := _) (v := .int .i64 (k : Int)) rfl (by kernel_rfl) (by kernel_rfl) (by kernel_rfl) (fun _ _ _ h => h) (Or.inl ⟨by rfl, fun w' hw' => by go_simp⟩) hH ?_
      try simp only [Act.put, List.getElem_toArray, List.getElem_cons_zero, List.getElem_cons_succ, List.setIfInBounds_toArray, List.set_cons_zero, List.set_cons_succ]
      refine wpAnyH_take (i := 6) (oi := _) (v := .pointer (some ⟨b2, k * 3, none⟩)) rfl (by kernel_rfl) (by kernel_rfl) (by kernel_rfl) (fun _ _ _ h => h) (Or.inl ⟨by rfl, fun w' hw' => by go_simp⟩) hH ?_
      try simp only [Act.put, List.getElem_toArray, List.getElem_cons_zero, List.getElem_cons_succ, List.setIfInBounds_toArray, List.set_cons_zero, List.set_cons_succ]
      refine wpAnyH_take (i := 7) (oi := _) (v := .agg (entC e.1 e.2.1 e.2.2)) rfl (by kernel_rfl) (by kernel_rfl) (by kernel_rfl) (fun _ _ _ h => h) (yieldsIf_load_mid (by rfl) 34 _ rfl b2 (k * 3) rfl (entC e.1 e.2.1 e.2.2).toList _ (fun w' h => h.2) Tryd.underlying34 rfl infoD3) hH ?_
      try simp only [Act.put, List.getElem_toArray, List.getElem_cons_zero, List.getElem_cons_succ, List.setIfInBounds_toArray, List.set_cons_zero, List.set_cons_succ]
      refine wpAnyH_ready (rs := [8]) (by kernel_rfl) (by simp) ?_
      refine AllReadyH.cons (o := _) rfl (fun K hK => ?_) AllReadyH.nil
      go_simp
      refine (eqDirent_same e _).mono ?_
      rintro x w2 ⟨rfl, bb⟩
      have b3 := ((Below.refl _ _).drew).trans bb
      have B2 := hide (HB.out.trans (b3.mono HB.out.size))
      have s2 : w2.rangeAt b1 (k * 3) (entC e.1 e.2.1 e.2.2).toList ∧ w2.rangeAt b2 (k * 3) (entC e.1 e.2.1 e.2.2).toList := ⟨fun j u hu => (b3.cell (p := ⟨b1, k * 3 + j, none⟩) hl1).trans (HR.out j u hu), fun j u hu => (b3.cell (p := ⟨b2, k * 3 + j, none⟩) hl2).trans (HR'.out j u hu)⟩
      refine hK.out _ _ s2 (fun hH => ?_)
      clear hK K s2 bb b3 HB
      try simp only [Act.put, List.getElem_toArray, List.getElem_cons_zero, List.getElem_cons_succ, List.setIfInBounds_toArray, List.set_cons_zero, List.set_cons_succ]
      refine wpAnyH_take (i := 9) (oi := _) (v := .bool false) rfl (by kernel_rfl) (by kernel_rfl) (by kernel_rfl) (fun _ _ _ h => h) (Or.inl ⟨by rfl, fun w' hw' => by go_simp⟩) hH ?_
      try simp only [Act.put, List.getElem_toArray, List.getElem_cons_zero, List.getElem_cons_succ, List.setIfInBounds_toArray, List.set_cons_zero, List.set_cons_succ]
      refine wpAnyH_done (by kernel_rfl) (NoPanic.normal ?_) _
      go_wp2
      go_roundw
      case rel => exact ⟨k + 1, by omega, by go_num, B2.out⟩
      case measure => simp [intOf]; omega
    · go_wp2
      go_ret
      exact ⟨rfl, HB.out⟩

/-- Marks: three an entry, from 1 on. -/
def mkD (n : Nat) : List EI := (List.range n).map fun i => (mtx (1 + 3 * i), ((1 + 3 * i : Nat) : Int) + 1, ((1 + 3 * i : Nat) : Int) + 1 + 1)
theorem mkD_len (n : Nat) : (mkD n).length = n := by simp [mkD]
theorem mkD_get (n k : Nat) (h : k < n) : (mkD n)[k]? = some (mtx (1 + 3 * k), ((1 + 3 * k : Nat) : Int) + 1, ((1 + 3 * k : Nat) : Int) + 1 + 1) := by simp [mkD, h]
theorem set_overD {zs xs : List EI} {z : EI} {k n : Nat} (hk : k < n) (hz : zs.length = n) (hx : xs.length = n) (he : zs[k]? = some z) : (zs.take k ++ xs.drop k).set k z = zs.take (k + 1) ++ xs.drop (k + 1) := by
  apply List.ext_getElem?
  intro i
  by_cases hi : i = k
  · subst hi
    rw [List.getElem?_set_self (by simp; omega), List.getElem?_append_left (by simp; omega), List.getElem?_take, if_pos (by omega), he]
  · rw [List.getElem?_set_ne (fun e => hi e.symm)]
    rcases Nat.lt_or_ge i k with h | h
    · rw [List.getElem?_append_left (by simp; omega), List.getElem?_append_left (by simp; omega), List.getElem?_take, List.getElem?_take, if_pos h, if_pos (by omega)]
    · rw [List.getElem?_append_right (by simp; omega), List.getElem?_append_right (by simp; omega), List.getElem?_drop, List.getElem?_drop]
      congr 1
      simp
      omega
theorem grown_set {w w1 : World} {g : Nat} (h : w.grownBy w1 (some g)) (o : Nat) (u : Value) : w.grownBy (w1.setCell ⟨g, o, none⟩ u) (some g) :=
  grownBy_trans h ⟨rfl, rfl, rfl, by simp, fun k hk hn => Below.heap_setCell w1 _ _ k (fun h => hn (by rw [h]))⟩
set_option maxRecDepth 100000 in
set_option maxHeartbeats 1000000 in
theorem markDirentS_any (v : Value) (base : Nat) (L : List EI) (w : World) (h : w.ownsRow base 34 3 v L.length (entsI L)) (hn : L.length ≤ 8192) :
    Calls Tryd.prog 30 #[v, .int .i64 1] w fun e w' => e = .returned (.int .i64 ((1 + 3 * L.length : Nat) : Int)) ∧ w'.ownsRow base 34 3 v L.length (entsI (mkD L.length)) ∧ w.grownBy w' v.ownBlock := by
  have HO := hide h
  obtain ⟨a, cap, rfl⟩ := ownD_shape h
  clear h
  obtain ⟨n, hn0⟩ : ∃ n, n = L.length := ⟨_, rfl⟩
  have HN := hide hn0
  go_enter Tryd.func30, Tryd.ntmps30
  go_wp2
  go_loopw [1, 5] (fun q i wr => ∃ k : Nat, k ≤ L.length ∧ i = .int .i64 (k : Int) ∧ q = .int .i64 ((1 + 3 * k : Nat) : Int) ∧ wr.ownsRow base 34 3 (.slice a L.length cap) L.length (entsI ((mkD L.length).take k ++ L.drop k)) ∧ w.grownBy wr (Value.slice a L.length cap).ownBlock) (fun _ i _ => L.length - (intOf i).toNat)
  case atStart => exact ⟨0, Nat.zero_le _, rfl, rfl, by simpa using HO.out, World.grownBy.refl _ _⟩
  case round =>
    obtain ⟨k, hk, rfl, rfl, ho, hg⟩ := hrel
    have HK := hide (And.intro ho hg)
    clear ho hg
    by_cases hlt : k < L.length
    · obtain ⟨g, cp, ee, hg1, hg2, hcc⟩ := own_sliceD HK.out.1 (by omega)
      injection ee with e1 e2 e3
      subst e1
      subst e3
      clear hcc e2
      generalize hq : 1 + 3 * k = q
      have HQ := hide hq
      have hq1 : 1 ≤ q ∧ q ≤ 30000 := by omega
      clear hq
      go_wp2_with (go_at_call 49; fail)
      refine (markText_any q _ hq1.1 (by omega)).mono ?_
      rintro e w1 ⟨rfl, b1⟩
      have hown := own_below HK.out.1 b1
      have O1 := hide hown
      have G1 := hide (show w.grownBy w1 (some g) from grownBy_trans HK.out.2 ⟨b1.os, b1.tape, b1.output, b1.size, fun k hk _ => b1.block k hk⟩)
      have hth := there_own hown hlt
      obtain ⟨o0, c0⟩ := Option.isSome_iff_exists.1 (hth 0 (by omega)).1
      obtain ⟨o1, c1⟩ := Option.isSome_iff_exists.1 (hth 1 (by omega)).1
      obtain ⟨o2, c2⟩ := Option.isSome_iff_exists.1 (hth 2 (by omega)).1
      have f0 := (hth 0 (by omega)).2
      have f1 := (hth 1 (by omega)).2
      have f2 := (hth 2 (by omega)).2
      rw [Nat.add_zero] at c0 f0
      have HS := hide (show (((w1.setCell ⟨g, k * 3, none⟩ (.string (mtx q))).setCell ⟨g, k * 3 + 1, none⟩ (.int .i64 ((q : Int) + 1))).setCell ⟨g, k * 3 + 2, none⟩ (.int .i64 ((q : Int) + 1 + 1))).ownsRow base 34 3 (.slice (some ⟨g, 0, none⟩) L.length cap) L.length (entsI ((mkD L.length).take (k + 1) ++ L.drop (k + 1))) ∧ w.grownBy (((w1.setCell ⟨g, k * 3, none⟩ (.string (mtx q))).setCell ⟨g, k * 3 + 1, none⟩ (.int .i64 ((q : Int) + 1))).setCell ⟨g, k * 3 + 2, none⟩ (.int .i64 ((q : Int) + 1 + 1))) (some g) from by
        have h1 := own_putE O1.out (g := g) rfl k (mtx q) ((q : Int) + 1) ((q : Int) + 1 + 1)
        rw [putE_set, set_overD hlt (mkD_len _) rfl (by rw [mkD_get _ _ hlt, HQ.out])] at h1
        exact ⟨h1, grown_set (grown_set (grown_set G1.out _ _) _ _) _ _⟩)
      clear hown b1 HK hth
      go_wp2_with fail
      go_roundw
      case rel => exact ⟨k + 1, by omega, by go_num, by have := HQ.out; go_num, HS.out.1, HS.out.2⟩
      case measure => simp [intOf]; omega
    · obtain rfl : k = L.length := by omega
      go_wp2
      go_ret
      have ho := HK.out.1
      rw [List.take_of_length_le (by rw [mkD_len]; omega), List.drop_of_length_le (by omega), List.append_nil] at ho
      exact ⟨rfl, ho, HK.out.2⟩
set_option maxRecDepth 100000 in
set_option maxHeartbeats 1000000 in
theorem heldDirentS_any (v : Value) (base n : Nat) (w : World) (h : w.ownsRow base 34 3 v n (entsI (mkD n))) (hn : n ≤ 8192) :
    Calls Tryd.prog 31 #[v, .int .i64 1] w fun e w' => e = .returned (.int .i64 ((1 + 3 * n : Nat) : Int)) ∧ Below w.heap.size w w' := by
  have HO := hide h
  obtain ⟨a, cap, rfl⟩ := ownD_shape h
  clear h
  go_enter Tryd.func31, Tryd.ntmps31
  go_wp2
  go_loopw [1, 5] (fun q i wr => ∃ k : Nat, k ≤ n ∧ i = .int .i64 (k : Int) ∧ q = .int .i64 ((1 + 3 * k : Nat) : Int) ∧ Below w.heap.size w wr) (fun _ i _ => n - (intOf i).toNat)
  case atStart => exact ⟨0, Nat.zero_le _, rfl, rfl, Below.refl _ _⟩
  case round =>
    obtain ⟨k, hk, rfl, rfl, hb⟩ := hrel
    have HB := hide hb
    clear hb
    by_cases hlt : k < n
    · obtain ⟨b, cp, ee, hg1, hg2, hcc⟩ := own_sliceD HO.out (by omega)
      injection ee with e1 e2 e3
      subst e1
      subst e3
      have HR := hide (fun j u hu => ents_range hcc (mkD_get n k hlt) j u hu)
      clear hcc e2 hg1
      generalize hq : 1 + 3 * k = q at HR ⊢
      have HQ := hide hq
      have hq1 : 1 ≤ q ∧ q ≤ 30000 := by omega
      clear hq
      have HC := hide (show ∀ W, Below w.heap.size w W → W.cell? ⟨b, k * 3, none⟩ = some (.string (mtx q)) ∧ W.cell? ⟨b, k * 3 + 1, none⟩ = some (.int .i64 ((q : Int) + 1)) ∧ W.cell? ⟨b, k * 3 + 2, none⟩ = some (.int .i64 ((q : Int) + 1 + 1)) from fun W hW => ⟨(hW.cell (p := ⟨b, k * 3, none⟩) hg2).trans (HR.out 0 _ rfl), (hW.cell (p := ⟨b, k * 3 + 1, none⟩) hg2).trans (HR.out 1 _ rfl), (hW.cell (p := ⟨b, k * 3 + 2, none⟩) hg2).trans (HR.out 2 _ rfl)⟩)
      clear HR
      go_wp2_with fail
      refine wp_region_noPanic ?_
      refine wp_region_held_drew (S := fun w' => Below w.heap.size w w') (by kernel_rfl) (HB.out.drew) (fun hH => ?_)
      refine wpAnyH_take (i := 0) (oi := _) (v := .slice (some ⟨b, 0, none⟩) n cap) rfl (by kernel_rfl) (by kernel_rfl) (by kernel_rfl) (fun _ _ _ h => h) (Or.inl ⟨by rfl, fun w' hw' => by go_simp⟩) hH ?_
      try simp only [Act.put, List.getElem_toArray, List.getElem_cons_zero, List.getElem_cons_succ, List.setIfInBounds_toArray, List.set_cons_zero, List.set_cons_succ]
      refine wpAnyH_take (i := 1) (oi := _) (v := .int .i64 (k : Int)) rfl (by kernel_rfl) (by kernel_rfl) (by kernel_rfl) (fun _ _ _ h => h) (Or.inl ⟨by rfl, fun w' hw' => by go_simp⟩) hH ?_
      try simp only [Act.put, List.getElem_toArray, List.getElem_cons_zero, List.getElem_cons_succ, List.setIfInBounds_toArray, List.set_cons_zero, List.set_cons_succ]
      refine wpAnyH_take (i := 2) (oi := _) (v := .pointer (some ⟨b, k * 3, none⟩)) rfl (by kernel_rfl) (by kernel_rfl) (by kernel_rfl) (fun _ _ _ h => h) (Or.inl ⟨by rfl, fun w' hw' => by go_simp⟩) hH ?_
      try simp only [Act.put, List.getElem_toArray, List.getElem_cons_zero, List.getElem_cons_succ, List.setIfInBounds_toArray, List.set_cons_zero, List.set_cons_succ]
      refine wpAnyH_take (i := 3) (oi := _) (v := .pointer (some ⟨b, k * 3, none⟩)) rfl (by kernel_rfl) (by kernel_rfl) (by kernel_rfl) (fun _ _ _ h => h) (Or.inl ⟨by rfl, fun w' hw' => by go_simp⟩) hH ?_
      try simp only [Act.put, List.getElem_toArray, List.getElem_cons_zero, List.getElem_cons_succ, List.setIfInBounds_toArray, List.set_cons_zero, List.set_cons_succ]
      refine wpAnyH_take (i := 4) (oi := _) (v := .string (mtx q)) rfl (by kernel_rfl) (by kernel_rfl) (by kernel_rfl) (fun _ _ _ h => h) (Or.inl ⟨by rfl, fun w' hw' => by have hc := (HC.out w' hw').1; clear hw'; go_simp⟩) hH ?_
      try simp only [Act.put, List.getElem_toArray, List.getElem_cons_zero, List.getElem_cons_succ, List.setIfInBounds_toArray, List.set_cons_zero, List.set_cons_succ]
      refine wpAnyH_take (i := 5) (oi := _) (v := .int .i64 (q : Int)) rfl (by kernel_rfl) (by kernel_rfl) (by kernel_rfl) (fun _ _ _ h => h) (Or.inl ⟨by rfl, fun w' hw' => by go_simp⟩) hH ?_
      try simp only [Act.put, List.getElem_toArray, List.getElem_cons_zero, List.getElem_cons_succ, List.setIfInBounds_toArray, List.set_cons_zero, List.set_cons_succ]
      refine wpAnyH_ready (rs := [6]) (by kernel_rfl) (by simp) ?_
      refine AllReadyH.cons (o := _) rfl (fun K hK => ?_) AllReadyH.nil
      go_simp
      refine (markText_any q _ hq1.1 (by omega)).mono ?_
      rintro e w4 ⟨rfl, b4⟩
      have H4 := hide (hH.trans (b4.mono hH.size))
      refine hK.out _ _ H4.out (fun hH => ?_)
      clear hK K b4
      try simp only [Act.put, List.getElem_toArray, List.getElem_cons_zero, List.getElem_cons_succ, List.setIfInBounds_toArray, List.set_cons_zero, List.set_cons_succ]
      refine wpAnyH_take (i := 7) (oi := _) (v := .bool false) rfl (by kernel_rfl) (by kernel_rfl) (by kernel_rfl) (fun _ _ _ h => h) (Or.inl ⟨by rfl, fun w' hw' => by have hne : ((mtx q).toList != (mtx q).toList) = false := (by simp); go_simp⟩) hH ?_
      try simp only [Act.put, List.getElem_toArray, List.getElem_cons_zero, List.getElem_cons_succ, List.setIfInBounds_toArray, List.set_cons_zero, List.set_cons_succ]
      refine wpAnyH_done (by kernel_rfl) (NoPanic.normal ?_) _
      clear hH
      have c1 := (HC.out w4 H4.out).2.1
      have c2 := (HC.out w4 H4.out).2.2
      have hne : ((mtx q).toList != (mtx q).toList) = false := by simp
      go_wp2
      go_roundw
      case rel => exact ⟨k + 1, by omega, by go_num, by have := HQ.out; go_num, H4.out⟩
      case measure => simp [intOf]; omega
    · obtain rfl : k = n := by omega
      go_wp2
      go_ret
      exact ⟨rfl, HB.out⟩
end Go.Proofs.YtcciaojdceejcaaDoor
