/- The program lists a directory: a range over its map, sorted. -/
import Derived.Test.YtplieplmhdfndaaGreatDoorZg46
import Derived.Test.YtplieplmhdfndaaGreatDoorZg43
import Derived.Test.YtplieplmhdfndaaGreatDoorZg10
import Derived.Maps.RangeWalk
import Derived.Maps.OwnSet
import Derived.OwnWalk
import Derived.Sort.KeysCollected
namespace Go.Proofs.YtplieplmhdfndaaGreatDoor
set_option linter.unusedVariables false
set_option linter.unusedSimpArgs false
open Go.RowKit Go.Maps Go.Sort

theorem lawKs : Maps.Keyed Tryz.prog 9 := Maps.string_keyed Tryz.underlying9
theorem sameKey_str (z : Lit) (x : List UInt8) (h : z ≠ .string x) : z.sameKey (.string x) = false := by
  cases z <;> simp_all [Lit.sameKey]

set_option maxRecDepth 100000 in
set_option maxHeartbeats 1000000 in
theorem list_any {H : Type} (zs : List Int) (base d mb n nn : Nat) (v : Value) (es : List (ByteArray × Nat × Nat)) (w : World) (hD : Dr (H := H) base w d mb n nn v (entsI (slotsL zs n)) (mapR H zs (List.range n).reverse)) (hes : entT zs n = some es) (hn : n ≤ 8192) (hnn : nn ≤ n) :
    Calls Tryz.prog 69 #[.pointer (some ⟨d, 0, none⟩)] w fun e w' => ∃ v', e = .returned v' ∧ w'.ownsRow w.heap.size 61 3 v' (sortE (es.map toI)).length (entsI (sortE (es.map toI))) ∧ Below w.heap.size w w' := by
  obtain ⟨i0, hi, hz0, hz1, hz2⟩ := info_parts infoD
  have hml := hD.map.lt
  have hdl := hD.blk.lt
  have hsz := hD.map.size_le
  have HA := hide (fun (e : EI) (he : e ∈ es.map toI) => ent_has H hes he)
  have HK := hide (fun (nm : ByteArray) hh => ent_at H hes nm hh)
  have HN := hide (ent_names hes)
  have HD := hide hD
  have HM := hide hD.map
  have cM : w.cell? ⟨d, 1, none⟩ = some (.map (some mb)) := (hD.blk.cell 1).trans rfl
  clear hD hes
  generalize mapR H zs (List.range n).reverse = D at HA HK HD HM hsz
  generalize es.map toI = E at HA HK HN ⊢
  go_enter Tryz.func69, Tryz.ntmps69
  go_wp2_with (first
    | (at_len; refine wpList_len_own _ rfl _ 114 rfl 9 3 Tryz.underlying114 _ mb nn _ rfl HM.out ?_)
    | (at_make; refine wpList_make_own _ rfl _ _ 98 rfl w.heap.size 61 i0 (.agg #[.string ⟨#[]⟩, .int .i64 0, .int .i64 0]) 3 Tryz.underlying98 hi hz0 hz1 _ _ _ (Maps.size D) rfl rfl rfl (by rw [hz2]; omega) (by unfold maxLen; omega) (Nat.le_refl _) ?_; intro w1 hrow1 hg1; have R1 := hide hrow1; have G1 := hide hg1; have cM1 : w1.cell? ⟨d, 1, none⟩ = some (.map (some mb)) := ((show Blk w1 d _ _ from (hg1.block d hdl (by simp)).trans HD.out.blk).cell 1).trans rfl; clear hrow1 hg1)
    | (at_range; refine wpList_range_own _ rfl _ 114 rfl 9 3 lawKs Tryz.underlying114 _ mb nn _ rfl (HM.out.kept G1.out (by simp)) ?_; intro w0 hrg0 hg0 hs0)
    | go_in)
  go_frame
  have hw1 : w.heap.size ≤ w1.heap.size := G1.out.size
  have R0 := hide hrg0
  have G0 := hide hg0
  clear hrg0 hg0 hs0 cM cM1
  go_loopw [3] (fun v wr => ∃ (left : Lit → Bool) (cnt : Nat) (ss : List EI), wr.ranges Tryz.prog 9 (plainElem (H := H) Tryz.prog 3) mb w1.heap.size nn D left cnt ∧ ss.length + cnt ≤ Maps.size D ∧
      wr.ownsRow w.heap.size 61 3 v ss.length (entsI ss) ∧ v ≠ .slice none 0 0 ∧ Coll E left ss ∧ Below w.heap.size w wr)
    (fun _ wr => wr.rangeLeft mb w1.heap.size)
  case atStart =>
    exact ⟨_, _, [], R0.out, by simp, R1.out.kept G0.out (Or.inr (by simp [Value.ownBlock])), by simp, Coll.start (fun e he => HA.out e he),
      ((Below.refl _ _).grown G1.out (Nat.le_refl _) (fun j hj => by cases hj)).grown G0.out G1.out.size (fun j hj => by cases hj)⟩
  case round =>
    clear R0 R1 G0
    obtain ⟨left, cnt, ss, hrg, hcs, hrow, hnn2, hC, hnx⟩ := hrel
    have HRg := hide hrg
    have HRow := hide hrow
    have HC := hide hC
    have HNx := hide hnx
    clear hrg hrow hC hnx
    go_wp2_with (first
      | (at_next; refine wpList_next_ranges _ rfl _ rfl 9 lawKs (plainElem (H := H) Tryz.prog 3) encStr (Value.int .i64) (fun key kl hk => by obtain ⟨x, hx, _⟩ := Maps.keyOf_str Tryz.underlying9 hk; exact ⟨x, hx⟩) (fun v y hv => by obtain ⟨c, rfl, _⟩ := plainElem_int_inv Tryz.underlying3 hv; exact ⟨c, rfl⟩) mb w1.heap.size nn _ _ _ rfl HRg.out ?_ ?_)
      | go_in)
    · intro hc0 hl0
      rcases HRow.out.2 with ⟨hnil, _⟩ | ⟨g, cap, cur, rfl, hbase, hb, h1, h2, h3, h4⟩
      · exact absurd hnil hnn2
      have HL0 := hide hl0
      clear hb h1 h2 h3 h4 hl0
      go_wp2_with (go_at_call 108; fail)
      refine (sortE_any w.heap.size g cap ss _ HRow.out (by omega)).mono ?_
      rintro e w' ⟨rfl, M, hp, hs, ho, hg⟩
      have HM2 := hide (HC.out.done HN.out HL0.out hp hs)
      have HF := hide (show w'.ownsRow w.heap.size 61 3 (.slice (some ⟨g, 0, none⟩) ss.length cap) (sortE E).length (entsI (sortE E)) ∧ Below w.heap.size w w' from by
        have hl : (sortE E).length = ss.length := by rw [← HM2.out]; exact hp.length_eq
        rw [hl, ← HM2.out]
        exact ⟨ho, HNx.out.grown hg HNx.out.size (fun j hj => by cases hj; exact hbase)⟩)
      clear hp hs ho hg
      go_wp2
      go_ret
      exact ⟨_, rfl, HF.out.1, HF.out.2⟩
    · intro x c kl yd yp w2 cnt2 hkey hlk hv hat hrg2 hlt hg2 hs2 hen
      obtain ⟨x', ex, rfl, hxl⟩ := Maps.keyOf_str Tryz.underlying9 hkey
      obtain rfl : x = x' := encStr_inj ex
      have hhas : Maps.has D (.string x) = true := has_true_of_atKey hat
      obtain ⟨k, hkn, hak, hsl, hin, hnm⟩ := HK.out ⟨x.toArray⟩ (by simpa using hhas)
      have hc : c = (k : Int) := by
        have h1 := (hat (.lit (.int .i64 0))).symm
        obtain ⟨c', e1, e2, _⟩ := plainElem_int_inv Tryz.underlying3 hv
        simp only [List.toList_toArray] at hak
        rw [hak] at h1
        have e3 : yd = .lit (.int .i64 c') := congrArg Prod.fst e2
        rw [e3] at h1
        injection e1 with _ e1
        rw [e1]
        simpa using h1
      subst hc
      have HCo := hide (show Coll E (fun z => left z && !z.sameKey (.string x)) (ss ++ [slotE zs k]) from by
        have hnm2 : (slotE zs k).1.data.toList = x := by simpa using hnm
        exact HC.out.step HN.out hin (by rw [hnm2]; exact hlk) (by rw [hnm2]; simp [Lit.sameKey]) (fun z hz => by rw [hnm2] at hz; simp [sameKey_str z x hz]))
      have hdl2 : d < w2.heap.size := by have := HNx.out.size; have := hg2.size; omega
      have HB2 := hide (show Below w.heap.size w w2 from HNx.out.grown hg2 HNx.out.size (fun j hj => by cases hj; exact hw1))
      have HR2 := hide hrg2
      have HRow2 := hide (HRow.out.kept hg2 (Or.inr (row_ne_iter HRow.out HRg.out).symm))
      obtain ⟨g, cp, rfl, hg1, hg2', hcc⟩ := own_sliceD HD.out.own (by omega)
      have KD := hide (HD.out.blk.below HB2.out hdl)
      have cE : w2.cell? ⟨d, 0, none⟩ = some (.slice (some ⟨g, 0, none⟩) n cp) := (KD.out.cell 0).trans rfl
      have HRg2 := hide (show w2.rangeAt g (k * 3) (entC (slotE zs k).1 (slotE zs k).2.1 (slotE zs k).2.2).toList from fun j u hu => (HB2.out.cell (p := ⟨g, k * 3 + j, none⟩) hg2').trans (by
        have h1 := hcc (k * 3 + j) u (entsI_at hsl j u hu)
        rwa [Addr.add_mid, Nat.zero_add] at h1))
      have hkI : ¬ ((n : Int) ≤ (k : Int)) := by omega
      have hkJ : (k : Int) < (n : Int) := by omega
      have hss : ss.length + 1 ≤ 8192 := by omega
      have hcpn : n ≤ cp ∧ cp ≤ 9223372036854775807 := by
        rcases HD.out.own.2 with ⟨e4, _⟩ | ⟨g', cp', cur, e4, _, _, hn1, hn2, _⟩
        · cases e4
        · injection e4 with e5 e6 e7
          subst e7
          exact ⟨hn1, hn2⟩
      have hwz : w.heap.size ≤ w2.heap.size := HB2.out.size
      have HLt := hide hlt
      clear hs2 hkey hlk hv hat hrg2 hg2 hcc hsl hin hnm hak hhas hlt hxl ex
      go_wp2_with (first
        | (refine wpList_load_midD (by first | rfl | (simp [Region.wanted, yielded]; done)) 61 _ rfl g (k * 3) rfl (entC (slotE zs k).1 (slotE zs k).2.1 (slotE zs k).2.2).toList _ HRg2.out Tryz.underlying61 rfl infoD3 ?_)
        | (refine wpList_build1D rfl 98 61 _ rfl (entC (slotE zs k).1 (slotE zs k).2.1 (slotE zs k).2.2) rfl i0 _ Tryz.underlying98 hi hz0 hz1 (show 0 < 3 by omega) (show 3 ≤ 1000 by omega) ?_)
        | (at_builtin; refine append_fresh _ rfl (.tmp 21) (.tmp 29) 98 rfl w.heap.size 61 i0 (.agg #[.string ⟨#[]⟩, .int .i64 0, .int .i64 0]) 3 32 Tryz.underlying98 hi hz0 hz1 hz2 rfl (by decide) _ _ _ rfl (HRow2.out.alloc _) ⟨w2.heap.size, 0, none⟩ 1 1 (entC (slotE zs k).1 (slotE zs k).2.1 (slotE zs k).2.2).toList rfl rfl (cells_newD w2 _ _) (by intro u hu; simp [entC] at hu; rcases hu with rfl | rfl | rfl <;> rfl) (by omega) (by unfold maxLen; omega) (by omega) (by simp; omega) ?_; intro v3 w3 o3 g3 f3; have O3 := hide o3; have G3 := hide (show w3.ranges Tryz.prog 9 (plainElem (H := H) Tryz.prog 3) mb w1.heap.size nn D (fun z => left z && !z.sameKey (.string x)) cnt2 ∧ Below w.heap.size w w3 from ⟨(HR2.out.alloc _).kept g3 (row_ne_low HRow2.out hml) (row_ne_iter HRow2.out HR2.out), (HB2.out.alloc hwz _).grown g3 (by simp; omega) (fun j hj => (HRow2.out.lt j hj).1)⟩); clear o3 g3 f3; go_frame)
        | go_in)
      obtain ⟨g9, cap9, e9, _, _, _⟩ := own_sliceD O3.out (by omega)
      subst e9
      go_roundw
      case rel =>
        refine ⟨_, cnt2, ss ++ [slotE zs k], G3.out.1, by have := HLt.out; simp; omega, ?_, by simp, HCo.out, G3.out.2⟩
        rw [List.length_append, entsI_append]
        exact O3.out
      case measure => rw [G3.out.1.left_eq, HRg.out.left_eq]; exact HLt.out
end Go.Proofs.YtplieplmhdfndaaGreatDoor
