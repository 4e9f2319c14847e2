/- The program's look at all nodes: nodesFault. Slots taken in whatever row: what openDirectory keeps between two rounds (mathematics). -/
import Derived.Test.YtnbfpmmpmblmmaaGreatDoorZe31
import Derived.Test.YtnbfpmmpmblmmaaGreatDoorZe29
namespace Go.Proofs.YtnbfpmmpmblmmaaGreatDoor
set_option linter.unusedVariables false
set_option linter.unusedSimpArgs false
open Go.RowKit

theorem Kn.withinC {w wr : World} {ok : Bool} {c : Nat} (h : Kn w wr ok) (hc : c = w.heap.size) (place : ByteArray) (n lo hi : Int) :
    Calls Tryz.prog 44 #[.pointer (some ⟨c, 0, none⟩), .string place, .int .i64 n, .int .i64 lo, .int .i64 hi] wr fun e w' => e = .returned (.tuple #[]) ∧ Kn w w' (ok && wi n lo hi) := by subst hc; exact h.within place n lo hi
theorem Kn.insideC {w wr w1 : World} {ok ok1 : Bool} {ev : Value} {c : Nat} (h : Kn w wr ok) (hc : c = w.heap.size) (hb : Below wr.heap.size wr w1) (hf : FaultIs w1 wr.heap.size ok1 ev 21) (place : ByteArray) :
    Calls Tryz.prog 27 #[.pointer (some ⟨c, 0, none⟩), .string place, ev] w1 fun e w' => e = .returned (.tuple #[]) ∧ Kn w w' (ok && ok1) := by subst hc; exact h.inside hb hf place
theorem Kn.faultC {w wr : World} {ok : Bool} {c : Nat} (h : Kn w wr ok) (hc : c = w.heap.size) : ∃ ev, wr.cell? ⟨c, 1, none⟩ = some ev ∧ FaultIs wr w.heap.size ok ev 21 := by subst hc; exact h.fault
/-- The first k nodes are right, each alone. -/
def allN (L : List Nd) (C : Int) : Nat → Bool
  | 0 => true
  | k + 1 => allN L C k && nodeB (ndAt L k) C
theorem allN_iff (L : List Nd) (C : Int) : ∀ k, allN L C k = true ↔ ∀ i, i < k → nodeB (ndAt L i) C = true
  | 0 => by simp [allN]
  | k + 1 => by
    unfold allN
    rw [Bool.and_eq_true, allN_iff L C k]
    constructor
    · rintro ⟨h1, h2⟩ i hi
      rcases Nat.lt_or_ge i k with h | h
      · exact h1 i h
      · have : i = k := by omega
        subst this; exact h2
    · intro h
      exact ⟨fun i hi => h i (by omega), h k (by omega)⟩
/-- What nodesFault asks. -/
def nsB (C : Int) (L : List Nd) : Bool := wi C 1 1099511627776 && wi (L.length : Int) 2 1001 && allN L C L.length && wi (totN L : Int) 0 1048576
/-- A nil slice has no room. -/
def NilV (vs : List Value) : Prop := ∀ (i : Nat) (a : Option Addr) (n c : Nat), vs[i]? = some (Value.slice a n c) → a = none → c = 0
set_option maxRecDepth 100000 in
set_option maxHeartbeats 4000000 in
theorem nodesFault_any (C : Int) (v : Value) (L : List Nd) (vs : List Value) (w : World) (h : RdN w 9 v (L.map ndE) vs) (hT : totN L ≤ 1099511627776) (hL : L.length ≤ 1048576) (hbd : ∀ i, i < L.length → ∀ z ∈ (ndAt L i).d, 0 ≤ z ∧ z < 256) (hnil : NilV vs) :
    Calls Tryz.prog 28 #[.agg #[.int .i64 C, v]] w fun e w' => ∃ ev, e = .returned ev ∧ FaultIs w' w.heap.size (nsB C L) ev 21 ∧ Below w.heap.size w w' := by
  obtain ⟨a, cap, rfl, _⟩ := h.row
  rw [List.length_map] at h ⊢
  obtain ⟨N, hN⟩ : ∃ N, N = L.length := ⟨_, rfl⟩
  rw [← hN] at h hL ⊢
  have HN := hide hN
  have HR := hide h
  have HBD := hide hbd
  have HNIL := hide hnil
  have HTT := hide hT
  clear hN h hbd hnil hT
  obtain ⟨W0, hW0⟩ : ∃ W0, W0 = w.alloc (.cells #[.int .i64 C, .slice a N cap] 31) := ⟨_, rfl⟩
  have b0 : Below w.heap.size w W0 := by rw [hW0]; exact (Below.refl _ _).alloc (Nat.le_refl _) _
  have HS := hide (show w.heap.size + 1 = W0.heap.size from by rw [hW0]; simp)
  have k0 : Blk W0 w.heap.size #[.int .i64 C, .slice a N cap] 31 := by rw [hW0]; exact Blk.new w _ _
  have HST := hide (show ∀ W, Below W0.heap.size W0 W → W.cell? ⟨w.heap.size, 0, none⟩ = some (.int .i64 C) ∧ W.cell? ⟨w.heap.size, 1, none⟩ = some (.slice a N cap) ∧ RdN W 9 (.slice a N cap) (L.map ndE) vs ∧ Below w.heap.size w W from fun W hb => by
    have h1 := k0.below hb k0.lt
    exact ⟨(h1.cell 0).trans rfl, (h1.cell 1).trans rfl, HR.out.below (b0.trans (hb.mono b0.size)), b0.trans (hb.mono b0.size)⟩)
  have K1 := hide (Kn.fresh W0)
  obtain ⟨W1, hW1⟩ : ∃ W1, W1 = W0.alloc (.cells #[.int .i64 21, .nilIface] 64) := ⟨_, rfl⟩
  rw [← hW1] at K1
  have HW1 := hide hW1
  have HW0 := hide hW0
  obtain ⟨cc, hcc⟩ : ∃ cc, cc = w.heap.size + 1 := ⟨_, rfl⟩
  have HCC := hide (show cc = W0.heap.size from by rw [hcc]; exact HS.out)
  have HC1 := hide hcc
  clear hW1 hW0 b0 k0 HR hcc
  go_enter Tryz.func28, Tryz.ntmps28
  go_upto_region 2 with fail
  rw [← HW0.out, ← HC1.out]
  rw [← HW1.out]
  clear HW0 HW1 HC1
  have f1 := HST.out W1 K1.out.old
  have f10 := f1.1
  clear f1
  go_wp2_with (go_at_call 44; fail)
  refine (K1.out.withinC HCC.out _ C 1 1099511627776).mono ?_
  rintro e w2 ⟨rfl, k2⟩
  have K2 := hide k2
  clear k2 f10 K1
  have f21 := (HST.out w2 K2.out.old).2.1
  go_wp2_with (go_at_call 44; fail)
  refine (K2.out.withinC HCC.out _ (N : Int) 2 1001).mono ?_
  rintro e w3 ⟨rfl, k3⟩
  have K3 := hide k3
  clear k3 f21 K2
  have f31 := (HST.out w3 K3.out.old).2.1
  rw [Bool.true_and] at K3
  obtain ⟨ok0, hok0⟩ : ∃ ok0, ok0 = (wi C 1 1099511627776 && wi (N : Int) 2 1001) := ⟨_, rfl⟩
  rw [← hok0] at K3
  have HOK := hide hok0
  clear hok0
  go_upto_region 6 with fail
  clear f31
  go_loopw [4, 18] (fun sv iv wr => ∃ k : Nat, k ≤ N ∧ iv = .int .i64 (k : Int) ∧ sv = .int .i64 (totN (L.take k) : Int) ∧ Hid (Kn W0 wr (ok0 && allN L C k))) (fun _ iv _ => N - (intOf iv).toNat)
  case atStart => exact ⟨0, Nat.zero_le _, rfl, rfl, by rw [show allN L C 0 = true from rfl, Bool.and_true]; exact K3⟩
  case round =>
    obtain ⟨k, hk, rfl, rfl, KR⟩ := hrel
    have HTB := hide (show totN (L.take k) ≤ 1099511627776 from Nat.le_trans (totN_le L k) HTT.out)
    by_cases hlt : k < N
    · have fr := HST.out wr KR.out.old
      obtain ⟨b, off, cap', na, nc, e0, hb, hr, hvi, hrange⟩ := node_at fr.2.2.1 (i := k) (by rw [← HN.out]; omega)
      injection e0 with e1 e2 e3
      subst e1 e3
      have f0 := fr.1
      have f1 := fr.2.1
      have HRG := hide hrange
      have HT1 := hide (totN_succ L k (by rw [← HN.out]; exact hlt))
      have HTB1 := hide (show totN (L.take (k + 1)) ≤ 1099511627776 from Nat.le_trans (totN_le L (k + 1)) HTT.out)
      have HNC := hide (nodeFault_any (ndAt L k) na nc C b (off + k * 10) wr hrange hr (HBD.out k (by rw [← HN.out]; omega)) (HNIL.out k na _ nc hvi))
      obtain ⟨q, hq⟩ : ∃ q, q = (ndAt L k).d.length := ⟨_, rfl⟩
      rw [← hq] at HT1 HRG
      obtain ⟨tt, htt⟩ : ∃ tt, tt = totN (L.take k) := ⟨_, rfl⟩
      obtain ⟨tu, htu⟩ : ∃ tu, tu = totN (L.take (k + 1)) := ⟨_, rfl⟩
      rw [← htt, ← htu] at HT1
      rw [← htt] at HTB ⊢
      rw [← htu] at HTB1
      have HTU := hide htu
      have hbt : tt + q ≤ 1099511627776 := by have := HT1.out; have := HTB1.out; omega
      have HVI := hide hvi
      have HQ := hide hq
      clear e2 hrange hr hvi hb fr htt htu hq
      go_wp2_with (go_at_call 45; fail)
      refine HNC.out.mono ?_
      rintro e w4 ⟨ev4, rfl, hf4, b4⟩
      have HI := hide (fun place => KR.out.insideC HCC.out b4 hf4 place)
      have K4 := hide (KR.out.below b4)
      clear hf4 b4 f0 f1 HNC
      go_wp2_with (go_at_call 27; fail)
      refine (HI.out _).mono ?_
      rintro e w5 ⟨rfl, k5⟩
      have K5 := hide (show Kn W0 w5 (ok0 && allN L C (k + 1)) from by rw [show allN L C (k + 1) = (allN L C k && nodeB (ndAt L k) C) from rfl, ← Bool.and_assoc]; exact k5)
      have HQ9 := hide (show w5.cell? ⟨b, off + k * 10 + 9, none⟩ = some (.slice na q nc) from by
        obtain ⟨b', off', cap', na', nc', e0, _, _, hvi', hrange'⟩ := node_at (HST.out w5 K5.out.old).2.2.1 (i := k) (by rw [← HN.out]; omega)
        injection e0 with e1 e2 e3
        injection e1 with e1
        injection e1 with e4 e5
        subst e4 e5
        rw [HVI.out] at hvi'
        injection hvi' with hvi'
        injection hvi' with h1 h2 h3
        rw [HQ.out, h1, h3]
        exact hrange' 9 _ rfl)
      have f9 := HQ9.out
      clear k5 HI K4 KR
      go_wp2_with fail
      go_roundw
      case rel => exact ⟨k + 1, by omega, by go_num, by rw [← HTU.out, HT1.out]; go_num, K5⟩
      case measure => simp [intOf]; omega
    · have hkN : k = N := by omega
      have HTE := hide (show totN (L.take k) = totN L from by rw [hkN, HN.out, List.take_length])
      rw [HTE.out] at HTB ⊢
      obtain ⟨tt, htt⟩ : ∃ tt, tt = totN L := ⟨_, rfl⟩
      rw [← htt] at HTB ⊢
      have HNS := hide (show nsB C L = ((ok0 && allN L C k) && wi (tt : Int) 0 1048576) from by rw [HOK.out, hkN, htt, HN.out]; rfl)
      clear htt hkN
      go_wp2_with (go_at_call 44; fail)
      refine (KR.out.withinC HCC.out _ (tt : Int) 0 1048576).mono ?_
      rintro e w5 ⟨rfl, k5⟩
      obtain ⟨ev, ce, hf⟩ := k5.faultC HCC.out
      have HF := hide (hf.mono (show w.heap.size ≤ W0.heap.size from by have := HS.out; omega))
      have HB := hide (HST.out w5 k5.old).2.2.2
      clear hf k5
      go_wp2
      go_ret
      exact ⟨_, rfl, by rw [HNS.out]; exact HF.out, HB.out⟩
end Go.Proofs.YtnbfpmmpmblmmaaGreatDoor

namespace Go.Proofs.YtnbfpmmpmblmmaaGreatDoor
set_option linter.unusedVariables false
set_option linter.unusedSimpArgs false
open Go.RowKit

/-- The entries of the slots ks (the last one first), or none if one is wrong. -/
def entR (zs : List Int) : List Nat → Option (List (ByteArray × Nat × Nat))
  | [] => some []
  | k :: ks => match entR zs ks with
    | none => none
    | some es => if sZero (slotK zs k) = true then some es else if (sRight (slotK zs k) && !(es.any fun e => e.1.toList == (sName (slotK zs k)).toList)) = true then some (es ++ [(sName (slotK zs k), sIno (slotK zs k), sKind (slotK zs k))]) else none
theorem entR_range (zs : List Int) : ∀ k, entR zs (List.range k).reverse = entT zs k
  | 0 => rfl
  | k + 1 => by
    rw [List.range_succ, List.reverse_append]
    show entR zs (k :: (List.range k).reverse) = _
    rw [entR, entR_range zs k, entT]
    cases entT zs k <;> rfl
theorem entR_zero {zs : List Int} {k : Nat} {ks : List Nat} {es : List (ByteArray × Nat × Nat)} (h : entR zs ks = some es) (hz : sZero (slotK zs k) = true) : entR zs (k :: ks) = some es := by
  rw [entR, h]; simp [hz]
theorem entR_bad {zs : List Int} {k : Nat} {ks : List Nat} {es : List (ByteArray × Nat × Nat)} (h : entR zs ks = some es) (hz : sZero (slotK zs k) = false) (hr : sRight (slotK zs k) = false) : entR zs (k :: ks) = none := by
  rw [entR, h]; simp [hz, hr]
theorem entR_twice {zs : List Int} {k : Nat} {ks : List Nat} {es : List (ByteArray × Nat × Nat)} (h : entR zs ks = some es) (hz : sZero (slotK zs k) = false) (ht : (es.any fun e => e.1.toList == (sName (slotK zs k)).toList) = true) : entR zs (k :: ks) = none := by
  rw [entR, h]
  show (if sZero (slotK zs k) = true then some es else if (sRight (slotK zs k) && !(es.any fun e => e.1.toList == (sName (slotK zs k)).toList)) = true then _ else none) = none
  rw [hz, ht]; simp
theorem entR_more {zs : List Int} {k : Nat} {ks : List Nat} {es : List (ByteArray × Nat × Nat)} (h : entR zs ks = some es) (hz : sZero (slotK zs k) = false) (hr : sRight (slotK zs k) = true) (ht : (es.any fun e => e.1.toList == (sName (slotK zs k)).toList) = false) : entR zs (k :: ks) = some (es ++ [(sName (slotK zs k), sIno (slotK zs k), sKind (slotK zs k))]) := by
  rw [entR, h]
  show (if sZero (slotK zs k) = true then some es else if (sRight (slotK zs k) && !(es.any fun e => e.1.toList == (sName (slotK zs k)).toList)) = true then _ else none) = _
  rw [hz, hr, ht]; simp
/-- The map behind the slots ks (the last one first). -/
def mapR (H : Type) (zs : List Int) : List Nat → DataW H
  | [] => .map []
  | k :: ks => if sZero (slotK zs k) = true then mapR H zs ks else (mapR H zs ks).put (.string (sName (slotK zs k)).data.toList) (.lit (.int .i64 ks.length))
theorem mapR_map (H : Type) (zs : List Int) : ∀ ks, ∃ es, mapR H zs ks = .map es
  | [] => ⟨[], rfl⟩
  | k :: ks => by
    obtain ⟨es, he⟩ := mapR_map H zs ks
    unfold mapR
    split
    · exact ⟨es, he⟩
    · rw [he]; exact ⟨_, rfl⟩
theorem entR_some {zs : List Int} {k : Nat} {ks : List Nat} {fs : List (ByteArray × Nat × Nat)} (h : entR zs (k :: ks) = some fs) : ∃ es, entR zs ks = some es ∧ ((sZero (slotK zs k) = true ∧ fs = es) ∨ (sZero (slotK zs k) = false ∧ sRight (slotK zs k) = true ∧ (es.any fun e => e.1.toList == (sName (slotK zs k)).toList) = false ∧ fs = es ++ [(sName (slotK zs k), sIno (slotK zs k), sKind (slotK zs k))])) := by
  cases he : entR zs ks with
  | none => rw [entR, he] at h; cases h
  | some es =>
    refine ⟨es, rfl, ?_⟩
    cases hz : sZero (slotK zs k) with
    | true => rw [entR_zero he hz] at h; exact .inl ⟨rfl, by cases h; rfl⟩
    | false =>
      cases hr : sRight (slotK zs k) with
      | false => rw [entR_bad he hz hr] at h; cases h
      | true =>
        cases ha : (es.any fun e => e.1.toList == (sName (slotK zs k)).toList) with
        | true => rw [entR_twice he hz ha] at h; cases h
        | false => rw [entR_more he hz hr ha] at h; exact .inr ⟨rfl, rfl, rfl, by cases h; rfl⟩
theorem entR_names {zs : List Int} : ∀ {ks : List Nat} {es : List (ByteArray × Nat × Nat)}, entR zs ks = some es → ∀ e ∈ es, e.1.toList ≠ []
  | [], es, h, e, he => by cases h; simp at he
  | k :: ks, fs, h, e, he => by
    obtain ⟨es, h1, h2⟩ := entR_some h
    rcases h2 with ⟨_, rfl⟩ | ⟨_, hr, _, rfl⟩
    · exact entR_names h1 e he
    · rcases List.mem_append.1 he with he | he
      · exact entR_names h1 e he
      · obtain rfl := List.mem_singleton.1 he
        exact right_name hr
theorem mapR_has (H : Type) {zs : List Int} (nm : ByteArray) : ∀ {ks : List Nat} {es : List (ByteArray × Nat × Nat)}, entR zs ks = some es → Maps.has (mapR H zs ks) (.string nm.data.toList) = es.any fun e => e.1.toList == nm.toList
  | [], es, h => by cases h; rfl
  | k :: ks, fs, h => by
    obtain ⟨es, h1, h2⟩ := entR_some h
    have ih := mapR_has H nm h1
    rcases h2 with ⟨hz, rfl⟩ | ⟨hz, hr, ha, rfl⟩
    · rw [mapR, if_pos hz]; exact ih
    · rw [mapR, if_neg (by rw [hz]; simp), List.any_append, ← ih]
      obtain ⟨ds, hd⟩ := mapR_map H zs ks
      by_cases e : (sName (slotK zs k)).toList = nm.toList
      · have e2 : (sName (slotK zs k)).data.toList = nm.data.toList := by rw [← ByteArray.toList_eq, ← ByteArray.toList_eq]; exact e
        rw [← e2, Maps.has_put_same (by rw [hd]; exact ⟨_, rfl⟩) (by first | trivial | simp [WideAt.IsKeyLit] | exact ⟨_, rfl⟩)]
        simp [e]
      · have e2 : (Lit.string nm.data.toList) ≠ .string (sName (slotK zs k)).data.toList := by
          intro h
          injection h with h
          rw [← ByteArray.toList_eq, ← ByteArray.toList_eq] at h
          exact e h.symm
        rw [Maps.has_put_other e2]
        simp [e]
/-- One more slot. -/
theorem entR_step (H : Type) {zs : List Int} {k : Nat} {ks : List Nat} {es : List (ByteArray × Nat × Nat)} (h : entR zs ks = some es) (hok : (sZero (slotK zs k) || sRight (slotK zs k)) = true) : (entR zs (k :: ks)).isSome = !(Maps.has (mapR H zs ks) (.string (slotE zs k).1.data.toList)) := by
  rw [mapR_has H _ h]
  cases hz : sZero (slotK zs k) with
  | true =>
    rw [entR_zero h hz, slotE, if_pos hz]
    have : (es.any fun e => e.1.toList == (⟨#[]⟩ : ByteArray).toList) = false := by
      rw [List.any_eq_false]
      intro e he
      have := entR_names h e he
      rw [show (⟨#[]⟩ : ByteArray).toList = [] from by rw [ByteArray.toList_eq]]
      simpa using this
    rw [this]
    rfl
  | false =>
    rw [hz, Bool.false_or] at hok
    rw [slotE, if_neg (by rw [hz]; simp)]
    cases ha : (es.any fun e => e.1.toList == (sName (slotK zs k)).toList) with
    | true => rw [entR_twice h hz ha]; rfl
    | false => rw [entR_more h hz hok ha]; rfl
theorem entR_stop {zs : List Int} {k : Nat} {ks : List Nat} (h : (sZero (slotK zs k) || sRight (slotK zs k)) = false) : entR zs (k :: ks) = none := by
  rw [Bool.or_eq_false_iff] at h
  cases he : entR zs ks with
  | none => rw [entR, he]
  | some es => exact entR_bad he h.1 h.2
end Go.Proofs.YtnbfpmmpmblmmaaGreatDoor
