/- Marks in a list of snapshots, looked at: heldSnapS. Two snapshots that are the same, compared by the laws' own eqSnap. Lists of snapshots held against each other: eqSnapS. -/
import Derived.Test.YtfkmnmopkblopaaGreatDoorZs42
import Derived.Test.YtfkmnmopkblopaaGreatDoorZs41
import Derived.Test.YtfkmnmopkblopaaGreatDoorZs37
import Derived.Test.YtfkmnmopkblopaaGreatDoorZs39
import Derived.Deep.RegionHeld3
import Derived.Deep.MidRow
import Derived.BigQuiet
namespace Go.Proofs.YtfkmnmopkblopaaGreatDoor
set_option linter.unusedVariables false
set_option linter.unusedSimpArgs false
open Go.RowKit

set_option maxRecDepth 100000 in
set_option maxHeartbeats 2000000 in
theorem heldSnapS_any (v : Value) (n : Nat) (w : World) (h : Mkd w v n) (hn : n ≤ 31) :
    Calls Tryz.prog 11 #[v, .int .i64 1] w fun e w' => e = .returned (.int .i64 (1 + ((n * 19 : Nat) : Int))) ∧ Below w.heap.size w w' := by
  obtain ⟨a, cap, rfl, hc⟩ := h
  have HA := hide hc
  clear hc
  go_enter Tryz.func11, Tryz.ntmps11
  go_wp2
  go_loopw [1, 5] (fun kk ii wr => ∃ i : Nat, i ≤ n ∧ ii = .int .i64 i ∧ kk = .int .i64 ((1 + i * 19 : Nat) : Int) ∧ Below w.heap.size w wr) (fun _ ii _ => n - (intOf ii).toNat)
  case atStart => exact ⟨0, Nat.zero_le _, rfl, rfl, Below.refl _ _⟩
  case round =>
    obtain ⟨i, hi, rfl, rfl, hb⟩ := hrel
    have HB := hide hb
    clear hb
    by_cases hlt : i < n
    · obtain ⟨g, e0, hg, hcell⟩ := HA.out (by omega)
      subst e0
      generalize hq : 1 + i * 19 = q
      have HQ := hide hq
      have HI := hide (show ∀ W, Below w.heap.size w W → ∀ (c : Nat) (z : Int), c < 19 → c ≠ 1 → z = (q : Int) + c → W.cell? ⟨g, i * 19 + c, none⟩ = some (.int .i64 z) from fun W hW c z h1 h2 h3 => by
        rw [hW.cell (p := ⟨g, i * 19 + c, none⟩) hg, hcell (i * 19 + c) (by omega), mkv_int z (i * 19 + c) (by omega) (by omega)])
      have HN := hide (show ∀ W, Below w.heap.size w W → W.cell? ⟨g, i * 19 + 1, none⟩ = some (.string (mtS (q + 1))) from fun W hW => by
        rw [hW.cell (p := ⟨g, i * 19 + 1, none⟩) hg, hcell (i * 19 + 1) (by omega), ← mkv_str (i * 19 + 1) (by omega), show 1 + (i * 19 + 1) = q + 1 by omega])
      have hq1 : 1 ≤ q ∧ q ≤ 30000 := by omega
      clear hq hcell
      have c0 := HI.out _ HB.out 0 (q : Int) (by omega) (by omega) (by omega)
      rw [Nat.add_zero] at c0
      go_wp2_with fail
      clear c0
      refine wp_region_noPanic ?_
      refine wp_region_held_drew (S := fun w' => Below w.heap.size w w') (by kernel_rfl) (HB.out.drew) (fun hH => ?_)
      refine wpAnyH_take (i := 0) (oi := _) (v := .slice (some ⟨g, 0, none⟩) n cap) rfl (by kernel_rfl) (by kernel_rfl) (by kernel_rfl) (fun _ _ _ h => h) (Or.inl ⟨by rfl, fun w' hw' => by go_simp⟩) hH ?_
      try simp only [Act.put, List.getElem_toArray, List.getElem_cons_zero, List.getElem_cons_succ, List.setIfInBounds_toArray, List.set_cons_zero, List.set_cons_succ]
      refine wpAnyH_take (i := 1) (oi := _) (v := .int .i64 (i : Int)) rfl (by kernel_rfl) (by kernel_rfl) (by kernel_rfl) (fun _ _ _ h => h) (Or.inl ⟨by rfl, fun w' hw' => by go_simp⟩) hH ?_
      try simp only [Act.put, List.getElem_toArray, List.getElem_cons_zero, List.getElem_cons_succ, List.setIfInBounds_toArray, List.set_cons_zero, List.set_cons_succ]
      refine wpAnyH_take (i := 2) (oi := _) (v := .pointer (some ⟨g, i * 19, none⟩)) rfl (by kernel_rfl) (by kernel_rfl) (by kernel_rfl) (fun _ _ _ h => h) (Or.inl ⟨by rfl, fun w' hw' => by go_simp⟩) hH ?_
      try simp only [Act.put, List.getElem_toArray, List.getElem_cons_zero, List.getElem_cons_succ, List.setIfInBounds_toArray, List.set_cons_zero, List.set_cons_succ]
      refine wpAnyH_take (i := 3) (oi := _) (v := .pointer (some ⟨g, i * 19 + 1, none⟩)) rfl (by kernel_rfl) (by kernel_rfl) (by kernel_rfl) (fun _ _ _ h => h) (Or.inl ⟨by rfl, fun w' hw' => by go_simp⟩) hH ?_
      try simp only [Act.put, List.getElem_toArray, List.getElem_cons_zero, List.getElem_cons_succ, List.setIfInBounds_toArray, List.set_cons_zero, List.set_cons_succ]
      refine wpAnyH_take (i := 4) (oi := _) (v := .string (mtS (q + 1))) rfl (by kernel_rfl) (by kernel_rfl) (by kernel_rfl) (fun _ _ _ h => h) (Or.inl ⟨by rfl, fun w' hw' => by have hc := HN.out w' hw'; clear hw'; go_simp⟩) hH ?_
      try simp only [Act.put, List.getElem_toArray, List.getElem_cons_zero, List.getElem_cons_succ, List.setIfInBounds_toArray, List.set_cons_zero, List.set_cons_succ]
      refine wpAnyH_take (i := 5) (oi := _) (v := .int .i64 ((q : Int) + 1)) rfl (by kernel_rfl) (by kernel_rfl) (by kernel_rfl) (fun _ _ _ h => h) (Or.inl ⟨by rfl, fun w' hw' => by go_simp⟩) hH ?_
      try simp only [Act.put, List.getElem_toArray, List.getElem_cons_zero, List.getElem_cons_succ, List.setIfInBounds_toArray, List.set_cons_zero, List.set_cons_succ]
      refine wpAnyH_ready (rs := [6]) (by kernel_rfl) (by simp) ?_
      refine AllReadyH.cons (o := _) rfl (fun K hK => ?_) AllReadyH.nil
      go_simp
      refine (markTextZ _ (q + 1) _ (by omega) (by omega) (by omega)).mono ?_
      rintro e w4 ⟨rfl, b4⟩
      have H4 := hide (hH.trans (b4.mono hH.size))
      refine hK.out _ _ H4.out (fun hH => ?_)
      clear hK K b4
      try simp only [Act.put, List.getElem_toArray, List.getElem_cons_zero, List.getElem_cons_succ, List.setIfInBounds_toArray, List.set_cons_zero, List.set_cons_succ]
      refine wpAnyH_take (i := 7) (oi := _) (v := .bool false) rfl (by kernel_rfl) (by kernel_rfl) (by kernel_rfl) (fun _ _ _ h => h) (Or.inl ⟨by rfl, fun w' hw' => by have hne : ((mtS (q + 1)).toList != (mtS (q + 1)).toList) = false := (by simp); go_simp⟩) hH ?_
      try simp only [Act.put, List.getElem_toArray, List.getElem_cons_zero, List.getElem_cons_succ, List.setIfInBounds_toArray, List.set_cons_zero, List.set_cons_succ]
      refine wpAnyH_done (by kernel_rfl) (NoPanic.normal ?_) _
      clear hH
      have c2 := HI.out w4 H4.out 2 ((q : Int) + 1 + 1) (by omega) (by omega) (by omega)
      have c3 := HI.out w4 H4.out 3 ((q : Int) + 1 + 1 + 1) (by omega) (by omega) (by omega)
      have c4 := HI.out w4 H4.out 4 ((q : Int) + 1 + 1 + 1 + 1) (by omega) (by omega) (by omega)
      go_wp2
      go_loop [1, 6] (fun kk jj => ∃ j : Nat, j ≤ 12 ∧ jj = .int .i64 j ∧ kk = .int .i64 ((q + 5 + j : Nat) : Int)) (fun _ jj => 12 - (intOf jj).toNat)
      case atStart => exact ⟨0, by omega, rfl, by go_num⟩
      case round =>
        clear c2 c3 c4
        obtain ⟨j, hj, rfl, rfl⟩ := hrel
        by_cases hjt : j < 12
        · obtain ⟨J, hJ⟩ : ∃ J : Int, J = ((q + 5 + j : Nat) : Int) := ⟨_, rfl⟩
          have c := HI.out w4 H4.out (5 + j) J (by omega) (by omega) (by omega)
          rw [← Nat.add_assoc] at c
          rw [← hJ]
          have hJ1 : 0 ≤ J ∧ J ≤ 1000000000 := by omega
          have HJ := hide hJ
          clear hJ
          go_wp2
          go_round
          case rel => exact ⟨j + 1, by omega, by go_num, by have := HJ.out; go_num⟩
          case measure => simp [intOf]; omega
        · have hj12 : j = 12 := by omega
          subst hj12
          obtain ⟨J, hJ⟩ : ∃ J : Int, J = ((q + 5 + 12 : Nat) : Int) := ⟨_, rfl⟩
          have c17 := HI.out w4 H4.out 17 J (by omega) (by omega) (by omega)
          have c18 := HI.out w4 H4.out 18 (J + 1) (by omega) (by omega) (by omega)
          rw [← hJ]
          have hJ1 : 0 ≤ J ∧ J ≤ 1000000000 := by omega
          have HJ := hide hJ
          clear hJ
          go_wp2
          go_roundw
          case rel => exact ⟨i + 1, by omega, by go_num, by have := HJ.out; have := HQ.out; go_num, H4.out⟩
          case measure => simp [intOf]; omega
    · have hin : i = n := by omega
      subst hin
      go_wp2
      go_ret
      exact ⟨by go_num, HB.out⟩
end Go.Proofs.YtfkmnmopkblopaaGreatDoor

namespace Go.Proofs.YtfkmnmopkblopaaGreatDoor
set_option linter.unusedVariables false
set_option linter.unusedSimpArgs false
open Go.RowKit

set_option maxRecDepth 100000 in
set_option maxHeartbeats 2000000 in
theorem eqSnap_same (pl : Int) (nm : ByteArray) (ge cl s : Int) (ds : List Int) (p q : Int) (w : World) (hd : ds.length = 12) :
    Calls Tryz.prog 19 #[.agg (snapC pl nm ge cl s ds p q), .agg (snapC pl nm ge cl s ds p q)] w fun e w' => e = .returned (.bool true) ∧ Below w.heap.size w w' := by
  have HD := hide hd
  have HLen1 := hide (show (cellsI (rootI s ds p q)).size = 15 from by rw [cellsI_size]; exact rootI_len _ _ _ _ hd)
  obtain ⟨W, hW⟩ : ∃ W, W = (w.alloc (.cells (snapC pl nm ge cl s ds p q) 41)).alloc (.cells (snapC pl nm ge cl s ds p q) 41) := ⟨_, rfl⟩
  have KK := hide (show Blk W w.heap.size (snapC pl nm ge cl s ds p q) 41 ∧ Blk W (w.heap.size + 1) (snapC pl nm ge cl s ds p q) 41 ∧ Below w.heap.size w W from by
    rw [hW]
    refine ⟨(Blk.new w _ _).alloc _, ?_, ((Below.refl _ _).alloc (Nat.le_refl _) _).alloc (by simp) _⟩
    have h := Blk.new (w.alloc (.cells (snapC pl nm ge cl s ds p q) 41)) (snapC pl nm ge cl s ds p q) 41
    rw [World.size_alloc] at h
    exact h)
  have HW9 := hide hW
  clear hd hW
  go_enter Tryz.func19, Tryz.ntmps19
  have ca0 : W.cell? ⟨w.heap.size, 0, none⟩ = some (.int .i64 pl) := (KK.out.1.cell 0).trans rfl
  have cb0 : W.cell? ⟨w.heap.size + 1, 0, none⟩ = some (.int .i64 pl) := (KK.out.2.1.cell 0).trans rfl
  have ca1 : W.cell? ⟨w.heap.size, 1, none⟩ = some (.string nm) := (KK.out.1.cell 1).trans rfl
  have cb1 : W.cell? ⟨w.heap.size + 1, 1, none⟩ = some (.string nm) := (KK.out.2.1.cell 1).trans rfl
  have ca2 : W.cell? ⟨w.heap.size, 2, none⟩ = some (.int .i64 ge) := (KK.out.1.cell 2).trans rfl
  have cb2 : W.cell? ⟨w.heap.size + 1, 2, none⟩ = some (.int .i64 ge) := (KK.out.2.1.cell 2).trans rfl
  have ca3 : W.cell? ⟨w.heap.size, 3, none⟩ = some (.int .i64 cl) := (KK.out.1.cell 3).trans rfl
  have cb3 : W.cell? ⟨w.heap.size + 1, 3, none⟩ = some (.int .i64 cl) := (KK.out.2.1.cell 3).trans rfl
  rw [HW9.out] at KK ca0 cb0 ca1 cb1 ca2 cb2 ca3 cb3
  have R1 := hide (snap_range pl nm ge cl s ds p q KK.out.1)
  have R2 := hide (snap_range pl nm ge cl s ds p q KK.out.2.1)
  have hss : (nm.toList == nm.toList) = true := by simp
  go_wp2_with (first
    | (refine wpList_load_mid rfl 34 _ rfl w.heap.size 4 rfl ((rootI s ds p q).map (Value.int .i64)) _ R1.out Tryz.underlying34 rfl (by rw [List.length_map, ← cellsI_size, HLen1.out]; exact info15) ?_)
    | (refine wpList_load_mid rfl 34 _ rfl (w.heap.size + 1) 4 rfl ((rootI s ds p q).map (Value.int .i64)) _ R2.out Tryz.underlying34 rfl (by rw [List.length_map, ← cellsI_size, HLen1.out]; exact info15) ?_)
    | (go_at_call 33; fail))
  refine (eqRoot_same s ds p q _ HD.out).mono ?_
  rintro e w1 ⟨rfl, b1⟩
  have B3 := hide (KK.out.2.2.trans (b1.mono KK.out.2.2.size))
  clear b1 R1 R2 KK ca0 cb0 ca1 cb1 ca2 cb2 ca3 cb3
  go_wp2
  go_ret
  exact ⟨rfl, B3.out⟩
end Go.Proofs.YtfkmnmopkblopaaGreatDoor

namespace Go.Proofs.YtfkmnmopkblopaaGreatDoor
set_option linter.unusedVariables false
set_option linter.unusedSimpArgs false
open Go.RowKit

/-- Cells that are a snapshot's. -/
def IsSC (c : Array Value) : Prop := ∃ pl nm ge cl s ds p q, ds.length = 12 ∧ c = snapC pl nm ge cl s ds p q
theorem decSn_sc (zs : List Int) : IsSC (decSn zs) := by
  unfold decSn
  split
  · exact ⟨_, _, _, _, _, _, _, _, gwords_len _ _, rfl⟩
  · exact ⟨_, _, _, _, _, _, _, _, List.length_replicate .., rfl⟩
theorem snsN_sc (zs P : List Int) : ∀ k, ∀ x ∈ (snsN zs P k).1, IsSC x.1
  | 0, x, hx => by cases hx
  | k + 1, x, hx => by
    rw [snsN, stepS] at hx
    split at hx
    · exact snsN_sc zs P k x hx
    · rcases List.mem_append.1 hx with h | h
      · exact snsN_sc zs P k x h
      · rw [List.mem_singleton] at h
        subst h
        exact decSn_sc _
theorem snsL_sc (zs : List Int) : ∀ x ∈ snsL zs, IsSC x.1 := by
  unfold snsL
  split
  · exact snsN_sc _ _ _
  · intro x hx; cases hx
theorem snsL_len (zs : List Int) : (snsL zs).length ≤ 31 := by
  unfold snsL
  split
  · exact snsN_len _ _ _
  · simp
theorem eqSnapC (c : Array Value) (w : World) (h : IsSC c) : Calls Tryz.prog 19 #[.agg c, .agg c] w fun e w' => e = .returned (.bool true) ∧ Below w.heap.size w w' := by
  obtain ⟨pl, nm, ge, cl, s, ds, p, q, hd, rfl⟩ := h
  exact eqSnap_same pl nm ge cl s ds p q w hd
theorem own_sliceS {w : World} {base : Nat} {e : TypeId} {size : Nat} {v : Value} {n : Nat} {xs : List Value} (h : w.ownsRow base e size v n xs) (hn : 0 < n) : ∃ g cap, v = .slice (some ⟨g, 0, none⟩) n cap ∧ base ≤ g ∧ g < w.heap.size ∧ ∀ j u, xs[j]? = some u → w.cell? ((⟨g, 0, none⟩ : Addr).add j) = some u := by
  rcases h.2 with ⟨_, h0⟩ | ⟨g, cap, cur, rfl, hb, hg, _⟩
  · omega
  · exact ⟨g, cap, rfl, hb, (h.lt g rfl).2, h.cells rfl⟩
theorem sn_range {w : World} {g : Nat} {L : List (Array Value × ByteArray)} (hL : ∀ x ∈ L, IsSn x.1 x.2) (h : ∀ j u, (rowSn L)[j]? = some u → w.cell? ((⟨g, 0, none⟩ : Addr).add j) = some u) {k : Nat} {e : Array Value × ByteArray} (he : L[k]? = some e) : w.rangeAt g (k * 19) e.1.toList := by
  intro j u hu
  have hj : j < 19 := by
    have := (List.getElem?_eq_some_iff.1 hu).1
    rw [Array.length_toList, (hL e (List.mem_of_getElem? he)).size] at this
    exact this
  have h1 := h (k * 19 + j) u ((rowSn_get L hL k j e he hj).trans hu)
  rwa [Addr.add_mid, Nat.zero_add] at h1
set_option maxRecDepth 100000 in
set_option maxHeartbeats 1000000 in
theorem eqSnapS_same (base1 base2 : Nat) (v1 v2 : Value) (L : List (Array Value × ByteArray)) (w : World) (h1 : w.ownsRow base1 41 19 v1 L.length (rowSn L)) (h2 : w.ownsRow base2 41 19 v2 L.length (rowSn L)) (hL : L.length ≤ 31) (hi : ∀ x ∈ L, IsSn x.1 x.2) (hs : ∀ x ∈ L, IsSC x.1) :
    Calls Tryz.prog 7 #[v1, v2] w fun e w' => e = .returned (.bool true) ∧ Below w.heap.size w w' := by
  have H := hide (And.intro h1 h2)
  have HIS := hide (And.intro hi hs)
  clear hi hs
  obtain ⟨a1, cap1, rfl⟩ := ownS_shape h1
  obtain ⟨a2, cap2, rfl⟩ := ownS_shape h2
  clear h1 h2
  go_enter Tryz.func7, Tryz.ntmps7
  go_wp2
  go_loopw [5] (fun i wr => ∃ k : Nat, k ≤ L.length ∧ i = .int .i64 (k : Int) ∧ Below w.heap.size w wr) (fun i _ => L.length - (intOf i).toNat)
  case atStart => exact ⟨0, Nat.zero_le _, rfl, Below.refl _ _⟩
  case round =>
    obtain ⟨k, hk, rfl, hb⟩ := hrel
    have HB := hide hb
    clear hb
    by_cases hlt : k < L.length
    · obtain ⟨b1, c1, ee, hg1, hgl1, hcc1⟩ := own_sliceS H.out.1 (by omega)
      injection ee with e1 e2 e3
      subst e1
      subst e3
      obtain ⟨b2, c2, ee, hg2, hgl2, hcc2⟩ := own_sliceS H.out.2 (by omega)
      injection ee with e1 e4 e3
      subst e1
      subst e3
      obtain ⟨e, he⟩ : ∃ x, L[k]? = some x := ⟨_, List.getElem?_eq_getElem hlt⟩
      have HR := hide (show wr.rangeAt b1 (k * 19) e.1.toList from fun j u hu => (HB.out.cell (p := ⟨b1, k * 19 + j, none⟩) hgl1).trans (sn_range HIS.out.1 hcc1 he j u hu))
      have HR' := hide (show wr.rangeAt b2 (k * 19) e.1.toList from fun j u hu => (HB.out.cell (p := ⟨b2, k * 19 + j, none⟩) hgl2).trans (sn_range HIS.out.1 hcc2 he j u hu))
      have HX := hide (And.intro (HIS.out.1 e (List.mem_of_getElem? he)).size (HIS.out.2 e (List.mem_of_getElem? he)))
      have hl1 : b1 < wr.heap.size := Nat.lt_of_lt_of_le hgl1 HB.out.size
      have hl2 : b2 < wr.heap.size := Nat.lt_of_lt_of_le hgl2 HB.out.size
      clear hcc1 hcc2 he e2 e4 hg1 hg2
      go_wp2_with fail
      refine wp_region_noPanic ?_
      refine wp_region_held_drew (S := fun w' => w'.rangeAt b1 (k * 19) e.1.toList ∧ w'.rangeAt b2 (k * 19) e.1.toList) (by kernel_rfl) ⟨HR.out, HR'.out⟩ (fun hH => ?_)
      refine wpAnyH_take (i := 0) (oi := _) (v := .slice (some ⟨b1, 0, none⟩) L.length cap1) rfl (by kernel_rfl) (by kernel_rfl) (by kernel_rfl) (fun _ _ _ h => h) (Or.inl ⟨by rfl, fun w' hw' => by go_simp⟩) hH ?_
      try simp only [Act.put, List.getElem_toArray, List.getElem_cons_zero, List.getElem_cons_succ, List.setIfInBounds_toArray, List.set_cons_zero, List.set_cons_succ]
      refine wpAnyH_take (i := 1) (oi := _) (v := .int .i64 (k : Int)) rfl (by kernel_rfl) (by kernel_rfl) (by kernel_rfl) (fun _ _ _ h => h) (Or.inl ⟨by rfl, fun w' hw' => by go_simp⟩) hH ?_
      try simp only [Act.put, List.getElem_toArray, List.getElem_cons_zero, List.getElem_cons_succ, List.setIfInBounds_toArray, List.set_cons_zero, List.set_cons_succ]
      refine wpAnyH_take (i := 2) (oi := _) (v := .pointer (some ⟨b1, k * 19, none⟩)) rfl (by kernel_rfl) (by kernel_rfl) (by kernel_rfl) (fun _ _ _ h => h) (Or.inl ⟨by rfl, fun w' hw' => by go_simp⟩) hH ?_
      try simp only [Act.put, List.getElem_toArray, List.getElem_cons_zero, List.getElem_cons_succ, List.setIfInBounds_toArray, List.set_cons_zero, List.set_cons_succ]
      refine wpAnyH_take (i := 3) (oi := _) (v := .agg e.1) rfl (by kernel_rfl) (by kernel_rfl) (by kernel_rfl) (fun _ _ _ h => h) (yieldsIf_load_mid (by rfl) 41 _ rfl b1 (k * 19) rfl e.1.toList _ (fun w' h => h.1) Tryz.underlying41 rfl (by rw [Array.length_toList, HX.out.1]; exact infoSn)) hH ?_
      try simp only [Act.put, List.getElem_toArray, List.getElem_cons_zero, List.getElem_cons_succ, List.setIfInBounds_toArray, List.set_cons_zero, List.set_cons_succ]
      refine wpAnyH_take (i := 4) (oi := _) (v := .slice (some ⟨b2, 0, none⟩) L.length cap2) rfl (by kernel_rfl) (by kernel_rfl) (by kernel_rfl) (fun _ _ _ h => h) (Or.inl ⟨by rfl, fun w' hw' => by go_simp⟩) hH ?_
      try simp only [Act.put, List.getElem_toArray, List.getElem_cons_zero, List.getElem_cons_succ, List.setIfInBounds_toArray, List.set_cons_zero, List.set_cons_succ]
      refine wpAnyH_take (i := 5) (oi := _) (v := .int .i64 (k : Int)) rfl (by kernel_rfl) (by kernel_rfl) (by kernel_rfl) (fun _ _ _ h => h) (Or.inl ⟨by rfl, fun w' hw' => by go_simp⟩) hH ?_
      try simp only [Act.put, List.getElem_toArray, List.getElem_cons_zero, List.getElem_cons_succ, List.setIfInBounds_toArray, List.set_cons_zero, List.set_cons_succ]
      refine wpAnyH_take (i := 6) (oi := _) (v := .pointer (some ⟨b2, k * 19, none⟩)) rfl (by kernel_rfl) (by kernel_rfl) (by kernel_rfl) (fun _ _ _ h => h) (Or.inl ⟨by rfl, fun w' hw' => by go_simp⟩) hH ?_
      try simp only [Act.put, List.getElem_toArray, List.getElem_cons_zero, List.getElem_cons_succ, List.setIfInBounds_toArray, List.set_cons_zero, List.set_cons_succ]
      refine wpAnyH_take (i := 7) (oi := _) (v := .agg e.1) rfl (by kernel_rfl) (by kernel_rfl) (by kernel_rfl) (fun _ _ _ h => h) (yieldsIf_load_mid (by rfl) 41 _ rfl b2 (k * 19) rfl e.1.toList _ (fun w' h => h.2) Tryz.underlying41 rfl (by rw [Array.length_toList, HX.out.1]; exact infoSn)) hH ?_
      try simp only [Act.put, List.getElem_toArray, List.getElem_cons_zero, List.getElem_cons_succ, List.setIfInBounds_toArray, List.set_cons_zero, List.set_cons_succ]
      refine wpAnyH_ready (rs := [8]) (by kernel_rfl) (by simp) ?_
      refine AllReadyH.cons (o := _) rfl (fun K hK => ?_) AllReadyH.nil
      go_simp
      refine (eqSnapC e.1 _ HX.out.2).mono ?_
      rintro x w2 ⟨rfl, bb⟩
      have b3 := ((Below.refl _ _).drew).trans bb
      have B2 := hide (HB.out.trans (b3.mono HB.out.size))
      have s2 : w2.rangeAt b1 (k * 19) e.1.toList ∧ w2.rangeAt b2 (k * 19) e.1.toList := ⟨fun j u hu => (b3.cell (p := ⟨b1, k * 19 + j, none⟩) hl1).trans (HR.out j u hu), fun j u hu => (b3.cell (p := ⟨b2, k * 19 + j, none⟩) hl2).trans (HR'.out j u hu)⟩
      refine hK.out _ _ s2 (fun hH => ?_)
      clear hK K s2 bb b3 HB
      try simp only [Act.put, List.getElem_toArray, List.getElem_cons_zero, List.getElem_cons_succ, List.setIfInBounds_toArray, List.set_cons_zero, List.set_cons_succ]
      refine wpAnyH_take (i := 9) (oi := _) (v := .bool false) rfl (by kernel_rfl) (by kernel_rfl) (by kernel_rfl) (fun _ _ _ h => h) (Or.inl ⟨by rfl, fun w' hw' => by go_simp⟩) hH ?_
      try simp only [Act.put, List.getElem_toArray, List.getElem_cons_zero, List.getElem_cons_succ, List.setIfInBounds_toArray, List.set_cons_zero, List.set_cons_succ]
      refine wpAnyH_done (by kernel_rfl) (NoPanic.normal ?_) _
      go_wp2
      go_roundw
      case rel => exact ⟨k + 1, by omega, by go_num, B2.out⟩
      case measure => simp [intOf]; omega
    · go_wp2
      go_ret
      exact ⟨rfl, HB.out⟩

end Go.Proofs.YtfkmnmopkblopaaGreatDoor
