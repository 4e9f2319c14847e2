/- Two slices of DiskOp that are the same. -/
import Derived.Test.YthghibopnnjboaaZi27
import Derived.Deep.MidRow
import Derived.Deep.RegionHeld3
namespace Go.Proofs.Ythghibopnnjboaa
set_option linter.unusedVariables false
set_option linter.unusedSimpArgs false
open Go.RowKit

/-- A DiskOp as an element. -/
def neD (p : Int × Int × List Int) : NE := ([.int .i64 p.1, .int .i64 p.2.1], p.2.2)
theorem neD_pre (P : List (Int × Int × List Int)) : ∀ l ∈ P.map neD, l.1.length = 2 := by
  intro l hl
  rw [List.mem_map] at hl
  obtain ⟨p, _, rfl⟩ := hl
  rfl
theorem infoD3 : (Try.prog.info? 30).map (·.size) = some 3 := by kernel_rfl

set_option maxRecDepth 100000 in
theorem eqDiskOp_same (x0 x1 : Int) (u1 u2 : Value) (zs : List Int) (w : World) (h1 : Rd .u8 w u1 zs) (h2 : Rd .u8 w u2 zs) :
    Calls Try.prog 38 #[.agg #[.int .i64 x0, .int .i64 x1, u1], .agg #[.int .i64 x0, .int .i64 x1, u2]] w fun e w' => e = .returned (.bool true) ∧ Below w.heap.size w w' := by
  obtain ⟨a1, c1, rfl⟩ := rd_shape h1
  obtain ⟨a2, c2, rfl⟩ := rd_shape h2
  have HB := hide (show ∀ A B, Below w.heap.size w ((w.alloc A).alloc B) from fun A B => ((Below.refl _ _).alloc (Nat.le_refl _) _).alloc (by simp) _)
  have H1 := hide h1
  have H2 := hide h2
  clear h1 h2
  have qx0 : (x0 != x0) = false := by simp
  have qx1 : (x1 != x1) = false := by simp
  go_enter Try.func38, Try.ntmps38
  go_wp2_with fail
  refine (eqByteS_same _ _ zs _ (H1.out.below (HB.out _ _)) (H2.out.below (HB.out _ _))).mono ?_
  rintro e w1 ⟨rfl, b1⟩
  have B1 := hide ((HB.out _ _).trans (b1.mono (HB.out _ _).size))
  clear b1
  go_wp2
  go_ret
  exact ⟨rfl, B1.out⟩

set_option maxRecDepth 100000 in
set_option maxHeartbeats 2000000 in
theorem eqDiskOpS_same (v1 v2 : Value) (P : List (Int × Int × List Int)) (us1 us2 : List Value) (w : World) (h1 : RdN w 2 v1 (P.map neD) us1) (h2 : RdN w 2 v2 (P.map neD) us2) :
    Calls Try.prog 19 #[v1, v2] w fun e w' => e = .returned (.bool true) ∧ Below w.heap.size w w' := by
  obtain ⟨a1, c1, rfl⟩ : ∃ a cap, v1 = .slice a P.length cap := by obtain ⟨a, cap, e, _⟩ := h1.row; exact ⟨a, cap, by simpa using e⟩
  obtain ⟨a2, c2, rfl⟩ : ∃ a cap, v2 = .slice a P.length cap := by obtain ⟨a, cap, e, _⟩ := h2.row; exact ⟨a, cap, by simpa using e⟩
  have hm : P.length ≤ 9223372036854775807 := by obtain ⟨a, cap, _, _, g1, g2⟩ := h1.row; unfold maxLen at g2; simp at g1; omega
  have H1 := hide (show RdN w 2 (.slice a1 (P.map neD).length c1) (P.map neD) us1 from by simpa using h1)
  have H2 := hide (show RdN w 2 (.slice a2 (P.map neD).length c2) (P.map neD) us2 from by simpa using h2)
  clear h1 h2
  have hcc : ((P.length : Int) != (P.length : Int)) = false := by simp
  go_enter Try.func19, Try.ntmps19
  go_wp2
  go_loopw [5] (fun i wr => ∃ k : Nat, k ≤ P.length ∧ i = .int .i64 k ∧ Below w.heap.size w wr) (fun i _ => P.length - (intOf i).toNat)
  case atStart => exact ⟨0, Nat.zero_le _, rfl, Below.refl _ _⟩
  case round =>
    obtain ⟨k, hk, rfl, hb1⟩ := hrel
    have HK := hide hb1
    clear hb1
    by_cases hlt : k < P.length
    · obtain ⟨p, hp⟩ : ∃ p, P[k]? = some p := ⟨_, List.getElem?_eq_getElem hlt⟩
      obtain ⟨x0, x1, zs⟩ := p
      obtain ⟨b, off, u, e0, hb0, hu, hrd, hrg⟩ := (H1.out.below HK.out).at (i := k) (l := neD (x0, x1, zs)) (by rw [List.getElem?_map, hp]; rfl)
      obtain ⟨b', off', u', e0', hb0', hu', hrd', hrg'⟩ := (H2.out.below HK.out).at (i := k) (l := neD (x0, x1, zs)) (by rw [List.getElem?_map, hp]; rfl)
      subst e0
      subst e0'
      have HR := hide (show wr.rangeAt b (off + k * 3) [.int .i64 x0, .int .i64 x1, u] from hrg)
      have HR' := hide (show wr.rangeAt b' (off' + k * 3) [.int .i64 x0, .int .i64 x1, u'] from hrg')
      have HD := hide (And.intro (show Rd .u8 wr u zs from hrd) (show Rd .u8 wr u' zs from hrd'))
      clear hrg hrg' hrd hrd' hu hu' hp
      go_wp2_with fail
      refine wp_region_noPanic ?_
      refine wp_region_held_drew (S := fun w' => w'.rangeAt b (off + k * 3) [.int .i64 x0, .int .i64 x1, u] ∧ w'.rangeAt b' (off' + k * 3) [.int .i64 x0, .int .i64 x1, u']) (by kernel_rfl) ⟨HR.out, HR'.out⟩ (fun hH => ?_)
      refine wpAnyH_take (i := 0) (oi := _) (v := .slice (some ⟨b, off, none⟩) P.length c1) rfl (by kernel_rfl) (by kernel_rfl) (by kernel_rfl) (fun _ _ _ h => h) (Or.inl ⟨by rfl, fun w' hw' => by go_simp⟩) hH ?_
      try simp only [Act.put, List.getElem_toArray, List.getElem_cons_zero, List.getElem_cons_succ, List.setIfInBounds_toArray, List.set_cons_zero, List.set_cons_succ]
      refine wpAnyH_take (i := 1) (oi := _) (v := .int .i64 k) rfl (by kernel_rfl) (by kernel_rfl) (by kernel_rfl) (fun _ _ _ h => h) (Or.inl ⟨by rfl, fun w' hw' => by go_simp⟩) hH ?_
      try simp only [Act.put, List.getElem_toArray, List.getElem_cons_zero, List.getElem_cons_succ, List.setIfInBounds_toArray, List.set_cons_zero, List.set_cons_succ]
      refine wpAnyH_take (i := 2) (oi := _) (v := .pointer (some ⟨b, off + k * 3, none⟩)) rfl (by kernel_rfl) (by kernel_rfl) (by kernel_rfl) (fun _ _ _ h => h) (Or.inl ⟨by rfl, fun w' hw' => by go_simp⟩) hH ?_
      try simp only [Act.put, List.getElem_toArray, List.getElem_cons_zero, List.getElem_cons_succ, List.setIfInBounds_toArray, List.set_cons_zero, List.set_cons_succ]
      refine wpAnyH_take (i := 3) (oi := _) (v := .agg #[.int .i64 x0, .int .i64 x1, u]) rfl (by kernel_rfl) (by kernel_rfl) (by kernel_rfl) (fun _ _ _ h => h) (yieldsIf_load_mid (by rfl) 30 _ rfl b (off + k * 3) rfl [.int .i64 x0, .int .i64 x1, u] _ (fun w' h => h.1) Try.underlying30 rfl infoD3) hH ?_
      try simp only [Act.put, List.getElem_toArray, List.getElem_cons_zero, List.getElem_cons_succ, List.setIfInBounds_toArray, List.set_cons_zero, List.set_cons_succ]
      refine wpAnyH_take (i := 4) (oi := _) (v := .slice (some ⟨b', off', none⟩) P.length c2) rfl (by kernel_rfl) (by kernel_rfl) (by kernel_rfl) (fun _ _ _ h => h) (Or.inl ⟨by rfl, fun w' hw' => by go_simp⟩) hH ?_
      try simp only [Act.put, List.getElem_toArray, List.getElem_cons_zero, List.getElem_cons_succ, List.setIfInBounds_toArray, List.set_cons_zero, List.set_cons_succ]
      refine wpAnyH_take (i := 5) (oi := _) (v := .int .i64 k) rfl (by kernel_rfl) (by kernel_rfl) (by kernel_rfl) (fun _ _ _ h => h) (Or.inl ⟨by rfl, fun w' hw' => by go_simp⟩) hH ?_
      try simp only [Act.put, List.getElem_toArray, List.getElem_cons_zero, List.getElem_cons_succ, List.setIfInBounds_toArray, List.set_cons_zero, List.set_cons_succ]
      refine wpAnyH_take (i := 6) (oi := _) (v := .pointer (some ⟨b', off' + k * 3, none⟩)) rfl (by kernel_rfl) (by kernel_rfl) (by kernel_rfl) (fun _ _ _ h => h) (Or.inl ⟨by rfl, fun w' hw' => by go_simp⟩) hH ?_
      try simp only [Act.put, List.getElem_toArray, List.getElem_cons_zero, List.getElem_cons_succ, List.setIfInBounds_toArray, List.set_cons_zero, List.set_cons_succ]
      refine wpAnyH_take (i := 7) (oi := _) (v := .agg #[.int .i64 x0, .int .i64 x1, u']) rfl (by kernel_rfl) (by kernel_rfl) (by kernel_rfl) (fun _ _ _ h => h) (yieldsIf_load_mid (by rfl) 30 _ rfl b' (off' + k * 3) rfl [.int .i64 x0, .int .i64 x1, u'] _ (fun w' h => h.2) Try.underlying30 rfl infoD3) hH ?_
      try simp only [Act.put, List.getElem_toArray, List.getElem_cons_zero, List.getElem_cons_succ, List.setIfInBounds_toArray, List.set_cons_zero, List.set_cons_succ]
      refine wpAnyH_ready (rs := [8]) (by kernel_rfl) (by simp) ?_
      refine AllReadyH.cons (o := _) rfl (fun K hK => ?_) AllReadyH.nil
      go_simp
      refine (eqDiskOp_same x0 x1 _ _ zs _ (HD.out.1.below ((Below.refl _ _).drew)) (HD.out.2.below ((Below.refl _ _).drew))).mono ?_
      rintro e w2 ⟨rfl, b2⟩
      have b3 := ((Below.refl _ _).drew).trans b2
      have B2 := hide (HK.out.trans (b3.mono HK.out.size))
      have s2 : w2.rangeAt b (off + k * 3) [.int .i64 x0, .int .i64 x1, u] ∧ w2.rangeAt b' (off' + k * 3) [.int .i64 x0, .int .i64 x1, u'] := ⟨fun j v hv => (b3.cell (p := ⟨b, off + k * 3 + j, none⟩) hb0).trans (HR.out j v hv), fun j v hv => (b3.cell (p := ⟨b', off' + k * 3 + j, none⟩) hb0').trans (HR'.out j v hv)⟩
      refine hK.out _ _ s2 (fun hH => ?_)
      clear hK K s2 b2 b3 HK
      try simp only [Act.put, List.getElem_toArray, List.getElem_cons_zero, List.getElem_cons_succ, List.setIfInBounds_toArray, List.set_cons_zero, List.set_cons_succ]
      refine wpAnyH_take (i := 9) (oi := _) (v := .bool false) rfl (by kernel_rfl) (by kernel_rfl) (by kernel_rfl) (fun _ _ _ h => h) (Or.inl ⟨by rfl, fun w' hw' => by go_simp⟩) hH ?_
      try simp only [Act.put, List.getElem_toArray, List.getElem_cons_zero, List.getElem_cons_succ, List.setIfInBounds_toArray, List.set_cons_zero, List.set_cons_succ]
      refine wpAnyH_done (by kernel_rfl) (NoPanic.normal ?_) _
      clear hH
      go_wp2
      go_roundw
      case rel => exact ⟨k + 1, by omega, by go_num, B2.out⟩
      case measure => simp [intOf]; omega
    · go_wp2
      go_ret
      exact ⟨rfl, HK.out⟩

end Go.Proofs.Ythghibopnnjboaa
