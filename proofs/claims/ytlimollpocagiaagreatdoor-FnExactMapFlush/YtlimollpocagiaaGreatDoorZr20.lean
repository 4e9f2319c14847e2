/- The numbers of a tree while it is renewed: at. -/
import Derived.Test.YtlimollpocagiaaGreatDoorZr19
import Derived.Deep.RegionHeld3
import Derived.Deep.MidRow
namespace Go.Proofs.YtlimollpocagiaaGreatDoor
open List (getElem_toArray getElem_cons_zero getElem_cons_succ setIfInBounds_toArray set_cons_zero set_cons_succ)
set_option linter.unusedVariables false
set_option linter.unusedSimpArgs false
open Go.RowKit

set_option maxRecDepth 100000 in
set_option maxHeartbeats 1000000 in
theorem at_any (b off l r : Nat) (sv : Value) (L : List Int) (w : World) (hl : l < 3) (hr : r ≤ 100000) (hb : b < w.heap.size) (hc : w.cell? ⟨b, off + l, none⟩ = some sv) (hR : Rd .i64 w sv L) :
    Calls Tryz.prog 71 #[.pointer (some ⟨b, off, none⟩), spotV l r] w fun e w' => e = .returned (.int .i64 (L.getD r 0)) ∧ Below w.heap.size w w' := by
  obtain ⟨sa, sc, rfl⟩ := rd_shapeT hR
  obtain ⟨_, hc1, hc2⟩ := rd_capI hR
  have hcm : sc ≤ 9223372036854775807 := by unfold maxLen at hc2; omega
  have HB0 := hide (show Below w.heap.size w (w.alloc (.cells #[.int .i64 (l : Int), .int .i64 (r : Int)] 123)) from (Below.refl _ _).alloc (Nat.le_refl _) _)
  have K0 := hide (Blk.new w #[.int .i64 (l : Int), .int .i64 (r : Int)] 123)
  have HS := hide (show ((w.alloc (.cells #[.int .i64 (l : Int), .int .i64 (r : Int)] 123)).cell? ⟨w.heap.size, 0, none⟩ = some (.int .i64 (l : Int)) ∧ (w.alloc (.cells #[.int .i64 (l : Int), .int .i64 (r : Int)] 123)).cell? ⟨w.heap.size, 1, none⟩ = some (.int .i64 (r : Int)) ∧ (w.alloc (.cells #[.int .i64 (l : Int), .int .i64 (r : Int)] 123)).cell? ⟨b, off + l, none⟩ = some (.slice sa L.length sc)) from ⟨(K0.out.cell 0).trans rfl, (K0.out.cell 1).trans rfl, (HB0.out.cell (p := ⟨b, off + l, none⟩) hb).trans hc⟩)
  have HRd := hide (hR.below HB0.out)
  have hl3 : (l : Int) < 3 := by omega
  obtain ⟨x, hx⟩ : ∃ x, x = L.getD r 0 := ⟨_, rfl⟩
  rw [← hx]
  have HX := hide hx
  clear hc hR hb hc1 hc2 hx
  go_enter Tryz.func71, Tryz.ntmps71
  go_upto_region 1 with fail
  generalize hW0 : w.alloc (.cells #[.int .i64 (l : Int), .int .i64 (r : Int)] 123) = W0 at HB0 HS HRd
  clear hW0 K0
  refine wp_region_noPanic ?_
  refine wp_region_held_drew (S := fun w' => w'.cell? ⟨w.heap.size, 0, none⟩ = some (.int .i64 (l : Int)) ∧ w'.cell? ⟨w.heap.size, 1, none⟩ = some (.int .i64 (r : Int)) ∧ w'.cell? ⟨b, off + l, none⟩ = some (.slice sa L.length sc)) (by kernel_rfl) HS.out (fun hH => ?_)
  refine wpAnyH_take (i := 0) (oi := _) (v := .pointer (some ⟨w.heap.size, 1, none⟩)) rfl (by kernel_rfl) (by kernel_rfl) (by kernel_rfl) (fun _ _ _ h => h) (Or.inl ⟨by rfl, fun w' hw' => by obtain ⟨d0, d1, d2⟩ := hw'; go_simp⟩) hH ?_
  try simp only [Act.put, getElem_toArray, getElem_cons_zero, getElem_cons_succ, setIfInBounds_toArray, set_cons_zero, set_cons_succ]
  refine wpAnyH_take (i := 1) (oi := _) (v := .int .i64 (r : Int)) rfl (by kernel_rfl) (by kernel_rfl) (by kernel_rfl) (fun _ _ _ h => h) (Or.inl ⟨by rfl, fun w' hw' => by obtain ⟨d0, d1, d2⟩ := hw'; go_simp⟩) hH ?_
  try simp only [Act.put, getElem_toArray, getElem_cons_zero, getElem_cons_succ, setIfInBounds_toArray, set_cons_zero, set_cons_succ]
  refine wpAnyH_take (i := 2) (oi := _) (v := .pointer (some ⟨b, off, none⟩)) rfl (by kernel_rfl) (by kernel_rfl) (by kernel_rfl) (fun _ _ _ h => h) (Or.inl ⟨by rfl, fun w' hw' => by obtain ⟨d0, d1, d2⟩ := hw'; go_simp⟩) hH ?_
  try simp only [Act.put, getElem_toArray, getElem_cons_zero, getElem_cons_succ, setIfInBounds_toArray, set_cons_zero, set_cons_succ]
  refine wpAnyH_take (i := 3) (oi := _) (v := .pointer (some ⟨w.heap.size, 0, none⟩)) rfl (by kernel_rfl) (by kernel_rfl) (by kernel_rfl) (fun _ _ _ h => h) (Or.inl ⟨by rfl, fun w' hw' => by obtain ⟨d0, d1, d2⟩ := hw'; go_simp⟩) hH ?_
  try simp only [Act.put, getElem_toArray, getElem_cons_zero, getElem_cons_succ, setIfInBounds_toArray, set_cons_zero, set_cons_succ]
  refine wpAnyH_take (i := 4) (oi := _) (v := .int .i64 (l : Int)) rfl (by kernel_rfl) (by kernel_rfl) (by kernel_rfl) (fun _ _ _ h => h) (Or.inl ⟨by rfl, fun w' hw' => by obtain ⟨d0, d1, d2⟩ := hw'; go_simp⟩) hH ?_
  try simp only [Act.put, getElem_toArray, getElem_cons_zero, getElem_cons_succ, setIfInBounds_toArray, set_cons_zero, set_cons_succ]
  refine wpAnyH_take (i := 5) (oi := _) (v := .pointer (some ⟨b, off, none⟩)) rfl (by kernel_rfl) (by kernel_rfl) (by kernel_rfl) (fun _ _ _ h => h) (Or.inl ⟨by rfl, fun w' hw' => by obtain ⟨d0, d1, d2⟩ := hw'; go_simp⟩) hH ?_
  try simp only [Act.put, getElem_toArray, getElem_cons_zero, getElem_cons_succ, setIfInBounds_toArray, set_cons_zero, set_cons_succ]
  refine wpAnyH_take (i := 6) (oi := _) (v := .pointer (some ⟨b, off + l, none⟩)) rfl (by kernel_rfl) (by kernel_rfl) (by kernel_rfl) (fun _ _ _ h => h) (Or.inl ⟨by rfl, fun w' hw' => by obtain ⟨d0, d1, d2⟩ := hw'; go_simp⟩) hH ?_
  try simp only [Act.put, getElem_toArray, getElem_cons_zero, getElem_cons_succ, setIfInBounds_toArray, set_cons_zero, set_cons_succ]
  refine wpAnyH_take (i := 7) (oi := _) (v := .slice sa L.length sc) rfl (by kernel_rfl) (by kernel_rfl) (by kernel_rfl) (fun _ _ _ h => h) (Or.inl ⟨by rfl, fun w' hw' => by obtain ⟨d0, d1, d2⟩ := hw'; go_simp⟩) hH ?_
  try simp only [Act.put, getElem_toArray, getElem_cons_zero, getElem_cons_succ, setIfInBounds_toArray, set_cons_zero, set_cons_succ]
  refine wpAnyH_take (i := 8) (oi := _) (v := .int .i64 (L.length : Int)) rfl (by kernel_rfl) (by kernel_rfl) (by kernel_rfl) (fun _ _ _ h => h) (Or.inl ⟨by rfl, fun w' hw' => by obtain ⟨d0, d1, d2⟩ := hw'; go_simp⟩) hH ?_
  try simp only [Act.put, getElem_toArray, getElem_cons_zero, getElem_cons_succ, setIfInBounds_toArray, set_cons_zero, set_cons_succ]
  refine wpAnyH_take (i := 9) (oi := _) (v := .bool (decide ((L.length : Int) ≤ (r : Int)))) rfl (by kernel_rfl) (by kernel_rfl) (by kernel_rfl) (fun _ _ _ h => h) (Or.inl ⟨by rfl, fun w' hw' => by obtain ⟨d0, d1, d2⟩ := hw'; go_simp⟩) hH ?_
  try simp only [Act.put, getElem_toArray, getElem_cons_zero, getElem_cons_succ, setIfInBounds_toArray, set_cons_zero, set_cons_succ]
  refine wpAnyH_done (by kernel_rfl) (NoPanic.normal ?_) _
  clear hH
  by_cases hlr : (L.length : Int) ≤ (r : Int)
  · have HG := hide (show x = 0 from by rw [HX.out, List.getD, List.getElem?_eq_none (by omega)]; rfl)
    go_wp2
    go_ret
    exact ⟨by rw [HG.out]; rfl, HB0.out.drew⟩
  · obtain ⟨eb, eo, ec, e, _, _, _, hcell⟩ := HRd.out.partsC (by omega)
    injection e with e1 e2 e3
    subst e1
    have hcx := hcell r (by omega)
    rw [← HX.out] at hcx
    have hrI : (r : Int) < (L.length : Int) := by omega
    have HS2 := hide (And.intro HS.out.1 (And.intro HS.out.2.1 (And.intro HS.out.2.2 hcx)))
    clear hcell hcx e2 e3
    go_upto_region 3 with fail
    refine wp_region_noPanic ?_
    refine wp_region_held_drew (S := fun w' => w'.cell? ⟨w.heap.size, 0, none⟩ = some (.int .i64 (l : Int)) ∧ w'.cell? ⟨w.heap.size, 1, none⟩ = some (.int .i64 (r : Int)) ∧ w'.cell? ⟨b, off + l, none⟩ = some (.slice (some ⟨eb, eo, none⟩) L.length sc) ∧ w'.cell? ⟨eb, eo + r, none⟩ = some (.int .i64 x)) (by kernel_rfl) HS2.out (fun hH => ?_)
    refine wpAnyH_take (i := 0) (oi := _) (v := .pointer (some ⟨b, off, none⟩)) rfl (by kernel_rfl) (by kernel_rfl) (by kernel_rfl) (fun _ _ _ h => h) (Or.inl ⟨by rfl, fun w' hw' => by obtain ⟨d0, d1, d2, d3⟩ := hw'; go_simp⟩) hH ?_
    try simp only [Act.put, getElem_toArray, getElem_cons_zero, getElem_cons_succ, setIfInBounds_toArray, set_cons_zero, set_cons_succ]
    refine wpAnyH_take (i := 1) (oi := _) (v := .pointer (some ⟨w.heap.size, 0, none⟩)) rfl (by kernel_rfl) (by kernel_rfl) (by kernel_rfl) (fun _ _ _ h => h) (Or.inl ⟨by rfl, fun w' hw' => by obtain ⟨d0, d1, d2, d3⟩ := hw'; go_simp⟩) hH ?_
    try simp only [Act.put, getElem_toArray, getElem_cons_zero, getElem_cons_succ, setIfInBounds_toArray, set_cons_zero, set_cons_succ]
    refine wpAnyH_take (i := 2) (oi := _) (v := .int .i64 (l : Int)) rfl (by kernel_rfl) (by kernel_rfl) (by kernel_rfl) (fun _ _ _ h => h) (Or.inl ⟨by rfl, fun w' hw' => by obtain ⟨d0, d1, d2, d3⟩ := hw'; go_simp⟩) hH ?_
    try simp only [Act.put, getElem_toArray, getElem_cons_zero, getElem_cons_succ, setIfInBounds_toArray, set_cons_zero, set_cons_succ]
    refine wpAnyH_take (i := 3) (oi := _) (v := .pointer (some ⟨b, off, none⟩)) rfl (by kernel_rfl) (by kernel_rfl) (by kernel_rfl) (fun _ _ _ h => h) (Or.inl ⟨by rfl, fun w' hw' => by obtain ⟨d0, d1, d2, d3⟩ := hw'; go_simp⟩) hH ?_
    try simp only [Act.put, getElem_toArray, getElem_cons_zero, getElem_cons_succ, setIfInBounds_toArray, set_cons_zero, set_cons_succ]
    refine wpAnyH_take (i := 4) (oi := _) (v := .pointer (some ⟨b, off + l, none⟩)) rfl (by kernel_rfl) (by kernel_rfl) (by kernel_rfl) (fun _ _ _ h => h) (Or.inl ⟨by rfl, fun w' hw' => by obtain ⟨d0, d1, d2, d3⟩ := hw'; go_simp⟩) hH ?_
    try simp only [Act.put, getElem_toArray, getElem_cons_zero, getElem_cons_succ, setIfInBounds_toArray, set_cons_zero, set_cons_succ]
    refine wpAnyH_take (i := 5) (oi := _) (v := .slice (some ⟨eb, eo, none⟩) L.length sc) rfl (by kernel_rfl) (by kernel_rfl) (by kernel_rfl) (fun _ _ _ h => h) (Or.inl ⟨by rfl, fun w' hw' => by obtain ⟨d0, d1, d2, d3⟩ := hw'; go_simp⟩) hH ?_
    try simp only [Act.put, getElem_toArray, getElem_cons_zero, getElem_cons_succ, setIfInBounds_toArray, set_cons_zero, set_cons_succ]
    refine wpAnyH_take (i := 6) (oi := _) (v := .pointer (some ⟨w.heap.size, 1, none⟩)) rfl (by kernel_rfl) (by kernel_rfl) (by kernel_rfl) (fun _ _ _ h => h) (Or.inl ⟨by rfl, fun w' hw' => by obtain ⟨d0, d1, d2, d3⟩ := hw'; go_simp⟩) hH ?_
    try simp only [Act.put, getElem_toArray, getElem_cons_zero, getElem_cons_succ, setIfInBounds_toArray, set_cons_zero, set_cons_succ]
    refine wpAnyH_take (i := 7) (oi := _) (v := .int .i64 (r : Int)) rfl (by kernel_rfl) (by kernel_rfl) (by kernel_rfl) (fun _ _ _ h => h) (Or.inl ⟨by rfl, fun w' hw' => by obtain ⟨d0, d1, d2, d3⟩ := hw'; go_simp⟩) hH ?_
    try simp only [Act.put, getElem_toArray, getElem_cons_zero, getElem_cons_succ, setIfInBounds_toArray, set_cons_zero, set_cons_succ]
    refine wpAnyH_take (i := 8) (oi := _) (v := .pointer (some ⟨eb, eo + r, none⟩)) rfl (by kernel_rfl) (by kernel_rfl) (by kernel_rfl) (fun _ _ _ h => h) (Or.inl ⟨by rfl, fun w' hw' => by obtain ⟨d0, d1, d2, d3⟩ := hw'; go_simp⟩) hH ?_
    try simp only [Act.put, getElem_toArray, getElem_cons_zero, getElem_cons_succ, setIfInBounds_toArray, set_cons_zero, set_cons_succ]
    refine wpAnyH_take (i := 9) (oi := _) (v := .int .i64 x) rfl (by kernel_rfl) (by kernel_rfl) (by kernel_rfl) (fun _ _ _ h => h) (Or.inl ⟨by rfl, fun w' hw' => by obtain ⟨d0, d1, d2, d3⟩ := hw'; go_simp⟩) hH ?_
    try simp only [Act.put, getElem_toArray, getElem_cons_zero, getElem_cons_succ, setIfInBounds_toArray, set_cons_zero, set_cons_succ]
    refine wpAnyH_take (i := 10) (oi := _) (v := .int .i64 x) rfl (by kernel_rfl) (by kernel_rfl) (by kernel_rfl) (fun _ _ _ h => h) (Or.inl ⟨by rfl, fun w' hw' => by obtain ⟨d0, d1, d2, d3⟩ := hw'; go_simp⟩) hH ?_
    try simp only [Act.put, getElem_toArray, getElem_cons_zero, getElem_cons_succ, setIfInBounds_toArray, set_cons_zero, set_cons_succ]
    refine wpAnyH_done (by kernel_rfl) (NoPanic.normal ?_) _
    clear hH
    go_wp2
    go_ret
    exact ⟨rfl, HB0.out.drew.drew⟩
end Go.Proofs.YtlimollpocagiaaGreatDoor
