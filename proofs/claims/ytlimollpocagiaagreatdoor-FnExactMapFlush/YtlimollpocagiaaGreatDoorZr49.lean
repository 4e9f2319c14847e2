/- What a struct that came in is opened with. A root that came in, opened: fifteen integers (as RootO, with no law beside it). -/
import Derived.Test.YtlimollpocagiaaGreatDoorZr09
import Derived.ProofKit
import Derived.OpenShut
namespace Go.Proofs.YtlimollpocagiaaGreatDoor
set_option linter.unusedVariables false
set_option linter.unusedSimpArgs false
open Go.ChangeShapes Go.WideShapes Go.ChangeAt Go.RowKit

theorem cells1 : Tryz.prog.cellsOf 3 = 1 := by kernel_rfl
theorem cells12 : Tryz.prog.cellsOf 26 = 12 := by kernel_rfl
theorem cellsL15 : Tryz.prog.cellsOf 46 = 15 := by kernel_rfl
theorem take_one {l : List Value} {o : Nat} {c : Value} (h : (l.drop o).take 1 = [c]) : l[o]? = some c := by
  have h2 : ((l.drop o).take 1)[0]? = some c := by rw [h]; rfl
  simpa using h2

theorem ints_of_cells : ∀ (l : List Value), (∀ i, i < l.length → ∃ a, l[i]? = some (.int .i64 a)) → ∃ rs : List Int, l = rs.map (Value.int .i64)
  | [], _ => ⟨[], rfl⟩
  | c :: l, h => by
    obtain ⟨a, ha⟩ := h 0 (by simp)
    obtain ⟨rs, hrs⟩ := ints_of_cells l (fun i hi => by have := h (i + 1) (by simpa using hi); simpa using this)
    simp at ha
    exact ⟨a :: rs, by rw [ha, hrs]; rfl⟩

end Go.Proofs.YtlimollpocagiaaGreatDoor

namespace Go.Proofs.YtlimollpocagiaaGreatDoor
set_option linter.unusedVariables false
set_option linter.unusedSimpArgs false
open Go.ChangeShapes Go.WideShapes Go.ChangeAt Go.RowKit

theorem root_of_list (rs : List Int) (h : rs.length = 15) : ∃ s ds p q, ds.length = 12 ∧ rs = rootI s ds p q := by
  match rs, h with
  | [s, d0, d1, d2, d3, d4, d5, d6, d7, d8, d9, d10, d11, p, q], _ => exact ⟨s, [d0, d1, d2, d3, d4, d5, d6, d7, d8, d9, d10, d11], p, q, rfl, rfl⟩
set_option maxRecDepth 100000 in
/-- A root that came in is fifteen integers. -/
theorem open_root {H : Type} {enc : TypeId × Value → H} {W : World} {r : Reach} {b0 base : Nat} {spare : TypeId → Bool} {held : Bool} {v : Value} {d : DataW H} {pl : List MemPlace} (hv : Value.okWide Tryz.prog W r b0 46 v) (h : DataW.Trod enc Tryz.prog W base spare held 46 v d pl) :
    ∃ s ds p q, ds.length = 12 ∧ v = .agg (cellsI (rootI s ds p q)) := by
  obtain ⟨cs, rfl, hsz⟩ := Go.WideShapes.okWide_struct Tryz.underlying46 hv
  rw [cellsL15] at hsz
  obtain ⟨fuel, hf⟩ := h
  obtain ⟨xs, n, _, _, _, hl, hfld⟩ := DataW.trod_struct Tryz.underlying46 hf
  have hc : (Value.agg cs).cells.toList = cs.toList := rfl
  rw [hc] at hfld
  have h0 := hfld 0 _ rfl
  have h1 := hfld 1 _ rfl
  have h2 := hfld 2 _ rfl
  have h3 := hfld 3 _ rfl
  have hl4 : xs.length = 4 := hl
  rw [List.getElem?_eq_getElem (show 0 < xs.length by omega)] at h0
  rw [List.getElem?_eq_getElem (show 1 < xs.length by omega)] at h1
  rw [List.getElem?_eq_getElem (show 2 < xs.length by omega)] at h2
  rw [List.getElem?_eq_getElem (show 3 < xs.length by omega)] at h3
  obtain ⟨a0, e0, _⟩ := DataW.trod_int Tryz.underlying3 h0
  obtain ⟨a2, e2, _⟩ := DataW.trod_int Tryz.underlying3 h2
  obtain ⟨a3, e3, _⟩ := DataW.trod_int Tryz.underlying3 h3
  obtain ⟨ys, m, _, _, _, hy, hel⟩ := DataW.trod_array Tryz.underlying26 h1
  change (cs.toList.drop 0).take (Tryz.prog.cellsOf 3) = _ at e0
  change (cs.toList.drop 13).take (Tryz.prog.cellsOf 3) = _ at e2
  change (cs.toList.drop 14).take (Tryz.prog.cellsOf 3) = _ at e3
  rw [cells1] at e0 e2 e3
  have f0 := take_one e0
  have f2 := take_one e2
  have f3 := take_one e3
  have fa : ∀ i, i < 12 → ∃ a, cs.toList[1 + i]? = some (.int .i64 a) := by
    intro i hi
    have hi2 := hel i hi
    rw [List.getElem?_eq_getElem (by omega)] at hi2
    obtain ⟨a, ea, _⟩ := DataW.trod_int Tryz.underlying3 hi2
    change ((((cs.toList.drop 1).take (Tryz.prog.cellsOf 26)).drop (i * Tryz.prog.cellsOf 3)).take (Tryz.prog.cellsOf 3)) = _ at ea
    rw [cells1, cells12, Nat.mul_one] at ea
    have hf2 := take_one ea
    refine ⟨a, ?_⟩
    rw [List.getElem?_take, if_pos hi, List.getElem?_drop] at hf2
    exact hf2
  have hall : ∀ i, i < cs.toList.length → ∃ a, cs.toList[i]? = some (.int .i64 a) := by
    intro i hi
    rw [Array.length_toList, hsz] at hi
    by_cases g0 : i = 0
    · subst g0; exact ⟨_, f0⟩
    · by_cases g1 : i < 13
      · obtain ⟨a, ha⟩ := fa (i - 1) (by omega)
        rw [show 1 + (i - 1) = i by omega] at ha
        exact ⟨a, ha⟩
      · by_cases g2 : i = 13
        · subst g2; exact ⟨_, f2⟩
        · have g3 : i = 14 := by omega
          subst g3; exact ⟨_, f3⟩
  obtain ⟨rs, hrs⟩ := ints_of_cells cs.toList hall
  have hlr : rs.length = 15 := by
    have := congrArg List.length hrs
    rw [Array.length_toList, hsz, List.length_map] at this
    omega
  obtain ⟨s, ds, p, q, hd, rfl⟩ := root_of_list rs hlr
  refine ⟨s, ds, p, q, hd, ?_⟩
  rw [cellsI, ← hrs]
end Go.Proofs.YtlimollpocagiaaGreatDoor
