/- An entry that came in, opened. -/
import Derived.Test.YtdcpcgiehmincaaDoorDirA
import Derived.ProofKit
import Derived.OpenShut
namespace Go.Proofs.YtdcpcgiehmincaaDoor
set_option linter.unusedVariables false
set_option linter.unusedSimpArgs false
open Go.ChangeShapes Go.WideShapes Go.ChangeAt Go.RowKit

theorem cells1i : Tryd.prog.cellsOf 3 = 1 := by kernel_rfl
theorem cells1s : Tryd.prog.cellsOf 9 = 1 := by kernel_rfl
theorem cellsLD : Tryd.prog.cellsOf 47 = 3 := by kernel_rfl
theorem take_oneD {l : List Value} {o : Nat} {c : Value} (h : (l.drop o).take 1 = [c]) : l[o]? = some c := by
  have h2 : ((l.drop o).take 1)[0]? = some c := by rw [h]; rfl
  simpa using h2
set_option maxRecDepth 100000 in
theorem open_dirent_cells {H : Type} {enc : TypeId × Value → H} {W : World} {base : Nat} {held : Bool} {fuel : Nat} {cs : List Value} {x : DataW H × List MemPlace} (hsz : cs.length = 3) (hf : DataW.trod enc Tryd.prog W base (fun _ => true) held fuel 47 cs = some x) :
    ∃ nm ino kd, cs = [.string nm, .int .i64 ino, .int .i64 kd] ∧ nm.size ≤ maxLen := by
  obtain ⟨xs, n, _, _, _, hl, hfld⟩ := DataW.trod_struct Tryd.underlying47 hf
  have hl3 : xs.length = 3 := hl
  have h0 := hfld 0 _ rfl
  rw [List.getElem?_eq_getElem (show 0 < xs.length by omega)] at h0
  obtain ⟨x0, e0, _, hs⟩ := DataW.trod_string Tryd.underlying9 h0
  change (cs.drop 0).take (Tryd.prog.cellsOf 9) = _ at e0
  have h1 := hfld 1 _ rfl
  rw [List.getElem?_eq_getElem (show 1 < xs.length by omega)] at h1
  obtain ⟨x1, e1, _⟩ := DataW.trod_int Tryd.underlying3 h1
  change (cs.drop 1).take (Tryd.prog.cellsOf 3) = _ at e1
  have h2 := hfld 2 _ rfl
  rw [List.getElem?_eq_getElem (show 2 < xs.length by omega)] at h2
  obtain ⟨x2, e2, _⟩ := DataW.trod_int Tryd.underlying3 h2
  change (cs.drop 2).take (Tryd.prog.cellsOf 3) = _ at e2
  rw [cells1s] at e0
  rw [cells1i] at e1 e2
  have f0 := take_oneD e0
  have f1 := take_oneD e1
  have f2 := take_oneD e2
  refine ⟨x0, x1, x2, ?_, hs⟩
  apply List.ext_getElem?
  intro i
  rcases Nat.lt_or_ge i 3 with h | h
  · match i, h with
    | 0, _ => exact f0
    | 1, _ => exact f1
    | 2, _ => exact f2
  · rw [List.getElem?_eq_none (by omega), List.getElem?_eq_none (by simp; omega)]
set_option maxRecDepth 100000 in
theorem open_dirent {H : Type} {enc : TypeId × Value → H} {W : World} {r : Reach} {b0 base : Nat} {held : Bool} {v : Value} {d : DataW H} {pl : List MemPlace} (hv : Value.okWide Tryd.prog W r b0 47 v) (h : DataW.Trod enc Tryd.prog W base (fun _ => true) held 47 v d pl) :
    ∃ nm ino kd, v = .agg (entC nm ino kd) ∧ nm.size ≤ maxLen := by
  obtain ⟨cs, rfl, hsz⟩ := Go.WideShapes.okWide_struct Tryd.underlying47 hv
  rw [cellsLD] at hsz
  obtain ⟨fuel, hf⟩ := h
  have hc : (Value.agg cs).cells.toList = cs.toList := rfl
  rw [hc] at hf
  obtain ⟨nm, ino, kd, h1, h2⟩ := open_dirent_cells (by rw [Array.length_toList, hsz]) hf
  refine ⟨nm, ino, kd, ?_, h2⟩
  have e2 : cs = entC nm ino kd := by
    apply Array.ext'
    rw [h1]
    rfl
  rw [e2]
end Go.Proofs.YtdcpcgiehmincaaDoor
