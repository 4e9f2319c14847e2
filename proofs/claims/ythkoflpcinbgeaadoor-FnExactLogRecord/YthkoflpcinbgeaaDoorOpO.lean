/- An operation that came in, opened. -/
import Derived.Test.YthkoflpcinbgeaaDoorLogB
import Derived.ProofKit
import Derived.OpenShut
namespace Go.Proofs.YthkoflpcinbgeaaDoor
set_option linter.unusedVariables false
set_option linter.unusedSimpArgs false
open Go.ChangeShapes Go.WideShapes Go.ChangeAt Go.RowKit

theorem cells1nO : Tryd.prog.cellsOf 3 = 1 := by kernel_rfl
theorem cells1bO : Tryd.prog.cellsOf 22 = 1 := by kernel_rfl
theorem cells1sO : Tryd.prog.cellsOf 9 = 1 := by kernel_rfl
theorem cellsLOp : Tryd.prog.cellsOf 24 = 8 := by kernel_rfl
theorem take_oneO {l : List Value} {o : Nat} {c : Value} (h : (l.drop o).take 1 = [c]) : l[o]? = some c := by
  have h2 : ((l.drop o).take 1)[0]? = some c := by rw [h]; rfl
  simpa using h2
theorem open_bytesO {H : Type} {enc : TypeId × Value → H} {W : World} {base : Nat} {held : Bool} {fuel : Nat} {cs : List Value} {x : DataW H × List MemPlace} (hf : DataW.trod enc Tryd.prog W base (fun _ => true) held fuel 22 cs = some x) :
    ∃ v zs, cs = [v] ∧ Rd .u8 W v zs ∧ ∀ z ∈ zs, 0 ≤ z ∧ z < 256 := by
  rcases open_ints Tryd.underlying22 Tryd.underlying5 (by kernel_rfl) hf with ⟨hcs, _⟩ | ⟨x, l, c, zs, hcs, _, hl, hm, hz, _, hcell, hwz⟩
  · have w0 : IsRow .u8 W none 0 0 [] := .inl ⟨rfl, rfl, rfl, rfl⟩
    obtain ⟨hrd, hlen, hwf⟩ := Rd.of_row w0
    exact ⟨_, _, hcs, hrd, bytes_bd hwf⟩
  · have w0 : IsRow .u8 W (some x) l c zs := .inr ⟨_, rfl, hl, hm, by simpa using hz, hcell, hwz⟩
    obtain ⟨hrd, hlen, hwf⟩ := Rd.of_row w0
    exact ⟨_, _, hcs, hrd, bytes_bd hwf⟩
set_option maxRecDepth 100000 in
theorem open_op_cells {H : Type} {enc : TypeId × Value → H} {W : World} {base : Nat} {held : Bool} {fuel : Nat} {cs : List Value} {x : DataW H × List MemPlace} (hsz : cs.length = 8) (hf : DataW.trod enc Tryd.prog W base (fun _ => true) held fuel 24 cs = some x) :
    ∃ K A B U G p q v zs, cs = [.int .i64 K, .int .i64 A, .int .i64 B, .int .i64 U, .int .i64 G, .string p, .string q, v] ∧ Rd .u8 W v zs ∧ (∀ z ∈ zs, 0 ≤ z ∧ z < 256) ∧ p.size ≤ maxLen ∧ q.size ≤ maxLen := by
  obtain ⟨xs, n, _, _, _, hl, hfld⟩ := DataW.trod_struct Tryd.underlying24 hf
  have hl8 : xs.length = 8 := hl
  have h0 := hfld 0 _ rfl
  rw [List.getElem?_eq_getElem (show 0 < xs.length by omega)] at h0
  obtain ⟨x0, e0, _⟩ := DataW.trod_int Tryd.underlying3 h0
  change (cs.drop 0).take (Tryd.prog.cellsOf 3) = _ at e0
  have h1 := hfld 1 _ rfl
  rw [List.getElem?_eq_getElem (show 1 < xs.length by omega)] at h1
  obtain ⟨x1, e1, _⟩ := DataW.trod_int Tryd.underlying3 h1
  change (cs.drop 1).take (Tryd.prog.cellsOf 3) = _ at e1
  have h2 := hfld 2 _ rfl
  rw [List.getElem?_eq_getElem (show 2 < xs.length by omega)] at h2
  obtain ⟨x2, e2, _⟩ := DataW.trod_int Tryd.underlying3 h2
  change (cs.drop 2).take (Tryd.prog.cellsOf 3) = _ at e2
  have h3 := hfld 3 _ rfl
  rw [List.getElem?_eq_getElem (show 3 < xs.length by omega)] at h3
  obtain ⟨x3, e3, _⟩ := DataW.trod_int Tryd.underlying3 h3
  change (cs.drop 3).take (Tryd.prog.cellsOf 3) = _ at e3
  have h4 := hfld 4 _ rfl
  rw [List.getElem?_eq_getElem (show 4 < xs.length by omega)] at h4
  obtain ⟨x4, e4, _⟩ := DataW.trod_int Tryd.underlying3 h4
  change (cs.drop 4).take (Tryd.prog.cellsOf 3) = _ at e4
  have h5 := hfld 5 _ rfl
  rw [List.getElem?_eq_getElem (show 5 < xs.length by omega)] at h5
  obtain ⟨x5, e5, _, s5⟩ := DataW.trod_string Tryd.underlying9 h5
  change (cs.drop 5).take (Tryd.prog.cellsOf 9) = _ at e5
  have h6 := hfld 6 _ rfl
  rw [List.getElem?_eq_getElem (show 6 < xs.length by omega)] at h6
  obtain ⟨x6, e6, _, s6⟩ := DataW.trod_string Tryd.underlying9 h6
  change (cs.drop 6).take (Tryd.prog.cellsOf 9) = _ at e6
  have h7 := hfld 7 _ rfl
  rw [List.getElem?_eq_getElem (show 7 < xs.length by omega)] at h7
  obtain ⟨v, zs, e7, hrd, hbd⟩ := open_bytesO h7
  change (cs.drop 7).take (Tryd.prog.cellsOf 22) = _ at e7
  rw [cells1bO] at e7
  rw [cells1sO] at e5 e6
  rw [cells1nO] at e0 e1 e2 e3 e4
  have f0 := take_oneO e0
  have f1 := take_oneO e1
  have f2 := take_oneO e2
  have f3 := take_oneO e3
  have f4 := take_oneO e4
  have f5 := take_oneO e5
  have f6 := take_oneO e6
  have f7 := take_oneO e7
  refine ⟨x0, x1, x2, x3, x4, x5, x6, v, zs, ?_, hrd, hbd, s5, s6⟩
  apply List.ext_getElem?
  intro i
  rcases Nat.lt_or_ge i 8 with h | h
  · match i, h with
    | 0, _ => exact f0
    | 1, _ => exact f1
    | 2, _ => exact f2
    | 3, _ => exact f3
    | 4, _ => exact f4
    | 5, _ => exact f5
    | 6, _ => exact f6
    | 7, _ => exact f7
  · rw [List.getElem?_eq_none (by omega), List.getElem?_eq_none (by simp; omega)]
set_option maxRecDepth 100000 in
theorem open_op {H : Type} {enc : TypeId × Value → H} {W : World} {r : Reach} {b0 base : Nat} {held : Bool} {v : Value} {d : DataW H} {pl : List MemPlace} (hv : Value.okWide Tryd.prog W r b0 24 v) (h : DataW.Trod enc Tryd.prog W base (fun _ => true) held 24 v d pl) :
    ∃ K A B U G p q x zs, v = .agg (opC K A B U G p q x) ∧ Rd .u8 W x zs ∧ (∀ z ∈ zs, 0 ≤ z ∧ z < 256) ∧ p.size ≤ maxLen ∧ q.size ≤ maxLen := by
  obtain ⟨cs, rfl, hsz⟩ := Go.WideShapes.okWide_struct Tryd.underlying24 hv
  rw [cellsLOp] at hsz
  obtain ⟨fuel, hf⟩ := h
  have hc : (Value.agg cs).cells.toList = cs.toList := rfl
  rw [hc] at hf
  obtain ⟨K, A, B, U, G, p, q, x, zs, h1, h2, h3, h4, h5⟩ := open_op_cells (by rw [Array.length_toList, hsz]) hf
  refine ⟨K, A, B, U, G, p, q, x, zs, ?_, h2, h3, h4, h5⟩
  have e2 : cs = opC K A B U G p q x := by
    apply Array.ext'
    rw [h1]
    rfl
  rw [e2]
end Go.Proofs.YthkoflpcinbgeaaDoor
