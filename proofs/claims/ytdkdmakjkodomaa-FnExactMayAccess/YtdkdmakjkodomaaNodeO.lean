/- A node that came in, opened. -/
import Derived.Test.YtdkdmakjkodomaaAccA
import Derived.ProofKit
import Derived.OpenShut
namespace Go.Proofs.Ytdkdmakjkodomaa
set_option linter.unusedVariables false
set_option linter.unusedSimpArgs false
open Go.ChangeShapes Go.WideShapes Go.ChangeAt Go.RowKit

theorem cells1n : Try.prog.cellsOf 3 = 1 := by kernel_rfl
theorem cells1b : Try.prog.cellsOf 22 = 1 := by kernel_rfl
theorem cellsLN : Try.prog.cellsOf 31 = 10 := by kernel_rfl
theorem take_oneN {l : List Value} {o : Nat} {c : Value} (h : (l.drop o).take 1 = [c]) : l[o]? = some c := by
  have h2 : ((l.drop o).take 1)[0]? = some c := by rw [h]; rfl
  simpa using h2
theorem open_bytes {H : Type} {enc : TypeId × Value → H} {W : World} {base : Nat} {held : Bool} {fuel : Nat} {cs : List Value} {x : DataW H × List MemPlace} (hf : DataW.trod enc Try.prog W base (fun _ => true) held fuel 22 cs = some x) :
    ∃ v zs, cs = [v] ∧ Rd .u8 W v zs ∧ ∀ z ∈ zs, 0 ≤ z ∧ z < 256 := by
  rcases open_ints Try.underlying22 Try.underlying5 (by kernel_rfl) hf with ⟨hcs, _⟩ | ⟨x, l, c, zs, hcs, _, hl, hm, hz, _, hcell, hwz⟩
  · have w0 : IsRow .u8 W none 0 0 [] := .inl ⟨rfl, rfl, rfl, rfl⟩
    obtain ⟨hrd, hlen, hwf⟩ := Rd.of_row w0
    exact ⟨_, _, hcs, hrd, bytes_bd hwf⟩
  · have w0 : IsRow .u8 W (some x) l c zs := .inr ⟨_, rfl, hl, hm, by simpa using hz, hcell, hwz⟩
    obtain ⟨hrd, hlen, hwf⟩ := Rd.of_row w0
    exact ⟨_, _, hcs, hrd, bytes_bd hwf⟩
set_option maxRecDepth 100000 in
theorem open_node_cells {H : Type} {enc : TypeId × Value → H} {W : World} {base : Nat} {held : Bool} {fuel : Nat} {cs : List Value} {x : DataW H × List MemPlace} (hsz : cs.length = 10) (hf : DataW.trod enc Try.prog W base (fun _ => true) held fuel 31 cs = some x) :
    ∃ k l m u g p e t c v zs, cs = [.int .i64 k, .int .i64 l, .int .i64 m, .int .i64 u, .int .i64 g, .int .i64 p, .int .i64 e, .int .i64 t, .int .i64 c, v] ∧ Rd .u8 W v zs ∧ ∀ z ∈ zs, 0 ≤ z ∧ z < 256 := by
  obtain ⟨xs, n, _, _, _, hl, hfld⟩ := DataW.trod_struct Try.underlying31 hf
  have hl10 : xs.length = 10 := hl
  have h0 := hfld 0 _ rfl
  rw [List.getElem?_eq_getElem (show 0 < xs.length by omega)] at h0
  obtain ⟨x0, e0, _⟩ := DataW.trod_int Try.underlying3 h0
  change (cs.drop 0).take (Try.prog.cellsOf 3) = _ at e0
  have h1 := hfld 1 _ rfl
  rw [List.getElem?_eq_getElem (show 1 < xs.length by omega)] at h1
  obtain ⟨x1, e1, _⟩ := DataW.trod_int Try.underlying3 h1
  change (cs.drop 1).take (Try.prog.cellsOf 3) = _ at e1
  have h2 := hfld 2 _ rfl
  rw [List.getElem?_eq_getElem (show 2 < xs.length by omega)] at h2
  obtain ⟨x2, e2, _⟩ := DataW.trod_int Try.underlying3 h2
  change (cs.drop 2).take (Try.prog.cellsOf 3) = _ at e2
  have h3 := hfld 3 _ rfl
  rw [List.getElem?_eq_getElem (show 3 < xs.length by omega)] at h3
  obtain ⟨x3, e3, _⟩ := DataW.trod_int Try.underlying3 h3
  change (cs.drop 3).take (Try.prog.cellsOf 3) = _ at e3
  have h4 := hfld 4 _ rfl
  rw [List.getElem?_eq_getElem (show 4 < xs.length by omega)] at h4
  obtain ⟨x4, e4, _⟩ := DataW.trod_int Try.underlying3 h4
  change (cs.drop 4).take (Try.prog.cellsOf 3) = _ at e4
  have h5 := hfld 5 _ rfl
  rw [List.getElem?_eq_getElem (show 5 < xs.length by omega)] at h5
  obtain ⟨x5, e5, _⟩ := DataW.trod_int Try.underlying3 h5
  change (cs.drop 5).take (Try.prog.cellsOf 3) = _ at e5
  have h6 := hfld 6 _ rfl
  rw [List.getElem?_eq_getElem (show 6 < xs.length by omega)] at h6
  obtain ⟨x6, e6, _⟩ := DataW.trod_int Try.underlying3 h6
  change (cs.drop 6).take (Try.prog.cellsOf 3) = _ at e6
  have h7 := hfld 7 _ rfl
  rw [List.getElem?_eq_getElem (show 7 < xs.length by omega)] at h7
  obtain ⟨x7, e7, _⟩ := DataW.trod_int Try.underlying3 h7
  change (cs.drop 7).take (Try.prog.cellsOf 3) = _ at e7
  have h8 := hfld 8 _ rfl
  rw [List.getElem?_eq_getElem (show 8 < xs.length by omega)] at h8
  obtain ⟨x8, e8, _⟩ := DataW.trod_int Try.underlying3 h8
  change (cs.drop 8).take (Try.prog.cellsOf 3) = _ at e8
  have h9 := hfld 9 _ rfl
  rw [List.getElem?_eq_getElem (show 9 < xs.length by omega)] at h9
  obtain ⟨v, zs, e9, hrd, hbd⟩ := open_bytes h9
  change (cs.drop 9).take (Try.prog.cellsOf 22) = _ at e9
  rw [cells1b] at e9
  rw [cells1n] at e0 e1 e2 e3 e4 e5 e6 e7 e8
  have f0 := take_oneN e0
  have f1 := take_oneN e1
  have f2 := take_oneN e2
  have f3 := take_oneN e3
  have f4 := take_oneN e4
  have f5 := take_oneN e5
  have f6 := take_oneN e6
  have f7 := take_oneN e7
  have f8 := take_oneN e8
  have f9 := take_oneN e9
  refine ⟨x0, x1, x2, x3, x4, x5, x6, x7, x8, v, zs, ?_, hrd, hbd⟩
  apply List.ext_getElem?
  intro i
  rcases Nat.lt_or_ge i 10 with h | h
  · match i, h with
    | 0, _ => exact f0
    | 1, _ => exact f1
    | 2, _ => exact f2
    | 3, _ => exact f3
    | 4, _ => exact f4
    | 5, _ => exact f5
    | 6, _ => exact f6
    | 7, _ => exact f7
    | 8, _ => exact f8
    | 9, _ => exact f9
  · rw [List.getElem?_eq_none (by omega), List.getElem?_eq_none (by simp; omega)]
theorem open_node {H : Type} {enc : TypeId × Value → H} {W : World} {r : Reach} {b0 base : Nat} {held : Bool} {v : Value} {d : DataW H} {pl : List MemPlace} (hv : Value.okWide Try.prog W r b0 31 v) (h : DataW.Trod enc Try.prog W base (fun _ => true) held 31 v d pl) :
    ∃ k l m u g p e t c x zs, v = nodeV k l m u g p e t c x ∧ Rd .u8 W x zs ∧ ∀ z ∈ zs, 0 ≤ z ∧ z < 256 := by
  obtain ⟨cs, rfl, hsz⟩ := Go.WideShapes.okWide_struct Try.underlying31 hv
  rw [cellsLN] at hsz
  obtain ⟨fuel, hf⟩ := h
  have hc : (Value.agg cs).cells.toList = cs.toList := rfl
  rw [hc] at hf
  obtain ⟨k, l, m, u, g, p, e, t, c, x, zs, h1, h2, h3⟩ := open_node_cells (by rw [Array.length_toList, hsz]) hf
  refine ⟨k, l, m, u, g, p, e, t, c, x, zs, ?_, h2, h3⟩
  have e2 : cs = #[.int .i64 k, .int .i64 l, .int .i64 m, .int .i64 u, .int .i64 g, .int .i64 p, .int .i64 e, .int .i64 t, .int .i64 c, x] := by
    apply Array.ext'
    rw [h1]
  rw [e2]
end Go.Proofs.Ytdkdmakjkodomaa
