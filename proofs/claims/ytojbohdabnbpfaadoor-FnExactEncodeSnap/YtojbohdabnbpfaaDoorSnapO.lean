/- A snapshot that came in, opened; the letters out of what the start lays. -/
import Derived.Test.YtojbohdabnbpfaaDoorLawEncS
import Derived.Test.YtojbohdabnbpfaaDoorRootO
import Derived.Test.YtojbohdabnbpfaaDoorDoor
import Derived.ProofKit
import Derived.OpenShut
import Derived.OpenVars
namespace Go.Proofs.YtojbohdabnbpfaaDoor
set_option linter.unusedVariables false
set_option linter.unusedSimpArgs false
open Go.ChangeShapes Go.WideShapes Go.ChangeAt Go.RowKit

theorem cellsLS : Tryd.prog.cellsOf 63 = 19 := by kernel_rfl
theorem cellsStr : Tryd.prog.cellsOf 9 = 1 := by kernel_rfl
theorem cellsU8 : Tryd.prog.cellsOf 5 = 1 := by kernel_rfl
set_option maxRecDepth 100000 in
theorem open_snap {H : Type} {enc : TypeId × Value → H} {W : World} {r : Reach} {b0 base : Nat} {spare : TypeId → Bool} {held : Bool} {v : Value} {d : DataW H} {pl : List MemPlace} (hv : Value.okWide Tryd.prog W r b0 63 v) (h : DataW.Trod enc Tryd.prog W base spare held 63 v d pl) :
    ∃ a nm b c s ds p q, ds.length = 12 ∧ nm.size ≤ maxLen ∧ v = .agg (snapC a nm b c s ds p q) := by
  obtain ⟨cs, rfl, hsz⟩ := Go.WideShapes.okWide_struct Tryd.underlying63 hv
  rw [cellsLS] at hsz
  obtain ⟨fuel, hf⟩ := h
  obtain ⟨xs, n, _, _, _, hl, hfld⟩ := DataW.trod_struct Tryd.underlying63 hf
  have hc : (Value.agg cs).cells.toList = cs.toList := rfl
  rw [hc] at hfld
  have hl5 : xs.length = 5 := hl
  have h0 := hfld 0 _ rfl
  rw [List.getElem?_eq_getElem (show 0 < xs.length by omega)] at h0
  have h1 := hfld 1 _ rfl
  rw [List.getElem?_eq_getElem (show 1 < xs.length by omega)] at h1
  have h2 := hfld 2 _ rfl
  rw [List.getElem?_eq_getElem (show 2 < xs.length by omega)] at h2
  have h3 := hfld 3 _ rfl
  rw [List.getElem?_eq_getElem (show 3 < xs.length by omega)] at h3
  have h4 := hfld 4 _ rfl
  rw [List.getElem?_eq_getElem (show 4 < xs.length by omega)] at h4
  obtain ⟨x0, e0, _⟩ := DataW.trod_int Tryd.underlying3 h0
  change (cs.toList.drop 0).take (Tryd.prog.cellsOf 3) = _ at e0
  obtain ⟨nm, e1, _, hnm⟩ := DataW.trod_string Tryd.underlying9 h1
  change (cs.toList.drop 1).take (Tryd.prog.cellsOf 9) = _ at e1
  obtain ⟨x2, e2, _⟩ := DataW.trod_int Tryd.underlying3 h2
  change (cs.toList.drop 2).take (Tryd.prog.cellsOf 3) = _ at e2
  obtain ⟨x3, e3, _⟩ := DataW.trod_int Tryd.underlying3 h3
  change (cs.toList.drop 3).take (Tryd.prog.cellsOf 3) = _ at e3
  rw [cells1] at e0 e2 e3
  rw [cellsStr] at e1
  have f0 := take_one e0
  have f1 := take_one e1
  have f2 := take_one e2
  have f3 := take_one e3
  obtain ⟨ys, m, _, _, _, hy, hroot⟩ := DataW.trod_struct Tryd.underlying34 h4
  have hy4 : ys.length = 4 := hy
  have r0 := hroot 0 _ rfl
  have r1 := hroot 1 _ rfl
  have r2 := hroot 2 _ rfl
  have r3 := hroot 3 _ rfl
  rw [List.getElem?_eq_getElem (show 0 < ys.length by omega)] at r0
  rw [List.getElem?_eq_getElem (show 1 < ys.length by omega)] at r1
  rw [List.getElem?_eq_getElem (show 2 < ys.length by omega)] at r2
  rw [List.getElem?_eq_getElem (show 3 < ys.length by omega)] at r3
  obtain ⟨y0, u0, _⟩ := DataW.trod_int Tryd.underlying3 r0
  obtain ⟨y2, u2, _⟩ := DataW.trod_int Tryd.underlying3 r2
  obtain ⟨y3, u3, _⟩ := DataW.trod_int Tryd.underlying3 r3
  obtain ⟨zs, m2, _, _, _, hz, hel⟩ := DataW.trod_array Tryd.underlying32 r1
  change ((((cs.toList.drop 4).take (Tryd.prog.cellsOf 34)).drop 0).take (Tryd.prog.cellsOf 3)) = _ at u0
  change ((((cs.toList.drop 4).take (Tryd.prog.cellsOf 34)).drop 13).take (Tryd.prog.cellsOf 3)) = _ at u2
  change ((((cs.toList.drop 4).take (Tryd.prog.cellsOf 34)).drop 14).take (Tryd.prog.cellsOf 3)) = _ at u3
  rw [cells1, cellsL15] at u0 u2 u3
  have hin : ∀ i c, i < 15 → ((cs.toList.drop 4).take 15)[i]? = some c → cs.toList[4 + i]? = some c := by
    intro i c hi h
    rw [List.getElem?_take, if_pos hi, List.getElem?_drop] at h
    exact h
  have g0 := hin 0 _ (by omega) (take_one u0)
  have g2 := hin 13 _ (by omega) (take_one u2)
  have g3 := hin 14 _ (by omega) (take_one u3)
  have fa : ∀ i, i < 12 → ∃ a, cs.toList[4 + (1 + i)]? = some (.int .i64 a) := by
    intro i hi
    have hi2 := hel i hi
    rw [List.getElem?_eq_getElem (by omega)] at hi2
    obtain ⟨a, ea, _⟩ := DataW.trod_int Tryd.underlying3 hi2
    change ((((((cs.toList.drop 4).take (Tryd.prog.cellsOf 34)).drop 1).take (Tryd.prog.cellsOf 32)).drop (i * Tryd.prog.cellsOf 3)).take (Tryd.prog.cellsOf 3)) = _ at ea
    rw [cells1, cells12, cellsL15, Nat.mul_one] at ea
    have hf2 := take_one ea
    rw [List.getElem?_take, if_pos hi, List.getElem?_drop] at hf2
    exact ⟨a, hin (1 + i) _ (by omega) hf2⟩
  have hlen : cs.toList.length = 19 := by rw [Array.length_toList, hsz]
  obtain ⟨rs, hrs⟩ := ints_of_cells (cs.toList.drop 4) (by
    intro i hi
    rw [List.length_drop, hlen] at hi
    rw [List.getElem?_drop]
    by_cases q0 : i = 0
    · subst q0; exact ⟨_, g0⟩
    · by_cases q1 : i < 13
      · obtain ⟨a, ha⟩ := fa (i - 1) (by omega)
        rw [show 4 + (1 + (i - 1)) = 4 + i by omega] at ha
        exact ⟨a, ha⟩
      · by_cases q2 : i = 13
        · subst q2; exact ⟨_, g2⟩
        · have q3 : i = 14 := by omega
          subst q3; exact ⟨_, g3⟩)
  have hlr : rs.length = 15 := by
    have := congrArg List.length hrs
    rw [List.length_drop, hlen, List.length_map] at this
    omega
  obtain ⟨s, ds, p, q, hd, rfl⟩ : ∃ s ds p q, ds.length = 12 ∧ rs = rootI s ds p q := by
    match rs, hlr with
    | [s, d0, d1, d2, d3, d4, d5, d6, d7, d8, d9, d10, d11, p, q], _ => exact ⟨s, [d0, d1, d2, d3, d4, d5, d6, d7, d8, d9, d10, d11], p, q, rfl, rfl⟩
  refine ⟨x0, nm, x2, x3, s, ds, p, q, hd, hnm, ?_⟩
  have e : cs.toList = [.int .i64 x0, .string nm, .int .i64 x2, .int .i64 x3] ++ (rootI s ds p q).map (Value.int .i64) := by
    rw [← hrs]
    have ht : cs.toList.take 4 = [.int .i64 x0, .string nm, .int .i64 x2, .int .i64 x3] := by
      apply List.ext_getElem?
      intro i
      rw [List.getElem?_take]
      by_cases h4 : i < 4
      · rw [if_pos h4]
        match i, h4 with
        | 0, _ => exact f0
        | 1, _ => exact f1
        | 2, _ => exact f2
        | 3, _ => exact f3
      · rw [if_neg h4, List.getElem?_eq_none (by simp; omega)]
    rw [← ht, List.take_append_drop]
  have e2 : cs = snapC x0 nm x2 x3 s ds p q := by
    apply Array.ext'
    rw [e]
    unfold snapC
    simp [cellsI]
  rw [e2]

theorem d_let : Tryd.prog.globalNamed "loop.example/s02533/impl.snapLetters" = some 0 := by kernel_rfl
theorem d_lett : (Tryd.prog.globals[0]?).map (·.type) = some 121 := by kernel_rfl
theorem d_letu : Tryd.prog.underlying 121 = some (.array 8 5) := by kernel_rfl
theorem letS_of {W : World} (h : laidMet Tryd.prog [("loop.example/s02533/impl.snapLetters", Rows.laid_loop_example_s02533_impl_snapLetters)] W) : LetS W := by
  obtain ⟨ps, ⟨g, t, cs, fuel, p, q, h1, h2, h3, h4, _, _⟩, _⟩ := h
  obtain rfl := Option.some.inj (d_let.symm.trans h1)
  obtain rfl := Option.some.inj (d_lett.symm.trans h2)
  obtain ⟨xs, m, _, hx, hlen, hxl, hel⟩ := DataW.trod_array d_letu h4
  have hx1 : Rows.laid_loop_example_s02533_impl_snapLetters = DataW.agg (xs.map (·.1)) := congrArg Prod.fst hx
  unfold Rows.laid_loop_example_s02533_impl_snapLetters at hx1
  injection hx1 with hx2
  intro j v hv
  rw [Nat.zero_add, World.var?_cell d_let h3 j]
  have hj : j < 8 := by
    rcases Nat.lt_or_ge j 8 with h | h
    · exact h
    · rw [List.getElem?_eq_none (by simp [snapLet]; omega)] at hv; cases hv
  have he := hel j hj
  rw [cellsU8, Nat.mul_one, List.getElem?_eq_getElem (by omega)] at he
  obtain ⟨a, ea, hxa, _⟩ := DataW.trod_int Tryd.underlying5 he
  have hc := take_one ea
  have hd : (xs.map (·.1))[j]? = some (.lit (.int .u8 a)) := by
    rw [List.getElem?_map, List.getElem?_eq_getElem (by omega), hxa]; rfl
  rw [← hx2] at hd
  rw [show cs[j]? = cs.toList[j]? from by simp, hc, ← hv]
  match j, hj with
  | 0, _ | 1, _ | 2, _ | 3, _ | 4, _ | 5, _ | 6, _ | 7, _ =>
    simp at hd
    subst hd
    rfl
/-- A world that meets both conditions. -/
noncomputable def laidWorldS (os : Os) : World :=
  let w0 := laidWorld os
  { w0 with heap := w0.heap.modify 0 fun
      | .cells _ t frozen => .cells #[.int .u8 115, .int .u8 110, .int .u8 97, .int .u8 112, .int .u8 115, .int .u8 104, .int .u8 111, .int .u8 116] t frozen
      | o => o }
end Go.Proofs.YtojbohdabnbpfaaDoor
