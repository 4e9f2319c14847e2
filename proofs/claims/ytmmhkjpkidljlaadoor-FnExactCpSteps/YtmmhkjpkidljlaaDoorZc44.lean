/- A root record that came in, opened; the letters out of what the start lays. -/
import Derived.Test.YtmmhkjpkidljlaaDoorZc43
import Derived.Test.YtmmhkjpkidljlaaDoorZc03
import Derived.ProofKit
import Derived.OpenShut
import Derived.OpenVars
namespace Go.Proofs.YtmmhkjpkidljlaaDoor
set_option linter.unusedVariables false
set_option linter.unusedSimpArgs false
open Go.ChangeShapes Go.WideShapes Go.ChangeAt Go.RowKit

theorem cellsLF : Tryd.prog.cellsOf 28 = 68 := by kernel_rfl
theorem cells31 : Tryd.prog.cellsOf 26 = 31 := by kernel_rfl
theorem cellsU8 : Tryd.prog.cellsOf 5 = 1 := by kernel_rfl
theorem split_fs (rs : List Int) (h : rs.length = 68) : ∃ gen bl cu ck op ev lg s1 ds1 p1 q1 s2 ds2 p2 q2 sn, ds1.length = 12 ∧ ds2.length = 12 ∧ sn.length = 31 ∧ rs = fsI gen bl cu ck op ev lg s1 ds1 p1 q1 s2 ds2 p2 q2 sn := by
  have root : ∀ l : List Int, l.length = 15 → ∃ s ds p q, ds.length = 12 ∧ l = rootI s ds p q := by
    intro l hl
    match l, hl with
    | [s, d0, d1, d2, d3, d4, d5, d6, d7, d8, d9, d10, d11, p, q], _ => exact ⟨s, [d0, d1, d2, d3, d4, d5, d6, d7, d8, d9, d10, d11], p, q, rfl, rfl⟩
  have seven : ∀ l : List Int, l.length = 7 → ∃ a b c d e f g, l = [a, b, c, d, e, f, g] := by
    intro l hl
    match l, hl with
    | [a, b, c, d, e, f, g], _ => exact ⟨a, b, c, d, e, f, g, rfl⟩
  obtain ⟨a, b, c, d, e, f, g, h7⟩ := seven (rs.take 7) (by simp [h])
  obtain ⟨s1, ds1, p1, q1, hd1, hr1⟩ := root ((rs.drop 7).take 15) (by simp [h])
  obtain ⟨s2, ds2, p2, q2, hd2, hr2⟩ := root (((rs.drop 7).drop 15).take 15) (by simp [h])
  refine ⟨a, b, c, d, e, f, g, s1, ds1, p1, q1, s2, ds2, p2, q2, ((rs.drop 7).drop 15).drop 15, hd1, hd2, by simp [h], ?_⟩
  unfold fsI
  rw [← h7, ← hr1, ← hr2, List.take_append_drop, List.take_append_drop, List.take_append_drop]
set_option maxRecDepth 100000 in
theorem open_fs {H : Type} {enc : TypeId × Value → H} {W : World} {r : Reach} {b0 base : Nat} {spare : TypeId → Bool} {held : Bool} {v : Value} {d : DataW H} {pl : List MemPlace} (hv : Value.okWide Tryd.prog W r b0 28 v) (h : DataW.Trod enc Tryd.prog W base spare held 28 v d pl) :
    ∃ gen bl cu ck op ev lg s1 ds1 p1 q1 s2 ds2 p2 q2 sn, ds1.length = 12 ∧ ds2.length = 12 ∧ sn.length = 31 ∧ v = .agg (cellsI (fsI gen bl cu ck op ev lg s1 ds1 p1 q1 s2 ds2 p2 q2 sn)) := by
  obtain ⟨cs, rfl, hsz⟩ := Go.WideShapes.okWide_struct Tryd.underlying28 hv
  rw [cellsLF] at hsz
  obtain ⟨fuel, hf⟩ := h
  obtain ⟨xs, n, _, _, _, hl, hfld⟩ := DataW.trod_struct Tryd.underlying28 hf
  have hc : (Value.agg cs).cells.toList = cs.toList := rfl
  rw [hc] at hfld
  have hl10 : xs.length = 10 := hl
  have h0 := hfld 0 _ rfl
  rw [List.getElem?_eq_getElem (show 0 < xs.length by omega)] at h0
  have h1 := hfld 1 _ rfl
  rw [List.getElem?_eq_getElem (show 1 < xs.length by omega)] at h1
  have h2 := hfld 2 _ rfl
  rw [List.getElem?_eq_getElem (show 2 < xs.length by omega)] at h2
  have h3 := hfld 3 _ rfl
  rw [List.getElem?_eq_getElem (show 3 < xs.length by omega)] at h3
  have h4 := hfld 4 _ rfl
  rw [List.getElem?_eq_getElem (show 4 < xs.length by omega)] at h4
  have h5 := hfld 5 _ rfl
  rw [List.getElem?_eq_getElem (show 5 < xs.length by omega)] at h5
  have h6 := hfld 6 _ rfl
  rw [List.getElem?_eq_getElem (show 6 < xs.length by omega)] at h6
  have h7 := hfld 7 _ rfl
  rw [List.getElem?_eq_getElem (show 7 < xs.length by omega)] at h7
  have h8 := hfld 8 _ rfl
  rw [List.getElem?_eq_getElem (show 8 < xs.length by omega)] at h8
  have h9 := hfld 9 _ rfl
  rw [List.getElem?_eq_getElem (show 9 < xs.length by omega)] at h9
  obtain ⟨x0, e0, _⟩ := DataW.trod_int Tryd.underlying3 h0
  change (cs.toList.drop 0).take (Tryd.prog.cellsOf 3) = _ at e0
  rw [cells1] at e0
  have f0 := take_one e0
  obtain ⟨x1, e1, _⟩ := DataW.trod_int Tryd.underlying3 h1
  change (cs.toList.drop 1).take (Tryd.prog.cellsOf 3) = _ at e1
  rw [cells1] at e1
  have f1 := take_one e1
  obtain ⟨x2, e2, _⟩ := DataW.trod_int Tryd.underlying3 h2
  change (cs.toList.drop 2).take (Tryd.prog.cellsOf 3) = _ at e2
  rw [cells1] at e2
  have f2 := take_one e2
  obtain ⟨x3, e3, _⟩ := DataW.trod_int Tryd.underlying3 h3
  change (cs.toList.drop 3).take (Tryd.prog.cellsOf 3) = _ at e3
  rw [cells1] at e3
  have f3 := take_one e3
  obtain ⟨x4, e4, _⟩ := DataW.trod_int Tryd.underlying3 h4
  change (cs.toList.drop 4).take (Tryd.prog.cellsOf 3) = _ at e4
  rw [cells1] at e4
  have f4 := take_one e4
  obtain ⟨x5, e5, _⟩ := DataW.trod_int Tryd.underlying3 h5
  change (cs.toList.drop 5).take (Tryd.prog.cellsOf 3) = _ at e5
  rw [cells1] at e5
  have f5 := take_one e5
  obtain ⟨x6, e6, _⟩ := DataW.trod_int Tryd.underlying3 h6
  change (cs.toList.drop 6).take (Tryd.prog.cellsOf 3) = _ at e6
  rw [cells1] at e6
  have f6 := take_one e6
  have Ra : ∀ i, i < 15 → ∃ z, cs.toList[7 + i]? = some (.int .i64 z) := by
    obtain ⟨ys, m, _, _, _, hy, hroot⟩ := DataW.trod_struct Tryd.underlying25 h7
    have hy4 : ys.length = 4 := hy
    have r0 := hroot 0 _ rfl
    have r1 := hroot 1 _ rfl
    have r2 := hroot 2 _ rfl
    have r3 := hroot 3 _ rfl
    rw [List.getElem?_eq_getElem (show 0 < ys.length by omega)] at r0
    rw [List.getElem?_eq_getElem (show 1 < ys.length by omega)] at r1
    rw [List.getElem?_eq_getElem (show 2 < ys.length by omega)] at r2
    rw [List.getElem?_eq_getElem (show 3 < ys.length by omega)] at r3
    obtain ⟨y0, u0, _⟩ := DataW.trod_int Tryd.underlying3 r0
    obtain ⟨y2, u2, _⟩ := DataW.trod_int Tryd.underlying3 r2
    obtain ⟨y3, u3, _⟩ := DataW.trod_int Tryd.underlying3 r3
    obtain ⟨zs, m2, _, _, _, hz, hel⟩ := DataW.trod_array Tryd.underlying23 r1
    change ((((cs.toList.drop 7).take (Tryd.prog.cellsOf 25)).drop 0).take (Tryd.prog.cellsOf 3)) = _ at u0
    change ((((cs.toList.drop 7).take (Tryd.prog.cellsOf 25)).drop 13).take (Tryd.prog.cellsOf 3)) = _ at u2
    change ((((cs.toList.drop 7).take (Tryd.prog.cellsOf 25)).drop 14).take (Tryd.prog.cellsOf 3)) = _ at u3
    rw [cells1, cellsL15] at u0 u2 u3
    have hin : ∀ i c, i < 15 → ((cs.toList.drop 7).take 15)[i]? = some c → cs.toList[7 + i]? = some c := by
      intro i c hi h
      rw [List.getElem?_take, if_pos hi, List.getElem?_drop] at h
      exact h
    have g0 := hin 0 _ (by omega) (take_one u0)
    have g2 := hin 13 _ (by omega) (take_one u2)
    have g3 := hin 14 _ (by omega) (take_one u3)
    have fa : ∀ i, i < 12 → ∃ a, cs.toList[7 + (1 + i)]? = some (.int .i64 a) := by
      intro i hi
      have hi2 := hel i hi
      rw [List.getElem?_eq_getElem (by omega)] at hi2
      obtain ⟨a, ea, _⟩ := DataW.trod_int Tryd.underlying3 hi2
      change ((((((cs.toList.drop 7).take (Tryd.prog.cellsOf 25)).drop 1).take (Tryd.prog.cellsOf 23)).drop (i * Tryd.prog.cellsOf 3)).take (Tryd.prog.cellsOf 3)) = _ at ea
      rw [cells1, cells12, cellsL15, Nat.mul_one] at ea
      have hf2 := take_one ea
      rw [List.getElem?_take, if_pos hi, List.getElem?_drop] at hf2
      exact ⟨a, hin (1 + i) _ (by omega) hf2⟩
    intro i hi
    by_cases q0 : i = 0
    · subst q0; exact ⟨_, g0⟩
    · by_cases q1 : i < 13
      · obtain ⟨a, ha⟩ := fa (i - 1) (by omega)
        rw [show 7 + (1 + (i - 1)) = 7 + i by omega] at ha
        exact ⟨a, ha⟩
      · by_cases q2 : i = 13
        · subst q2; exact ⟨_, g2⟩
        · have q3 : i = 14 := by omega
          subst q3; exact ⟨_, g3⟩
  have Rb : ∀ i, i < 15 → ∃ z, cs.toList[22 + i]? = some (.int .i64 z) := by
    obtain ⟨ys, m, _, _, _, hy, hroot⟩ := DataW.trod_struct Tryd.underlying25 h8
    have hy4 : ys.length = 4 := hy
    have r0 := hroot 0 _ rfl
    have r1 := hroot 1 _ rfl
    have r2 := hroot 2 _ rfl
    have r3 := hroot 3 _ rfl
    rw [List.getElem?_eq_getElem (show 0 < ys.length by omega)] at r0
    rw [List.getElem?_eq_getElem (show 1 < ys.length by omega)] at r1
    rw [List.getElem?_eq_getElem (show 2 < ys.length by omega)] at r2
    rw [List.getElem?_eq_getElem (show 3 < ys.length by omega)] at r3
    obtain ⟨y0, u0, _⟩ := DataW.trod_int Tryd.underlying3 r0
    obtain ⟨y2, u2, _⟩ := DataW.trod_int Tryd.underlying3 r2
    obtain ⟨y3, u3, _⟩ := DataW.trod_int Tryd.underlying3 r3
    obtain ⟨zs, m2, _, _, _, hz, hel⟩ := DataW.trod_array Tryd.underlying23 r1
    change ((((cs.toList.drop 22).take (Tryd.prog.cellsOf 25)).drop 0).take (Tryd.prog.cellsOf 3)) = _ at u0
    change ((((cs.toList.drop 22).take (Tryd.prog.cellsOf 25)).drop 13).take (Tryd.prog.cellsOf 3)) = _ at u2
    change ((((cs.toList.drop 22).take (Tryd.prog.cellsOf 25)).drop 14).take (Tryd.prog.cellsOf 3)) = _ at u3
    rw [cells1, cellsL15] at u0 u2 u3
    have hin : ∀ i c, i < 15 → ((cs.toList.drop 22).take 15)[i]? = some c → cs.toList[22 + i]? = some c := by
      intro i c hi h
      rw [List.getElem?_take, if_pos hi, List.getElem?_drop] at h
      exact h
    have g0 := hin 0 _ (by omega) (take_one u0)
    have g2 := hin 13 _ (by omega) (take_one u2)
    have g3 := hin 14 _ (by omega) (take_one u3)
    have fa : ∀ i, i < 12 → ∃ a, cs.toList[22 + (1 + i)]? = some (.int .i64 a) := by
      intro i hi
      have hi2 := hel i hi
      rw [List.getElem?_eq_getElem (by omega)] at hi2
      obtain ⟨a, ea, _⟩ := DataW.trod_int Tryd.underlying3 hi2
      change ((((((cs.toList.drop 22).take (Tryd.prog.cellsOf 25)).drop 1).take (Tryd.prog.cellsOf 23)).drop (i * Tryd.prog.cellsOf 3)).take (Tryd.prog.cellsOf 3)) = _ at ea
      rw [cells1, cells12, cellsL15, Nat.mul_one] at ea
      have hf2 := take_one ea
      rw [List.getElem?_take, if_pos hi, List.getElem?_drop] at hf2
      exact ⟨a, hin (1 + i) _ (by omega) hf2⟩
    intro i hi
    by_cases q0 : i = 0
    · subst q0; exact ⟨_, g0⟩
    · by_cases q1 : i < 13
      · obtain ⟨a, ha⟩ := fa (i - 1) (by omega)
        rw [show 22 + (1 + (i - 1)) = 22 + i by omega] at ha
        exact ⟨a, ha⟩
      · by_cases q2 : i = 13
        · subst q2; exact ⟨_, g2⟩
        · have q3 : i = 14 := by omega
          subst q3; exact ⟨_, g3⟩
  have R3 : ∀ i, i < 31 → ∃ z, cs.toList[37 + i]? = some (.int .i64 z) := by
    obtain ⟨zs, m2, _, _, _, hz, hel⟩ := DataW.trod_array Tryd.underlying26 h9
    intro i hi
    have hi2 := hel i hi
    rw [List.getElem?_eq_getElem (by omega)] at hi2
    obtain ⟨a, ea, _⟩ := DataW.trod_int Tryd.underlying3 hi2
    change ((((cs.toList.drop 37).take (Tryd.prog.cellsOf 26)).drop (i * Tryd.prog.cellsOf 3)).take (Tryd.prog.cellsOf 3)) = _ at ea
    rw [cells1, cells31, Nat.mul_one] at ea
    have hf2 := take_one ea
    rw [List.getElem?_take, if_pos hi, List.getElem?_drop] at hf2
    exact ⟨a, hf2⟩
  have hlen : cs.toList.length = 68 := by rw [Array.length_toList, hsz]
  obtain ⟨rs, hrs⟩ := ints_of_cells cs.toList (by
    intro i hi
    rw [hlen] at hi
    by_cases q0 : i < 7
    · match i, q0 with
      | 0, _ => exact ⟨_, f0⟩
      | 1, _ => exact ⟨_, f1⟩
      | 2, _ => exact ⟨_, f2⟩
      | 3, _ => exact ⟨_, f3⟩
      | 4, _ => exact ⟨_, f4⟩
      | 5, _ => exact ⟨_, f5⟩
      | 6, _ => exact ⟨_, f6⟩
    · by_cases q1 : i < 22
      · obtain ⟨z, hz⟩ := Ra (i - 7) (by omega)
        rw [show 7 + (i - 7) = i by omega] at hz
        exact ⟨z, hz⟩
      · by_cases q2 : i < 37
        · obtain ⟨z, hz⟩ := Rb (i - 22) (by omega)
          rw [show 22 + (i - 22) = i by omega] at hz
          exact ⟨z, hz⟩
        · obtain ⟨z, hz⟩ := R3 (i - 37) (by omega)
          rw [show 37 + (i - 37) = i by omega] at hz
          exact ⟨z, hz⟩)
  have hlr : rs.length = 68 := by
    have := congrArg List.length hrs
    rw [hlen, List.length_map] at this
    omega
  obtain ⟨gen, bl, cu, ck, op, ev, lg, s1, ds1, p1, q1, s2, ds2, p2, q2, sn, hd1, hd2, hsn, rfl⟩ := split_fs rs hlr
  refine ⟨gen, bl, cu, ck, op, ev, lg, s1, ds1, p1, q1, s2, ds2, p2, q2, sn, hd1, hd2, hsn, ?_⟩
  have e2 : cs = cellsI (fsI gen bl cu ck op ev lg s1 ds1 p1 q1 s2 ds2 p2 q2 sn) := by
    apply Array.ext'
    rw [hrs]
    simp [cellsI]
  rw [e2]
theorem d_let : Tryd.prog.globalNamed "loop.example/s02533/impl.fsinfoLetters" = some 1 := by kernel_rfl
theorem d_lett : (Tryd.prog.globals[1]?).map (·.type) = some 125 := by kernel_rfl
theorem d_letu : Tryd.prog.underlying 125 = some (.array 8 5) := by kernel_rfl
theorem letF_of {W : World} (h : laidMet Tryd.prog [("loop.example/s02533/impl.fsinfoLetters", Rows.laid_loop_example_s02533_impl_fsinfoLetters)] W) : LetF W := by
  obtain ⟨ps, ⟨g, t, cs, fuel, p, q, h1, h2, h3, h4, _, _⟩, _⟩ := h
  obtain rfl := Option.some.inj (d_let.symm.trans h1)
  obtain rfl := Option.some.inj (d_lett.symm.trans h2)
  obtain ⟨xs, m, _, hx, hlen, hxl, hel⟩ := DataW.trod_array d_letu h4
  have hx1 : Rows.laid_loop_example_s02533_impl_fsinfoLetters = DataW.agg (xs.map (·.1)) := congrArg Prod.fst hx
  unfold Rows.laid_loop_example_s02533_impl_fsinfoLetters at hx1
  injection hx1 with hx2
  intro j v hv
  rw [Nat.zero_add, World.var?_cell d_let h3 j]
  have hj : j < 8 := by
    rcases Nat.lt_or_ge j 8 with h | h
    · exact h
    · rw [List.getElem?_eq_none (by simp [fsLet]; omega)] at hv; cases hv
  have he := hel j hj
  rw [cellsU8, Nat.mul_one, List.getElem?_eq_getElem (by omega)] at he
  obtain ⟨a, ea, hxa, _⟩ := DataW.trod_int Tryd.underlying5 he
  have hc := take_one ea
  have hd : (xs.map (·.1))[j]? = some (.lit (.int .u8 a)) := by
    rw [List.getElem?_map, List.getElem?_eq_getElem (by omega), hxa]; rfl
  rw [← hx2] at hd
  rw [show cs[j]? = cs.toList[j]? from by simp, hc, ← hv]
  match j, hj with
  | 0, _ | 1, _ | 2, _ | 3, _ | 4, _ | 5, _ | 6, _ | 7, _ =>
    simp at hd
    subst hd
    rfl
/-- A world that meets both conditions. -/
noncomputable def laidWorldF (os : Os) : World :=
  let w0 := laidWorld os
  { w0 with heap := w0.heap.modify 1 fun
      | .cells _ t frozen => .cells #[.int .u8 114, .int .u8 111, .int .u8 111, .int .u8 116, .int .u8 114, .int .u8 101, .int .u8 99, .int .u8 49] t frozen
      | o => o }
end Go.Proofs.YtmmhkjpkidljlaaDoor
