/- Inodes that came in, one or a slice of them, opened: twenty-four integers each. -/
import Derived.Test.YtlpapoplnacobaaDoorOpen
import Derived.Test.YtlpapoplnacobaaDoorTabA
namespace Go.Proofs.YtlpapoplnacobaaDoor
set_option linter.unusedVariables false
set_option linter.unusedSimpArgs false
open Go.ChangeShapes Go.WideShapes Go.ChangeAt Go.RowKit

theorem cellsL24 : Tryd.prog.cellsOf 50 = 24 := by kernel_rfl
set_option maxRecDepth 100000 in
theorem open_ino_cells {H : Type} {enc : TypeId × Value → H} {W : World} {base : Nat} {spare : TypeId → Bool} {held : Bool} {fuel : Nat} {cs : List Value} {x : DataW H × List MemPlace} (hsz : cs.length = 24) (hf : DataW.trod enc Tryd.prog W base spare held fuel 50 cs = some x) :
    ∃ rs : List Int, rs.length = 24 ∧ cs = rs.map (Value.int .i64) := by
  obtain ⟨xs, n, _, _, _, hl, hfld⟩ := DataW.trod_struct Tryd.underlying50 hf
  have hl10 : xs.length = 10 := hl
  have h0 := hfld 0 _ rfl
  rw [List.getElem?_eq_getElem (show 0 < xs.length by omega)] at h0
  have h1 := hfld 1 _ rfl
  rw [List.getElem?_eq_getElem (show 1 < xs.length by omega)] at h1
  have h2 := hfld 2 _ rfl
  rw [List.getElem?_eq_getElem (show 2 < xs.length by omega)] at h2
  have h3 := hfld 3 _ rfl
  rw [List.getElem?_eq_getElem (show 3 < xs.length by omega)] at h3
  have h4 := hfld 4 _ rfl
  rw [List.getElem?_eq_getElem (show 4 < xs.length by omega)] at h4
  have h5 := hfld 5 _ rfl
  rw [List.getElem?_eq_getElem (show 5 < xs.length by omega)] at h5
  have h6 := hfld 6 _ rfl
  rw [List.getElem?_eq_getElem (show 6 < xs.length by omega)] at h6
  have h7 := hfld 7 _ rfl
  rw [List.getElem?_eq_getElem (show 7 < xs.length by omega)] at h7
  have h8 := hfld 8 _ rfl
  rw [List.getElem?_eq_getElem (show 8 < xs.length by omega)] at h8
  have h9 := hfld 9 _ rfl
  rw [List.getElem?_eq_getElem (show 9 < xs.length by omega)] at h9
  obtain ⟨x0, e0, _⟩ := DataW.trod_int Tryd.underlying3 h0
  change (cs.drop 0).take (Tryd.prog.cellsOf 3) = _ at e0
  obtain ⟨x1, e1, _⟩ := DataW.trod_int Tryd.underlying3 h1
  change (cs.drop 1).take (Tryd.prog.cellsOf 3) = _ at e1
  obtain ⟨x2, e2, _⟩ := DataW.trod_int Tryd.underlying3 h2
  change (cs.drop 2).take (Tryd.prog.cellsOf 3) = _ at e2
  obtain ⟨x3, e3, _⟩ := DataW.trod_int Tryd.underlying3 h3
  change (cs.drop 3).take (Tryd.prog.cellsOf 3) = _ at e3
  obtain ⟨x4, e4, _⟩ := DataW.trod_int Tryd.underlying3 h4
  change (cs.drop 4).take (Tryd.prog.cellsOf 3) = _ at e4
  obtain ⟨x5, e5, _⟩ := DataW.trod_int Tryd.underlying3 h5
  change (cs.drop 5).take (Tryd.prog.cellsOf 3) = _ at e5
  obtain ⟨x6, e6, _⟩ := DataW.trod_int Tryd.underlying3 h6
  change (cs.drop 6).take (Tryd.prog.cellsOf 3) = _ at e6
  obtain ⟨x7, e7, _⟩ := DataW.trod_int Tryd.underlying3 h7
  change (cs.drop 7).take (Tryd.prog.cellsOf 3) = _ at e7
  obtain ⟨x8, e8, _⟩ := DataW.trod_int Tryd.underlying3 h8
  change (cs.drop 8).take (Tryd.prog.cellsOf 3) = _ at e8
  rw [cells1] at e0 e1 e2 e3 e4 e5 e6 e7 e8
  have f0 := take_one e0
  have f1 := take_one e1
  have f2 := take_one e2
  have f3 := take_one e3
  have f4 := take_one e4
  have f5 := take_one e5
  have f6 := take_one e6
  have f7 := take_one e7
  have f8 := take_one e8
  obtain ⟨ys, m, _, _, _, hy, hroot⟩ := DataW.trod_struct Tryd.underlying48 h9
  have hy4 : ys.length = 4 := hy
  have r0 := hroot 0 _ rfl
  have r1 := hroot 1 _ rfl
  have r2 := hroot 2 _ rfl
  have r3 := hroot 3 _ rfl
  rw [List.getElem?_eq_getElem (show 0 < ys.length by omega)] at r0
  rw [List.getElem?_eq_getElem (show 1 < ys.length by omega)] at r1
  rw [List.getElem?_eq_getElem (show 2 < ys.length by omega)] at r2
  rw [List.getElem?_eq_getElem (show 3 < ys.length by omega)] at r3
  obtain ⟨y0, u0, _⟩ := DataW.trod_int Tryd.underlying3 r0
  obtain ⟨y2, u2, _⟩ := DataW.trod_int Tryd.underlying3 r2
  obtain ⟨y3, u3, _⟩ := DataW.trod_int Tryd.underlying3 r3
  obtain ⟨zs, m2, _, _, _, hz, hel⟩ := DataW.trod_array Tryd.underlying40 r1
  change ((((cs.drop 9).take (Tryd.prog.cellsOf 48)).drop 0).take (Tryd.prog.cellsOf 3)) = _ at u0
  change ((((cs.drop 9).take (Tryd.prog.cellsOf 48)).drop 13).take (Tryd.prog.cellsOf 3)) = _ at u2
  change ((((cs.drop 9).take (Tryd.prog.cellsOf 48)).drop 14).take (Tryd.prog.cellsOf 3)) = _ at u3
  rw [cells1, cellsL15] at u0 u2 u3
  have hin : ∀ i c, i < 15 → ((cs.drop 9).take 15)[i]? = some c → cs[9 + i]? = some c := by
    intro i c hi h
    rw [List.getElem?_take, if_pos hi, List.getElem?_drop] at h
    exact h
  have g0 := hin 0 _ (by omega) (take_one u0)
  have g2 := hin 13 _ (by omega) (take_one u2)
  have g3 := hin 14 _ (by omega) (take_one u3)
  have fa : ∀ i, i < 12 → ∃ a, cs[9 + (1 + i)]? = some (.int .i64 a) := by
    intro i hi
    have hi2 := hel i hi
    rw [List.getElem?_eq_getElem (by omega)] at hi2
    obtain ⟨a, ea, _⟩ := DataW.trod_int Tryd.underlying3 hi2
    change ((((((cs.drop 9).take (Tryd.prog.cellsOf 48)).drop 1).take (Tryd.prog.cellsOf 40)).drop (i * Tryd.prog.cellsOf 3)).take (Tryd.prog.cellsOf 3)) = _ at ea
    rw [cells1, cells12, cellsL15, Nat.mul_one] at ea
    have hf2 := take_one ea
    rw [List.getElem?_take, if_pos hi, List.getElem?_drop] at hf2
    exact ⟨a, hin (1 + i) _ (by omega) hf2⟩
  have hall : ∀ i, i < cs.length → ∃ a, cs[i]? = some (.int .i64 a) := by
    intro i hi
    rw [hsz] at hi
    rcases Nat.lt_or_ge i 9 with h | h
    · match i, h with
      | 0, _ => exact ⟨_, f0⟩
      | 1, _ => exact ⟨_, f1⟩
      | 2, _ => exact ⟨_, f2⟩
      | 3, _ => exact ⟨_, f3⟩
      | 4, _ => exact ⟨_, f4⟩
      | 5, _ => exact ⟨_, f5⟩
      | 6, _ => exact ⟨_, f6⟩
      | 7, _ => exact ⟨_, f7⟩
      | 8, _ => exact ⟨_, f8⟩
    · by_cases q0 : i = 9
      · subst q0; exact ⟨_, g0⟩
      · by_cases q1 : i < 22
        · obtain ⟨a, ha⟩ := fa (i - 10) (by omega)
          rw [show 9 + (1 + (i - 10)) = i by omega] at ha
          exact ⟨a, ha⟩
        · by_cases q2 : i = 22
          · subst q2; exact ⟨_, g2⟩
          · have q3 : i = 23 := by omega
            subst q3; exact ⟨_, g3⟩
  obtain ⟨rs, hrs⟩ := ints_of_cells cs hall
  have hlr : rs.length = 24 := by
    have := congrArg List.length hrs
    rw [hsz, List.length_map] at this
    omega
  exact ⟨rs, hlr, hrs⟩

theorem rows_of (n : Nat) (f : Nat → Value) (h : ∀ k, k < n → ∃ rs : List Int, rs.length = 24 ∧ ∀ j, j < 24 → f (k * 24 + j) = .int .i64 (rs.getD j 0)) : ∃ zs : List Int, zs.length = n * 24 ∧ ∀ i, i < n * 24 → f i = .int .i64 (zs.getD i 0) := by
  induction n with
  | zero => exact ⟨[], rfl, fun i hi => by omega⟩
  | succ n ih =>
    obtain ⟨zs, hz, hc⟩ := ih (fun k hk => h k (by omega))
    obtain ⟨rs, hr, hd⟩ := h n (by omega)
    refine ⟨zs ++ rs, by simp [hz, hr]; omega, fun i hi => ?_⟩
    by_cases hlt : i < n * 24
    · rw [hc i hlt]
      simp [List.getD, List.getElem?_append_left (show i < zs.length by omega)]
    · have := hd (i - n * 24) (by omega)
      rw [show n * 24 + (i - n * 24) = i by omega] at this
      rw [this]
      simp [List.getD, List.getElem?_append_right (show zs.length ≤ i by omega), hz]
/-- A slice of inodes that came in reads as integers. -/
theorem open_inodes {H : Type} {enc : TypeId × Value → H} {W : World} {base : Nat} {spare : TypeId → Bool} {held : Bool} {a : Option Addr} {len cap : Nat} {d : DataW H} {pl : List MemPlace} (h : DataW.Trod enc Tryd.prog W base spare held 22 (.slice a len cap) d pl) :
    ∃ zs, RdT W (.slice a len cap) len zs := by
  obtain ⟨fuel, hf⟩ := h
  rcases DataW.trod_slice Tryd.underlying22 hf with ⟨hcs, _⟩ | ⟨x, l, c, elems, rest, n, _, hcs, _, hb, hl, hm, hlen, hel, _, _⟩
  · simp [Value.cells] at hcs
    obtain ⟨rfl, rfl, rfl⟩ := hcs
    exact ⟨[], rfl, none, 0, rfl, fun h => absurd h (by omega), by omega, by omega⟩
  · simp [Value.cells] at hcs
    obtain ⟨rfl, rfl, rfl⟩ := hcs
    rw [cellsL24] at hel
    have each : ∀ k, k < len → ∃ rs : List Int, rs.length = 24 ∧ ∀ j, j < 24 → W.cell? ((x.add (k * 24)).add j) = some (.int .i64 (rs.getD j 0)) := by
      intro k hk
      have h1 := hel k hk
      rw [List.getElem?_eq_getElem (by omega), Option.bind_eq_some_iff] at h1
      obtain ⟨cs, hcs, hy⟩ := h1
      obtain ⟨_, hcl, hcc⟩ := World.cells?_some hcs
      obtain ⟨rs, hr, rfl⟩ := open_ino_cells hcl hy
      refine ⟨rs, hr, fun j hj => ?_⟩
      rw [hcc j hj]
      simp [List.getD, hr, hj]
    rcases Nat.eq_zero_or_pos len with h0 | h0
    · subst h0
      exact ⟨[], rfl, some x, cap, rfl, fun h => absurd h (by omega), by omega, hm⟩
    · obtain ⟨b, off, spot⟩ := x
      obtain ⟨rs0, _, hc0⟩ := each 0 h0
      have hc := hc0 0 (by omega)
      have hspot : spot = none := by simpa [Addr.add] using World.cell?_spot hc
      subst hspot
      have ea : ∀ i : Nat, (⟨b, off, none⟩ : Addr).add i = ⟨b, off + i, none⟩ := fun i => Addr.add_mid b off i
      have each2 : ∀ k, k < len → ∃ rs : List Int, rs.length = 24 ∧ ∀ j, j < 24 → (fun i => (W.cell? ⟨b, off + i, none⟩).getD undef) (k * 24 + j) = .int .i64 (rs.getD j 0) := by
        intro k hk
        obtain ⟨rs, hr, hj⟩ := each k hk
        refine ⟨rs, hr, fun j hj2 => ?_⟩
        have := hj j hj2
        rw [ea, Addr.add_mid] at this
        show (W.cell? ⟨b, off + (k * 24 + j), none⟩).getD undef = _
        rw [← Nat.add_assoc, this]; rfl
      obtain ⟨zs, hz, hzc⟩ := rows_of len (fun i => (W.cell? ⟨b, off + i, none⟩).getD undef) each2
      refine ⟨zs, hz, _, cap, rfl, fun _ => ⟨b, off, rfl, by rw [ea] at hc; simpa [Addr.add] using cell_lt hc, fun i hi => ?_⟩, hl, hm⟩
      have h1 := hzc i hi
      obtain ⟨rs, hr, hj⟩ := each (i / 24) (by omega)
      have h2 := hj (i % 24) (by omega)
      rw [ea, Addr.add_mid, show off + i / 24 * 24 + i % 24 = off + i by omega] at h2
      simp only [h2] at h1 ⊢
      exact congrArg some h1
end Go.Proofs.YtlpapoplnacobaaDoor
