/- A plan that came in, opened. -/
import Derived.Test.YtmmhkjpkidljlaaDoorZc42
import Derived.Test.YtmmhkjpkidljlaaDoorZc44
namespace Go.Proofs.YtmmhkjpkidljlaaDoor
set_option linter.unusedVariables false
set_option linter.unusedSimpArgs false
open Go.ChangeShapes Go.WideShapes Go.ChangeAt Go.RowKit

theorem cellsLP : Tryd.prog.cellsOf 69 = 2 := by kernel_rfl
theorem cellsLPS : Tryd.prog.cellsOf 22 = 1 := by kernel_rfl
theorem cellsU8S : Tryd.prog.cellsOf 48 = 1 := by kernel_rfl
theorem cellsLC : Tryd.prog.cellsOf 30 = 69 := by kernel_rfl
set_option maxRecDepth 100000 in
theorem open_fs_cells {H : Type} {enc : TypeId × Value → H} {W : World} {base : Nat} {spare : TypeId → Bool} {held : Bool} {fuel : Nat} {cs : List Value} {x : DataW H × List MemPlace} (hsz : cs.length = 68) (hf : DataW.trod enc Tryd.prog W base spare held fuel 28 cs = some x) : ∃ rs : List Int, rs.length = 68 ∧ cs = rs.map (Value.int .i64) := by
  obtain ⟨xs, n, _, _, _, hl, hfld⟩ := DataW.trod_struct Tryd.underlying28 hf
  have hl10 : xs.length = 10 := hl
  have h0 := hfld 0 _ rfl
  rw [List.getElem?_eq_getElem (show 0 < xs.length by omega)] at h0
  have h1 := hfld 1 _ rfl
  rw [List.getElem?_eq_getElem (show 1 < xs.length by omega)] at h1
  have h2 := hfld 2 _ rfl
  rw [List.getElem?_eq_getElem (show 2 < xs.length by omega)] at h2
  have h3 := hfld 3 _ rfl
  rw [List.getElem?_eq_getElem (show 3 < xs.length by omega)] at h3
  have h4 := hfld 4 _ rfl
  rw [List.getElem?_eq_getElem (show 4 < xs.length by omega)] at h4
  have h5 := hfld 5 _ rfl
  rw [List.getElem?_eq_getElem (show 5 < xs.length by omega)] at h5
  have h6 := hfld 6 _ rfl
  rw [List.getElem?_eq_getElem (show 6 < xs.length by omega)] at h6
  have h7 := hfld 7 _ rfl
  rw [List.getElem?_eq_getElem (show 7 < xs.length by omega)] at h7
  have h8 := hfld 8 _ rfl
  rw [List.getElem?_eq_getElem (show 8 < xs.length by omega)] at h8
  have h9 := hfld 9 _ rfl
  rw [List.getElem?_eq_getElem (show 9 < xs.length by omega)] at h9
  obtain ⟨x0, e0, _⟩ := DataW.trod_int Tryd.underlying3 h0
  change (cs.drop 0).take (Tryd.prog.cellsOf 3) = _ at e0
  rw [cells1] at e0
  have f0 := take_one e0
  obtain ⟨x1, e1, _⟩ := DataW.trod_int Tryd.underlying3 h1
  change (cs.drop 1).take (Tryd.prog.cellsOf 3) = _ at e1
  rw [cells1] at e1
  have f1 := take_one e1
  obtain ⟨x2, e2, _⟩ := DataW.trod_int Tryd.underlying3 h2
  change (cs.drop 2).take (Tryd.prog.cellsOf 3) = _ at e2
  rw [cells1] at e2
  have f2 := take_one e2
  obtain ⟨x3, e3, _⟩ := DataW.trod_int Tryd.underlying3 h3
  change (cs.drop 3).take (Tryd.prog.cellsOf 3) = _ at e3
  rw [cells1] at e3
  have f3 := take_one e3
  obtain ⟨x4, e4, _⟩ := DataW.trod_int Tryd.underlying3 h4
  change (cs.drop 4).take (Tryd.prog.cellsOf 3) = _ at e4
  rw [cells1] at e4
  have f4 := take_one e4
  obtain ⟨x5, e5, _⟩ := DataW.trod_int Tryd.underlying3 h5
  change (cs.drop 5).take (Tryd.prog.cellsOf 3) = _ at e5
  rw [cells1] at e5
  have f5 := take_one e5
  obtain ⟨x6, e6, _⟩ := DataW.trod_int Tryd.underlying3 h6
  change (cs.drop 6).take (Tryd.prog.cellsOf 3) = _ at e6
  rw [cells1] at e6
  have f6 := take_one e6
  have Ra : ∀ i, i < 15 → ∃ z, cs[7 + i]? = some (.int .i64 z) := by
    obtain ⟨ys, m, _, _, _, hy, hroot⟩ := DataW.trod_struct Tryd.underlying25 h7
    have hy4 : ys.length = 4 := hy
    have r0 := hroot 0 _ rfl
    have r1 := hroot 1 _ rfl
    have r2 := hroot 2 _ rfl
    have r3 := hroot 3 _ rfl
    rw [List.getElem?_eq_getElem (show 0 < ys.length by omega)] at r0
    rw [List.getElem?_eq_getElem (show 1 < ys.length by omega)] at r1
    rw [List.getElem?_eq_getElem (show 2 < ys.length by omega)] at r2
    rw [List.getElem?_eq_getElem (show 3 < ys.length by omega)] at r3
    obtain ⟨y0, u0, _⟩ := DataW.trod_int Tryd.underlying3 r0
    obtain ⟨y2, u2, _⟩ := DataW.trod_int Tryd.underlying3 r2
    obtain ⟨y3, u3, _⟩ := DataW.trod_int Tryd.underlying3 r3
    obtain ⟨zs, m2, _, _, _, hz, hel⟩ := DataW.trod_array Tryd.underlying23 r1
    change ((((cs.drop 7).take (Tryd.prog.cellsOf 25)).drop 0).take (Tryd.prog.cellsOf 3)) = _ at u0
    change ((((cs.drop 7).take (Tryd.prog.cellsOf 25)).drop 13).take (Tryd.prog.cellsOf 3)) = _ at u2
    change ((((cs.drop 7).take (Tryd.prog.cellsOf 25)).drop 14).take (Tryd.prog.cellsOf 3)) = _ at u3
    rw [cells1, cellsL15] at u0 u2 u3
    have hin : ∀ i c, i < 15 → ((cs.drop 7).take 15)[i]? = some c → cs[7 + i]? = some c := by
      intro i c hi h
      rw [List.getElem?_take, if_pos hi, List.getElem?_drop] at h
      exact h
    have g0 := hin 0 _ (by omega) (take_one u0)
    have g2 := hin 13 _ (by omega) (take_one u2)
    have g3 := hin 14 _ (by omega) (take_one u3)
    have fa : ∀ i, i < 12 → ∃ a, cs[7 + (1 + i)]? = some (.int .i64 a) := by
      intro i hi
      have hi2 := hel i hi
      rw [List.getElem?_eq_getElem (by omega)] at hi2
      obtain ⟨a, ea, _⟩ := DataW.trod_int Tryd.underlying3 hi2
      change ((((((cs.drop 7).take (Tryd.prog.cellsOf 25)).drop 1).take (Tryd.prog.cellsOf 23)).drop (i * Tryd.prog.cellsOf 3)).take (Tryd.prog.cellsOf 3)) = _ at ea
      rw [cells1, cells12, cellsL15, Nat.mul_one] at ea
      have hf2 := take_one ea
      rw [List.getElem?_take, if_pos hi, List.getElem?_drop] at hf2
      exact ⟨a, hin (1 + i) _ (by omega) hf2⟩
    intro i hi
    by_cases q0 : i = 0
    · subst q0; exact ⟨_, g0⟩
    · by_cases q1 : i < 13
      · obtain ⟨a, ha⟩ := fa (i - 1) (by omega)
        rw [show 7 + (1 + (i - 1)) = 7 + i by omega] at ha
        exact ⟨a, ha⟩
      · by_cases q2 : i = 13
        · subst q2; exact ⟨_, g2⟩
        · have q3 : i = 14 := by omega
          subst q3; exact ⟨_, g3⟩
  have Rb : ∀ i, i < 15 → ∃ z, cs[22 + i]? = some (.int .i64 z) := by
    obtain ⟨ys, m, _, _, _, hy, hroot⟩ := DataW.trod_struct Tryd.underlying25 h8
    have hy4 : ys.length = 4 := hy
    have r0 := hroot 0 _ rfl
    have r1 := hroot 1 _ rfl
    have r2 := hroot 2 _ rfl
    have r3 := hroot 3 _ rfl
    rw [List.getElem?_eq_getElem (show 0 < ys.length by omega)] at r0
    rw [List.getElem?_eq_getElem (show 1 < ys.length by omega)] at r1
    rw [List.getElem?_eq_getElem (show 2 < ys.length by omega)] at r2
    rw [List.getElem?_eq_getElem (show 3 < ys.length by omega)] at r3
    obtain ⟨y0, u0, _⟩ := DataW.trod_int Tryd.underlying3 r0
    obtain ⟨y2, u2, _⟩ := DataW.trod_int Tryd.underlying3 r2
    obtain ⟨y3, u3, _⟩ := DataW.trod_int Tryd.underlying3 r3
    obtain ⟨zs, m2, _, _, _, hz, hel⟩ := DataW.trod_array Tryd.underlying23 r1
    change ((((cs.drop 22).take (Tryd.prog.cellsOf 25)).drop 0).take (Tryd.prog.cellsOf 3)) = _ at u0
    change ((((cs.drop 22).take (Tryd.prog.cellsOf 25)).drop 13).take (Tryd.prog.cellsOf 3)) = _ at u2
    change ((((cs.drop 22).take (Tryd.prog.cellsOf 25)).drop 14).take (Tryd.prog.cellsOf 3)) = _ at u3
    rw [cells1, cellsL15] at u0 u2 u3
    have hin : ∀ i c, i < 15 → ((cs.drop 22).take 15)[i]? = some c → cs[22 + i]? = some c := by
      intro i c hi h
      rw [List.getElem?_take, if_pos hi, List.getElem?_drop] at h
      exact h
    have g0 := hin 0 _ (by omega) (take_one u0)
    have g2 := hin 13 _ (by omega) (take_one u2)
    have g3 := hin 14 _ (by omega) (take_one u3)
    have fa : ∀ i, i < 12 → ∃ a, cs[22 + (1 + i)]? = some (.int .i64 a) := by
      intro i hi
      have hi2 := hel i hi
      rw [List.getElem?_eq_getElem (by omega)] at hi2
      obtain ⟨a, ea, _⟩ := DataW.trod_int Tryd.underlying3 hi2
      change ((((((cs.drop 22).take (Tryd.prog.cellsOf 25)).drop 1).take (Tryd.prog.cellsOf 23)).drop (i * Tryd.prog.cellsOf 3)).take (Tryd.prog.cellsOf 3)) = _ at ea
      rw [cells1, cells12, cellsL15, Nat.mul_one] at ea
      have hf2 := take_one ea
      rw [List.getElem?_take, if_pos hi, List.getElem?_drop] at hf2
      exact ⟨a, hin (1 + i) _ (by omega) hf2⟩
    intro i hi
    by_cases q0 : i = 0
    · subst q0; exact ⟨_, g0⟩
    · by_cases q1 : i < 13
      · obtain ⟨a, ha⟩ := fa (i - 1) (by omega)
        rw [show 22 + (1 + (i - 1)) = 22 + i by omega] at ha
        exact ⟨a, ha⟩
      · by_cases q2 : i = 13
        · subst q2; exact ⟨_, g2⟩
        · have q3 : i = 14 := by omega
          subst q3; exact ⟨_, g3⟩
  have R3 : ∀ i, i < 31 → ∃ z, cs[37 + i]? = some (.int .i64 z) := by
    obtain ⟨zs, m2, _, _, _, hz, hel⟩ := DataW.trod_array Tryd.underlying26 h9
    intro i hi
    have hi2 := hel i hi
    rw [List.getElem?_eq_getElem (by omega)] at hi2
    obtain ⟨a, ea, _⟩ := DataW.trod_int Tryd.underlying3 hi2
    change ((((cs.drop 37).take (Tryd.prog.cellsOf 26)).drop (i * Tryd.prog.cellsOf 3)).take (Tryd.prog.cellsOf 3)) = _ at ea
    rw [cells1, cells31, Nat.mul_one] at ea
    have hf2 := take_one ea
    rw [List.getElem?_take, if_pos hi, List.getElem?_drop] at hf2
    exact ⟨a, hf2⟩
  have hlen : cs.length = 68 := hsz
  obtain ⟨rs, hrs⟩ := ints_of_cells cs (by
    intro i hi
    rw [hlen] at hi
    by_cases q0 : i < 7
    · match i, q0 with
      | 0, _ => exact ⟨_, f0⟩
      | 1, _ => exact ⟨_, f1⟩
      | 2, _ => exact ⟨_, f2⟩
      | 3, _ => exact ⟨_, f3⟩
      | 4, _ => exact ⟨_, f4⟩
      | 5, _ => exact ⟨_, f5⟩
      | 6, _ => exact ⟨_, f6⟩
    · by_cases q1 : i < 22
      · obtain ⟨z, hz⟩ := Ra (i - 7) (by omega)
        rw [show 7 + (i - 7) = i by omega] at hz
        exact ⟨z, hz⟩
      · by_cases q2 : i < 37
        · obtain ⟨z, hz⟩ := Rb (i - 22) (by omega)
          rw [show 22 + (i - 22) = i by omega] at hz
          exact ⟨z, hz⟩
        · obtain ⟨z, hz⟩ := R3 (i - 37) (by omega)
          rw [show 37 + (i - 37) = i by omega] at hz
          exact ⟨z, hz⟩)
  have hlr : rs.length = 68 := by
    have := congrArg List.length hrs
    rw [hlen, List.length_map] at this
    omega
  exact ⟨rs, hlr, hrs⟩
/-- A slice of bytes, one cell, reads as bytes. -/
theorem open_bytes_cell {H : Type} {enc : TypeId × Value → H} {W : World} {base : Nat} {held : Bool} {fuel : Nat} {cs : List Value} {x : DataW H × List MemPlace} (hf : DataW.trod enc Tryd.prog W base (fun _ => true) held fuel 48 cs = some x) : ∃ u zs, cs = [u] ∧ Rd .u8 W u zs := by
  rcases open_ints Tryd.underlying48 Tryd.underlying5 (by kernel_rfl) hf with ⟨hcs, _⟩ | ⟨x, l, c, zs, hcs, _, hl, hm, hz, _, hcell, hwz⟩
  · exact ⟨_, [], hcs, ⟨none, 0, rfl, by simp, fun h => absurd rfl h, by simp, by simp⟩⟩
  · have h := Rd.of_row (show IsRow .u8 W (some x) l c zs from .inr ⟨_, rfl, hl, hm, by simpa using hz, hcell, hwz⟩)
    exact ⟨_, zs.take l, hcs, h.1⟩
set_option maxRecDepth 100000 in
/-- An element of a slice of Put. -/
theorem open_put_cells {H : Type} {enc : TypeId × Value → H} {W : World} {base : Nat} {held : Bool} {fuel : Nat} {cs : List Value} {x : DataW H × List MemPlace} (hsz : cs.length = 2) (hf : DataW.trod enc Tryd.prog W base (fun _ => true) held fuel 69 cs = some x) : ∃ (b : Int) (u : Value) (zs : List Int), cs = [.int .i64 b, u] ∧ Rd .u8 W u zs := by
  obtain ⟨xs, n, _, _, _, hl, hfld⟩ := DataW.trod_struct Tryd.underlying69 hf
  have hl2 : xs.length = 2 := hl
  have h0 := hfld 0 _ rfl
  rw [List.getElem?_eq_getElem (show 0 < xs.length by omega)] at h0
  have h1 := hfld 1 _ rfl
  rw [List.getElem?_eq_getElem (show 1 < xs.length by omega)] at h1
  obtain ⟨b, e0, _⟩ := DataW.trod_int Tryd.underlying3 h0
  change (cs.drop 0).take (Tryd.prog.cellsOf 3) = _ at e0
  rw [cells1] at e0
  obtain ⟨u, zs, e1, hr⟩ := open_bytes_cell h1
  change (cs.drop 1).take (Tryd.prog.cellsOf 48) = _ at e1
  rw [cellsU8S] at e1
  refine ⟨b, u, zs, ?_, hr⟩
  match cs, hsz with
  | [c0, c1], _ =>
    simp at e0 e1
    rw [e0, e1]
theorem getD_map_some {α β : Type} (f : α → β) (l : List α) (i : Nat) (x : α) (h : l[i]? = some x) : (l.map f)[i]? = some (f x) := by rw [List.getElem?_map, h]; rfl
/-- Each element is known: so is the list. -/
theorem gather (n : Nat) (f : Nat → Int → Value → List Int → Prop) (h : ∀ k, k < n → ∃ b u zs, f k b u zs) : ∃ (Q : List (Int × List Int)) (us : List Value), Q.length = n ∧ us.length = n ∧ ∀ k, k < n → ∃ b u zs, Q[k]? = some (b, zs) ∧ us[k]? = some u ∧ f k b u zs := by
  induction n with
  | zero => exact ⟨[], [], rfl, rfl, fun k hk => by omega⟩
  | succ n ih =>
    obtain ⟨Q, us, h1, h2, h3⟩ := ih (fun k hk => h k (by omega))
    obtain ⟨b, u, zs, hb⟩ := h n (by omega)
    refine ⟨Q ++ [(b, zs)], us ++ [u], by simp [h1], by simp [h2], fun k hk => ?_⟩
    by_cases hkn : k < n
    · obtain ⟨b', u', zs', e1, e2, e3⟩ := h3 k hkn
      exact ⟨b', u', zs', by rw [List.getElem?_append_left (by omega)]; exact e1, by rw [List.getElem?_append_left (by omega)]; exact e2, e3⟩
    · obtain rfl : k = n := by omega
      exact ⟨b, u, zs, by rw [← h1, List.getElem?_append_right (Nat.le_refl _)]; simp, by rw [← h2, List.getElem?_append_right (Nat.le_refl _)]; simp, hb⟩
set_option maxRecDepth 100000 in
theorem open_puts {H : Type} {enc : TypeId × Value → H} {W : World} {base : Nat} {held : Bool} {fuel : Nat} {cs : List Value} {x : DataW H × List MemPlace} (hf : DataW.trod enc Tryd.prog W base (fun _ => true) held fuel 22 cs = some x) : ∃ (v : Value) (Q : List (Int × List Int)) (us : List Value), cs = [v] ∧ RdN W 1 v (Q.map neP) us := by
  rcases DataW.trod_slice Tryd.underlying22 hf with ⟨hcs, _⟩ | ⟨x, len, cap, elems, rest, n, _, hcs, _, hb, hl, hm, hlen, hel, _, _⟩
  · exact ⟨_, [], [], hcs, ⟨rfl, fun l h => (by cases h), ⟨none, 0, rfl, fun h => absurd h (by simp), by simp, by simp⟩, fun i u l h => (by simp at h)⟩⟩
  · rw [cellsLP] at hel
    obtain ⟨Q, us, h1, h2, h3⟩ := gather len (fun k b u zs => W.cell? ((x.add (k * 2)).add 0) = some (.int .i64 b) ∧ W.cell? ((x.add (k * 2)).add 1) = some u ∧ Rd .u8 W u zs) (fun k hk => by
      have h1 := hel k hk
      rw [List.getElem?_eq_getElem (by omega), Option.bind_eq_some_iff] at h1
      obtain ⟨cs, hcs, hy⟩ := h1
      obtain ⟨_, hcl, hcc⟩ := World.cells?_some hcs
      obtain ⟨b, u, zs, rfl, hr⟩ := open_put_cells hcl hy
      exact ⟨b, u, zs, by rw [hcc 0 (by omega)]; rfl, by rw [hcc 1 (by omega)]; rfl, hr⟩)
    refine ⟨_, Q, us, hcs, ⟨by simp [h1, h2], neP_pre _, ⟨some x, cap, by simp [h1], fun hn => ?_, by simp [h1]; exact hl, hm⟩, fun i u l hu hl => ?_⟩⟩
    · simp [h1] at hn
      obtain ⟨b0, u0, zs0, _, _, hc0, _⟩ := h3 0 hn
      obtain ⟨b, off, spot⟩ := x
      have hspot : spot = none := by simpa [Addr.add] using World.cell?_spot hc0
      subst hspot
      refine ⟨b, off, rfl, by rw [Addr.add_mid, Addr.add_mid] at hc0; simpa using cell_lt hc0, fun j u hu => ?_⟩
      have hjl : j < len * 2 := by
        have := (List.getElem?_eq_some_iff.1 hu).1
        rw [cellsN_len 1 _ _ (by simp [h1, h2]) (neP_pre _)] at this
        simp [h1] at this
        exact this
      obtain ⟨bk, uk, zk, e1, e2, c0, c1, _⟩ := h3 (j / 2) (by omega)
      have hg := cellsN_get 1 us (Q.map neP) (by simp [h1, h2]) (neP_pre _) (j / 2) (j % 2) uk (neP (bk, zk)) e2 (getD_map_some neP Q _ _ e1) (by omega)
      rw [show j / 2 * (1 + 1) + j % 2 = j by omega] at hg
      rw [hg] at hu
      rw [Addr.add_mid, Addr.add_mid] at c0 c1
      rcases (by omega : j % 2 = 0 ∨ j % 2 = 1) with h | h
      · rw [h] at hu
        have e : Value.int .i64 bk = u := Option.some.inj hu
        rw [← e, show off + j = off + j / 2 * 2 + 0 by omega]
        exact c0
      · rw [h] at hu
        have e : uk = u := Option.some.inj hu
        rw [← e, show off + j = off + j / 2 * 2 + 1 by omega]
        exact c1
    · have hi : i < len := by rw [← h2]; exact (List.getElem?_eq_some_iff.1 hu).1
      obtain ⟨bk, uk, zk, e1, e2, _, _, hr⟩ := h3 i hi
      rw [e2] at hu
      cases hu
      rw [getD_map_some neP Q _ _ e1] at hl
      cases hl
      exact hr
set_option maxRecDepth 100000 in
/-- A plan that came in. -/
theorem open_cps {H : Type} {enc : TypeId × Value → H} {W : World} {r : Reach} {b0 base : Nat} {held : Bool} {v : Value} {d : DataW H} {pl : List MemPlace} (hv : Value.okWide Tryd.prog W r b0 30 v) (h : DataW.Trod enc Tryd.prog W base (fun _ => true) held 30 v d pl) :
    ∃ (u : Value) (Q : List (Int × List Int)) (us : List Value) (F : List Int) (r : Bool) (enc : List Int), v = .agg (cpC u F) ∧ RdN W 1 u (Q.map neP) us ∧ FsK F r enc := by
  obtain ⟨cs, rfl, hsz⟩ := Go.WideShapes.okWide_struct Tryd.underlying30 hv
  rw [cellsLC] at hsz
  obtain ⟨fuel, hf⟩ := h
  obtain ⟨xs, n, _, _, _, hl, hfld⟩ := DataW.trod_struct Tryd.underlying30 hf
  have hc : (Value.agg cs).cells.toList = cs.toList := rfl
  rw [hc] at hfld
  have hl2 : xs.length = 2 := hl
  have h0 := hfld 0 _ rfl
  rw [List.getElem?_eq_getElem (show 0 < xs.length by omega)] at h0
  have h1 := hfld 1 _ rfl
  rw [List.getElem?_eq_getElem (show 1 < xs.length by omega)] at h1
  obtain ⟨u, Q, us, e0, hr⟩ := open_puts h0
  change (cs.toList.drop 0).take (Tryd.prog.cellsOf 22) = _ at e0
  rw [cellsLPS] at e0
  have hlen : cs.toList.length = 69 := by rw [Array.length_toList, hsz]
  obtain ⟨F, hF, e1⟩ := open_fs_cells (by
    change ((cs.toList.drop 1).take (Tryd.prog.cellsOf 28)).length = 68
    rw [cellsLF]
    simp [hlen, hsz]) h1
  change (cs.toList.drop 1).take (Tryd.prog.cellsOf 28) = _ at e1
  rw [cellsLF] at e1
  obtain ⟨gen, bl, cu, ck, op, ev, lg, s1, ds1, p1, q1, s2, ds2, p2, q2, sn, hd1, hd2, hsn, rfl⟩ := split_fs F hF
  refine ⟨u, Q, us, _, _, _, ?_, hr, fsK_of gen bl cu ck op ev lg s1 ds1 p1 q1 s2 ds2 p2 q2 sn hd1 hd2 hsn⟩
  congr 1
  apply Array.ext'
  have e2 : cs.toList = (cs.toList.drop 0).take 1 ++ (cs.toList.drop 1).take 68 := by
    rw [List.drop_zero, List.take_of_length_le (l := cs.toList.drop 1) (by rw [List.length_drop, hlen]; omega), List.take_append_drop]
  rw [e2, e0, e1]
  rfl
end Go.Proofs.YtmmhkjpkidljlaaDoor
