/- What a struct that came in is opened with. A slice of operations on a device that came in, opened. -/
import Derived.Test.YthghibopnnjboaaZd10
import Derived.ProofKit
import Derived.OpenShut
import Derived.Test.YthghibopnnjboaaZd46
import Derived.WalkKit
import Derived.ShutString
import Derived.ChangeOld
namespace Go.Proofs.Ythghibopnnjboaa
set_option linter.unusedVariables false
set_option linter.unusedSimpArgs false
open Go.ChangeShapes Go.WideShapes Go.ChangeAt Go.RowKit

theorem cells1 : Try.prog.cellsOf 3 = 1 := by kernel_rfl
theorem take_one {l : List Value} {o : Nat} {c : Value} (h : (l.drop o).take 1 = [c]) : l[o]? = some c := by
  have h2 : ((l.drop o).take 1)[0]? = some c := by rw [h]; rfl
  simpa using h2

theorem ints_of_cells : ∀ (l : List Value), (∀ i, i < l.length → ∃ a, l[i]? = some (.int .i64 a)) → ∃ rs : List Int, l = rs.map (Value.int .i64)
  | [], _ => ⟨[], rfl⟩
  | c :: l, h => by
    obtain ⟨a, ha⟩ := h 0 (by simp)
    obtain ⟨rs, hrs⟩ := ints_of_cells l (fun i hi => by have := h (i + 1) (by simpa using hi); simpa using this)
    simp at ha
    exact ⟨a :: rs, by rw [ha, hrs]; rfl⟩

end Go.Proofs.Ythghibopnnjboaa

namespace Go.Proofs.Ythghibopnnjboaa
set_option linter.unusedVariables false
set_option linter.unusedSimpArgs false
open Go.ChangeShapes Go.WideShapes Go.ChangeAt Go.RowKit

theorem cellsLD : Try.prog.cellsOf 63 = 3 := by kernel_rfl
theorem cellsUD : Try.prog.cellsOf 22 = 1 := by kernel_rfl
theorem wf_lt {b : Int} (h : (Lit.int .i64 b).wf = true) : b < 9223372036854775808 := by
  simp [Lit.wf, IntKind.min, IntKind.max, IntKind.bits, IntKind.signed] at h
  omega
/-- A slice of bytes, one cell, reads as bytes. -/
theorem open_bytes_cellD {H : Type} {enc : TypeId × Value → H} {W : World} {base : Nat} {held : Bool} {fuel : Nat} {cs : List Value} {x : DataW H × List MemPlace} (hf : DataW.trod enc Try.prog W base (fun _ => true) held fuel 22 cs = some x) : ∃ u zs, cs = [u] ∧ Rd .u8 W u zs ∧ ∀ z ∈ zs, 0 ≤ z ∧ z < 256 := by
  rcases open_ints Try.underlying22 Try.underlying5 (by kernel_rfl) hf with ⟨hcs, _⟩ | ⟨x, l, c, zs, hcs, _, hl, hm, hz, _, hcell, hwz⟩
  · exact ⟨_, [], hcs, ⟨none, 0, rfl, by simp, fun h => absurd rfl h, by simp, by simp⟩, fun z h => (by cases h)⟩
  · have h := Rd.of_row (show IsRow .u8 W (some x) l c zs from .inr ⟨_, rfl, hl, hm, by simpa using hz, hcell, hwz⟩)
    exact ⟨_, zs.take l, hcs, h.1, bytes_bd h.2.2⟩
set_option maxRecDepth 100000 in
/-- An element of a slice of DiskOp. -/
theorem open_dop_cells {H : Type} {enc : TypeId × Value → H} {W : World} {base : Nat} {held : Bool} {fuel : Nat} {cs : List Value} {x : DataW H × List MemPlace} (hsz : cs.length = 3) (hf : DataW.trod enc Try.prog W base (fun _ => true) held fuel 63 cs = some x) : ∃ (b b1 : Int) (u : Value) (zs : List Int), cs = [.int .i64 b, .int .i64 b1, u] ∧ Rd .u8 W u zs ∧ b1 < 9223372036854775808 ∧ ∀ z ∈ zs, 0 ≤ z ∧ z < 256 := by
  obtain ⟨xs, n, _, _, _, hl, hfld⟩ := DataW.trod_struct Try.underlying63 hf
  have hl2 : xs.length = 3 := hl
  have h0 := hfld 0 _ rfl
  rw [List.getElem?_eq_getElem (show 0 < xs.length by omega)] at h0
  have h1 := hfld 1 _ rfl
  rw [List.getElem?_eq_getElem (show 1 < xs.length by omega)] at h1
  have h2 := hfld 2 _ rfl
  rw [List.getElem?_eq_getElem (show 2 < xs.length by omega)] at h2
  obtain ⟨b, e0, _⟩ := DataW.trod_int Try.underlying3 h0
  change (cs.drop 0).take (Try.prog.cellsOf 3) = _ at e0
  rw [cells1] at e0
  obtain ⟨b1, e1, _, hw1⟩ := DataW.trod_int Try.underlying3 h1
  change (cs.drop 1).take (Try.prog.cellsOf 3) = _ at e1
  rw [cells1] at e1
  obtain ⟨u, zs, e2, hr, hb⟩ := open_bytes_cellD h2
  change (cs.drop 2).take (Try.prog.cellsOf 22) = _ at e2
  rw [cellsUD] at e2
  refine ⟨b, b1, u, zs, ?_, hr, wf_lt hw1, hb⟩
  match cs, hsz with
  | [c0, c1, c2], _ =>
    simp at e0 e1 e2
    rw [e0, e1, e2]
theorem getD_map_someD {α β : Type} (f : α → β) (l : List α) (i : Nat) (x : α) (h : l[i]? = some x) : (l.map f)[i]? = some (f x) := by rw [List.getElem?_map, h]; rfl
/-- Each element is known: so is the list. -/
theorem gatherD (n : Nat) (f : Nat → Int → Int → Value → List Int → Prop) (h : ∀ k, k < n → ∃ b b1 u zs, f k b b1 u zs) : ∃ (Q : List DO) (us : List Value), Q.length = n ∧ us.length = n ∧ ∀ k, k < n → ∃ b b1 u zs, Q[k]? = some (b, b1, zs) ∧ us[k]? = some u ∧ f k b b1 u zs := by
  induction n with
  | zero => exact ⟨[], [], rfl, rfl, fun k hk => by omega⟩
  | succ n ih =>
    obtain ⟨Q, us, h1, h2, h3⟩ := ih (fun k hk => h k (by omega))
    obtain ⟨b, b1, u, zs, hb⟩ := h n (by omega)
    refine ⟨Q ++ [(b, b1, zs)], us ++ [u], by simp [h1], by simp [h2], fun k hk => ?_⟩
    by_cases hkn : k < n
    · obtain ⟨b', b1', u', zs', e1, e2, e3⟩ := h3 k hkn
      exact ⟨b', b1', u', zs', by rw [List.getElem?_append_left (by omega)]; exact e1, by rw [List.getElem?_append_left (by omega)]; exact e2, e3⟩
    · obtain rfl : k = n := by omega
      exact ⟨b, b1, u, zs, by rw [← h1, List.getElem?_append_right (Nat.le_refl _)]; simp, by rw [← h2, List.getElem?_append_right (Nat.le_refl _)]; simp, hb⟩
set_option maxRecDepth 100000 in
theorem open_dops {H : Type} {enc : TypeId × Value → H} {W : World} {base : Nat} {held : Bool} {fuel : Nat} {cs : List Value} {x : DataW H × List MemPlace} (hf : DataW.trod enc Try.prog W base (fun _ => true) held fuel 39 cs = some x) : ∃ (v : Value) (Q : List DO) (us : List Value), cs = [v] ∧ RdN W 2 v (Q.map neD) us ∧ (∀ p ∈ Q, p.2.1 < 9223372036854775808) ∧ ∀ p ∈ Q, ∀ z ∈ p.2.2, 0 ≤ z ∧ z < 256 := by
  rcases DataW.trod_slice Try.underlying39 hf with ⟨hcs, _⟩ | ⟨x, len, cap, elems, rest, n, _, hcs, _, hb, hl, hm, hlen, hel, _, _⟩
  · exact ⟨_, [], [], hcs, ⟨rfl, fun l h => (by cases h), ⟨none, 0, rfl, fun h => absurd h (by simp), by simp, by simp⟩, fun i u l h => (by simp at h)⟩, fun p h => (by cases h), fun p h => (by cases h)⟩
  · rw [cellsLD] at hel
    obtain ⟨Q, us, h1, h2, h3⟩ := gatherD len (fun k b b1 u zs => W.cell? ((x.add (k * 3)).add 0) = some (.int .i64 b) ∧ W.cell? ((x.add (k * 3)).add 1) = some (.int .i64 b1) ∧ W.cell? ((x.add (k * 3)).add 2) = some u ∧ Rd .u8 W u zs ∧ b1 < 9223372036854775808 ∧ ∀ z ∈ zs, 0 ≤ z ∧ z < 256) (fun k hk => by
      have h1 := hel k hk
      rw [List.getElem?_eq_getElem (by omega), Option.bind_eq_some_iff] at h1
      obtain ⟨cs, hcs, hy⟩ := h1
      obtain ⟨_, hcl, hcc⟩ := World.cells?_some hcs
      obtain ⟨b, b1, u, zs, rfl, hr, hr1, hr2⟩ := open_dop_cells hcl hy
      exact ⟨b, b1, u, zs, by rw [hcc 0 (by omega)]; rfl, by rw [hcc 1 (by omega)]; rfl, by rw [hcc 2 (by omega)]; rfl, hr, hr1, hr2⟩)
    have hall : ∀ p ∈ Q, p.2.1 < 9223372036854775808 ∧ ∀ z ∈ p.2.2, 0 ≤ z ∧ z < 256 := fun p hp => by
      obtain ⟨i, hi⟩ := List.getElem?_of_mem hp
      have hil : i < len := by rw [← h1]; exact (List.getElem?_eq_some_iff.1 hi).1
      obtain ⟨b, b1, u, zs, e1, _, _, _, _, _, g1, g2⟩ := h3 i hil
      rw [e1] at hi
      cases hi
      exact ⟨g1, g2⟩
    refine ⟨_, Q, us, hcs, ⟨by simp [h1, h2], neD_pre _, ⟨some x, cap, by simp [h1], fun hn => ?_, by simp [h1]; exact hl, hm⟩, fun i u l hu hl => ?_⟩, fun p hp => (hall p hp).1, fun p hp => (hall p hp).2⟩
    · simp [h1] at hn
      obtain ⟨b0, _, u0, zs0, _, _, hc0, _⟩ := h3 0 hn
      obtain ⟨b, off, spot⟩ := x
      have hspot : spot = none := by simpa [Addr.add] using World.cell?_spot hc0
      subst hspot
      refine ⟨b, off, rfl, by rw [Addr.add_mid, Addr.add_mid] at hc0; simpa using cell_lt hc0, fun j u hu => ?_⟩
      have hjl : j < len * 3 := by
        have := (List.getElem?_eq_some_iff.1 hu).1
        rw [cellsN_len 2 _ _ (by simp [h1, h2]) (neD_pre _)] at this
        simp [h1] at this
        exact this
      obtain ⟨bk, bk1, uk, zk, e1, e2, c0, c1, c2, _⟩ := h3 (j / 3) (by omega)
      have hg := cellsN_get 2 us (Q.map neD) (by simp [h1, h2]) (neD_pre _) (j / 3) (j % 3) uk (neD (bk, bk1, zk)) e2 (getD_map_someD neD Q _ _ e1) (by omega)
      rw [show j / 3 * (2 + 1) + j % 3 = j by omega] at hg
      rw [hg] at hu
      rw [Addr.add_mid, Addr.add_mid] at c0 c1 c2
      rcases (by omega : j % 3 = 0 ∨ j % 3 = 1 ∨ j % 3 = 2) with h | h | h
      · rw [h] at hu
        have e : Value.int .i64 bk = u := Option.some.inj hu
        rw [← e, show off + j = off + j / 3 * 3 + 0 by omega]
        exact c0
      · rw [h] at hu
        have e : Value.int .i64 bk1 = u := Option.some.inj hu
        rw [← e, show off + j = off + j / 3 * 3 + 1 by omega]
        exact c1
      · rw [h] at hu
        have e : uk = u := Option.some.inj hu
        rw [← e, show off + j = off + j / 3 * 3 + 2 by omega]
        exact c2
    · have hi : i < len := by rw [← h2]; exact (List.getElem?_eq_some_iff.1 hu).1
      obtain ⟨bk, bk1, uk, zk, e1, e2, _, _, _, hr, _⟩ := h3 i hi
      rw [e2] at hu
      cases hu
      rw [getD_map_someD neD Q _ _ e1] at hl
      cases hl
      exact hr
end Go.Proofs.Ythghibopnnjboaa
