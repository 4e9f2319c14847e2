/- The program reads an inode: readInode. -/
import Derived.Test.YtfkmnmopkblopaaDoorZk09
import Derived.Test.YtfkmnmopkblopaaDoorZk13
namespace Go.Proofs.YtfkmnmopkblopaaDoor
set_option linter.unusedVariables false
set_option linter.unusedSimpArgs false
open Go.RowKit

theorem Flt.storeC {w : World} {lo g o : Nat} {y c : Int} {x : Value} (hy : w.cell? ⟨g, o, none⟩ = some (.int .i64 y)) (hne : y ≠ c) : ∀ {n : Nat} {v : Value}, Flt w lo n v c → Flt (w.setCell ⟨g, o, none⟩ x) lo n v c
  | 0, _, ⟨b, h, hl, hc⟩ => by
    refine ⟨b, h, hl, (World.cell?_setCell_other _ _ _ _ ?_).trans hc⟩
    intro e
    rw [e, hc] at hy
    injection hy with hy
    injection hy with _ hy
    exact hne hy.symm
  | _ + 1, _, ⟨b, v', h, hl, hc, hr⟩ => by
    refine ⟨b, v', h, hl, (World.cell?_setCell_other _ _ _ _ ?_).trans hc, Flt.storeC hy hne hr⟩
    intro e
    rw [e, hc] at hy
    obtain ⟨t, z, rfl⟩ := hr.iface
    cases hy
/-- A reader is kept behind a write to a cell that held an integer other than 21. -/
theorem Rdr.storeC {w0 w : World} {b lo : Nat} {ok : Bool} {dv : Value} {zs : List Int} {pos g o : Nat} {y : Int} (x : Value) (h : Rdr w0 w b lo ok dv zs pos) (hg : b < g) (hy : w.cell? ⟨g, o, none⟩ = some (.int .i64 y)) (hne : y ≠ 21) : Rdr w0 (w.setCell ⟨g, o, none⟩ x) b lo ok dv zs pos := by
  have hne2 : ∀ o', (⟨g, o, none⟩ : Addr) ≠ ⟨b, o', none⟩ := fun o' e => by injection e with e1 e2; omega
  have hc : ∀ o', (w.setCell ⟨g, o, none⟩ x).cell? ⟨b, o', none⟩ = w.cell? ⟨b, o', none⟩ := fun o' => World.cell?_setCell_other _ _ _ _ (hne2 o')
  obtain ⟨c1, c2, ev, c3, c4⟩ := h.ck
  refine ⟨⟨(hc 0).trans c1, by simpa using c2, ev, (hc 1).trans c3, ?_⟩, (hc 2).trans h.data, (hc 3).trans h.at_, by simpa using h.fr, h.old.setCell (p := ⟨g, o, none⟩) (Nat.le_of_lt hg) _, h.size, h.rd, h.le, h.lo1, by simpa using h.lo2⟩
  rcases c4 with c4 | ⟨c4, n, c5⟩
  · exact .inl c4
  · exact .inr ⟨c4, n, c5.storeC hy hne⟩
theorem Rdr.cellsC {w0 : World} {b lo : Nat} {ok : Bool} {dv : Value} {zs : List Int} {pos g : Nat} {t : TypeId} (hg : b < g) : ∀ (ds : List Int) {w : World} {xs : List Int} (o : Nat), Rdr w0 w b lo ok dv zs pos → Blk w g (cellsI xs) t → o + ds.length ≤ xs.length → (∀ j, o ≤ j → xs.getD j 0 ≠ 21) → Rdr w0 (w.setCells g o (ds.map (Value.int .i64))) b lo ok dv zs pos
  | [], w, xs, o, h, _, _, _ => by simpa [World.setCells] using h
  | d :: ds, w, xs, o, h, hB, hl, hx => by
    have ho : o < xs.length := by simp at hl; omega
    have hy := (hB.cell o).trans (cellsI_get xs o ho)
    have h1 := h.storeC (.int .i64 d) hg hy (hx o (Nat.le_refl _))
    have hB1 := hB.set o (.int .i64 d)
    rw [cellsI_set] at hB1
    refine Rdr.cellsC hg ds (o + 1) h1 hB1 (by simp at hl ⊢; omega) (fun j hj => ?_)
    have hne : o ≠ j := by omega
    have := hx j (by omega)
    simpa [List.getD, List.getElem?_set, hne] using this

/-- How far a reader came that began at 0: m bytes asked for, C the looks that came so far. -/
def AdvC (zs : List Int) (m : Nat) (C : Bool) (okr : Bool) (pr : Nat) : Prop := pr ≤ m ∧ (okr = true ↔ (m ≤ zs.length ∧ C = true)) ∧ (okr = true → pr = m)
theorem AdvC.start (zs : List Int) : AdvC zs 0 true true 0 := ⟨Nat.le_refl _, ⟨fun _ => ⟨Nat.zero_le _, rfl⟩, fun _ => rfl⟩, fun _ => rfl⟩
theorem AdvC.num {okr : Bool} {zs : List Int} {m pr : Nat} {C : Bool} {w0 w w' : World} {b lo : Nat} {dv : Value} {m' x : Nat} (h : AdvC zs m C okr pr) (hn : Numd w0 w w' b lo okr dv zs pr m' x) :
    ∃ ok2 p2, Rdr w0 w' b lo ok2 dv zs p2 ∧ AdvC zs (m + m') C ok2 p2 ∧ (ok2 = true → okr = true ∧ x = unle ((zs.drop m).take m')) ∧ w.grownBy w' (some b) := by
  obtain ⟨hg, hn⟩ := hn
  obtain ⟨h1, h2, h3⟩ := h
  rcases hn with ⟨ho, hle, hx, hr⟩ | ⟨hno, hx, hr⟩
  · have hpm := h3 ho
    subst hpm
    exact ⟨true, _, hr, ⟨Nat.le_refl _, ⟨fun _ => ⟨hle, (h2.1 ho).2⟩, fun _ => rfl⟩, fun _ => rfl⟩, fun _ => ⟨ho, hx⟩, hg⟩
  · refine ⟨false, _, hr, ⟨by omega, ⟨(fun h => absurd h (by decide)), fun h => ?_⟩, (fun h => absurd h (by decide))⟩, (fun h => absurd h (by decide)), hg⟩
    have ho := h2.2 ⟨by omega, h.2⟩
    have hpm := h3 ho
    exact absurd ⟨ho, by omega⟩ hno
def allz (ts : List Int) : Bool := ts.all fun z => decide (z = 0)
theorem AdvC.zeros {okr : Bool} {zs : List Int} {m pr m2 : Nat} {C : Bool} {w0 w w' : World} {b lo : Nat} {dv : Value} (h : AdvC zs m C okr pr) (hm : m ≤ m2) (hn : Zd w0 w w' b lo okr dv zs pr m2) :
    ∃ ok2 p2, Rdr w0 w' b lo ok2 dv zs p2 ∧ AdvC zs m2 (C && allz ((zs.drop m).take (m2 - m))) ok2 p2 ∧ (ok2 = true → okr = true) ∧ w.grownBy w' (some b) := by
  obtain ⟨hg, hn⟩ := hn
  obtain ⟨h1, h2, h3⟩ := h
  rcases hn with ⟨ho, hle, hr⟩ | ⟨hno, hr⟩
  · have hpm := h3 ho
    subst hpm
    have hC := (h2.1 ho).2
    exact ⟨_, _, hr, ⟨Nat.le_refl _, ⟨fun hz => ⟨hle, by rw [hC, Bool.true_and]; exact hz⟩, fun hz => by rw [hC, Bool.true_and] at hz; exact hz.2⟩, fun _ => rfl⟩, fun _ => ho, hg⟩
  · refine ⟨false, _, hr, ⟨by omega, ⟨(fun h => absurd h (by decide)), fun h => ?_⟩, (fun h => absurd h (by decide))⟩, (fun h => absurd h (by decide)), hg⟩
    rw [Bool.and_eq_true] at h
    have ho := h2.2 ⟨by omega, h.2.1⟩
    exact absurd ⟨ho, h.1⟩ hno
theorem AdvC.adv {okr ok2 : Bool} {zs : List Int} {m pr p2 m' : Nat} {C : Bool} (h : AdvC zs m C okr pr) (hn : Adv okr zs pr m' ok2 p2) : AdvC zs (m + m') C ok2 p2 ∧ (ok2 = true → okr = true ∧ pr = m) := by
  obtain ⟨h1, h2, h3⟩ := h
  rcases hn with ⟨hk, ho, hle, hp⟩ | ⟨hk, hno, hp⟩
  · have hpm := h3 ho
    subst hpm
    exact ⟨⟨by omega, ⟨fun _ => ⟨hle, (h2.1 ho).2⟩, fun _ => hk⟩, fun _ => hp⟩, fun _ => ⟨ho, rfl⟩⟩
  · refine ⟨⟨by omega, ⟨fun h => (by rw [hk] at h; cases h), fun h => ?_⟩, fun h => (by rw [hk] at h; cases h)⟩, fun h => (by rw [hk] at h; cases h)⟩
    have ho := h2.2 ⟨by omega, h.2⟩
    have hpm := h3 ho
    exact absurd ⟨ho, by omega⟩ hno

/-- What was read as an inode. -/
def InoAt (zs : List Int) (k0 k1 k2 k3 k4 k5 k6 k7 k8 s : Int) (ds : List Int) (p q : Int) : Prop :=
  k0 = ((unle ((zs.drop 0).take 1) : Nat) : Int) ∧ k1 = ((unle ((zs.drop 2).take 2) : Nat) : Int) ∧ k2 = ((unle ((zs.drop 4).take 2) : Nat) : Int) ∧ k3 = ((unle ((zs.drop 6).take 2) : Nat) : Int) ∧ k4 = ((unle ((zs.drop 8).take 2) : Nat) : Int) ∧ k5 = ((unle ((zs.drop 12).take 4) : Nat) : Int) ∧ k6 = wrap64 ((unle ((zs.drop 16).take 8) : Nat) : Int) ∧ k7 = wrap64 ((unle ((zs.drop 24).take 8) : Nat) : Int) ∧ k8 = wrap64 ((unle ((zs.drop 32).take 8) : Nat) : Int) ∧ RootAt zs 40 s ds p q
def gaps2 (zs : List Int) : Bool := true && allz ((zs.drop 1).take 1) && allz ((zs.drop 10).take 2)

theorem over_ino9 (k0 k1 k2 k3 k4 k5 k6 k7 k8 s : Int) (ds : List Int) (p q : Int) (hd : ds.length = 12) : over [k0, k1, k2, k3, k4, k5, k6, k7, k8, 0, 0, 0, 0, 0, 0, 0, 0, 0, 0, 0, 0, 0, 0, 0] 9 (rootI s ds p q) = inoI [k0, k1, k2, k3, k4, k5, k6, k7, k8] s ds p q := by
  have hl := rootI_len s ds p q hd
  unfold over inoI
  rw [hl]
  simp
theorem grow_cells {w w1 : World} {r : Option Nat} (h : w.grownBy w1 r) (g : Nat) : ∀ (vs : List Value) (o : Nat), w.heap.size ≤ g → w.grownBy (w1.setCells g o vs) r := by
  intro vs
  induction vs generalizing w1 with
  | nil => intro o _; exact h
  | cons v vs ih => intro o hg; exact ih (grow_set h g o v hg) (o + 1) hg

end Go.Proofs.YtfkmnmopkblopaaDoor
