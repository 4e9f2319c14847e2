/- The program reads an inode: readInode. The program's reader at less than no bytes: take, zeros. -/
import Derived.Test.YtfkmnmopkblopaaGreatDoorZs07
import Derived.Test.YtfkmnmopkblopaaGreatDoorZs10
import Derived.Test.YtfkmnmopkblopaaGreatDoorZs14
import Derived.Deep.RegionHeld3
namespace Go.Proofs.YtfkmnmopkblopaaGreatDoor
set_option linter.unusedVariables false
set_option linter.unusedSimpArgs false
open Go.RowKit

theorem Flt.storeC {w : World} {lo g o : Nat} {y c : Int} {x : Value} (hy : w.cell? ⟨g, o, none⟩ = some (.int .i64 y)) (hne : y ≠ c) : ∀ {n : Nat} {v : Value}, Flt w lo n v c → Flt (w.setCell ⟨g, o, none⟩ x) lo n v c
  | 0, _, ⟨b, h, hl, hc⟩ => by
    refine ⟨b, h, hl, (World.cell?_setCell_other _ _ _ _ ?_).trans hc⟩
    intro e
    rw [e, hc] at hy
    injection hy with hy
    injection hy with _ hy
    exact hne hy.symm
  | _ + 1, _, ⟨b, v', h, hl, hc, hr⟩ => by
    refine ⟨b, v', h, hl, (World.cell?_setCell_other _ _ _ _ ?_).trans hc, Flt.storeC hy hne hr⟩
    intro e
    rw [e, hc] at hy
    obtain ⟨t, z, rfl⟩ := hr.iface
    cases hy
/-- A reader is kept behind a write to a cell that held an integer other than 21. -/
theorem Rdr.storeC {w0 w : World} {b lo : Nat} {ok : Bool} {dv : Value} {zs : List Int} {pos g o : Nat} {y : Int} (x : Value) (h : Rdr w0 w b lo ok dv zs pos) (hg : b < g) (hy : w.cell? ⟨g, o, none⟩ = some (.int .i64 y)) (hne : y ≠ 21) : Rdr w0 (w.setCell ⟨g, o, none⟩ x) b lo ok dv zs pos := by
  have hne2 : ∀ o', (⟨g, o, none⟩ : Addr) ≠ ⟨b, o', none⟩ := fun o' e => by injection e with e1 e2; omega
  have hc : ∀ o', (w.setCell ⟨g, o, none⟩ x).cell? ⟨b, o', none⟩ = w.cell? ⟨b, o', none⟩ := fun o' => World.cell?_setCell_other _ _ _ _ (hne2 o')
  obtain ⟨c1, c2, ev, c3, c4⟩ := h.ck
  refine ⟨⟨(hc 0).trans c1, by simpa using c2, ev, (hc 1).trans c3, ?_⟩, (hc 2).trans h.data, (hc 3).trans h.at_, by simpa using h.fr, h.old.setCell (p := ⟨g, o, none⟩) (Nat.le_of_lt hg) _, h.size, h.rd, h.le, h.lo1, by simpa using h.lo2⟩
  rcases c4 with c4 | ⟨c4, n, c5⟩
  · exact .inl c4
  · exact .inr ⟨c4, n, c5.storeC hy hne⟩
theorem Rdr.cellsC {w0 : World} {b lo : Nat} {ok : Bool} {dv : Value} {zs : List Int} {pos g : Nat} {t : TypeId} (hg : b < g) : ∀ (ds : List Int) {w : World} {xs : List Int} (o : Nat), Rdr w0 w b lo ok dv zs pos → Blk w g (cellsI xs) t → o + ds.length ≤ xs.length → (∀ j, o ≤ j → xs.getD j 0 ≠ 21) → Rdr w0 (w.setCells g o (ds.map (Value.int .i64))) b lo ok dv zs pos
  | [], w, xs, o, h, _, _, _ => by simpa [World.setCells] using h
  | d :: ds, w, xs, o, h, hB, hl, hx => by
    have ho : o < xs.length := by simp at hl; omega
    have hy := (hB.cell o).trans (cellsI_get xs o ho)
    have h1 := h.storeC (.int .i64 d) hg hy (hx o (Nat.le_refl _))
    have hB1 := hB.set o (.int .i64 d)
    rw [cellsI_set] at hB1
    refine Rdr.cellsC hg ds (o + 1) h1 hB1 (by simp at hl ⊢; omega) (fun j hj => ?_)
    have hne : o ≠ j := by omega
    have := hx j (by omega)
    simpa [List.getD, List.getElem?_set, hne] using this

/-- How far a reader came that began at 0: m bytes asked for, C the looks that came so far. -/
def AdvC (zs : List Int) (m : Nat) (C : Bool) (okr : Bool) (pr : Nat) : Prop := pr ≤ m ∧ (okr = true ↔ (m ≤ zs.length ∧ C = true)) ∧ (okr = true → pr = m)
theorem AdvC.start (zs : List Int) : AdvC zs 0 true true 0 := ⟨Nat.le_refl _, ⟨fun _ => ⟨Nat.zero_le _, rfl⟩, fun _ => rfl⟩, fun _ => rfl⟩
theorem AdvC.num {okr : Bool} {zs : List Int} {m pr : Nat} {C : Bool} {w0 w w' : World} {b lo : Nat} {dv : Value} {m' x : Nat} (h : AdvC zs m C okr pr) (hn : Numd w0 w w' b lo okr dv zs pr m' x) :
    ∃ ok2 p2, Rdr w0 w' b lo ok2 dv zs p2 ∧ AdvC zs (m + m') C ok2 p2 ∧ (ok2 = true → okr = true ∧ x = unle ((zs.drop m).take m')) ∧ w.grownBy w' (some b) := by
  obtain ⟨hg, hn⟩ := hn
  obtain ⟨h1, h2, h3⟩ := h
  rcases hn with ⟨ho, hle, hx, hr⟩ | ⟨hno, hx, hr⟩
  · have hpm := h3 ho
    subst hpm
    exact ⟨true, _, hr, ⟨Nat.le_refl _, ⟨fun _ => ⟨hle, (h2.1 ho).2⟩, fun _ => rfl⟩, fun _ => rfl⟩, fun _ => ⟨ho, hx⟩, hg⟩
  · refine ⟨false, _, hr, ⟨by omega, ⟨(fun h => absurd h (by decide)), fun h => ?_⟩, (fun h => absurd h (by decide))⟩, (fun h => absurd h (by decide)), hg⟩
    have ho := h2.2 ⟨by omega, h.2⟩
    have hpm := h3 ho
    exact absurd ⟨ho, by omega⟩ hno
def allz (ts : List Int) : Bool := ts.all fun z => decide (z = 0)
theorem AdvC.zeros {okr : Bool} {zs : List Int} {m pr m2 : Nat} {C : Bool} {w0 w w' : World} {b lo : Nat} {dv : Value} (h : AdvC zs m C okr pr) (hm : m ≤ m2) (hn : Zd w0 w w' b lo okr dv zs pr m2) :
    ∃ ok2 p2, Rdr w0 w' b lo ok2 dv zs p2 ∧ AdvC zs m2 (C && allz ((zs.drop m).take (m2 - m))) ok2 p2 ∧ (ok2 = true → okr = true) ∧ w.grownBy w' (some b) := by
  obtain ⟨hg, hn⟩ := hn
  obtain ⟨h1, h2, h3⟩ := h
  rcases hn with ⟨ho, hle, hr⟩ | ⟨hno, hr⟩
  · have hpm := h3 ho
    subst hpm
    have hC := (h2.1 ho).2
    exact ⟨_, _, hr, ⟨Nat.le_refl _, ⟨fun hz => ⟨hle, by rw [hC, Bool.true_and]; exact hz⟩, fun hz => by rw [hC, Bool.true_and] at hz; exact hz.2⟩, fun _ => rfl⟩, fun _ => ho, hg⟩
  · refine ⟨false, _, hr, ⟨by omega, ⟨(fun h => absurd h (by decide)), fun h => ?_⟩, (fun h => absurd h (by decide))⟩, (fun h => absurd h (by decide)), hg⟩
    rw [Bool.and_eq_true] at h
    have ho := h2.2 ⟨by omega, h.2.1⟩
    exact absurd ⟨ho, h.1⟩ hno
theorem AdvC.adv {okr ok2 : Bool} {zs : List Int} {m pr p2 m' : Nat} {C : Bool} (h : AdvC zs m C okr pr) (hn : Adv okr zs pr m' ok2 p2) : AdvC zs (m + m') C ok2 p2 ∧ (ok2 = true → okr = true ∧ pr = m) := by
  obtain ⟨h1, h2, h3⟩ := h
  rcases hn with ⟨hk, ho, hle, hp⟩ | ⟨hk, hno, hp⟩
  · have hpm := h3 ho
    subst hpm
    exact ⟨⟨by omega, ⟨fun _ => ⟨hle, (h2.1 ho).2⟩, fun _ => hk⟩, fun _ => hp⟩, fun _ => ⟨ho, rfl⟩⟩
  · refine ⟨⟨by omega, ⟨fun h => (by rw [hk] at h; cases h), fun h => ?_⟩, fun h => (by rw [hk] at h; cases h)⟩, fun h => (by rw [hk] at h; cases h)⟩
    have ho := h2.2 ⟨by omega, h.2⟩
    have hpm := h3 ho
    exact absurd ⟨ho, by omega⟩ hno

/-- What was read as an inode. -/
def InoAt (zs : List Int) (k0 k1 k2 k3 k4 k5 k6 k7 k8 s : Int) (ds : List Int) (p q : Int) : Prop :=
  k0 = ((unle ((zs.drop 0).take 1) : Nat) : Int) ∧ k1 = ((unle ((zs.drop 2).take 2) : Nat) : Int) ∧ k2 = ((unle ((zs.drop 4).take 2) : Nat) : Int) ∧ k3 = ((unle ((zs.drop 6).take 2) : Nat) : Int) ∧ k4 = ((unle ((zs.drop 8).take 2) : Nat) : Int) ∧ k5 = ((unle ((zs.drop 12).take 4) : Nat) : Int) ∧ k6 = wrap64 ((unle ((zs.drop 16).take 8) : Nat) : Int) ∧ k7 = wrap64 ((unle ((zs.drop 24).take 8) : Nat) : Int) ∧ k8 = wrap64 ((unle ((zs.drop 32).take 8) : Nat) : Int) ∧ RootAt zs 40 s ds p q
def gaps2 (zs : List Int) : Bool := true && allz ((zs.drop 1).take 1) && allz ((zs.drop 10).take 2)

theorem over_ino9 (k0 k1 k2 k3 k4 k5 k6 k7 k8 s : Int) (ds : List Int) (p q : Int) (hd : ds.length = 12) : over [k0, k1, k2, k3, k4, k5, k6, k7, k8, 0, 0, 0, 0, 0, 0, 0, 0, 0, 0, 0, 0, 0, 0, 0] 9 (rootI s ds p q) = inoI [k0, k1, k2, k3, k4, k5, k6, k7, k8] s ds p q := by
  have hl := rootI_len s ds p q hd
  unfold over inoI
  rw [hl]
  simp
theorem grow_cells {w w1 : World} {r : Option Nat} (h : w.grownBy w1 r) (g : Nat) : ∀ (vs : List Value) (o : Nat), w.heap.size ≤ g → w.grownBy (w1.setCells g o vs) r := by
  intro vs
  induction vs generalizing w1 with
  | nil => intro o _; exact h
  | cons v vs ih => intro o hg; exact ih (grow_set h g o v hg) (o + 1) hg

end Go.Proofs.YtfkmnmopkblopaaGreatDoor

namespace Go.Proofs.YtfkmnmopkblopaaGreatDoor
set_option linter.unusedVariables false
set_option linter.unusedSimpArgs false
open Go.RowKit

set_option maxRecDepth 100000 in
set_option maxHeartbeats 1000000 in
theorem take_neg (w0 w : World) (b lo : Nat) (ok : Bool) (dv : Value) (zs : List Int) (pos : Nat) (n : Int) (h : Rdr w0 w b lo ok dv zs pos) (hn : n < 0) :
    Calls Tryz.prog 81 #[.pointer (some ⟨b, 0, none⟩), .int .i64 n] w fun e w' => e = .returned (.slice none 0 0) ∧ Rdr w0 w' b lo false dv zs pos ∧ w.grownBy w' (some b) := by
  have hlt := h.ck.lt
  have H := hide h
  clear h
  go_enter Tryz.func81, Tryz.ntmps81
  go_wp2_with fail
  refine wp_region_noPanic ?_
  refine wp_region_held_drew (S := fun _ => True) (by kernel_rfl) trivial (fun hH => ?_)
  refine wpAnyH_take (i := 0) (oi := _) (v := .pointer (some ⟨b, 0, none⟩)) rfl (by kernel_rfl) (by kernel_rfl) (by kernel_rfl) (fun _ _ _ h => h) (Or.inl ⟨by rfl, fun w' hw' => by go_simp⟩) hH ?_
  try simp only [Act.put, List.getElem_toArray, List.getElem_cons_zero, List.getElem_cons_succ, List.setIfInBounds_toArray, List.set_cons_zero, List.set_cons_succ]
  refine wpAnyH_take (i := 1) (oi := _) (v := .pointer (some ⟨b, 0, none⟩)) rfl (by kernel_rfl) (by kernel_rfl) (by kernel_rfl) (fun _ _ _ h => h) (Or.inl ⟨by rfl, fun w' hw' => by go_simp⟩) hH ?_
  try simp only [Act.put, List.getElem_toArray, List.getElem_cons_zero, List.getElem_cons_succ, List.setIfInBounds_toArray, List.set_cons_zero, List.set_cons_succ]
  refine wpAnyH_take (i := 2) (oi := _) (v := .pointer (some ⟨b, 0, none⟩)) rfl (by kernel_rfl) (by kernel_rfl) (by kernel_rfl) (fun _ _ _ h => h) (Or.inl ⟨by rfl, fun w' hw' => by go_simp⟩) hH ?_
  try simp only [Act.put, List.getElem_toArray, List.getElem_cons_zero, List.getElem_cons_succ, List.setIfInBounds_toArray, List.set_cons_zero, List.set_cons_succ]
  refine wpAnyH_take (i := 3) (oi := _) (v := .int .i64 n) rfl (by kernel_rfl) (by kernel_rfl) (by kernel_rfl) (fun _ _ _ h => h) (Or.inl ⟨by rfl, fun w' hw' => by go_simp⟩) hH ?_
  try simp only [Act.put, List.getElem_toArray, List.getElem_cons_zero, List.getElem_cons_succ, List.setIfInBounds_toArray, List.set_cons_zero, List.set_cons_succ]
  refine wpAnyH_take (i := 4) (oi := _) (v := .bool false) rfl (by kernel_rfl) (by kernel_rfl) (by kernel_rfl) (fun _ _ _ h => h) (Or.inl ⟨by rfl, fun w' hw' => by have hq : decide ((0 : Int) ≤ n) = false := (by simp; omega); go_simp⟩) hH ?_
  try simp only [Act.put, List.getElem_toArray, List.getElem_cons_zero, List.getElem_cons_succ, List.setIfInBounds_toArray, List.set_cons_zero, List.set_cons_succ]
  refine wpAnyH_take (i := 5) (oi := _) (v := .bool false) rfl (by kernel_rfl) (by kernel_rfl) (by kernel_rfl) (fun _ _ _ h => h) (Or.inl ⟨by rfl, fun w' hw' => by go_simp⟩) hH ?_
  try simp only [Act.put, List.getElem_toArray, List.getElem_cons_zero, List.getElem_cons_succ, List.setIfInBounds_toArray, List.set_cons_zero, List.set_cons_succ]
  refine wpAnyH_take (i := 6) (oi := _) (v := undef) rfl (by kernel_rfl) (by kernel_rfl) (by kernel_rfl) (fun _ _ _ h => h) (Or.inr ⟨by rfl, rfl⟩) hH ?_
  try simp only [Act.put, List.getElem_toArray, List.getElem_cons_zero, List.getElem_cons_succ, List.setIfInBounds_toArray, List.set_cons_zero, List.set_cons_succ]
  refine wpAnyH_take (i := 7) (oi := _) (v := undef) rfl (by kernel_rfl) (by kernel_rfl) (by kernel_rfl) (fun _ _ _ h => h) (Or.inr ⟨by rfl, rfl⟩) hH ?_
  try simp only [Act.put, List.getElem_toArray, List.getElem_cons_zero, List.getElem_cons_succ, List.setIfInBounds_toArray, List.set_cons_zero, List.set_cons_succ]
  refine wpAnyH_take (i := 8) (oi := _) (v := undef) rfl (by kernel_rfl) (by kernel_rfl) (by kernel_rfl) (fun _ _ _ h => h) (Or.inr ⟨by rfl, rfl⟩) hH ?_
  try simp only [Act.put, List.getElem_toArray, List.getElem_cons_zero, List.getElem_cons_succ, List.setIfInBounds_toArray, List.set_cons_zero, List.set_cons_succ]
  refine wpAnyH_take (i := 9) (oi := _) (v := undef) rfl (by kernel_rfl) (by kernel_rfl) (by kernel_rfl) (fun _ _ _ h => h) (Or.inr ⟨by rfl, rfl⟩) hH ?_
  try simp only [Act.put, List.getElem_toArray, List.getElem_cons_zero, List.getElem_cons_succ, List.setIfInBounds_toArray, List.set_cons_zero, List.set_cons_succ]
  refine wpAnyH_take (i := 10) (oi := _) (v := undef) rfl (by kernel_rfl) (by kernel_rfl) (by kernel_rfl) (fun _ _ _ h => h) (Or.inr ⟨by rfl, rfl⟩) hH ?_
  try simp only [Act.put, List.getElem_toArray, List.getElem_cons_zero, List.getElem_cons_succ, List.setIfInBounds_toArray, List.set_cons_zero, List.set_cons_succ]
  refine wpAnyH_take (i := 11) (oi := _) (v := undef) rfl (by kernel_rfl) (by kernel_rfl) (by kernel_rfl) (fun _ _ _ h => h) (Or.inr ⟨by rfl, rfl⟩) hH ?_
  try simp only [Act.put, List.getElem_toArray, List.getElem_cons_zero, List.getElem_cons_succ, List.setIfInBounds_toArray, List.set_cons_zero, List.set_cons_succ]
  refine wpAnyH_take (i := 12) (oi := _) (v := undef) rfl (by kernel_rfl) (by kernel_rfl) (by kernel_rfl) (fun _ _ _ h => h) (Or.inr ⟨by rfl, rfl⟩) hH ?_
  try simp only [Act.put, List.getElem_toArray, List.getElem_cons_zero, List.getElem_cons_succ, List.setIfInBounds_toArray, List.set_cons_zero, List.set_cons_succ]
  refine wpAnyH_take (i := 13) (oi := _) (v := undef) rfl (by kernel_rfl) (by kernel_rfl) (by kernel_rfl) (fun _ _ _ h => h) (Or.inr ⟨by rfl, rfl⟩) hH ?_
  try simp only [Act.put, List.getElem_toArray, List.getElem_cons_zero, List.getElem_cons_succ, List.setIfInBounds_toArray, List.set_cons_zero, List.set_cons_succ]
  refine wpAnyH_take (i := 14) (oi := _) (v := undef) rfl (by kernel_rfl) (by kernel_rfl) (by kernel_rfl) (fun _ _ _ h => h) (Or.inr ⟨by rfl, rfl⟩) hH ?_
  try simp only [Act.put, List.getElem_toArray, List.getElem_cons_zero, List.getElem_cons_succ, List.setIfInBounds_toArray, List.set_cons_zero, List.set_cons_succ]
  refine wpAnyH_take (i := 15) (oi := _) (v := undef) rfl (by kernel_rfl) (by kernel_rfl) (by kernel_rfl) (fun _ _ _ h => h) (Or.inr ⟨by rfl, rfl⟩) hH ?_
  try simp only [Act.put, List.getElem_toArray, List.getElem_cons_zero, List.getElem_cons_succ, List.setIfInBounds_toArray, List.set_cons_zero, List.set_cons_succ]
  refine wpAnyH_take (i := 16) (oi := _) (v := undef) rfl (by kernel_rfl) (by kernel_rfl) (by kernel_rfl) (fun _ _ _ h => h) (Or.inr ⟨by rfl, rfl⟩) hH ?_
  try simp only [Act.put, List.getElem_toArray, List.getElem_cons_zero, List.getElem_cons_succ, List.setIfInBounds_toArray, List.set_cons_zero, List.set_cons_succ]
  refine wpAnyH_take (i := 17) (oi := _) (v := undef) rfl (by kernel_rfl) (by kernel_rfl) (by kernel_rfl) (fun _ _ _ h => h) (Or.inr ⟨by rfl, rfl⟩) hH ?_
  try simp only [Act.put, List.getElem_toArray, List.getElem_cons_zero, List.getElem_cons_succ, List.setIfInBounds_toArray, List.set_cons_zero, List.set_cons_succ]
  refine wpAnyH_take (i := 18) (oi := _) (v := .bool false) rfl (by kernel_rfl) (by kernel_rfl) (by kernel_rfl) (fun _ _ _ h => h) (Or.inl ⟨by rfl, fun w' hw' => by go_simp⟩) hH ?_
  try simp only [Act.put, List.getElem_toArray, List.getElem_cons_zero, List.getElem_cons_succ, List.setIfInBounds_toArray, List.set_cons_zero, List.set_cons_succ]
  refine wpAnyH_ready (rs := [19]) (by kernel_rfl) (by simp) ?_
  refine AllReadyH.cons (o := _) rfl (fun K hK => ?_) AllReadyH.nil
  go_simp
  refine (need_any b lo _ 21 ok false _ (H.out.ck.below ((Below.refl _ _).drew)) H.out.lo1 H.out.lo2).mono ?_
  rintro e w1 ⟨rfl, hc1, ht1⟩
  rw [Bool.and_false] at hc1
  have ht1' : Tch b w w1 := (Tch.of_below hlt ((Below.refl _ _).drew)).trans ht1
  have R1 := hide (H.out.tch hc1 ht1')
  have G1 := hide ht1'.1
  obtain ⟨c1, c2, ev, c3, c4⟩ := hc1
  clear ht1 ht1' c1 c2
  rcases c4 with ⟨c4, _⟩ | ⟨_, m, c4⟩
  · cases c4
  obtain ⟨t', x', rfl⟩ := c4.iface
  clear c4
  refine hK.out _ _ trivial (fun hH => ?_)
  clear hK K
  try simp only [Act.put, List.getElem_toArray, List.getElem_cons_zero, List.getElem_cons_succ, List.setIfInBounds_toArray, List.set_cons_zero, List.set_cons_succ]
  refine wpAnyH_done (by kernel_rfl) (NoPanic.normal ?_) _
  clear hH
  go_wp2
  go_ret
  exact ⟨rfl, R1.out, G1.out⟩

set_option maxRecDepth 100000 in
set_option maxHeartbeats 1000000 in
theorem zeros_neg (w0 w : World) (b lo : Nat) (ok : Bool) (dv : Value) (zs : List Int) (pos at_ : Nat) (h : Rdr w0 w b lo ok dv zs pos) (hp : at_ < pos) (hn : pos ≤ 4294967296) :
    Calls Tryz.prog 69 #[.pointer (some ⟨b, 0, none⟩), .int .i64 at_] w fun e w' => e = .returned (.tuple #[]) ∧ Rdr w0 w' b lo false dv zs pos ∧ w.grownBy w' (some b) := by
  have ha := h.at_
  have H := hide h
  clear h
  obtain ⟨n, hnn⟩ : ∃ n : Int, n = (at_ : Int) - (pos : Int) := ⟨_, rfl⟩
  have hneg : n < 0 := by omega
  have hwr : (at_ : Int) - (pos : Int) = n := hnn.symm
  have hlo : -4294967296 ≤ n := by omega
  clear hnn
  go_enter Tryz.func69, Tryz.ntmps69
  go_wp2_with (go_at_call 81; fail)
  refine (take_neg w0 _ b lo ok dv zs pos n H.out hneg).mono ?_
  rintro e w1 ⟨rfl, r1, g1⟩
  have R1 := hide (And.intro r1 g1)
  clear r1 g1
  go_wp2
  refine wp_loop_rounds 1 ?_
  rw [rounds_succ]
  go_wp2
  go_end0
  exact ⟨rfl, R1.out.1, R1.out.2⟩

set_option maxRecDepth 100000 in
set_option maxHeartbeats 1000000 in
theorem take_fail (w0 w : World) (b lo : Nat) (dv : Value) (zs : List Int) (pos n : Nat) (h : Rdr w0 w b lo false dv zs pos) (hn : n ≤ 4294967296) (hz : zs.length ≤ 140737488355328) :
    Calls Tryz.prog 81 #[.pointer (some ⟨b, 0, none⟩), .int .i64 n] w fun e w' => ∃ sv, e = .returned sv ∧ Took w0 w w' b lo false dv zs pos n sv := by
  have hd := h.data
  have ha := h.at_
  have hl := h.le
  have hlt := h.ck.lt
  obtain ⟨a, cap, rfl⟩ : ∃ a cap, dv = .slice a zs.length cap := by obtain ⟨a, cap, h1, _⟩ := h.rd; exact ⟨a, cap, h1⟩
  have H := hide h
  clear h
  go_enter Tryz.func81, Tryz.ntmps81
  go_wp2
  go_region_held (fun w' => w'.cell? ⟨b, 2, none⟩ = some (.slice a zs.length cap) ∧ w'.cell? ⟨b, 3, none⟩ = some (.int .i64 pos)) (go_keep) ((go_at_call 32; refine (need_any b lo _ 21 false (decide ((n : Int) ≤ IntKind.i64.wrap ((zs.length : Int) - (pos : Int)))) _ (H.out.ck.below ((Below.refl _ _).drew)) H.out.lo1 H.out.lo2).mono ?_; rintro e w1 ⟨rfl, hc1, ht1⟩; have hd1 := (ht1.2.1 2 (by omega)).trans hd; have ha1 := (ht1.2.1 3 (by omega)).trans ha))
  rw [Bool.false_and] at hc1
  have ht1' : Tch b w w1 := (Tch.of_below hlt ((Below.refl _ _).drew)).trans ht1
  have R1 := hide (H.out.tch hc1 ht1')
  have G1 := hide ht1'.1
  obtain ⟨c1, c2, ev, c3, c4⟩ := hc1
  clear ht1 ht1'
  rcases c4 with ⟨c4, _⟩ | ⟨_, m, c4⟩
  · cases c4
  · obtain ⟨t', x', rfl⟩ := c4.iface
    clear c4
    go_wp2
    go_ret
    exact ⟨_, rfl, G1.out, .inr ⟨fun h => (by cases h.1), rfl, R1.out⟩⟩
end Go.Proofs.YtfkmnmopkblopaaGreatDoor
