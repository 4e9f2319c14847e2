/- The program reads an inode: readInode. The root of a table of inodes: l02TableSize of the model, tableRootFault of the program. -/
import Derived.Test.YtkbbnflblkkepaaGreatDoorZm21
import Derived.Test.YtkbbnflblkkepaaGreatDoorZm23
namespace Go.Proofs.YtkbbnflblkkepaaGreatDoor
set_option linter.unusedVariables false
set_option linter.unusedSimpArgs false
open Go.RowKit

theorem Flt.storeC {w : World} {lo g o : Nat} {y c : Int} {x : Value} (hy : w.cell? ⟨g, o, none⟩ = some (.int .i64 y)) (hne : y ≠ c) : ∀ {n : Nat} {v : Value}, Flt w lo n v c → Flt (w.setCell ⟨g, o, none⟩ x) lo n v c
  | 0, _, ⟨b, h, hl, hc⟩ => by
    refine ⟨b, h, hl, (World.cell?_setCell_other _ _ _ _ ?_).trans hc⟩
    intro e
    rw [e, hc] at hy
    injection hy with hy
    injection hy with _ hy
    exact hne hy.symm
  | _ + 1, _, ⟨b, v', h, hl, hc, hr⟩ => by
    refine ⟨b, v', h, hl, (World.cell?_setCell_other _ _ _ _ ?_).trans hc, Flt.storeC hy hne hr⟩
    intro e
    rw [e, hc] at hy
    obtain ⟨t, z, rfl⟩ := hr.iface
    cases hy
/-- A reader is kept behind a write to a cell that held an integer other than 21. -/
theorem Rdr.storeC {w0 w : World} {b lo : Nat} {ok : Bool} {dv : Value} {zs : List Int} {pos g o : Nat} {y : Int} (x : Value) (h : Rdr w0 w b lo ok dv zs pos) (hg : b < g) (hy : w.cell? ⟨g, o, none⟩ = some (.int .i64 y)) (hne : y ≠ 21) : Rdr w0 (w.setCell ⟨g, o, none⟩ x) b lo ok dv zs pos := by
  have hne2 : ∀ o', (⟨g, o, none⟩ : Addr) ≠ ⟨b, o', none⟩ := fun o' e => by injection e with e1 e2; omega
  have hc : ∀ o', (w.setCell ⟨g, o, none⟩ x).cell? ⟨b, o', none⟩ = w.cell? ⟨b, o', none⟩ := fun o' => World.cell?_setCell_other _ _ _ _ (hne2 o')
  obtain ⟨c1, c2, ev, c3, c4⟩ := h.ck
  refine ⟨⟨(hc 0).trans c1, by simpa using c2, ev, (hc 1).trans c3, ?_⟩, (hc 2).trans h.data, (hc 3).trans h.at_, by simpa using h.fr, h.old.setCell (p := ⟨g, o, none⟩) (Nat.le_of_lt hg) _, h.size, h.rd, h.le, h.lo1, by simpa using h.lo2⟩
  rcases c4 with c4 | ⟨c4, n, c5⟩
  · exact .inl c4
  · exact .inr ⟨c4, n, c5.storeC hy hne⟩
theorem Rdr.cellsC {w0 : World} {b lo : Nat} {ok : Bool} {dv : Value} {zs : List Int} {pos g : Nat} {t : TypeId} (hg : b < g) : ∀ (ds : List Int) {w : World} {xs : List Int} (o : Nat), Rdr w0 w b lo ok dv zs pos → Blk w g (cellsI xs) t → o + ds.length ≤ xs.length → (∀ j, o ≤ j → xs.getD j 0 ≠ 21) → Rdr w0 (w.setCells g o (ds.map (Value.int .i64))) b lo ok dv zs pos
  | [], w, xs, o, h, _, _, _ => by simpa [World.setCells] using h
  | d :: ds, w, xs, o, h, hB, hl, hx => by
    have ho : o < xs.length := by simp at hl; omega
    have hy := (hB.cell o).trans (cellsI_get xs o ho)
    have h1 := h.storeC (.int .i64 d) hg hy (hx o (Nat.le_refl _))
    have hB1 := hB.set o (.int .i64 d)
    rw [cellsI_set] at hB1
    refine Rdr.cellsC hg ds (o + 1) h1 hB1 (by simp at hl ⊢; omega) (fun j hj => ?_)
    have hne : o ≠ j := by omega
    have := hx j (by omega)
    simpa [List.getD, List.getElem?_set, hne] using this

/-- How far a reader came that began at 0: m bytes asked for, C the looks that came so far. -/
def AdvC (zs : List Int) (m : Nat) (C : Bool) (okr : Bool) (pr : Nat) : Prop := pr ≤ m ∧ (okr = true ↔ (m ≤ zs.length ∧ C = true)) ∧ (okr = true → pr = m)
theorem AdvC.start (zs : List Int) : AdvC zs 0 true true 0 := ⟨Nat.le_refl _, ⟨fun _ => ⟨Nat.zero_le _, rfl⟩, fun _ => rfl⟩, fun _ => rfl⟩
theorem AdvC.num {okr : Bool} {zs : List Int} {m pr : Nat} {C : Bool} {w0 w w' : World} {b lo : Nat} {dv : Value} {m' x : Nat} (h : AdvC zs m C okr pr) (hn : Numd w0 w w' b lo okr dv zs pr m' x) :
    ∃ ok2 p2, Rdr w0 w' b lo ok2 dv zs p2 ∧ AdvC zs (m + m') C ok2 p2 ∧ (ok2 = true → okr = true ∧ x = unle ((zs.drop m).take m')) ∧ w.grownBy w' (some b) := by
  obtain ⟨hg, hn⟩ := hn
  obtain ⟨h1, h2, h3⟩ := h
  rcases hn with ⟨ho, hle, hx, hr⟩ | ⟨hno, hx, hr⟩
  · have hpm := h3 ho
    subst hpm
    exact ⟨true, _, hr, ⟨Nat.le_refl _, ⟨fun _ => ⟨hle, (h2.1 ho).2⟩, fun _ => rfl⟩, fun _ => rfl⟩, fun _ => ⟨ho, hx⟩, hg⟩
  · refine ⟨false, _, hr, ⟨by omega, ⟨(fun h => absurd h (by decide)), fun h => ?_⟩, (fun h => absurd h (by decide))⟩, (fun h => absurd h (by decide)), hg⟩
    have ho := h2.2 ⟨by omega, h.2⟩
    have hpm := h3 ho
    exact absurd ⟨ho, by omega⟩ hno
def allz (ts : List Int) : Bool := ts.all fun z => decide (z = 0)
theorem AdvC.zeros {okr : Bool} {zs : List Int} {m pr m2 : Nat} {C : Bool} {w0 w w' : World} {b lo : Nat} {dv : Value} (h : AdvC zs m C okr pr) (hm : m ≤ m2) (hn : Zd w0 w w' b lo okr dv zs pr m2) :
    ∃ ok2 p2, Rdr w0 w' b lo ok2 dv zs p2 ∧ AdvC zs m2 (C && allz ((zs.drop m).take (m2 - m))) ok2 p2 ∧ (ok2 = true → okr = true) ∧ w.grownBy w' (some b) := by
  obtain ⟨hg, hn⟩ := hn
  obtain ⟨h1, h2, h3⟩ := h
  rcases hn with ⟨ho, hle, hr⟩ | ⟨hno, hr⟩
  · have hpm := h3 ho
    subst hpm
    have hC := (h2.1 ho).2
    exact ⟨_, _, hr, ⟨Nat.le_refl _, ⟨fun hz => ⟨hle, by rw [hC, Bool.true_and]; exact hz⟩, fun hz => by rw [hC, Bool.true_and] at hz; exact hz.2⟩, fun _ => rfl⟩, fun _ => ho, hg⟩
  · refine ⟨false, _, hr, ⟨by omega, ⟨(fun h => absurd h (by decide)), fun h => ?_⟩, (fun h => absurd h (by decide))⟩, (fun h => absurd h (by decide)), hg⟩
    rw [Bool.and_eq_true] at h
    have ho := h2.2 ⟨by omega, h.2.1⟩
    exact absurd ⟨ho, h.1⟩ hno
theorem AdvC.adv {okr ok2 : Bool} {zs : List Int} {m pr p2 m' : Nat} {C : Bool} (h : AdvC zs m C okr pr) (hn : Adv okr zs pr m' ok2 p2) : AdvC zs (m + m') C ok2 p2 ∧ (ok2 = true → okr = true ∧ pr = m) := by
  obtain ⟨h1, h2, h3⟩ := h
  rcases hn with ⟨hk, ho, hle, hp⟩ | ⟨hk, hno, hp⟩
  · have hpm := h3 ho
    subst hpm
    exact ⟨⟨by omega, ⟨fun _ => ⟨hle, (h2.1 ho).2⟩, fun _ => hk⟩, fun _ => hp⟩, fun _ => ⟨ho, rfl⟩⟩
  · refine ⟨⟨by omega, ⟨fun h => (by rw [hk] at h; cases h), fun h => ?_⟩, fun h => (by rw [hk] at h; cases h)⟩, fun h => (by rw [hk] at h; cases h)⟩
    have ho := h2.2 ⟨by omega, h.2⟩
    have hpm := h3 ho
    exact absurd ⟨ho, by omega⟩ hno

/-- What was read as an inode. -/
def InoAt (zs : List Int) (k0 k1 k2 k3 k4 k5 k6 k7 k8 s : Int) (ds : List Int) (p q : Int) : Prop :=
  k0 = ((unle ((zs.drop 0).take 1) : Nat) : Int) ∧ k1 = ((unle ((zs.drop 2).take 2) : Nat) : Int) ∧ k2 = ((unle ((zs.drop 4).take 2) : Nat) : Int) ∧ k3 = ((unle ((zs.drop 6).take 2) : Nat) : Int) ∧ k4 = ((unle ((zs.drop 8).take 2) : Nat) : Int) ∧ k5 = ((unle ((zs.drop 12).take 4) : Nat) : Int) ∧ k6 = wrap64 ((unle ((zs.drop 16).take 8) : Nat) : Int) ∧ k7 = wrap64 ((unle ((zs.drop 24).take 8) : Nat) : Int) ∧ k8 = wrap64 ((unle ((zs.drop 32).take 8) : Nat) : Int) ∧ RootAt zs 40 s ds p q
def gaps2 (zs : List Int) : Bool := true && allz ((zs.drop 1).take 1) && allz ((zs.drop 10).take 2)

theorem over_ino9 (k0 k1 k2 k3 k4 k5 k6 k7 k8 s : Int) (ds : List Int) (p q : Int) (hd : ds.length = 12) : over [k0, k1, k2, k3, k4, k5, k6, k7, k8, 0, 0, 0, 0, 0, 0, 0, 0, 0, 0, 0, 0, 0, 0, 0] 9 (rootI s ds p q) = inoI [k0, k1, k2, k3, k4, k5, k6, k7, k8] s ds p q := by
  have hl := rootI_len s ds p q hd
  unfold over inoI
  rw [hl]
  simp
theorem grow_cells {w w1 : World} {r : Option Nat} (h : w.grownBy w1 r) (g : Nat) : ∀ (vs : List Value) (o : Nat), w.heap.size ≤ g → w.grownBy (w1.setCells g o vs) r := by
  intro vs
  induction vs generalizing w1 with
  | nil => intro o _; exact h
  | cons v vs ih => intro o hg; exact ih (grow_set h g o v hg) (o + 1) hg

end Go.Proofs.YtkbbnflblkkepaaGreatDoor

namespace Go.Proofs.YtkbbnflblkkepaaGreatDoor
set_option linter.unusedVariables false
set_option linter.unusedSimpArgs false
open Go.RowKit

def tabB (s : Int) : Bool := decide (256 ≤ s) && (s % 128 == 0) && decide (s ≤ 128128)
theorem tableSize_any (s : Int) (w : World) : Calls Tryz.prog 86 #[.int .i64 s] w fun e w' => e = .returned (.bool (tabB s)) ∧ w = w' := by
  by_cases h1 : 256 ≤ s
  · cases h2 : (s % 128 == 0) with
    | true =>
      have HR := hide (show tabB s = decide (s ≤ 128128) from by unfold tabB; rw [h2, decide_eq_true h1]; rfl)
      go_enter Tryz.func86, Tryz.ntmps86
      go_wp2
      go_ret
      exact ⟨ret_bool (by rw [HR.out]), rfl⟩
    | false =>
      have HR := hide (show tabB s = false from by unfold tabB; rw [h2, decide_eq_true h1]; rfl)
      go_enter Tryz.func86, Tryz.ntmps86
      go_wp2
      go_ret
      exact ⟨ret_bool (by rw [HR.out]), rfl⟩
  · have hq : decide (256 ≤ s) = false := by simp [h1]
    have HR := hide (show tabB s = false from by unfold tabB; rw [hq]; rfl)
    go_enter Tryz.func86, Tryz.ntmps86
    go_wp2
    go_ret
    exact ⟨ret_bool (by rw [HR.out]), rfl⟩
theorem tab_order (r : Bool) (s : Int) : (true && r && (decide (256 ≤ s) && decide (s ≤ 128128)) && (s % 128 == 0)) = (r && tabB s) := by
  unfold tabB
  cases r <;> cases decide (256 ≤ s) <;> cases decide (s ≤ 128128) <;> cases (s % 128 == 0) <;> rfl
theorem tab_neg (r b : Bool) (s : Int) (h : s < 0) : (true && r && (decide (256 ≤ s) && decide (s ≤ 128128)) && b) = (r && tabB s) := by
  unfold tabB
  rw [decide_eq_false (show ¬ 256 ≤ s by omega)]
  cases r <;> cases b <;> cases decide (s ≤ 128128) <;> cases (s % 128 == 0) <;> rfl

set_option maxRecDepth 100000 in
set_option maxHeartbeats 1000000 in
theorem tableFault_any (s : Int) (ds : List Int) (p q code : Int) (w : World) (hd : ds.length = 12) :
    Calls Tryz.prog 72 #[.agg (cellsI (rootI s ds p q)), .int .i64 code] w fun e w' => ∃ ev, e = .returned ev ∧ FaultIs w' w.heap.size (rightR s ds p q && tabB s) ev code ∧ Below w.heap.size w w' := by
  have HD := hide hd
  have HZ := hide (show (cellsI (rootI s ds p q)).size = 15 from by rw [cellsI_size]; exact rootI_len s ds p q HD.out)
  have kB := (Blk.new w (cellsI (rootI s ds p q)) 34).alloc (.cells #[.int .i64 code, .nilIface] 99)
  have kC := Ck.fresh (w.alloc (.cells (cellsI (rootI s ds p q)) 34)) code 99
  rw [World.size_alloc] at kC
  have hb0 : Below w.heap.size w ((w.alloc (.cells (cellsI (rootI s ds p q)) 34)).alloc (.cells #[.int .i64 code, .nilIface] 99)) := ((Below.refl _ _).alloc (Nat.le_refl _) _).alloc (by simp) _
  have H0 := hide (show Kp w ((w.alloc (.cells (cellsI (rootI s ds p q)) 34)).alloc (.cells #[.int .i64 code, .nilIface] 99)) (cellsI (rootI s ds p q)) 34 code true from ⟨kB, kC, hb0⟩)
  clear hd kB kC hb0
  go_enter Tryz.func72, Tryz.ntmps72
  go_wp2_with (first | (refine wpList_load_row rfl 34 _ rfl w.heap.size rfl 34 (cellsI (rootI s ds p q)) (0, 0) _ H0.out.blk Tryz.underlying34 rfl (by rw [HZ.out]; exact info15) ?_) | (go_at_call 74; fail))
  refine (rootFault_any s ds p q code _ HD.out).mono ?_
  rintro e w1 ⟨ev1, rfl, hf1, hb1⟩
  have H1 := hide (And.intro (H0.out.below hb1) (And.intro hf1 (And.intro H0.out.lo hb1.size)))
  clear hf1 hb1
  go_wp2_with fail
  refine (inside_fault w _ w1 _ _ code _ _ _ ev1 H1.out.1 H1.out.2.2.1 H1.out.2.2.2 H1.out.2.1).mono ?_
  rintro e w2 ⟨rfl, hk2⟩
  have H2 := hide hk2
  have c2 := (H2.out.blk.cell 0).trans (show (cellsI (rootI s ds p q))[0]? = some (.int .i64 s) from rfl)
  clear hk2 H1 H0
  go_wp2_with (go_at_call 69; fail)
  refine (within_any (w.heap.size + 1) (w.heap.size + 1 + 1) _ code s 256 128128 _ _ H2.out.ck (by omega) H2.out.lo).mono ?_
  rintro e w3 ⟨rfl, hc3, ht3⟩
  have H3 := hide (H2.out.tch hc3 ht3)
  have c3 := (H3.out.blk.cell 0).trans (show (cellsI (rootI s ds p q))[0]? = some (.int .i64 s) from rfl)
  clear hc3 ht3 H2 c2
  by_cases hs : 0 ≤ s
  · go_wp2_with (go_at_call 50; fail)
    refine (need_any (w.heap.size + 1) (w.heap.size + 1 + 1) _ code _ (s % 128 == 0) _ H3.out.ck (by omega) H3.out.lo).mono ?_
    rintro e w4 ⟨rfl, hc4, ht4⟩
    have H4 := hide (H3.out.tch hc4 ht4)
    obtain ⟨ev, c4, hf4⟩ := H4.out.fault
    have HV := hide (show FaultIs w4 w.heap.size (rightR s ds p q && tabB s) ev code from by rw [← tab_order]; exact hf4)
    clear hc4 ht4 hf4 H3 c3
    go_wp2
    go_ret
    exact ⟨ev, rfl, HV.out, H4.out.old⟩
  · have hneg : s < 0 := by omega
    go_wp2_with (go_at_call 50; fail)
    refine (need_any (w.heap.size + 1) (w.heap.size + 1 + 1) _ code _ _ _ H3.out.ck (by omega) H3.out.lo).mono ?_
    rintro e w4 ⟨rfl, hc4, ht4⟩
    have H4 := hide (H3.out.tch hc4 ht4)
    obtain ⟨ev, c4, hf4⟩ := H4.out.fault
    have HV := hide (show FaultIs w4 w.heap.size (rightR s ds p q && tabB s) ev code from by rw [← tab_neg _ _ _ hneg]; exact hf4)
    clear hc4 ht4 hf4 H3 c3
    go_wp2
    go_ret
    exact ⟨ev, rfl, HV.out, H4.out.old⟩
end Go.Proofs.YtkbbnflblkkepaaGreatDoor
