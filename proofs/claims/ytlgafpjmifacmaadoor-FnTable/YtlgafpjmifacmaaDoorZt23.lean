/- The program reads an inode: readInode. -/
import Derived.Test.YtlgafpjmifacmaaDoorZt14
import Derived.Test.YtlgafpjmifacmaaDoorZt22
namespace Go.Proofs.YtlgafpjmifacmaaDoor
set_option linter.unusedVariables false
set_option linter.unusedSimpArgs false
open Go.RowKit

theorem Flt.storeC {w : World} {lo g o : Nat} {y c : Int} {x : Value} (hy : w.cell? ⟨g, o, none⟩ = some (.int .i64 y)) (hne : y ≠ c) : ∀ {n : Nat} {v : Value}, Flt w lo n v c → Flt (w.setCell ⟨g, o, none⟩ x) lo n v c
  | 0, _, ⟨b, h, hl, hc⟩ => by
    refine ⟨b, h, hl, (World.cell?_setCell_other _ _ _ _ ?_).trans hc⟩
    intro e
    rw [e, hc] at hy
    injection hy with hy
    injection hy with _ hy
    exact hne hy.symm
  | _ + 1, _, ⟨b, v', h, hl, hc, hr⟩ => by
    refine ⟨b, v', h, hl, (World.cell?_setCell_other _ _ _ _ ?_).trans hc, Flt.storeC hy hne hr⟩
    intro e
    rw [e, hc] at hy
    obtain ⟨t, z, rfl⟩ := hr.iface
    cases hy
/-- A reader is kept behind a write to a cell that held an integer other than 21. -/
theorem Rdr.storeC {w0 w : World} {b lo : Nat} {ok : Bool} {dv : Value} {zs : List Int} {pos g o : Nat} {y : Int} (x : Value) (h : Rdr w0 w b lo ok dv zs pos) (hg : b < g) (hy : w.cell? ⟨g, o, none⟩ = some (.int .i64 y)) (hne : y ≠ 21) : Rdr w0 (w.setCell ⟨g, o, none⟩ x) b lo ok dv zs pos := by
  have hne2 : ∀ o', (⟨g, o, none⟩ : Addr) ≠ ⟨b, o', none⟩ := fun o' e => by injection e with e1 e2; omega
  have hc : ∀ o', (w.setCell ⟨g, o, none⟩ x).cell? ⟨b, o', none⟩ = w.cell? ⟨b, o', none⟩ := fun o' => World.cell?_setCell_other _ _ _ _ (hne2 o')
  obtain ⟨c1, c2, ev, c3, c4⟩ := h.ck
  refine ⟨⟨(hc 0).trans c1, by simpa using c2, ev, (hc 1).trans c3, ?_⟩, (hc 2).trans h.data, (hc 3).trans h.at_, by simpa using h.fr, h.old.setCell (p := ⟨g, o, none⟩) (Nat.le_of_lt hg) _, h.size, h.rd, h.le, h.lo1, by simpa using h.lo2⟩
  rcases c4 with c4 | ⟨c4, n, c5⟩
  · exact .inl c4
  · exact .inr ⟨c4, n, c5.storeC hy hne⟩
theorem Rdr.cellsC {w0 : World} {b lo : Nat} {ok : Bool} {dv : Value} {zs : List Int} {pos g : Nat} {t : TypeId} (hg : b < g) : ∀ (ds : List Int) {w : World} {xs : List Int} (o : Nat), Rdr w0 w b lo ok dv zs pos → Blk w g (cellsI xs) t → o + ds.length ≤ xs.length → (∀ j, o ≤ j → xs.getD j 0 ≠ 21) → Rdr w0 (w.setCells g o (ds.map (Value.int .i64))) b lo ok dv zs pos
  | [], w, xs, o, h, _, _, _ => by simpa [World.setCells] using h
  | d :: ds, w, xs, o, h, hB, hl, hx => by
    have ho : o < xs.length := by simp at hl; omega
    have hy := (hB.cell o).trans (cellsI_get xs o ho)
    have h1 := h.storeC (.int .i64 d) hg hy (hx o (Nat.le_refl _))
    have hB1 := hB.set o (.int .i64 d)
    rw [cellsI_set] at hB1
    refine Rdr.cellsC hg ds (o + 1) h1 hB1 (by simp at hl ⊢; omega) (fun j hj => ?_)
    have hne : o ≠ j := by omega
    have := hx j (by omega)
    simpa [List.getD, List.getElem?_set, hne] using this

/-- How far a reader came that began at 0: m bytes asked for, C the looks that came so far. -/
def AdvC (zs : List Int) (m : Nat) (C : Bool) (okr : Bool) (pr : Nat) : Prop := pr ≤ m ∧ (okr = true ↔ (m ≤ zs.length ∧ C = true)) ∧ (okr = true → pr = m)
theorem AdvC.start (zs : List Int) : AdvC zs 0 true true 0 := ⟨Nat.le_refl _, ⟨fun _ => ⟨Nat.zero_le _, rfl⟩, fun _ => rfl⟩, fun _ => rfl⟩
theorem AdvC.num {okr : Bool} {zs : List Int} {m pr : Nat} {C : Bool} {w0 w w' : World} {b lo : Nat} {dv : Value} {m' x : Nat} (h : AdvC zs m C okr pr) (hn : Numd w0 w w' b lo okr dv zs pr m' x) :
    ∃ ok2 p2, Rdr w0 w' b lo ok2 dv zs p2 ∧ AdvC zs (m + m') C ok2 p2 ∧ (ok2 = true → okr = true ∧ x = unle ((zs.drop m).take m')) ∧ w.grownBy w' (some b) := by
  obtain ⟨hg, hn⟩ := hn
  obtain ⟨h1, h2, h3⟩ := h
  rcases hn with ⟨ho, hle, hx, hr⟩ | ⟨hno, hx, hr⟩
  · have hpm := h3 ho
    subst hpm
    exact ⟨true, _, hr, ⟨Nat.le_refl _, ⟨fun _ => ⟨hle, (h2.1 ho).2⟩, fun _ => rfl⟩, fun _ => rfl⟩, fun _ => ⟨ho, hx⟩, hg⟩
  · refine ⟨false, _, hr, ⟨by omega, ⟨(fun h => absurd h (by decide)), fun h => ?_⟩, (fun h => absurd h (by decide))⟩, (fun h => absurd h (by decide)), hg⟩
    have ho := h2.2 ⟨by omega, h.2⟩
    have hpm := h3 ho
    exact absurd ⟨ho, by omega⟩ hno
def allz (ts : List Int) : Bool := ts.all fun z => decide (z = 0)
theorem AdvC.zeros {okr : Bool} {zs : List Int} {m pr m2 : Nat} {C : Bool} {w0 w w' : World} {b lo : Nat} {dv : Value} (h : AdvC zs m C okr pr) (hm : m ≤ m2) (hn : Zd w0 w w' b lo okr dv zs pr m2) :
    ∃ ok2 p2, Rdr w0 w' b lo ok2 dv zs p2 ∧ AdvC zs m2 (C && allz ((zs.drop m).take (m2 - m))) ok2 p2 ∧ (ok2 = true → okr = true) ∧ w.grownBy w' (some b) := by
  obtain ⟨hg, hn⟩ := hn
  obtain ⟨h1, h2, h3⟩ := h
  rcases hn with ⟨ho, hle, hr⟩ | ⟨hno, hr⟩
  · have hpm := h3 ho
    subst hpm
    have hC := (h2.1 ho).2
    exact ⟨_, _, hr, ⟨Nat.le_refl _, ⟨fun hz => ⟨hle, by rw [hC, Bool.true_and]; exact hz⟩, fun hz => by rw [hC, Bool.true_and] at hz; exact hz.2⟩, fun _ => rfl⟩, fun _ => ho, hg⟩
  · refine ⟨false, _, hr, ⟨by omega, ⟨(fun h => absurd h (by decide)), fun h => ?_⟩, (fun h => absurd h (by decide))⟩, (fun h => absurd h (by decide)), hg⟩
    rw [Bool.and_eq_true] at h
    have ho := h2.2 ⟨by omega, h.2.1⟩
    exact absurd ⟨ho, h.1⟩ hno
theorem AdvC.adv {okr ok2 : Bool} {zs : List Int} {m pr p2 m' : Nat} {C : Bool} (h : AdvC zs m C okr pr) (hn : Adv okr zs pr m' ok2 p2) : AdvC zs (m + m') C ok2 p2 ∧ (ok2 = true → okr = true ∧ pr = m) := by
  obtain ⟨h1, h2, h3⟩ := h
  rcases hn with ⟨hk, ho, hle, hp⟩ | ⟨hk, hno, hp⟩
  · have hpm := h3 ho
    subst hpm
    exact ⟨⟨by omega, ⟨fun _ => ⟨hle, (h2.1 ho).2⟩, fun _ => hk⟩, fun _ => hp⟩, fun _ => ⟨ho, rfl⟩⟩
  · refine ⟨⟨by omega, ⟨fun h => (by rw [hk] at h; cases h), fun h => ?_⟩, fun h => (by rw [hk] at h; cases h)⟩, fun h => (by rw [hk] at h; cases h)⟩
    have ho := h2.2 ⟨by omega, h.2⟩
    have hpm := h3 ho
    exact absurd ⟨ho, by omega⟩ hno

/-- What was read as an inode. -/
def InoAt (zs : List Int) (k0 k1 k2 k3 k4 k5 k6 k7 k8 s : Int) (ds : List Int) (p q : Int) : Prop :=
  k0 = ((unle ((zs.drop 0).take 1) : Nat) : Int) ∧ k1 = ((unle ((zs.drop 2).take 2) : Nat) : Int) ∧ k2 = ((unle ((zs.drop 4).take 2) : Nat) : Int) ∧ k3 = ((unle ((zs.drop 6).take 2) : Nat) : Int) ∧ k4 = ((unle ((zs.drop 8).take 2) : Nat) : Int) ∧ k5 = ((unle ((zs.drop 12).take 4) : Nat) : Int) ∧ k6 = wrap64 ((unle ((zs.drop 16).take 8) : Nat) : Int) ∧ k7 = wrap64 ((unle ((zs.drop 24).take 8) : Nat) : Int) ∧ k8 = wrap64 ((unle ((zs.drop 32).take 8) : Nat) : Int) ∧ RootAt zs 40 s ds p q
def gaps2 (zs : List Int) : Bool := true && allz ((zs.drop 1).take 1) && allz ((zs.drop 10).take 2)

/-- What the reading keeps: the result's block, the inode so far, the reader. -/
structure Ri (w0 w wr : World) (b lo : Nat) (dv : Value) (zs : List Int) (g : Nat) (xs : List Int) (okr : Bool) (pr : Nat) : Prop where
  rdr : Rdr w0 wr b lo okr dv zs pr
  res : Blk wr w.heap.size (cellsI (List.replicate 24 0)) 44
  blk : Blk wr g (cellsI xs) 44
  old : w.grownBy wr (some b)
theorem Ri.set {w0 w wr : World} {b lo : Nat} {dv : Value} {zs : List Int} {g : Nat} {xs : List Int} {okr : Bool} {pr : Nat} (h : Ri w0 w wr b lo dv zs g xs okr pr) (hg : w.heap.size < g) (hb : b < w.heap.size) (o : Nat) (x y : Int) (hy : (cellsI xs)[o]? = some (.int .i64 y)) (hne : y ≠ 21) : Ri w0 w (wr.setCell ⟨g, o, none⟩ (.int .i64 x)) b lo dv zs g (xs.set o x) okr pr := by
  refine ⟨h.rdr.storeC _ (by omega) ((h.blk.cell o).trans hy) hne, h.res.other _ _ (by show w.heap.size ≠ g; omega), ?_, grow_set h.old _ _ _ (by omega)⟩
  have h2 := h.blk.set o (.int .i64 x)
  rw [cellsI_set] at h2
  exact h2
theorem Ri.next {w0 w wr w' : World} {b lo : Nat} {dv : Value} {zs : List Int} {g : Nat} {xs : List Int} {okr ok2 : Bool} {pr p2 : Nat} (h : Ri w0 w wr b lo dv zs g xs okr pr) (hg : w.heap.size < g) (hb : b < w.heap.size) (hr : Rdr w0 w' b lo ok2 dv zs p2) (hgr : wr.grownBy w' (some b)) : Ri w0 w w' b lo dv zs g xs ok2 p2 :=
  ⟨hr, (hgr.block _ h.res.lt (by simp; omega)).trans h.res, (hgr.block _ h.blk.lt (by simp; omega)).trans h.blk, grownBy_trans h.old hgr⟩

theorem over_ino9 (k0 k1 k2 k3 k4 k5 k6 k7 k8 s : Int) (ds : List Int) (p q : Int) (hd : ds.length = 12) : over [k0, k1, k2, k3, k4, k5, k6, k7, k8, 0, 0, 0, 0, 0, 0, 0, 0, 0, 0, 0, 0, 0, 0, 0] 9 (rootI s ds p q) = inoI [k0, k1, k2, k3, k4, k5, k6, k7, k8] s ds p q := by
  have hl := rootI_len s ds p q hd
  unfold over inoI
  rw [hl]
  simp
theorem grow_cells {w w1 : World} {r : Option Nat} (h : w.grownBy w1 r) (g : Nat) : ∀ (vs : List Value) (o : Nat), w.heap.size ≤ g → w.grownBy (w1.setCells g o vs) r := by
  intro vs
  induction vs generalizing w1 with
  | nil => intro o _; exact h
  | cons v vs ih => intro o hg; exact ih (grow_set h g o v hg) (o + 1) hg

set_option maxRecDepth 100000 in
set_option maxHeartbeats 4000000 in
theorem readInode_any (w0 w : World) (b lo : Nat) (dv : Value) (zs : List Int) (h : Rdr w0 w b lo true dv zs 0) (hz : zs.length ≤ 140737488355328) (hbd : ∀ z ∈ zs, 0 ≤ z ∧ z < 256) :
    Calls Tryd.prog 84 #[.pointer (some ⟨b, 0, none⟩)] w fun e w' => ∃ k0 k1 k2 k3 k4 k5 k6 k7 k8 s ds p q okr pr, e = .returned (.agg (cellsI (inoI [k0, k1, k2, k3, k4, k5, k6, k7, k8] s ds p q))) ∧ ds.length = 12 ∧ Rdr w0 w' b lo okr dv zs pr ∧ AdvC zs 104 (gaps2 zs) okr pr ∧ (okr = true → InoAt zs k0 k1 k2 k3 k4 k5 k6 k7 k8 s ds p q) ∧ w.grownBy w' (some b) := by
  have HB := hide hbd
  have hlt := h.ck.lt
  have hw1 : w.heap.size < w.heap.size + 1 := by omega
  have H := hide (show Ri w0 w ((w.alloc (.cells (cellsI (List.replicate 24 0)) 44)).alloc (.cells (cellsI (List.replicate 24 0)) 44)) b lo dv zs (w.heap.size + 1) (List.replicate 24 0) true 0 from ⟨(h.alloc _).alloc _, (Blk.new w _ _).alloc _, by
    have h2 := Blk.new (w.alloc (.cells (cellsI (List.replicate 24 0)) 44)) (cellsI (List.replicate 24 0)) 44
    rw [World.size_alloc] at h2
    exact h2, grownBy_trans (World.grownBy_alloc w _ (some b)) (World.grownBy_alloc _ _ (some b))⟩)
  clear h hbd
  go_enter Tryd.func84, Tryd.ntmps84
  go_wp2_with fail
  refine (number8_any w0 _ b lo true dv zs 0 H.out.rdr hz HB.out).mono ?_
  rintro e w1 ⟨x0, rfl, hN⟩
  obtain ⟨ok1, p1, r1, a1, v1, g1⟩ := (AdvC.start zs).num hN
  have H1 := hide (H.out.next hw1 hlt r1 g1)
  have A1 := hide a1
  have V1 := hide (show ok1 = true → (x0 : Int) = ((unle ((zs.drop 0).take 1) : Nat) : Int) from fun h => by rw [(v1 h).2])
  have c1 := (H1.out.blk.cell 0).trans (show (cellsI (List.replicate 24 0))[0]? = some (.int .i64 0) from rfl)
  have f1 := H1.out.blk.frozen 0
  have H1s := hide (H1.out.set hw1 hlt 0 (x0 : Int) 0 rfl (by decide))
  clear r1 a1 v1 g1 hN
  go_wp2_with (go_at_call 99; fail)
  clear c1 f1
  refine (zeros_any w0 _ b lo ok1 dv zs p1 2 H1s.out.rdr (Nat.le_trans A1.out.1 (by omega)) (by omega) (by omega) hz).mono ?_
  rintro e w2 ⟨rfl, hN⟩
  obtain ⟨ok2, p2, r2, a2, v2, g2⟩ := AdvC.zeros A1.out (by omega) hN
  have H2 := hide (H1s.out.next hw1 hlt r2 g2)
  have A2 := hide a2
  have V2 := hide v2
  clear r2 a2 v2 g2 hN H1s
  go_wp2_with (go_at_call 100; fail)
  refine (number16_any w0 _ b lo ok2 dv zs p2 H2.out.rdr hz HB.out).mono ?_
  rintro e w3 ⟨x1, rfl, hN⟩
  obtain ⟨ok3, p3, r3, a3, v3, g3⟩ := AdvC.num A2.out hN
  have H3 := hide (H2.out.next hw1 hlt r3 g3)
  have A3 := hide a3
  have V3 := hide (show ok3 = true → ok2 = true ∧ (x1 : Int) = ((unle ((zs.drop 2).take 2) : Nat) : Int) from fun h => ⟨(v3 h).1, by rw [(v3 h).2]⟩)
  have c3 := (H3.out.blk.cell 1).trans (show (cellsI [(x0 : Int), 0, 0, 0, 0, 0, 0, 0, 0, 0, 0, 0, 0, 0, 0, 0, 0, 0, 0, 0, 0, 0, 0, 0])[1]? = some (.int .i64 0) from rfl)
  have f3 := H3.out.blk.frozen 1
  have H3s := hide (H3.out.set hw1 hlt 1 (x1 : Int) 0 rfl (by decide))
  clear r3 a3 v3 g3 hN H3 H2
  go_wp2_with (go_at_call 100; fail)
  clear c3 f3
  refine (number16_any w0 _ b lo ok3 dv zs p3 H3s.out.rdr hz HB.out).mono ?_
  rintro e w4 ⟨x2, rfl, hN⟩
  obtain ⟨ok4, p4, r4, a4, v4, g4⟩ := AdvC.num A3.out hN
  have H4 := hide (H3s.out.next hw1 hlt r4 g4)
  have A4 := hide a4
  have V4 := hide (show ok4 = true → ok3 = true ∧ (x2 : Int) = ((unle ((zs.drop 4).take 2) : Nat) : Int) from fun h => ⟨(v4 h).1, by rw [(v4 h).2]⟩)
  have c4 := (H4.out.blk.cell 2).trans (show (cellsI [(x0 : Int), (x1 : Int), 0, 0, 0, 0, 0, 0, 0, 0, 0, 0, 0, 0, 0, 0, 0, 0, 0, 0, 0, 0, 0, 0])[2]? = some (.int .i64 0) from rfl)
  have f4 := H4.out.blk.frozen 2
  have H4s := hide (H4.out.set hw1 hlt 2 (x2 : Int) 0 rfl (by decide))
  clear r4 a4 v4 g4 hN H4 H3s
  go_wp2_with (go_at_call 100; fail)
  clear c4 f4
  refine (number16_any w0 _ b lo ok4 dv zs p4 H4s.out.rdr hz HB.out).mono ?_
  rintro e w5 ⟨x3, rfl, hN⟩
  obtain ⟨ok5, p5, r5, a5, v5, g5⟩ := AdvC.num A4.out hN
  have H5 := hide (H4s.out.next hw1 hlt r5 g5)
  have A5 := hide a5
  have V5 := hide (show ok5 = true → ok4 = true ∧ (x3 : Int) = ((unle ((zs.drop 6).take 2) : Nat) : Int) from fun h => ⟨(v5 h).1, by rw [(v5 h).2]⟩)
  have c5 := (H5.out.blk.cell 3).trans (show (cellsI [(x0 : Int), (x1 : Int), (x2 : Int), 0, 0, 0, 0, 0, 0, 0, 0, 0, 0, 0, 0, 0, 0, 0, 0, 0, 0, 0, 0, 0])[3]? = some (.int .i64 0) from rfl)
  have f5 := H5.out.blk.frozen 3
  have H5s := hide (H5.out.set hw1 hlt 3 (x3 : Int) 0 rfl (by decide))
  clear r5 a5 v5 g5 hN H5 H4s
  go_wp2_with (go_at_call 100; fail)
  clear c5 f5
  refine (number16_any w0 _ b lo ok5 dv zs p5 H5s.out.rdr hz HB.out).mono ?_
  rintro e w6 ⟨x4, rfl, hN⟩
  obtain ⟨ok6, p6, r6, a6, v6, g6⟩ := AdvC.num A5.out hN
  have H6 := hide (H5s.out.next hw1 hlt r6 g6)
  have A6 := hide a6
  have V6 := hide (show ok6 = true → ok5 = true ∧ (x4 : Int) = ((unle ((zs.drop 8).take 2) : Nat) : Int) from fun h => ⟨(v6 h).1, by rw [(v6 h).2]⟩)
  have c6 := (H6.out.blk.cell 4).trans (show (cellsI [(x0 : Int), (x1 : Int), (x2 : Int), (x3 : Int), 0, 0, 0, 0, 0, 0, 0, 0, 0, 0, 0, 0, 0, 0, 0, 0, 0, 0, 0, 0])[4]? = some (.int .i64 0) from rfl)
  have f6 := H6.out.blk.frozen 4
  have H6s := hide (H6.out.set hw1 hlt 4 (x4 : Int) 0 rfl (by decide))
  clear r6 a6 v6 g6 hN H6 H5s
  go_wp2_with (go_at_call 99; fail)
  clear c6 f6
  refine (zeros_any w0 _ b lo ok6 dv zs p6 12 H6s.out.rdr (Nat.le_trans A6.out.1 (by omega)) (by omega) (by omega) hz).mono ?_
  rintro e w7 ⟨rfl, hN⟩
  obtain ⟨ok7, p7, r7, a7, v7, g7⟩ := AdvC.zeros A6.out (by omega) hN
  have H7 := hide (H6s.out.next hw1 hlt r7 g7)
  have A7 := hide a7
  have V7 := hide v7
  clear r7 a7 v7 g7 hN H6s
  go_wp2_with (go_at_call 101; fail)
  refine (number32_any w0 _ b lo ok7 dv zs p7 H7.out.rdr hz HB.out).mono ?_
  rintro e w8 ⟨x5, rfl, hN⟩
  obtain ⟨ok8, p8, r8, a8, v8, g8⟩ := AdvC.num A7.out hN
  have H8 := hide (H7.out.next hw1 hlt r8 g8)
  have A8 := hide a8
  have V8 := hide (show ok8 = true → ok7 = true ∧ (x5 : Int) = ((unle ((zs.drop 12).take 4) : Nat) : Int) from fun h => ⟨(v8 h).1, by rw [(v8 h).2]⟩)
  have c8 := (H8.out.blk.cell 5).trans (show (cellsI [(x0 : Int), (x1 : Int), (x2 : Int), (x3 : Int), (x4 : Int), 0, 0, 0, 0, 0, 0, 0, 0, 0, 0, 0, 0, 0, 0, 0, 0, 0, 0, 0])[5]? = some (.int .i64 0) from rfl)
  have f8 := H8.out.blk.frozen 5
  have H8s := hide (H8.out.set hw1 hlt 5 (x5 : Int) 0 rfl (by decide))
  clear r8 a8 v8 g8 hN H8 H7
  go_wp2_with (go_at_call 102; fail)
  clear c8 f8
  refine (number64_any w0 _ b lo ok8 dv zs p8 H8s.out.rdr hz HB.out).mono ?_
  rintro e w9 ⟨x6, rfl, hN⟩
  obtain ⟨ok9, p9, r9, a9, v9, g9⟩ := AdvC.num A8.out hN
  have H9 := hide (H8s.out.next hw1 hlt r9 g9)
  have A9 := hide a9
  have V9 := hide (show ok9 = true → ok8 = true ∧ wrap64 (x6 : Int) = wrap64 ((unle ((zs.drop 16).take 8) : Nat) : Int) from fun h => ⟨(v9 h).1, by rw [(v9 h).2]⟩)
  generalize wrap64 (x6 : Int) = y6 at V9 ⊢
  have c9 := (H9.out.blk.cell 6).trans (show (cellsI [(x0 : Int), (x1 : Int), (x2 : Int), (x3 : Int), (x4 : Int), (x5 : Int), 0, 0, 0, 0, 0, 0, 0, 0, 0, 0, 0, 0, 0, 0, 0, 0, 0, 0])[6]? = some (.int .i64 0) from rfl)
  have f9 := H9.out.blk.frozen 6
  have H9s := hide (H9.out.set hw1 hlt 6 y6 0 rfl (by decide))
  clear r9 a9 v9 g9 hN H9 H8s
  go_wp2_with (go_at_call 102; fail)
  clear c9 f9
  refine (number64_any w0 _ b lo ok9 dv zs p9 H9s.out.rdr hz HB.out).mono ?_
  rintro e w10 ⟨x7, rfl, hN⟩
  obtain ⟨ok10, p10, r10, a10, v10, g10⟩ := AdvC.num A9.out hN
  have H10 := hide (H9s.out.next hw1 hlt r10 g10)
  have A10 := hide a10
  have V10 := hide (show ok10 = true → ok9 = true ∧ wrap64 (x7 : Int) = wrap64 ((unle ((zs.drop 24).take 8) : Nat) : Int) from fun h => ⟨(v10 h).1, by rw [(v10 h).2]⟩)
  generalize wrap64 (x7 : Int) = y7 at V10 ⊢
  have c10 := (H10.out.blk.cell 7).trans (show (cellsI [(x0 : Int), (x1 : Int), (x2 : Int), (x3 : Int), (x4 : Int), (x5 : Int), y6, 0, 0, 0, 0, 0, 0, 0, 0, 0, 0, 0, 0, 0, 0, 0, 0, 0])[7]? = some (.int .i64 0) from rfl)
  have f10 := H10.out.blk.frozen 7
  have H10s := hide (H10.out.set hw1 hlt 7 y7 0 rfl (by decide))
  clear r10 a10 v10 g10 hN H10 H9s
  go_wp2_with (go_at_call 102; fail)
  clear c10 f10
  refine (number64_any w0 _ b lo ok10 dv zs p10 H10s.out.rdr hz HB.out).mono ?_
  rintro e w11 ⟨x8, rfl, hN⟩
  obtain ⟨ok11, p11, r11, a11, v11, g11⟩ := AdvC.num A10.out hN
  have H11 := hide (H10s.out.next hw1 hlt r11 g11)
  have A11 := hide a11
  have V11 := hide (show ok11 = true → ok10 = true ∧ wrap64 (x8 : Int) = wrap64 ((unle ((zs.drop 32).take 8) : Nat) : Int) from fun h => ⟨(v11 h).1, by rw [(v11 h).2]⟩)
  generalize wrap64 (x8 : Int) = y8 at V11 ⊢
  have c11 := (H11.out.blk.cell 8).trans (show (cellsI [(x0 : Int), (x1 : Int), (x2 : Int), (x3 : Int), (x4 : Int), (x5 : Int), y6, y7, 0, 0, 0, 0, 0, 0, 0, 0, 0, 0, 0, 0, 0, 0, 0, 0])[8]? = some (.int .i64 0) from rfl)
  have f11 := H11.out.blk.frozen 8
  have H11s := hide (H11.out.set hw1 hlt 8 y8 0 rfl (by decide))
  clear r11 a11 v11 g11 hN H11 H10s
  go_wp2_with (go_at_call 103; fail)
  clear c11 f11
  refine (readRoot_any w0 _ b lo ok11 dv zs p11 H11s.out.rdr hz HB.out).mono ?_
  rintro e wR ⟨s, ds, p, q, okR, pR, rfl, hdl, rR, aR, vR, gR⟩
  obtain ⟨aR2, vR2⟩ := AdvC.adv A11.out aR
  have HR := hide (H11s.out.next hw1 hlt rR gR)
  have HADC := hide (show AdvC zs 104 (gaps2 zs) okR pR from aR2)
  have HIA := hide (show okR = true → InoAt zs (x0 : Int) (x1 : Int) (x2 : Int) (x3 : Int) (x4 : Int) (x5 : Int) y6 y7 y8 s ds p q from fun hk => by
    obtain ⟨h11, e11⟩ := vR2 hk
    rw [e11] at vR
    have hroot := vR hk
    have q11 := V11.out h11
    have q10 := V10.out q11.1
    have q9 := V9.out q10.1
    have q8 := V8.out q9.1
    have q7 := V7.out q8.1
    have q6 := V6.out q7
    have q5 := V5.out q6.1
    have q4 := V4.out q5.1
    have q3 := V3.out q4.1
    have q2 := V2.out q3.1
    have q1 := V1.out q2
    exact ⟨q1, q3.2, q4.2, q5.2, q6.2, q8.2, q9.2, q10.2, q11.2, hroot⟩)
  have HDL := hide hdl
  have HLen := hide (show (cellsI (rootI s ds p q)).size = 15 from by rw [cellsI_size]; exact rootI_len s ds p q hdl)
  have HZ := hide (show (cellsI (inoI [(x0 : Int), (x1 : Int), (x2 : Int), (x3 : Int), (x4 : Int), (x5 : Int), y6, y7, y8] s ds p q)).size = 24 from by rw [cellsI_size]; exact inoI_len _ _ _ _ _ rfl hdl)
  have K2 := hide (show Blk (wR.setCells (w.heap.size + 1) 9 (cellsI (rootI s ds p q)).toList) w.heap.size (cellsI (List.replicate 24 0)) 44 ∧ Blk (wR.setCells (w.heap.size + 1) 9 (cellsI (rootI s ds p q)).toList) (w.heap.size + 1) (cellsI (inoI [(x0 : Int), (x1 : Int), (x2 : Int), (x3 : Int), (x4 : Int), (x5 : Int), y6, y7, y8] s ds p q)) 44 ∧ Rdr w0 (wR.setCells (w.heap.size + 1) 9 (cellsI (rootI s ds p q)).toList) b lo okR dv zs pR ∧ w.grownBy (wR.setCells (w.heap.size + 1) 9 (cellsI (rootI s ds p q)).toList) (some b) from
    ⟨Blk.cells_other _ 9 HR.out.res (by omega), by
      rw [← over_ino9 (x0 : Int) (x1 : Int) (x2 : Int) (x3 : Int) (x4 : Int) (x5 : Int) y6 y7 y8 s ds p q hdl]
      exact Blk.cells (rootI s ds p q) 9 HR.out.blk (by rw [rootI_len s ds p q hdl]; simp),
     Rdr.cellsC (by omega) (rootI s ds p q) 9 HR.out.rdr HR.out.blk (by rw [rootI_len s ds p q hdl]; simp) (fun j hj => by
       obtain ⟨i, rfl⟩ : ∃ i, j = 9 + i := ⟨j - 9, by omega⟩
       have e : ([(x0 : Int), (x1 : Int), (x2 : Int), (x3 : Int), (x4 : Int), (x5 : Int), y6, y7, y8, 0, 0, 0, 0, 0, 0, 0, 0, 0, 0, 0, 0, 0, 0, 0] : List Int).getD (9 + i) 0 = (List.replicate 15 (0 : Int)).getD i 0 := by
         rw [show 9 + i = i + 9 by omega]; rfl
       have e2 : (List.replicate 15 (0 : Int)).getD i 0 = 0 := by
         rw [List.getD, List.getElem?_replicate]; split <;> rfl
       show ([(x0 : Int), (x1 : Int), (x2 : Int), (x3 : Int), (x4 : Int), (x5 : Int), y6, y7, y8, 0, 0, 0, 0, 0, 0, 0, 0, 0, 0, 0, 0, 0, 0, 0] : List Int).getD (9 + i) 0 ≠ 21
       rw [e, e2]
       decide),
     grow_cells HR.out.old (w.heap.size + 1) _ 9 (by omega)⟩)
  clear rR aR vR gR aR2 vR2 hdl
  go_wp2_with (first | (refine wpList_store_mid rfl 42 _ _ rfl (w.heap.size + 1) 9 (cellsI (rootI s ds p q)) rfl rfl (HR.out.blk.there 9 _ (by rw [HLen.out, cellsI_size]; simp)) (by rw [HLen.out]; exact info15) (cellsI_one _) ?_; generalize wR.setCells (w.heap.size + 1) 9 (cellsI (rootI s ds p q)).toList = wS at K2 ⊢) | (refine wpList_load_row rfl 44 _ rfl (w.heap.size + 1) rfl 44 (cellsI (inoI [(x0 : Int), (x1 : Int), (x2 : Int), (x3 : Int), (x4 : Int), (x5 : Int), y6, y7, y8] s ds p q)) (0, 0) _ K2.out.2.1 Tryd.underlying44 rfl (by rw [HZ.out]; exact info24) ?_) | (refine wpList_store_row rfl 44 _ _ rfl w.heap.size (cellsI (inoI [(x0 : Int), (x1 : Int), (x2 : Int), (x3 : Int), (x4 : Int), (x5 : Int), y6, y7, y8] s ds p q)) rfl rfl 44 _ K2.out.1 (by rw [HZ.out]; exact info24) (by rw [HZ.out]; rfl) (cellsI_one _) ?_))
  refine bodyPost_ret (v := .agg (cellsI (inoI [(x0 : Int), (x1 : Int), (x2 : Int), (x3 : Int), (x4 : Int), (x5 : Int), y6, y7, y8] s ds p q))) ?_ rfl ⟨(x0 : Int), (x1 : Int), (x2 : Int), (x3 : Int), (x4 : Int), (x5 : Int), y6, y7, y8, s, ds, p, q, okR, pR, rfl, HDL.out, ?_, HADC.out, HIA.out, grow_row K2.out.2.2.2 _ _ (Nat.le_refl _)⟩
  · exact results_cell_row rfl _ _ w.heap.size 44 (cellsI (inoI [(x0 : Int), (x1 : Int), (x2 : Int), (x3 : Int), (x4 : Int), (x5 : Int), y6, y7, y8] s ds p q)) (0, 0) _ rfl (K2.out.1.row _) Tryd.underlying44 rfl (by rw [HZ.out]; exact info24)
  · exact K2.out.2.2.1.row _ hlt K2.out.1 (by decide)
end Go.Proofs.YtlgafpjmifacmaaDoor
