/- The program reads a snapshot: readSnap. -/
import Derived.Test.YtfkmnmopkblopaaGreatDoorZs15
import Derived.Test.YtfkmnmopkblopaaGreatDoorZs17
import Derived.Test.YtfkmnmopkblopaaGreatDoorZs26
import Derived.Laws.BytesArg
namespace Go.Proofs.YtfkmnmopkblopaaGreatDoor
set_option linter.unusedVariables false
set_option linter.unusedSimpArgs false
open Go.RowKit

theorem Flt.storeS {w : World} {lo g o : Nat} {y : ByteArray} {x : Value} (hy : w.cell? ⟨g, o, none⟩ = some (.string y)) : ∀ {n : Nat} {v : Value} {c : Int}, Flt w lo n v c → Flt (w.setCell ⟨g, o, none⟩ x) lo n v c
  | 0, _, _, ⟨b, h, hl, hc⟩ => by
    refine ⟨b, h, hl, (World.cell?_setCell_other _ _ _ _ ?_).trans hc⟩
    intro e
    rw [e, hc] at hy
    cases hy
  | _ + 1, _, _, ⟨b, v', h, hl, hc, hr⟩ => by
    refine ⟨b, v', h, hl, (World.cell?_setCell_other _ _ _ _ ?_).trans hc, Flt.storeS hy hr⟩
    intro e
    rw [e, hc] at hy
    obtain ⟨t, z, rfl⟩ := hr.iface
    cases hy
theorem Rdr.storeS {w0 w : World} {b lo : Nat} {ok : Bool} {dv : Value} {zs : List Int} {pos g o : Nat} {y : ByteArray} (x : Value) (h : Rdr w0 w b lo ok dv zs pos) (hg : b < g) (hy : w.cell? ⟨g, o, none⟩ = some (.string y)) : Rdr w0 (w.setCell ⟨g, o, none⟩ x) b lo ok dv zs pos := by
  have hne2 : ∀ o', (⟨g, o, none⟩ : Addr) ≠ ⟨b, o', none⟩ := fun o' e => by injection e with e1 e2; omega
  have hc : ∀ o', (w.setCell ⟨g, o, none⟩ x).cell? ⟨b, o', none⟩ = w.cell? ⟨b, o', none⟩ := fun o' => World.cell?_setCell_other _ _ _ _ (hne2 o')
  obtain ⟨c1, c2, ev, c3, c4⟩ := h.ck
  refine ⟨⟨(hc 0).trans c1, by simpa using c2, ev, (hc 1).trans c3, ?_⟩, (hc 2).trans h.data, (hc 3).trans h.at_, by simpa using h.fr, h.old.setCell (p := ⟨g, o, none⟩) (Nat.le_of_lt hg) _, h.size, h.rd, h.le, h.lo1, by simpa using h.lo2⟩
  rcases c4 with c4 | ⟨c4, n, c5⟩
  · exact .inl c4
  · exact .inr ⟨c4, n, c5.storeS hy⟩
theorem Rdr.cellsG {w0 : World} {b lo : Nat} {ok : Bool} {dv : Value} {zs : List Int} {pos g : Nat} (hg : b < g) : ∀ (ds : List Int) {w : World} (o : Nat), Rdr w0 w b lo ok dv zs pos → (∀ j, j < ds.length → ∃ y, w.cell? ⟨g, o + j, none⟩ = some (.int .i64 y) ∧ y ≠ 21) → Rdr w0 (w.setCells g o (ds.map (Value.int .i64))) b lo ok dv zs pos
  | [], w, o, h, _ => by simpa [World.setCells] using h
  | d :: ds, w, o, h, hx => by
    obtain ⟨y, hy, hne⟩ := hx 0 (by simp)
    rw [Nat.add_zero] at hy
    have h1 := h.storeC (.int .i64 d) hg hy hne
    refine Rdr.cellsG hg ds (o + 1) h1 (fun j hj => ?_)
    obtain ⟨y2, hy2, hn2⟩ := hx (j + 1) (by simp; omega)
    refine ⟨y2, ?_, hn2⟩
    rw [World.cell?_setCell_other _ _ _ _ (by intro e; injection e with e1 e2; omega), show o + 1 + j = o + (j + 1) by omega]
    exact hy2
/-- The reading of a snapshot so far. -/
structure Rs (w0 w wr : World) (b lo : Nat) (dv : Value) (zs : List Int) (g : Nat) (C : Array Value) (okr : Bool) (pr : Nat) : Prop where
  rdr : Rdr w0 wr b lo okr dv zs pr
  res : Blk wr w.heap.size (snapC 0 ⟨#[]⟩ 0 0 0 (List.replicate 12 0) 0 0) 41
  blk : Blk wr g C 41
  old : w.grownBy wr (some b)
theorem Rs.setI {w0 w wr : World} {b lo : Nat} {dv : Value} {zs : List Int} {g : Nat} {C : Array Value} {okr : Bool} {pr : Nat} (h : Rs w0 w wr b lo dv zs g C okr pr) (hg : w.heap.size < g) (hb : b < w.heap.size) (k : Nat) (x : Int) (hk : C[k]? = some (.int .i64 0)) : Rs w0 w (wr.setCell ⟨g, k, none⟩ (.int .i64 x)) b lo dv zs g (C.setIfInBounds k (.int .i64 x)) okr pr :=
  ⟨h.rdr.storeC _ (by omega) ((h.blk.cell k).trans hk) (by decide), h.res.other _ _ (by show w.heap.size ≠ g; omega), h.blk.set k _, grow_set h.old _ _ _ (by omega)⟩
theorem Rs.setS {w0 w wr : World} {b lo : Nat} {dv : Value} {zs : List Int} {g : Nat} {C : Array Value} {okr : Bool} {pr : Nat} (h : Rs w0 w wr b lo dv zs g C okr pr) (hg : w.heap.size < g) (hb : b < w.heap.size) (k : Nat) (x y : ByteArray) (hk : C[k]? = some (.string y)) : Rs w0 w (wr.setCell ⟨g, k, none⟩ (.string x)) b lo dv zs g (C.setIfInBounds k (.string x)) okr pr :=
  ⟨h.rdr.storeS _ (by omega) ((h.blk.cell k).trans hk), h.res.other _ _ (by show w.heap.size ≠ g; omega), h.blk.set k _, grow_set h.old _ _ _ (by omega)⟩
theorem Rs.next {w0 w wr w' : World} {b lo : Nat} {dv : Value} {zs : List Int} {g : Nat} {C : Array Value} {okr ok2 : Bool} {pr p2 : Nat} (h : Rs w0 w wr b lo dv zs g C okr pr) (hg : w.heap.size < g) (hb : b < w.heap.size) (hr : Rdr w0 w' b lo ok2 dv zs p2) (hgr : wr.grownBy w' (some b)) : Rs w0 w w' b lo dv zs g C ok2 p2 :=
  ⟨hr, (hgr.block _ h.res.lt (by simp; omega)).trans h.res, (hgr.block _ h.blk.lt (by simp; omega)).trans h.blk, grownBy_trans h.old hgr⟩
/-- How far a reader came: m bytes asked for, C the looks that came so far. -/
def AdvE (zs : List Int) (m : Nat) (C : Bool) (okr : Bool) (pr : Nat) : Prop := (okr = true ↔ (m ≤ zs.length ∧ C = true)) ∧ (okr = true → pr = m)
theorem AdvE.num {okr : Bool} {zs : List Int} {m pr : Nat} {C : Bool} {w0 w w' : World} {b lo : Nat} {dv : Value} {m' x : Nat} (h : AdvE zs m C okr pr) (hn : Numd w0 w w' b lo okr dv zs pr m' x) :
    ∃ ok2 p2, Rdr w0 w' b lo ok2 dv zs p2 ∧ AdvE zs (m + m') C ok2 p2 ∧ (ok2 = true → okr = true ∧ x = unle ((zs.drop m).take m')) ∧ w.grownBy w' (some b) := by
  obtain ⟨hg, hn⟩ := hn
  obtain ⟨h2, h3⟩ := h
  rcases hn with ⟨ho, hle, hx, hr⟩ | ⟨hno, hx, hr⟩
  · have hpm := h3 ho
    subst hpm
    exact ⟨true, _, hr, ⟨⟨fun _ => ⟨hle, (h2.1 ho).2⟩, fun _ => rfl⟩, fun _ => rfl⟩, fun _ => ⟨ho, hx⟩, hg⟩
  · refine ⟨false, _, hr, ⟨⟨(fun h => absurd h (by decide)), fun h => ?_⟩, (fun h => absurd h (by decide))⟩, (fun h => absurd h (by decide)), hg⟩
    have ho := h2.2 ⟨by omega, h.2⟩
    have hpm := h3 ho
    exact absurd ⟨ho, by omega⟩ hno
theorem AdvE.took {okr : Bool} {zs : List Int} {m pr : Nat} {C : Bool} {w0 w w' : World} {b lo : Nat} {dv sv : Value} {n : Nat} (h : AdvE zs m C okr pr) (hn : Took w0 w w' b lo okr dv zs pr n sv) :
    ∃ ok2 p2 ts, Rdr w0 w' b lo ok2 dv zs p2 ∧ AdvE zs (m + n) C ok2 p2 ∧ Rd .u8 w0 sv ts ∧ ts.length ≤ n ∧ (ok2 = true → okr = true ∧ ts = (zs.drop m).take n) ∧ w.grownBy w' (some b) := by
  obtain ⟨hg, hn⟩ := hn
  obtain ⟨h2, h3⟩ := h
  rcases hn with ⟨ho, _, hle, hrd, hr⟩ | ⟨hno, rfl, hr⟩
  · have hpm := h3 ho
    subst hpm
    rw [Int.toNat_natCast] at hrd hr
    exact ⟨true, _, _, hr, ⟨⟨fun _ => ⟨by omega, (h2.1 ho).2⟩, fun _ => rfl⟩, fun _ => rfl⟩, hrd, by rw [List.length_take]; omega, fun _ => ⟨ho, rfl⟩, hg⟩
  · refine ⟨false, _, [], hr, ⟨⟨(fun h => absurd h (by decide)), fun h => ?_⟩, (fun h => absurd h (by decide))⟩, ⟨none, 0, rfl, by simp, fun h => absurd rfl h, by simp, by simp⟩, by simp, (fun h => absurd h (by decide)), hg⟩
    have ho := h2.2 ⟨by omega, h.2⟩
    have hpm := h3 ho
    exact absurd ⟨ho, by omega, by omega⟩ hno
theorem AdvE.adv {okr ok2 : Bool} {zs : List Int} {m pr p2 m' : Nat} {C : Bool} (h : AdvE zs m C okr pr) (hn : Adv okr zs pr m' ok2 p2) : AdvE zs (m + m') C ok2 p2 ∧ (ok2 = true → okr = true ∧ pr = m) := by
  obtain ⟨h2, h3⟩ := h
  rcases hn with ⟨hk, ho, hle, hp⟩ | ⟨hk, hno, hp⟩
  · have hpm := h3 ho
    subst hpm
    exact ⟨⟨⟨fun _ => ⟨hle, (h2.1 ho).2⟩, fun _ => hk⟩, fun _ => hp⟩, fun _ => ⟨ho, rfl⟩⟩
  · refine ⟨⟨⟨fun h => (by rw [hk] at h; cases h), fun h => ?_⟩, fun h => (by rw [hk] at h; cases h)⟩, fun h => (by rw [hk] at h; cases h)⟩
    have ho := h2.2 ⟨by omega, h.2⟩
    have hpm := h3 ho
    exact absurd ⟨ho, by omega⟩ hno
/-- The length of a snapshot's name; whether what lies between it and the next field is right. -/
def nlen (zs : List Int) : Nat := unle ((zs.drop 9).take 1)
def gapN (zs : List Int) : Bool := decide (nlen zs ≤ 30) && allz ((zs.drop (10 + nlen zs)).take (30 - nlen zs))
/-- What was read as a snapshot. -/
def SnapAt (zs : List Int) (pl : Int) (nm : ByteArray) (ge cl s : Int) (ds : List Int) (p q : Int) : Prop :=
  pl = ((unle ((zs.drop 8).take 1) : Nat) : Int) ∧ nm = strOfNums ((zs.drop 10).take (nlen zs)) ∧ ge = wrap64 ((unle ((zs.drop 40).take 8) : Nat) : Int) ∧ cl = wrap64 ((unle ((zs.drop 48).take 8) : Nat) : Int) ∧ RootAt zs 56 s ds p q
theorem Flt.rowS {w : World} {lo g : Nat} {t : TypeId} {cs : Array Value} {c : Int} (hc21 : c = 21) (hB : Blk w g (snapC 0 ⟨#[]⟩ 0 0 0 (List.replicate 12 0) 0 0) t) : ∀ {n : Nat} {v : Value}, Flt w lo n v c → Flt (w.setRow g cs) lo n v c
  | 0, _, ⟨b, h, hl, hc⟩ => by
    refine ⟨b, h, hl, (World.cell?_of_block (a := ⟨b, 0, none⟩) (setRow_block w g cs b ?_)).trans hc⟩
    rintro rfl
    rw [hB.cell 0] at hc
    have h1 : (Value.int .i64 0) = .int .i64 c := Option.some.inj hc
    injection h1 with _ h2
    omega
  | _ + 1, _, ⟨b, v', h, hl, hc, hr⟩ => by
    refine ⟨b, v', h, hl, (World.cell?_of_block (a := ⟨b, 1, none⟩) (setRow_block w g cs b ?_)).trans hc, Flt.rowS hc21 hB hr⟩
    rintro rfl
    rw [hB.cell 1] at hc
    obtain ⟨_, _, h3⟩ := hr.iface
    rw [h3] at hc
    cases hc
theorem Rdr.rowS {w0 w : World} {b lo : Nat} {ok : Bool} {dv : Value} {zs : List Int} {pos g : Nat} {t : TypeId} (cs : Array Value) (h : Rdr w0 w b lo ok dv zs pos) (hg : b < g) (hB : Blk w g (snapC 0 ⟨#[]⟩ 0 0 0 (List.replicate 12 0) 0 0) t) : Rdr w0 (w.setRow g cs) b lo ok dv zs pos := by
  have hb : (w.setRow g cs).heap[b]? = w.heap[b]? := setRow_block w g cs b (by omega)
  have hc : ∀ o', (w.setRow g cs).cell? ⟨b, o', none⟩ = w.cell? ⟨b, o', none⟩ := fun o' => World.cell?_of_block (a := ⟨b, o', none⟩) hb
  have hf : ∀ o', (w.setRow g cs).frozen? ⟨b, o', none⟩ = w.frozen? ⟨b, o', none⟩ := fun o' => World.frozen?_of_block (a := ⟨b, o', none⟩) hb
  obtain ⟨c1, c2, ev, c3, c4⟩ := h.ck
  refine ⟨⟨(hc 0).trans c1, (hf 1).trans c2, ev, (hc 1).trans c3, ?_⟩, (hc 2).trans h.data, (hc 3).trans h.at_, (hf 3).trans h.fr, below_setRow h.old (Nat.le_of_lt hg) _, h.size, h.rd, h.le, h.lo1, by simpa [World.setRow] using h.lo2⟩
  rcases c4 with c4 | ⟨c4, n, c5⟩
  · exact .inl c4
  · exact .inr ⟨c4, n, c5.rowS rfl hB⟩
theorem zeros40 (w0 w : World) (b lo : Nat) (ok3 : Bool) (dv : Value) (zs : List Int) (p3 x1 : Nat) (C : Bool) (h : Rdr w0 w b lo ok3 dv zs p3) (hA : AdvE zs (8 + 1 + 1 + x1) C ok3 p3) (hv : 8 + 1 + 1 ≤ zs.length ∧ C = true → x1 = nlen zs) (hx : x1 ≤ 255) (hz : zs.length ≤ 1048576) :
    Calls Tryz.prog 69 #[.pointer (some ⟨b, 0, none⟩), .int .i64 40] w fun e w' => e = .returned (.tuple #[]) ∧ ∃ ok4 p4, Rdr w0 w' b lo ok4 dv zs p4 ∧ AdvE zs 40 (C && gapN zs) ok4 p4 ∧ (ok4 = true → ok3 = true) ∧ w.grownBy w' (some b) := by
  have hno : ∀ (hq : ok3 = true → p3 ≤ 40 → 40 ≤ zs.length → False), (40 ≤ zs.length ∧ (C && gapN zs) = true) → False := fun hq hh => by
    obtain ⟨h1, h2⟩ := hh
    rw [Bool.and_eq_true] at h2
    have h3 := h2.2
    unfold gapN at h3
    rw [Bool.and_eq_true] at h3
    have h4 : nlen zs ≤ 30 := by simpa using h3.1
    have h5 := hv ⟨by omega, h2.1⟩
    have h6 := hA.1.2 ⟨by omega, h2.1⟩
    exact hq h6 (by have := hA.2 h6; omega) h1
  by_cases hp : p3 ≤ 40
  · refine (zeros_any w0 w b lo ok3 dv zs p3 40 h hp (by omega) (by omega) (by omega)).mono ?_
    rintro e w' ⟨rfl, hg, hd⟩
    refine ⟨rfl, ?_⟩
    rcases hd with ⟨ho, hle, hr⟩ | ⟨hn, hr⟩
    · have hp3 := hA.2 ho
      have hC := hA.1.1 ho
      have hxn := hv ⟨by omega, hC.2⟩
      refine ⟨_, 40, hr, ⟨?_, fun _ => rfl⟩, fun _ => ho, hg⟩
      have e1 : (zs.drop p3).take (40 - p3) = (zs.drop (10 + nlen zs)).take (30 - nlen zs) := by
        have e2 : p3 = 10 + nlen zs := by omega
        rw [e2, show 40 - (10 + nlen zs) = 30 - nlen zs by omega]
      have hg2 : gapN zs = ((zs.drop p3).take (40 - p3)).all (fun z => decide (z = 0)) := by
        unfold gapN
        rw [decide_eq_true (show nlen zs ≤ 30 by omega), Bool.true_and, e1]
        rfl
      rw [hC.2, Bool.true_and, hg2]
      exact ⟨fun hh => ⟨hle, hh⟩, fun hh => hh.2⟩
    · refine ⟨false, p3, hr, ⟨⟨(fun hh => by cases hh), fun hh => ?_⟩, (fun hh => by cases hh)⟩, (fun hh => by cases hh), hg⟩
      exact (hno (fun a _ c => hn ⟨a, c⟩) hh).elim
  · refine (zeros_neg w0 w b lo ok3 dv zs p3 40 h (by omega) (by have := h.le; omega)).mono ?_
    rintro e w' ⟨rfl, hr, hg⟩
    refine ⟨rfl, false, p3, hr, ⟨⟨(fun hh => by cases hh), fun hh => ?_⟩, (fun hh => by cases hh)⟩, (fun hh => by cases hh), hg⟩
    exact (hno (fun _ c _ => hp c) hh).elim
theorem conv_rdN {w : World} {v : Value} {xs : List Int} (h : Rd .u8 w v xs) : (convert 22 9 v).run Tryz.prog w = .ok (.string (strOfNums xs)) w := by
  obtain ⟨a, cap, rfl, hm, hc, h1, h2⟩ := h
  by_cases hne : xs = []
  · subst hne
    rw [run_convert_bytes_string w 22 9 5 _ _ cap Tryz.underlying22 Tryz.underlying5 Tryz.underlying9]
    cases a with
    | none => simp [Conv.bytesToString]; rfl
    | some ad =>
      exact run_bytesToString w ad 0 cap [] (by simpa using run_loadCells_list (P := Tryz.prog) w ad [] (by simp))
  · obtain ⟨b, off, rfl, _, hcell⟩ := hc hne
    exact run_convert_bytes_arg w 22 5 Tryz.underlying22 Tryz.underlying5 b off xs.length cap xs rfl hcell 9 Tryz.underlying9

set_option maxRecDepth 100000 in
set_option maxHeartbeats 4000000 in
theorem readSnap_any (w0 w : World) (b lo : Nat) (ok0 : Bool) (dv : Value) (zs : List Int) (p0 : Nat) (C : Bool) (h : Rdr w0 w b lo ok0 dv zs p0) (hA : AdvE zs 8 C ok0 p0) (hz : zs.length ≤ 1048576) (hbd : ∀ z ∈ zs, 0 ≤ z ∧ z < 256) :
    Calls Tryz.prog 54 #[.pointer (some ⟨b, 0, none⟩)] w fun e w' => ∃ pl nm ge cl s ds p q okr pr, e = .returned (.agg (snapC pl nm ge cl s ds p q)) ∧ ds.length = 12 ∧ nm.size ≤ 255 ∧ Rdr w0 w' b lo okr dv zs pr ∧ AdvE zs 120 (C && gapN zs) okr pr ∧ (okr = true → SnapAt zs pl nm ge cl s ds p q) ∧ w.grownBy w' (some b) := by
  have HB := hide hbd
  have hlt := h.ck.lt
  have hw1 : w.heap.size < w.heap.size + 1 := by omega
  have hz2 : zs.length ≤ 140737488355328 := by omega
  have S0 := hide (show Rs w0 w ((w.alloc (.cells (snapC 0 ⟨#[]⟩ 0 0 0 (List.replicate 12 0) 0 0) 41)).alloc (.cells (snapC 0 ⟨#[]⟩ 0 0 0 (List.replicate 12 0) 0 0) 41)) b lo dv zs (w.heap.size + 1) (snapC 0 ⟨#[]⟩ 0 0 0 (List.replicate 12 0) 0 0) ok0 p0 from ⟨(h.alloc _).alloc _, (Blk.new w _ _).alloc _, by
    have h2 := Blk.new (w.alloc (.cells (snapC 0 ⟨#[]⟩ 0 0 0 (List.replicate 12 0) 0 0) 41)) (snapC 0 ⟨#[]⟩ 0 0 0 (List.replicate 12 0) 0 0) 41
    rw [World.size_alloc] at h2
    exact h2, grownBy_trans (World.grownBy_alloc w _ (some b)) (World.grownBy_alloc _ _ (some b))⟩)
  have A0 := hide hA
  clear h hbd hA
  go_enter Tryz.func54, Tryz.ntmps54
  go_wp2_with (go_at_call 80; fail)
  refine (number8_any w0 _ b lo ok0 dv zs p0 S0.out.rdr hz2 HB.out).mono ?_
  rintro e w1 ⟨x0, rfl, hN⟩
  obtain ⟨ok1, p1, r1, a1, v1, g1⟩ := AdvE.num A0.out hN
  have H1 := hide (S0.out.next hw1 hlt r1 g1)
  have A1 := hide a1
  have V1 := hide (show ok1 = true → (x0 : Int) = ((unle ((zs.drop 8).take 1) : Nat) : Int) from fun h => by rw [(v1 h).2])
  have c1 := (H1.out.blk.cell 0).trans (show (snapC 0 ⟨#[]⟩ 0 0 0 (List.replicate 12 0) 0 0)[0]? = some (.int .i64 0) from rfl)
  have f1 := H1.out.blk.frozen 0
  have S1 := hide (show Rs w0 w (w1.setCell ⟨w.heap.size + 1, 0, none⟩ (.int .i64 (x0 : Int))) b lo dv zs (w.heap.size + 1) (snapC (x0 : Int) ⟨#[]⟩ 0 0 0 (List.replicate 12 0) 0 0) ok1 p1 from H1.out.setI hw1 hlt 0 (x0 : Int) rfl)
  clear r1 a1 v1 g1 hN H1 S0
  go_wp2_with (go_at_call 80; fail)
  clear c1 f1
  refine (number8_any w0 _ b lo ok1 dv zs p1 S1.out.rdr hz2 HB.out).mono ?_
  rintro e w2 ⟨x1, rfl, hN⟩
  have hx1 : x1 ≤ 255 := by
    rcases hN.2 with ⟨_, _, hx, _⟩ | ⟨_, hx, _⟩
    · have h1 := unle_lt ((zs.drop p1).take 1) (fun z hz => HB.out z (List.mem_of_mem_drop (List.mem_of_mem_take hz)))
      have h2 : ((zs.drop p1).take 1).length ≤ 1 := by rw [List.length_take]; omega
      have h3 : 256 ^ ((zs.drop p1).take 1).length ≤ 256 ^ 1 := Nat.pow_le_pow_right (by decide) h2
      rw [← hx] at h1
      omega
    · omega
  obtain ⟨ok2, p2, r2, a2, v2, g2⟩ := AdvE.num A1.out hN
  have S2 := hide (S1.out.next hw1 hlt r2 g2)
  have A2 := hide a2
  have V2 := hide (show ok2 = true → ok1 = true ∧ x1 = nlen zs from fun h => v2 h)
  have HT := hide (show Calls Tryz.prog 81 #[.pointer (some ⟨b, 0, none⟩), .int .i64 (x1 : Int)] w2 fun e w' => ∃ sv, e = .returned sv ∧ Took w0 w2 w' b lo ok2 dv zs p2 x1 sv from by
    cases hk : ok2 with
    | false =>
      have hr := S2.out.rdr
      rw [hk] at hr
      exact take_fail w0 _ b lo dv zs p2 x1 hr (by omega) hz2
    | true =>
      have hr := S2.out.rdr
      rw [hk] at hr
      have hpp := A2.out.2 hk
      exact take_nn w0 _ b lo true dv zs p2 x1 _ rfl hr (by omega) (by omega) hz2)
  clear r2 a2 v2 g2 hN S1
  go_wp2_with (go_at_call 81; fail)
  refine HT.out.mono ?_
  rintro e w3 ⟨sv, rfl, ht⟩
  obtain ⟨ok3, p3, ts, r3, a3, rd3, hl3, v3, g3⟩ := AdvE.took A2.out ht
  have H3 := hide (S2.out.next hw1 hlt r3 g3)
  have A3 := hide a3
  have hcv := conv_rdN (r3.lift rd3)
  have V3 := hide (show ok3 = true → ok2 = true ∧ strOfNums ts = strOfNums ((zs.drop 10).take (nlen zs)) from fun h => ⟨(v3 h).1, by rw [(v3 h).2, (V2.out (v3 h).1).2]⟩)
  have HNs := hide (show (strOfNums ts).size ≤ 255 from by rw [strOfNums_size]; omega)
  generalize strOfNums ts = nm at hcv V3 HNs
  have c3 := (H3.out.blk.cell 1).trans (show (snapC (x0 : Int) ⟨#[]⟩ 0 0 0 (List.replicate 12 0) 0 0)[1]? = some (.string ⟨#[]⟩) from rfl)
  have f3 := H3.out.blk.frozen 1
  have S3 := hide (show Rs w0 w (w3.setCell ⟨w.heap.size + 1, 1, none⟩ (.string nm)) b lo dv zs (w.heap.size + 1) (snapC (x0 : Int) nm 0 0 0 (List.replicate 12 0) 0 0) ok3 p3 from H3.out.setS hw1 hlt 1 nm ⟨#[]⟩ rfl)
  clear r3 a3 rd3 v3 g3 ht H3 S2 HT
  go_wp2_with (go_at_call 69; fail)
  clear c3 f3 hcv
  refine (zeros40 w0 _ b lo ok3 dv zs p3 x1 C S3.out.rdr A3.out (fun hc => (V2.out (A2.out.1.2 hc)).2) hx1 hz).mono ?_
  rintro e w4 ⟨rfl, ok4, p4, r4, a4, v4, g4⟩
  have S4 := hide (S3.out.next hw1 hlt r4 g4)
  have A4 := hide a4
  have V4 := hide v4
  clear r4 a4 v4 g4 S3
  go_wp2_with (go_at_call 66; fail)
  refine (number64_any w0 _ b lo ok4 dv zs p4 S4.out.rdr hz2 HB.out).mono ?_
  rintro e w5 ⟨x5, rfl, hN⟩
  obtain ⟨ok5, p5, r1, a1, v1, g1⟩ := AdvE.num A4.out hN
  have H1 := hide (S4.out.next hw1 hlt r1 g1)
  have A5 := hide a1
  have V5 := hide (show ok5 = true → ok4 = true ∧ wrap64 (x5 : Int) = wrap64 ((unle ((zs.drop 40).take 8) : Nat) : Int) from fun h => ⟨(v1 h).1, by rw [(v1 h).2]⟩)
  generalize wrap64 (x5 : Int) = y5 at V5 ⊢
  have c1 := (H1.out.blk.cell 2).trans (show (snapC (x0 : Int) nm 0 0 0 (List.replicate 12 0) 0 0)[2]? = some (.int .i64 0) from rfl)
  have f1 := H1.out.blk.frozen 2
  have S5 := hide (show Rs w0 w (w5.setCell ⟨w.heap.size + 1, 2, none⟩ (.int .i64 y5)) b lo dv zs (w.heap.size + 1) (snapC (x0 : Int) nm y5 0 0 (List.replicate 12 0) 0 0) ok5 p5 from H1.out.setI hw1 hlt 2 y5 rfl)
  clear r1 a1 v1 g1 hN H1 S4
  go_wp2_with (go_at_call 66; fail)
  clear c1 f1
  refine (number64_any w0 _ b lo ok5 dv zs p5 S5.out.rdr hz2 HB.out).mono ?_
  rintro e w6 ⟨x6, rfl, hN⟩
  obtain ⟨ok6, p6, r1, a1, v1, g1⟩ := AdvE.num A5.out hN
  have H1 := hide (S5.out.next hw1 hlt r1 g1)
  have A6 := hide a1
  have V6 := hide (show ok6 = true → ok5 = true ∧ wrap64 (x6 : Int) = wrap64 ((unle ((zs.drop 48).take 8) : Nat) : Int) from fun h => ⟨(v1 h).1, by rw [(v1 h).2]⟩)
  generalize wrap64 (x6 : Int) = y6 at V6 ⊢
  have c1 := (H1.out.blk.cell 3).trans (show (snapC (x0 : Int) nm y5 0 0 (List.replicate 12 0) 0 0)[3]? = some (.int .i64 0) from rfl)
  have f1 := H1.out.blk.frozen 3
  have S6 := hide (show Rs w0 w (w6.setCell ⟨w.heap.size + 1, 3, none⟩ (.int .i64 y6)) b lo dv zs (w.heap.size + 1) (snapC (x0 : Int) nm y5 y6 0 (List.replicate 12 0) 0 0) ok6 p6 from H1.out.setI hw1 hlt 3 y6 rfl)
  clear r1 a1 v1 g1 hN H1 S5
  go_wp2_with (go_at_call 68; fail)
  clear c1 f1
  refine (readRoot_any w0 _ b lo ok6 dv zs p6 S6.out.rdr hz2 HB.out).mono ?_
  rintro e w7 ⟨s, ds, p, q, ok7, p7, rfl, hdl, rR, aR, vR, gR⟩
  obtain ⟨aR2, vR2⟩ := AdvE.adv A6.out aR
  have HR := hide (S6.out.next hw1 hlt rR gR)
  have HADC := hide (show AdvE zs 120 (C && gapN zs) ok7 p7 from aR2)
  have HIA := hide (show ok7 = true → SnapAt zs (x0 : Int) nm y5 y6 s ds p q from fun hk => by
    obtain ⟨h6, e6⟩ := vR2 hk
    rw [e6] at vR
    have q6 := V6.out h6
    have q5 := V5.out q6.1
    have q4 := V4.out q5.1
    have q3 := V3.out q4
    have q2 := V2.out q3.1
    have q1 := V1.out q2.1
    exact ⟨q1, q3.2, q5.2, q6.2, vR hk⟩)
  have HDL := hide hdl
  have HLen := hide (show (cellsI (rootI s ds p q)).size = 15 from by rw [cellsI_size]; exact rootI_len s ds p q hdl)
  have HZ := hide (show (snapC (x0 : Int) nm y5 y6 s ds p q).size = 19 from snapC_size _ _ _ _ _ _ _ _ hdl)
  have K2 := hide (show Blk (w7.setCells (w.heap.size + 1) 4 (cellsI (rootI s ds p q)).toList) w.heap.size (snapC 0 ⟨#[]⟩ 0 0 0 (List.replicate 12 0) 0 0) 41 ∧ Blk (w7.setCells (w.heap.size + 1) 4 (cellsI (rootI s ds p q)).toList) (w.heap.size + 1) (snapC (x0 : Int) nm y5 y6 s ds p q) 41 ∧ Rdr w0 (w7.setCells (w.heap.size + 1) 4 (cellsI (rootI s ds p q)).toList) b lo ok7 dv zs p7 ∧ w.grownBy (w7.setCells (w.heap.size + 1) 4 (cellsI (rootI s ds p q)).toList) (some b) from
    ⟨Blk.cells_other _ 4 HR.out.res (by omega), snap_over _ _ _ _ s ds p q hdl HR.out.blk,
     Rdr.cellsG (by omega) (rootI s ds p q) 4 HR.out.rdr (fun j hj => ⟨0, by
       rw [rootI_len s ds p q hdl] at hj
       rw [HR.out.blk.cell (4 + j)]
       match j, hj with
       | 0, _ | 1, _ | 2, _ | 3, _ | 4, _ | 5, _ | 6, _ | 7, _ | 8, _ | 9, _ | 10, _ | 11, _ | 12, _ | 13, _ | 14, _ => rfl, by decide⟩),
     grow_cells HR.out.old (w.heap.size + 1) _ 4 (by omega)⟩)
  have T1 := hide (HR.out.blk.there 4 15 (by rw [snapC_size _ _ _ _ _ _ _ _ (by simp)]; omega))
  clear rR aR vR gR aR2 vR2 hdl
  go_wp2_with (first | (refine wpList_store_mid rfl 34 _ _ rfl (w.heap.size + 1) 4 (cellsI (rootI s ds p q)) rfl rfl (by rw [HLen.out]; exact T1.out) (by rw [HLen.out]; exact info15) (cellsI_one _) ?_; generalize w7.setCells (w.heap.size + 1) 4 (cellsI (rootI s ds p q)).toList = wS at K2 ⊢) | (refine wpList_load_row rfl 41 _ rfl (w.heap.size + 1) rfl 41 (snapC (x0 : Int) nm y5 y6 s ds p q) (0, 0) _ K2.out.2.1 Tryz.underlying41 rfl (by rw [HZ.out]; exact info19) ?_) | (refine wpList_store_row rfl 41 _ _ rfl w.heap.size (snapC (x0 : Int) nm y5 y6 s ds p q) rfl rfl 41 _ K2.out.1 (by rw [HZ.out]; exact info19) (by rw [HZ.out]; rfl) (snapC_one _ _ _ _ _ _ _ _) ?_))
  refine bodyPost_ret (v := .agg (snapC (x0 : Int) nm y5 y6 s ds p q)) ?_ rfl ⟨(x0 : Int), nm, y5, y6, s, ds, p, q, ok7, p7, rfl, HDL.out, HNs.out, ?_, HADC.out, HIA.out, grow_row K2.out.2.2.2 _ _ (Nat.le_refl _)⟩
  · exact results_cell_row rfl _ _ w.heap.size 41 (snapC (x0 : Int) nm y5 y6 s ds p q) (0, 0) _ rfl (K2.out.1.row _) Tryz.underlying41 rfl (by rw [HZ.out]; exact info19)
  · exact K2.out.2.2.1.rowS _ hlt K2.out.1
end Go.Proofs.YtfkmnmopkblopaaGreatDoor
