/- A copy of a snapshot: toSnap. The program's reader at less than no bytes: take, zeros. The program reads a snapshot: readSnap. The program tells a snapshot: end at any place, told at Snap; DecodeSnap. Bytes that are a snapshot, read by the program and by the model: the same. -/
import Derived.Test.YtkaennkfieebmaaDoorKfD
import Derived.Test.YtkaennkfieebmaaDoorKfE
import Derived.Test.YtkaennkfieebmaaDoorDfsA
import Derived.Test.YtkaennkfieebmaaDoorDinA
import Derived.Deep.RegionHeld3
import Derived.Test.YtkaennkfieebmaaDoorKfF
import Derived.Laws.BytesArg
import Derived.Deep.MidRow
namespace Go.Proofs.YtkaennkfieebmaaDoor
set_option linter.unusedVariables false
set_option linter.unusedSimpArgs false
open Go.RowKit

theorem Blk.cellsV {b : Nat} {t : TypeId} : ∀ (vs : List Value) {w : World} {L : List Value} (o : Nat), Blk w b L.toArray t → o + vs.length ≤ L.length → Blk (w.setCells b o vs) b (L.take o ++ vs ++ L.drop (o + vs.length)).toArray t
  | [], w, L, o, h, _ => by simpa [World.setCells] using h
  | v :: vs, w, L, o, h, hl => by
    have hlt : o < L.length := by simp at hl; omega
    have h1 := h.set o v
    have e1 : L.toArray.setIfInBounds o v = (L.set o v).toArray := by simp
    rw [e1] at h1
    have h2 := Blk.cellsV vs (o + 1) h1 (by simp at hl ⊢; omega)
    have e2 : (L.set o v).take (o + 1) ++ vs ++ (L.set o v).drop (o + 1 + vs.length) = L.take o ++ (v :: vs) ++ L.drop (o + (v :: vs).length) := by
      rw [List.take_succ_eq_append_getElem (by simpa using hlt), List.take_set_of_le (Nat.le_refl _), List.getElem_set_self, List.drop_set_of_lt (by omega)]
      simp [Nat.add_assoc, Nat.add_comm 1]
    rw [e2] at h2
    exact h2
theorem snap_over (pl : Int) (nm : ByteArray) (ge cl s : Int) (ds : List Int) (p q : Int) (hd : ds.length = 12) {w : World} {b : Nat} {t : TypeId} (h : Blk w b (snapC pl nm ge cl 0 (List.replicate 12 0) 0 0) t) : Blk (w.setCells b 4 (cellsI (rootI s ds p q)).toList) b (snapC pl nm ge cl s ds p q) t := by
  have hl := rootI_len s ds p q hd
  have h2 := Blk.cellsV (cellsI (rootI s ds p q)).toList 4 h (by simp [cellsI, rootI, hd])
  have e : (([.int .i64 pl, .string nm, .int .i64 ge, .int .i64 cl] : List Value) ++ (rootI 0 (List.replicate 12 0) 0 0).map (Value.int .i64)).take 4 ++ (cellsI (rootI s ds p q)).toList ++ (([.int .i64 pl, .string nm, .int .i64 ge, .int .i64 cl] : List Value) ++ (rootI 0 (List.replicate 12 0) 0 0).map (Value.int .i64)).drop (4 + (cellsI (rootI s ds p q)).toList.length) = ([.int .i64 pl, .string nm, .int .i64 ge, .int .i64 cl] : List Value) ++ (rootI s ds p q).map (Value.int .i64) := by
    have h3 : (cellsI (rootI s ds p q)).toList.length = 15 := by simp [cellsI, hl]
    rw [h3]
    simp [cellsI, rootI]
  rw [e] at h2
  exact h2

end Go.Proofs.YtkaennkfieebmaaDoor

namespace Go.Proofs.YtkaennkfieebmaaDoor
set_option linter.unusedVariables false
set_option linter.unusedSimpArgs false
open Go.RowKit

set_option maxRecDepth 100000 in
set_option maxHeartbeats 1000000 in
theorem take_neg (w0 w : World) (b lo : Nat) (ok : Bool) (dv : Value) (zs : List Int) (pos : Nat) (n : Int) (h : Rdr w0 w b lo ok dv zs pos) (hn : n < 0) :
    Calls Tryd.prog 41 #[.pointer (some ⟨b, 0, none⟩), .int .i64 n] w fun e w' => e = .returned (.slice none 0 0) ∧ Rdr w0 w' b lo false dv zs pos ∧ w.grownBy w' (some b) := by
  have hlt := h.ck.lt
  have H := hide h
  clear h
  go_enter Tryd.func41, Tryd.ntmps41
  go_wp2_with fail
  refine wp_region_noPanic ?_
  refine wp_region_held_drew (S := fun _ => True) (by kernel_rfl) trivial (fun hH => ?_)
  refine wpAnyH_take (i := 0) (oi := _) (v := .pointer (some ⟨b, 0, none⟩)) rfl (by kernel_rfl) (by kernel_rfl) (by kernel_rfl) (fun _ _ _ h => h) (Or.inl ⟨by rfl, fun w' hw' => by go_simp⟩) hH ?_
  try simp only [Act.put, List.getElem_toArray, List.getElem_cons_zero, List.getElem_cons_succ, List.setIfInBounds_toArray, List.set_cons_zero, List.set_cons_succ]
  refine wpAnyH_take (i := 1) (oi := _) (v := .pointer (some ⟨b, 0, none⟩)) rfl (by kernel_rfl) (by kernel_rfl) (by kernel_rfl) (fun _ _ _ h => h) (Or.inl ⟨by rfl, fun w' hw' => by go_simp⟩) hH ?_
  try simp only [Act.put, List.getElem_toArray, List.getElem_cons_zero, List.getElem_cons_succ, List.setIfInBounds_toArray, List.set_cons_zero, List.set_cons_succ]
  refine wpAnyH_take (i := 2) (oi := _) (v := .pointer (some ⟨b, 0, none⟩)) rfl (by kernel_rfl) (by kernel_rfl) (by kernel_rfl) (fun _ _ _ h => h) (Or.inl ⟨by rfl, fun w' hw' => by go_simp⟩) hH ?_
  try simp only [Act.put, List.getElem_toArray, List.getElem_cons_zero, List.getElem_cons_succ, List.setIfInBounds_toArray, List.set_cons_zero, List.set_cons_succ]
  refine wpAnyH_take (i := 3) (oi := _) (v := .int .i64 n) rfl (by kernel_rfl) (by kernel_rfl) (by kernel_rfl) (fun _ _ _ h => h) (Or.inl ⟨by rfl, fun w' hw' => by go_simp⟩) hH ?_
  try simp only [Act.put, List.getElem_toArray, List.getElem_cons_zero, List.getElem_cons_succ, List.setIfInBounds_toArray, List.set_cons_zero, List.set_cons_succ]
  refine wpAnyH_take (i := 4) (oi := _) (v := .bool false) rfl (by kernel_rfl) (by kernel_rfl) (by kernel_rfl) (fun _ _ _ h => h) (Or.inl ⟨by rfl, fun w' hw' => by have hq : decide ((0 : Int) ≤ n) = false := (by simp; omega); go_simp⟩) hH ?_
  try simp only [Act.put, List.getElem_toArray, List.getElem_cons_zero, List.getElem_cons_succ, List.setIfInBounds_toArray, List.set_cons_zero, List.set_cons_succ]
  refine wpAnyH_take (i := 5) (oi := _) (v := .bool false) rfl (by kernel_rfl) (by kernel_rfl) (by kernel_rfl) (fun _ _ _ h => h) (Or.inl ⟨by rfl, fun w' hw' => by go_simp⟩) hH ?_
  try simp only [Act.put, List.getElem_toArray, List.getElem_cons_zero, List.getElem_cons_succ, List.setIfInBounds_toArray, List.set_cons_zero, List.set_cons_succ]
  refine wpAnyH_take (i := 6) (oi := _) (v := undef) rfl (by kernel_rfl) (by kernel_rfl) (by kernel_rfl) (fun _ _ _ h => h) (Or.inr ⟨by rfl, rfl⟩) hH ?_
  try simp only [Act.put, List.getElem_toArray, List.getElem_cons_zero, List.getElem_cons_succ, List.setIfInBounds_toArray, List.set_cons_zero, List.set_cons_succ]
  refine wpAnyH_take (i := 7) (oi := _) (v := undef) rfl (by kernel_rfl) (by kernel_rfl) (by kernel_rfl) (fun _ _ _ h => h) (Or.inr ⟨by rfl, rfl⟩) hH ?_
  try simp only [Act.put, List.getElem_toArray, List.getElem_cons_zero, List.getElem_cons_succ, List.setIfInBounds_toArray, List.set_cons_zero, List.set_cons_succ]
  refine wpAnyH_take (i := 8) (oi := _) (v := undef) rfl (by kernel_rfl) (by kernel_rfl) (by kernel_rfl) (fun _ _ _ h => h) (Or.inr ⟨by rfl, rfl⟩) hH ?_
  try simp only [Act.put, List.getElem_toArray, List.getElem_cons_zero, List.getElem_cons_succ, List.setIfInBounds_toArray, List.set_cons_zero, List.set_cons_succ]
  refine wpAnyH_take (i := 9) (oi := _) (v := undef) rfl (by kernel_rfl) (by kernel_rfl) (by kernel_rfl) (fun _ _ _ h => h) (Or.inr ⟨by rfl, rfl⟩) hH ?_
  try simp only [Act.put, List.getElem_toArray, List.getElem_cons_zero, List.getElem_cons_succ, List.setIfInBounds_toArray, List.set_cons_zero, List.set_cons_succ]
  refine wpAnyH_take (i := 10) (oi := _) (v := undef) rfl (by kernel_rfl) (by kernel_rfl) (by kernel_rfl) (fun _ _ _ h => h) (Or.inr ⟨by rfl, rfl⟩) hH ?_
  try simp only [Act.put, List.getElem_toArray, List.getElem_cons_zero, List.getElem_cons_succ, List.setIfInBounds_toArray, List.set_cons_zero, List.set_cons_succ]
  refine wpAnyH_take (i := 11) (oi := _) (v := undef) rfl (by kernel_rfl) (by kernel_rfl) (by kernel_rfl) (fun _ _ _ h => h) (Or.inr ⟨by rfl, rfl⟩) hH ?_
  try simp only [Act.put, List.getElem_toArray, List.getElem_cons_zero, List.getElem_cons_succ, List.setIfInBounds_toArray, List.set_cons_zero, List.set_cons_succ]
  refine wpAnyH_take (i := 12) (oi := _) (v := undef) rfl (by kernel_rfl) (by kernel_rfl) (by kernel_rfl) (fun _ _ _ h => h) (Or.inr ⟨by rfl, rfl⟩) hH ?_
  try simp only [Act.put, List.getElem_toArray, List.getElem_cons_zero, List.getElem_cons_succ, List.setIfInBounds_toArray, List.set_cons_zero, List.set_cons_succ]
  refine wpAnyH_take (i := 13) (oi := _) (v := undef) rfl (by kernel_rfl) (by kernel_rfl) (by kernel_rfl) (fun _ _ _ h => h) (Or.inr ⟨by rfl, rfl⟩) hH ?_
  try simp only [Act.put, List.getElem_toArray, List.getElem_cons_zero, List.getElem_cons_succ, List.setIfInBounds_toArray, List.set_cons_zero, List.set_cons_succ]
  refine wpAnyH_take (i := 14) (oi := _) (v := undef) rfl (by kernel_rfl) (by kernel_rfl) (by kernel_rfl) (fun _ _ _ h => h) (Or.inr ⟨by rfl, rfl⟩) hH ?_
  try simp only [Act.put, List.getElem_toArray, List.getElem_cons_zero, List.getElem_cons_succ, List.setIfInBounds_toArray, List.set_cons_zero, List.set_cons_succ]
  refine wpAnyH_take (i := 15) (oi := _) (v := undef) rfl (by kernel_rfl) (by kernel_rfl) (by kernel_rfl) (fun _ _ _ h => h) (Or.inr ⟨by rfl, rfl⟩) hH ?_
  try simp only [Act.put, List.getElem_toArray, List.getElem_cons_zero, List.getElem_cons_succ, List.setIfInBounds_toArray, List.set_cons_zero, List.set_cons_succ]
  refine wpAnyH_take (i := 16) (oi := _) (v := undef) rfl (by kernel_rfl) (by kernel_rfl) (by kernel_rfl) (fun _ _ _ h => h) (Or.inr ⟨by rfl, rfl⟩) hH ?_
  try simp only [Act.put, List.getElem_toArray, List.getElem_cons_zero, List.getElem_cons_succ, List.setIfInBounds_toArray, List.set_cons_zero, List.set_cons_succ]
  refine wpAnyH_take (i := 17) (oi := _) (v := undef) rfl (by kernel_rfl) (by kernel_rfl) (by kernel_rfl) (fun _ _ _ h => h) (Or.inr ⟨by rfl, rfl⟩) hH ?_
  try simp only [Act.put, List.getElem_toArray, List.getElem_cons_zero, List.getElem_cons_succ, List.setIfInBounds_toArray, List.set_cons_zero, List.set_cons_succ]
  refine wpAnyH_take (i := 18) (oi := _) (v := .bool false) rfl (by kernel_rfl) (by kernel_rfl) (by kernel_rfl) (fun _ _ _ h => h) (Or.inl ⟨by rfl, fun w' hw' => by go_simp⟩) hH ?_
  try simp only [Act.put, List.getElem_toArray, List.getElem_cons_zero, List.getElem_cons_succ, List.setIfInBounds_toArray, List.set_cons_zero, List.set_cons_succ]
  refine wpAnyH_ready (rs := [19]) (by kernel_rfl) (by simp) ?_
  refine AllReadyH.cons (o := _) rfl (fun K hK => ?_) AllReadyH.nil
  go_simp
  refine (need_any b lo _ 21 ok false _ (H.out.ck.below ((Below.refl _ _).drew)) H.out.lo1 H.out.lo2).mono ?_
  rintro e w1 ⟨rfl, hc1, ht1⟩
  rw [Bool.and_false] at hc1
  have ht1' : Tch b w w1 := (Tch.of_below hlt ((Below.refl _ _).drew)).trans ht1
  have R1 := hide (H.out.tch hc1 ht1')
  have G1 := hide ht1'.1
  obtain ⟨c1, c2, ev, c3, c4⟩ := hc1
  clear ht1 ht1' c1 c2
  rcases c4 with ⟨c4, _⟩ | ⟨_, m, c4⟩
  · cases c4
  obtain ⟨t', x', rfl⟩ := c4.iface
  clear c4
  refine hK.out _ _ trivial (fun hH => ?_)
  clear hK K
  try simp only [Act.put, List.getElem_toArray, List.getElem_cons_zero, List.getElem_cons_succ, List.setIfInBounds_toArray, List.set_cons_zero, List.set_cons_succ]
  refine wpAnyH_done (by kernel_rfl) (NoPanic.normal ?_) _
  clear hH
  go_wp2
  go_ret
  exact ⟨rfl, R1.out, G1.out⟩

set_option maxRecDepth 100000 in
set_option maxHeartbeats 1000000 in
theorem zeros_neg (w0 w : World) (b lo : Nat) (ok : Bool) (dv : Value) (zs : List Int) (pos at_ : Nat) (h : Rdr w0 w b lo ok dv zs pos) (hp : at_ < pos) (hn : pos ≤ 4294967296) :
    Calls Tryd.prog 42 #[.pointer (some ⟨b, 0, none⟩), .int .i64 at_] w fun e w' => e = .returned (.tuple #[]) ∧ Rdr w0 w' b lo false dv zs pos ∧ w.grownBy w' (some b) := by
  have ha := h.at_
  have H := hide h
  clear h
  obtain ⟨n, hnn⟩ : ∃ n : Int, n = (at_ : Int) - (pos : Int) := ⟨_, rfl⟩
  have hneg : n < 0 := by omega
  have hwr : (at_ : Int) - (pos : Int) = n := hnn.symm
  have hlo : -4294967296 ≤ n := by omega
  clear hnn
  go_enter Tryd.func42, Tryd.ntmps42
  go_wp2_with (go_at_call 41; fail)
  refine (take_neg w0 _ b lo ok dv zs pos n H.out hneg).mono ?_
  rintro e w1 ⟨rfl, r1, g1⟩
  have R1 := hide (And.intro r1 g1)
  clear r1 g1
  go_wp2
  refine wp_loop_rounds 1 ?_
  rw [rounds_succ]
  go_wp2
  go_end0
  exact ⟨rfl, R1.out.1, R1.out.2⟩

set_option maxRecDepth 100000 in
set_option maxHeartbeats 1000000 in
theorem take_fail (w0 w : World) (b lo : Nat) (dv : Value) (zs : List Int) (pos n : Nat) (h : Rdr w0 w b lo false dv zs pos) (hn : n ≤ 4294967296) (hz : zs.length ≤ 140737488355328) :
    Calls Tryd.prog 41 #[.pointer (some ⟨b, 0, none⟩), .int .i64 n] w fun e w' => ∃ sv, e = .returned sv ∧ Took w0 w w' b lo false dv zs pos n sv := by
  have hd := h.data
  have ha := h.at_
  have hl := h.le
  have hlt := h.ck.lt
  obtain ⟨a, cap, rfl⟩ : ∃ a cap, dv = .slice a zs.length cap := by obtain ⟨a, cap, h1, _⟩ := h.rd; exact ⟨a, cap, h1⟩
  have H := hide h
  clear h
  go_enter Tryd.func41, Tryd.ntmps41
  go_wp2
  go_region_held (fun w' => w'.cell? ⟨b, 2, none⟩ = some (.slice a zs.length cap) ∧ w'.cell? ⟨b, 3, none⟩ = some (.int .i64 pos)) (go_keep) ((go_at_call 38; refine (need_any b lo _ 21 false (decide ((n : Int) ≤ IntKind.i64.wrap ((zs.length : Int) - (pos : Int)))) _ (H.out.ck.below ((Below.refl _ _).drew)) H.out.lo1 H.out.lo2).mono ?_; rintro e w1 ⟨rfl, hc1, ht1⟩; have hd1 := (ht1.2.1 2 (by omega)).trans hd; have ha1 := (ht1.2.1 3 (by omega)).trans ha))
  rw [Bool.false_and] at hc1
  have ht1' : Tch b w w1 := (Tch.of_below hlt ((Below.refl _ _).drew)).trans ht1
  have R1 := hide (H.out.tch hc1 ht1')
  have G1 := hide ht1'.1
  obtain ⟨c1, c2, ev, c3, c4⟩ := hc1
  clear ht1 ht1'
  rcases c4 with ⟨c4, _⟩ | ⟨_, m, c4⟩
  · cases c4
  · obtain ⟨t', x', rfl⟩ := c4.iface
    clear c4
    go_wp2
    go_ret
    exact ⟨_, rfl, G1.out, .inr ⟨fun h => (by cases h.1), rfl, R1.out⟩⟩
end Go.Proofs.YtkaennkfieebmaaDoor

namespace Go.Proofs.YtkaennkfieebmaaDoor
set_option linter.unusedVariables false
set_option linter.unusedSimpArgs false
open Go.RowKit

theorem Flt.storeS {w : World} {lo g o : Nat} {y : ByteArray} {x : Value} (hy : w.cell? ⟨g, o, none⟩ = some (.string y)) : ∀ {n : Nat} {v : Value} {c : Int}, Flt w lo n v c → Flt (w.setCell ⟨g, o, none⟩ x) lo n v c
  | 0, _, _, ⟨b, h, hl, hc⟩ => by
    refine ⟨b, h, hl, (World.cell?_setCell_other _ _ _ _ ?_).trans hc⟩
    intro e
    rw [e, hc] at hy
    cases hy
  | _ + 1, _, _, ⟨b, v', h, hl, hc, hr⟩ => by
    refine ⟨b, v', h, hl, (World.cell?_setCell_other _ _ _ _ ?_).trans hc, Flt.storeS hy hr⟩
    intro e
    rw [e, hc] at hy
    obtain ⟨t, z, rfl⟩ := hr.iface
    cases hy
theorem Rdr.storeS {w0 w : World} {b lo : Nat} {ok : Bool} {dv : Value} {zs : List Int} {pos g o : Nat} {y : ByteArray} (x : Value) (h : Rdr w0 w b lo ok dv zs pos) (hg : b < g) (hy : w.cell? ⟨g, o, none⟩ = some (.string y)) : Rdr w0 (w.setCell ⟨g, o, none⟩ x) b lo ok dv zs pos := by
  have hne2 : ∀ o', (⟨g, o, none⟩ : Addr) ≠ ⟨b, o', none⟩ := fun o' e => by injection e with e1 e2; omega
  have hc : ∀ o', (w.setCell ⟨g, o, none⟩ x).cell? ⟨b, o', none⟩ = w.cell? ⟨b, o', none⟩ := fun o' => World.cell?_setCell_other _ _ _ _ (hne2 o')
  obtain ⟨c1, c2, ev, c3, c4⟩ := h.ck
  refine ⟨⟨(hc 0).trans c1, by simpa using c2, ev, (hc 1).trans c3, ?_⟩, (hc 2).trans h.data, (hc 3).trans h.at_, by simpa using h.fr, h.old.setCell (p := ⟨g, o, none⟩) (Nat.le_of_lt hg) _, h.size, h.rd, h.le, h.lo1, by simpa using h.lo2⟩
  rcases c4 with c4 | ⟨c4, n, c5⟩
  · exact .inl c4
  · exact .inr ⟨c4, n, c5.storeS hy⟩
theorem Rdr.cellsG {w0 : World} {b lo : Nat} {ok : Bool} {dv : Value} {zs : List Int} {pos g : Nat} (hg : b < g) : ∀ (ds : List Int) {w : World} (o : Nat), Rdr w0 w b lo ok dv zs pos → (∀ j, j < ds.length → ∃ y, w.cell? ⟨g, o + j, none⟩ = some (.int .i64 y) ∧ y ≠ 21) → Rdr w0 (w.setCells g o (ds.map (Value.int .i64))) b lo ok dv zs pos
  | [], w, o, h, _ => by simpa [World.setCells] using h
  | d :: ds, w, o, h, hx => by
    obtain ⟨y, hy, hne⟩ := hx 0 (by simp)
    rw [Nat.add_zero] at hy
    have h1 := h.storeC (.int .i64 d) hg hy hne
    refine Rdr.cellsG hg ds (o + 1) h1 (fun j hj => ?_)
    obtain ⟨y2, hy2, hn2⟩ := hx (j + 1) (by simp; omega)
    refine ⟨y2, ?_, hn2⟩
    rw [World.cell?_setCell_other _ _ _ _ (by intro e; injection e with e1 e2; omega), show o + 1 + j = o + (j + 1) by omega]
    exact hy2
/-- The reading of a snapshot so far. -/
structure Rs (w0 w wr : World) (b lo : Nat) (dv : Value) (zs : List Int) (g : Nat) (C : Array Value) (okr : Bool) (pr : Nat) : Prop where
  rdr : Rdr w0 wr b lo okr dv zs pr
  res : Blk wr w.heap.size (snapC 0 ⟨#[]⟩ 0 0 0 (List.replicate 12 0) 0 0) 27
  blk : Blk wr g C 27
  old : w.grownBy wr (some b)
theorem Rs.setI {w0 w wr : World} {b lo : Nat} {dv : Value} {zs : List Int} {g : Nat} {C : Array Value} {okr : Bool} {pr : Nat} (h : Rs w0 w wr b lo dv zs g C okr pr) (hg : w.heap.size < g) (hb : b < w.heap.size) (k : Nat) (x : Int) (hk : C[k]? = some (.int .i64 0)) : Rs w0 w (wr.setCell ⟨g, k, none⟩ (.int .i64 x)) b lo dv zs g (C.setIfInBounds k (.int .i64 x)) okr pr :=
  ⟨h.rdr.storeC _ (by omega) ((h.blk.cell k).trans hk) (by decide), h.res.other _ _ (by show w.heap.size ≠ g; omega), h.blk.set k _, grow_set h.old _ _ _ (by omega)⟩
theorem Rs.setS {w0 w wr : World} {b lo : Nat} {dv : Value} {zs : List Int} {g : Nat} {C : Array Value} {okr : Bool} {pr : Nat} (h : Rs w0 w wr b lo dv zs g C okr pr) (hg : w.heap.size < g) (hb : b < w.heap.size) (k : Nat) (x y : ByteArray) (hk : C[k]? = some (.string y)) : Rs w0 w (wr.setCell ⟨g, k, none⟩ (.string x)) b lo dv zs g (C.setIfInBounds k (.string x)) okr pr :=
  ⟨h.rdr.storeS _ (by omega) ((h.blk.cell k).trans hk), h.res.other _ _ (by show w.heap.size ≠ g; omega), h.blk.set k _, grow_set h.old _ _ _ (by omega)⟩
theorem Rs.next {w0 w wr w' : World} {b lo : Nat} {dv : Value} {zs : List Int} {g : Nat} {C : Array Value} {okr ok2 : Bool} {pr p2 : Nat} (h : Rs w0 w wr b lo dv zs g C okr pr) (hg : w.heap.size < g) (hb : b < w.heap.size) (hr : Rdr w0 w' b lo ok2 dv zs p2) (hgr : wr.grownBy w' (some b)) : Rs w0 w w' b lo dv zs g C ok2 p2 :=
  ⟨hr, (hgr.block _ h.res.lt (by simp; omega)).trans h.res, (hgr.block _ h.blk.lt (by simp; omega)).trans h.blk, grownBy_trans h.old hgr⟩
/-- How far a reader came: m bytes asked for, C the looks that came so far. -/
def AdvE (zs : List Int) (m : Nat) (C : Bool) (okr : Bool) (pr : Nat) : Prop := (okr = true ↔ (m ≤ zs.length ∧ C = true)) ∧ (okr = true → pr = m)
theorem AdvE.num {okr : Bool} {zs : List Int} {m pr : Nat} {C : Bool} {w0 w w' : World} {b lo : Nat} {dv : Value} {m' x : Nat} (h : AdvE zs m C okr pr) (hn : Numd w0 w w' b lo okr dv zs pr m' x) :
    ∃ ok2 p2, Rdr w0 w' b lo ok2 dv zs p2 ∧ AdvE zs (m + m') C ok2 p2 ∧ (ok2 = true → okr = true ∧ x = unle ((zs.drop m).take m')) ∧ w.grownBy w' (some b) := by
  obtain ⟨hg, hn⟩ := hn
  obtain ⟨h2, h3⟩ := h
  rcases hn with ⟨ho, hle, hx, hr⟩ | ⟨hno, hx, hr⟩
  · have hpm := h3 ho
    subst hpm
    exact ⟨true, _, hr, ⟨⟨fun _ => ⟨hle, (h2.1 ho).2⟩, fun _ => rfl⟩, fun _ => rfl⟩, fun _ => ⟨ho, hx⟩, hg⟩
  · refine ⟨false, _, hr, ⟨⟨(fun h => absurd h (by decide)), fun h => ?_⟩, (fun h => absurd h (by decide))⟩, (fun h => absurd h (by decide)), hg⟩
    have ho := h2.2 ⟨by omega, h.2⟩
    have hpm := h3 ho
    exact absurd ⟨ho, by omega⟩ hno
theorem AdvE.took {okr : Bool} {zs : List Int} {m pr : Nat} {C : Bool} {w0 w w' : World} {b lo : Nat} {dv sv : Value} {n : Nat} (h : AdvE zs m C okr pr) (hn : Took w0 w w' b lo okr dv zs pr n sv) :
    ∃ ok2 p2 ts, Rdr w0 w' b lo ok2 dv zs p2 ∧ AdvE zs (m + n) C ok2 p2 ∧ Rd .u8 w0 sv ts ∧ ts.length ≤ n ∧ (ok2 = true → okr = true ∧ ts = (zs.drop m).take n) ∧ w.grownBy w' (some b) := by
  obtain ⟨hg, hn⟩ := hn
  obtain ⟨h2, h3⟩ := h
  rcases hn with ⟨ho, _, hle, hrd, hr⟩ | ⟨hno, rfl, hr⟩
  · have hpm := h3 ho
    subst hpm
    rw [Int.toNat_natCast] at hrd hr
    exact ⟨true, _, _, hr, ⟨⟨fun _ => ⟨by omega, (h2.1 ho).2⟩, fun _ => rfl⟩, fun _ => rfl⟩, hrd, by rw [List.length_take]; omega, fun _ => ⟨ho, rfl⟩, hg⟩
  · refine ⟨false, _, [], hr, ⟨⟨(fun h => absurd h (by decide)), fun h => ?_⟩, (fun h => absurd h (by decide))⟩, ⟨none, 0, rfl, by simp, fun h => absurd rfl h, by simp, by simp⟩, by simp, (fun h => absurd h (by decide)), hg⟩
    have ho := h2.2 ⟨by omega, h.2⟩
    have hpm := h3 ho
    exact absurd ⟨ho, by omega, by omega⟩ hno
theorem AdvE.adv {okr ok2 : Bool} {zs : List Int} {m pr p2 m' : Nat} {C : Bool} (h : AdvE zs m C okr pr) (hn : Adv okr zs pr m' ok2 p2) : AdvE zs (m + m') C ok2 p2 ∧ (ok2 = true → okr = true ∧ pr = m) := by
  obtain ⟨h2, h3⟩ := h
  rcases hn with ⟨hk, ho, hle, hp⟩ | ⟨hk, hno, hp⟩
  · have hpm := h3 ho
    subst hpm
    exact ⟨⟨⟨fun _ => ⟨hle, (h2.1 ho).2⟩, fun _ => hk⟩, fun _ => hp⟩, fun _ => ⟨ho, rfl⟩⟩
  · refine ⟨⟨⟨fun h => (by rw [hk] at h; cases h), fun h => ?_⟩, fun h => (by rw [hk] at h; cases h)⟩, fun h => (by rw [hk] at h; cases h)⟩
    have ho := h2.2 ⟨by omega, h.2⟩
    have hpm := h3 ho
    exact absurd ⟨ho, by omega⟩ hno
/-- The length of a snapshot's name; whether what lies between it and the next field is right. -/
def nlen (zs : List Int) : Nat := unle ((zs.drop 9).take 1)
def gapN (zs : List Int) : Bool := decide (nlen zs ≤ 30) && allz ((zs.drop (10 + nlen zs)).take (30 - nlen zs))
/-- What was read as a snapshot. -/
def SnapAt (zs : List Int) (pl : Int) (nm : ByteArray) (ge cl s : Int) (ds : List Int) (p q : Int) : Prop :=
  pl = ((unle ((zs.drop 8).take 1) : Nat) : Int) ∧ nm = strOfNums ((zs.drop 10).take (nlen zs)) ∧ ge = wrap64 ((unle ((zs.drop 40).take 8) : Nat) : Int) ∧ cl = wrap64 ((unle ((zs.drop 48).take 8) : Nat) : Int) ∧ RootAt zs 56 s ds p q
theorem Flt.rowS {w : World} {lo g : Nat} {t : TypeId} {cs : Array Value} {c : Int} (hc21 : c = 21) (hB : Blk w g (snapC 0 ⟨#[]⟩ 0 0 0 (List.replicate 12 0) 0 0) t) : ∀ {n : Nat} {v : Value}, Flt w lo n v c → Flt (w.setRow g cs) lo n v c
  | 0, _, ⟨b, h, hl, hc⟩ => by
    refine ⟨b, h, hl, (World.cell?_of_block (a := ⟨b, 0, none⟩) (setRow_block w g cs b ?_)).trans hc⟩
    rintro rfl
    rw [hB.cell 0] at hc
    have h1 : (Value.int .i64 0) = .int .i64 c := Option.some.inj hc
    injection h1 with _ h2
    omega
  | _ + 1, _, ⟨b, v', h, hl, hc, hr⟩ => by
    refine ⟨b, v', h, hl, (World.cell?_of_block (a := ⟨b, 1, none⟩) (setRow_block w g cs b ?_)).trans hc, Flt.rowS hc21 hB hr⟩
    rintro rfl
    rw [hB.cell 1] at hc
    obtain ⟨_, _, h3⟩ := hr.iface
    rw [h3] at hc
    cases hc
theorem Rdr.rowS {w0 w : World} {b lo : Nat} {ok : Bool} {dv : Value} {zs : List Int} {pos g : Nat} {t : TypeId} (cs : Array Value) (h : Rdr w0 w b lo ok dv zs pos) (hg : b < g) (hB : Blk w g (snapC 0 ⟨#[]⟩ 0 0 0 (List.replicate 12 0) 0 0) t) : Rdr w0 (w.setRow g cs) b lo ok dv zs pos := by
  have hb : (w.setRow g cs).heap[b]? = w.heap[b]? := setRow_block w g cs b (by omega)
  have hc : ∀ o', (w.setRow g cs).cell? ⟨b, o', none⟩ = w.cell? ⟨b, o', none⟩ := fun o' => World.cell?_of_block (a := ⟨b, o', none⟩) hb
  have hf : ∀ o', (w.setRow g cs).frozen? ⟨b, o', none⟩ = w.frozen? ⟨b, o', none⟩ := fun o' => World.frozen?_of_block (a := ⟨b, o', none⟩) hb
  obtain ⟨c1, c2, ev, c3, c4⟩ := h.ck
  refine ⟨⟨(hc 0).trans c1, (hf 1).trans c2, ev, (hc 1).trans c3, ?_⟩, (hc 2).trans h.data, (hc 3).trans h.at_, (hf 3).trans h.fr, below_setRow h.old (Nat.le_of_lt hg) _, h.size, h.rd, h.le, h.lo1, by simpa [World.setRow] using h.lo2⟩
  rcases c4 with c4 | ⟨c4, n, c5⟩
  · exact .inl c4
  · exact .inr ⟨c4, n, c5.rowS rfl hB⟩
theorem zeros40 (w0 w : World) (b lo : Nat) (ok3 : Bool) (dv : Value) (zs : List Int) (p3 x1 : Nat) (C : Bool) (h : Rdr w0 w b lo ok3 dv zs p3) (hA : AdvE zs (8 + 1 + 1 + x1) C ok3 p3) (hv : 8 + 1 + 1 ≤ zs.length ∧ C = true → x1 = nlen zs) (hx : x1 ≤ 255) (hz : zs.length ≤ 1048576) :
    Calls Tryd.prog 42 #[.pointer (some ⟨b, 0, none⟩), .int .i64 40] w fun e w' => e = .returned (.tuple #[]) ∧ ∃ ok4 p4, Rdr w0 w' b lo ok4 dv zs p4 ∧ AdvE zs 40 (C && gapN zs) ok4 p4 ∧ (ok4 = true → ok3 = true) ∧ w.grownBy w' (some b) := by
  have hno : ∀ (hq : ok3 = true → p3 ≤ 40 → 40 ≤ zs.length → False), (40 ≤ zs.length ∧ (C && gapN zs) = true) → False := fun hq hh => by
    obtain ⟨h1, h2⟩ := hh
    rw [Bool.and_eq_true] at h2
    have h3 := h2.2
    unfold gapN at h3
    rw [Bool.and_eq_true] at h3
    have h4 : nlen zs ≤ 30 := by simpa using h3.1
    have h5 := hv ⟨by omega, h2.1⟩
    have h6 := hA.1.2 ⟨by omega, h2.1⟩
    exact hq h6 (by have := hA.2 h6; omega) h1
  by_cases hp : p3 ≤ 40
  · refine (zeros_any w0 w b lo ok3 dv zs p3 40 h hp (by omega) (by omega) (by omega)).mono ?_
    rintro e w' ⟨rfl, hg, hd⟩
    refine ⟨rfl, ?_⟩
    rcases hd with ⟨ho, hle, hr⟩ | ⟨hn, hr⟩
    · have hp3 := hA.2 ho
      have hC := hA.1.1 ho
      have hxn := hv ⟨by omega, hC.2⟩
      refine ⟨_, 40, hr, ⟨?_, fun _ => rfl⟩, fun _ => ho, hg⟩
      have e1 : (zs.drop p3).take (40 - p3) = (zs.drop (10 + nlen zs)).take (30 - nlen zs) := by
        have e2 : p3 = 10 + nlen zs := by omega
        rw [e2, show 40 - (10 + nlen zs) = 30 - nlen zs by omega]
      have hg2 : gapN zs = ((zs.drop p3).take (40 - p3)).all (fun z => decide (z = 0)) := by
        unfold gapN
        rw [decide_eq_true (show nlen zs ≤ 30 by omega), Bool.true_and, e1]
        rfl
      rw [hC.2, Bool.true_and, hg2]
      exact ⟨fun hh => ⟨hle, hh⟩, fun hh => hh.2⟩
    · refine ⟨false, p3, hr, ⟨⟨(fun hh => by cases hh), fun hh => ?_⟩, (fun hh => by cases hh)⟩, (fun hh => by cases hh), hg⟩
      exact (hno (fun a _ c => hn ⟨a, c⟩) hh).elim
  · refine (zeros_neg w0 w b lo ok3 dv zs p3 40 h (by omega) (by have := h.le; omega)).mono ?_
    rintro e w' ⟨rfl, hr, hg⟩
    refine ⟨rfl, false, p3, hr, ⟨⟨(fun hh => by cases hh), fun hh => ?_⟩, (fun hh => by cases hh)⟩, (fun hh => by cases hh), hg⟩
    exact (hno (fun _ c _ => hp c) hh).elim
theorem conv_rdN {w : World} {v : Value} {xs : List Int} (h : Rd .u8 w v xs) : (convert 22 9 v).run Tryd.prog w = .ok (.string (strOfNums xs)) w := by
  obtain ⟨a, cap, rfl, hm, hc, h1, h2⟩ := h
  by_cases hne : xs = []
  · subst hne
    rw [run_convert_bytes_string w 22 9 5 _ _ cap Tryd.underlying22 Tryd.underlying5 Tryd.underlying9]
    cases a with
    | none => simp [Conv.bytesToString]; rfl
    | some ad =>
      exact run_bytesToString w ad 0 cap [] (by simpa using run_loadCells_list (P := Tryd.prog) w ad [] (by simp))
  · obtain ⟨b, off, rfl, _, hcell⟩ := hc hne
    exact run_convert_bytes_arg w 22 5 Tryd.underlying22 Tryd.underlying5 b off xs.length cap xs rfl hcell 9 Tryd.underlying9

set_option maxRecDepth 100000 in
set_option maxHeartbeats 4000000 in
theorem readSnap_any (w0 w : World) (b lo : Nat) (ok0 : Bool) (dv : Value) (zs : List Int) (p0 : Nat) (C : Bool) (h : Rdr w0 w b lo ok0 dv zs p0) (hA : AdvE zs 8 C ok0 p0) (hz : zs.length ≤ 1048576) (hbd : ∀ z ∈ zs, 0 ≤ z ∧ z < 256) :
    Calls Tryd.prog 17 #[.pointer (some ⟨b, 0, none⟩)] w fun e w' => ∃ pl nm ge cl s ds p q okr pr, e = .returned (.agg (snapC pl nm ge cl s ds p q)) ∧ ds.length = 12 ∧ nm.size ≤ 255 ∧ Rdr w0 w' b lo okr dv zs pr ∧ AdvE zs 120 (C && gapN zs) okr pr ∧ (okr = true → SnapAt zs pl nm ge cl s ds p q) ∧ w.grownBy w' (some b) := by
  have HB := hide hbd
  have hlt := h.ck.lt
  have hw1 : w.heap.size < w.heap.size + 1 := by omega
  have hz2 : zs.length ≤ 140737488355328 := by omega
  have S0 := hide (show Rs w0 w ((w.alloc (.cells (snapC 0 ⟨#[]⟩ 0 0 0 (List.replicate 12 0) 0 0) 27)).alloc (.cells (snapC 0 ⟨#[]⟩ 0 0 0 (List.replicate 12 0) 0 0) 27)) b lo dv zs (w.heap.size + 1) (snapC 0 ⟨#[]⟩ 0 0 0 (List.replicate 12 0) 0 0) ok0 p0 from ⟨(h.alloc _).alloc _, (Blk.new w _ _).alloc _, by
    have h2 := Blk.new (w.alloc (.cells (snapC 0 ⟨#[]⟩ 0 0 0 (List.replicate 12 0) 0 0) 27)) (snapC 0 ⟨#[]⟩ 0 0 0 (List.replicate 12 0) 0 0) 27
    rw [World.size_alloc] at h2
    exact h2, grownBy_trans (World.grownBy_alloc w _ (some b)) (World.grownBy_alloc _ _ (some b))⟩)
  have A0 := hide hA
  clear h hbd hA
  go_enter Tryd.func17, Tryd.ntmps17
  go_wp2_with (go_at_call 40; fail)
  refine (number8_any w0 _ b lo ok0 dv zs p0 S0.out.rdr hz2 HB.out).mono ?_
  rintro e w1 ⟨x0, rfl, hN⟩
  obtain ⟨ok1, p1, r1, a1, v1, g1⟩ := AdvE.num A0.out hN
  have H1 := hide (S0.out.next hw1 hlt r1 g1)
  have A1 := hide a1
  have V1 := hide (show ok1 = true → (x0 : Int) = ((unle ((zs.drop 8).take 1) : Nat) : Int) from fun h => by rw [(v1 h).2])
  have c1 := (H1.out.blk.cell 0).trans (show (snapC 0 ⟨#[]⟩ 0 0 0 (List.replicate 12 0) 0 0)[0]? = some (.int .i64 0) from rfl)
  have f1 := H1.out.blk.frozen 0
  have S1 := hide (show Rs w0 w (w1.setCell ⟨w.heap.size + 1, 0, none⟩ (.int .i64 (x0 : Int))) b lo dv zs (w.heap.size + 1) (snapC (x0 : Int) ⟨#[]⟩ 0 0 0 (List.replicate 12 0) 0 0) ok1 p1 from H1.out.setI hw1 hlt 0 (x0 : Int) rfl)
  clear r1 a1 v1 g1 hN H1 S0
  go_wp2_with (go_at_call 40; fail)
  clear c1 f1
  refine (number8_any w0 _ b lo ok1 dv zs p1 S1.out.rdr hz2 HB.out).mono ?_
  rintro e w2 ⟨x1, rfl, hN⟩
  have hx1 : x1 ≤ 255 := by
    rcases hN.2 with ⟨_, _, hx, _⟩ | ⟨_, hx, _⟩
    · have h1 := unle_lt ((zs.drop p1).take 1) (fun z hz => HB.out z (List.mem_of_mem_drop (List.mem_of_mem_take hz)))
      have h2 : ((zs.drop p1).take 1).length ≤ 1 := by rw [List.length_take]; omega
      have h3 : 256 ^ ((zs.drop p1).take 1).length ≤ 256 ^ 1 := Nat.pow_le_pow_right (by decide) h2
      rw [← hx] at h1
      omega
    · omega
  obtain ⟨ok2, p2, r2, a2, v2, g2⟩ := AdvE.num A1.out hN
  have S2 := hide (S1.out.next hw1 hlt r2 g2)
  have A2 := hide a2
  have V2 := hide (show ok2 = true → ok1 = true ∧ x1 = nlen zs from fun h => v2 h)
  have HT := hide (show Calls Tryd.prog 41 #[.pointer (some ⟨b, 0, none⟩), .int .i64 (x1 : Int)] w2 fun e w' => ∃ sv, e = .returned sv ∧ Took w0 w2 w' b lo ok2 dv zs p2 x1 sv from by
    cases hk : ok2 with
    | false =>
      have hr := S2.out.rdr
      rw [hk] at hr
      exact take_fail w0 _ b lo dv zs p2 x1 hr (by omega) hz2
    | true =>
      have hr := S2.out.rdr
      rw [hk] at hr
      have hpp := A2.out.2 hk
      exact take_nn w0 _ b lo true dv zs p2 x1 _ rfl hr (by omega) (by omega) hz2)
  clear r2 a2 v2 g2 hN S1
  go_wp2_with (go_at_call 41; fail)
  refine HT.out.mono ?_
  rintro e w3 ⟨sv, rfl, ht⟩
  obtain ⟨ok3, p3, ts, r3, a3, rd3, hl3, v3, g3⟩ := AdvE.took A2.out ht
  have H3 := hide (S2.out.next hw1 hlt r3 g3)
  have A3 := hide a3
  have hcv := conv_rdN (r3.lift rd3)
  have V3 := hide (show ok3 = true → ok2 = true ∧ strOfNums ts = strOfNums ((zs.drop 10).take (nlen zs)) from fun h => ⟨(v3 h).1, by rw [(v3 h).2, (V2.out (v3 h).1).2]⟩)
  have HNs := hide (show (strOfNums ts).size ≤ 255 from by rw [strOfNums_size]; omega)
  generalize strOfNums ts = nm at hcv V3 HNs
  have c3 := (H3.out.blk.cell 1).trans (show (snapC (x0 : Int) ⟨#[]⟩ 0 0 0 (List.replicate 12 0) 0 0)[1]? = some (.string ⟨#[]⟩) from rfl)
  have f3 := H3.out.blk.frozen 1
  have S3 := hide (show Rs w0 w (w3.setCell ⟨w.heap.size + 1, 1, none⟩ (.string nm)) b lo dv zs (w.heap.size + 1) (snapC (x0 : Int) nm 0 0 0 (List.replicate 12 0) 0 0) ok3 p3 from H3.out.setS hw1 hlt 1 nm ⟨#[]⟩ rfl)
  clear r3 a3 rd3 v3 g3 ht H3 S2 HT
  go_wp2_with (go_at_call 42; fail)
  clear c3 f3 hcv
  refine (zeros40 w0 _ b lo ok3 dv zs p3 x1 C S3.out.rdr A3.out (fun hc => (V2.out (A2.out.1.2 hc)).2) hx1 hz).mono ?_
  rintro e w4 ⟨rfl, ok4, p4, r4, a4, v4, g4⟩
  have S4 := hide (S3.out.next hw1 hlt r4 g4)
  have A4 := hide a4
  have V4 := hide v4
  clear r4 a4 v4 g4 S3
  go_wp2_with (go_at_call 43; fail)
  refine (number64_any w0 _ b lo ok4 dv zs p4 S4.out.rdr hz2 HB.out).mono ?_
  rintro e w5 ⟨x5, rfl, hN⟩
  obtain ⟨ok5, p5, r1, a1, v1, g1⟩ := AdvE.num A4.out hN
  have H1 := hide (S4.out.next hw1 hlt r1 g1)
  have A5 := hide a1
  have V5 := hide (show ok5 = true → ok4 = true ∧ wrap64 (x5 : Int) = wrap64 ((unle ((zs.drop 40).take 8) : Nat) : Int) from fun h => ⟨(v1 h).1, by rw [(v1 h).2]⟩)
  generalize wrap64 (x5 : Int) = y5 at V5 ⊢
  have c1 := (H1.out.blk.cell 2).trans (show (snapC (x0 : Int) nm 0 0 0 (List.replicate 12 0) 0 0)[2]? = some (.int .i64 0) from rfl)
  have f1 := H1.out.blk.frozen 2
  have S5 := hide (show Rs w0 w (w5.setCell ⟨w.heap.size + 1, 2, none⟩ (.int .i64 y5)) b lo dv zs (w.heap.size + 1) (snapC (x0 : Int) nm y5 0 0 (List.replicate 12 0) 0 0) ok5 p5 from H1.out.setI hw1 hlt 2 y5 rfl)
  clear r1 a1 v1 g1 hN H1 S4
  go_wp2_with (go_at_call 43; fail)
  clear c1 f1
  refine (number64_any w0 _ b lo ok5 dv zs p5 S5.out.rdr hz2 HB.out).mono ?_
  rintro e w6 ⟨x6, rfl, hN⟩
  obtain ⟨ok6, p6, r1, a1, v1, g1⟩ := AdvE.num A5.out hN
  have H1 := hide (S5.out.next hw1 hlt r1 g1)
  have A6 := hide a1
  have V6 := hide (show ok6 = true → ok5 = true ∧ wrap64 (x6 : Int) = wrap64 ((unle ((zs.drop 48).take 8) : Nat) : Int) from fun h => ⟨(v1 h).1, by rw [(v1 h).2]⟩)
  generalize wrap64 (x6 : Int) = y6 at V6 ⊢
  have c1 := (H1.out.blk.cell 3).trans (show (snapC (x0 : Int) nm y5 0 0 (List.replicate 12 0) 0 0)[3]? = some (.int .i64 0) from rfl)
  have f1 := H1.out.blk.frozen 3
  have S6 := hide (show Rs w0 w (w6.setCell ⟨w.heap.size + 1, 3, none⟩ (.int .i64 y6)) b lo dv zs (w.heap.size + 1) (snapC (x0 : Int) nm y5 y6 0 (List.replicate 12 0) 0 0) ok6 p6 from H1.out.setI hw1 hlt 3 y6 rfl)
  clear r1 a1 v1 g1 hN H1 S5
  go_wp2_with (go_at_call 44; fail)
  clear c1 f1
  refine (readRoot_any w0 _ b lo ok6 dv zs p6 S6.out.rdr hz2 HB.out).mono ?_
  rintro e w7 ⟨s, ds, p, q, ok7, p7, rfl, hdl, rR, aR, vR, gR⟩
  obtain ⟨aR2, vR2⟩ := AdvE.adv A6.out aR
  have HR := hide (S6.out.next hw1 hlt rR gR)
  have HADC := hide (show AdvE zs 120 (C && gapN zs) ok7 p7 from aR2)
  have HIA := hide (show ok7 = true → SnapAt zs (x0 : Int) nm y5 y6 s ds p q from fun hk => by
    obtain ⟨h6, e6⟩ := vR2 hk
    rw [e6] at vR
    have q6 := V6.out h6
    have q5 := V5.out q6.1
    have q4 := V4.out q5.1
    have q3 := V3.out q4
    have q2 := V2.out q3.1
    have q1 := V1.out q2.1
    exact ⟨q1, q3.2, q5.2, q6.2, vR hk⟩)
  have HDL := hide hdl
  have HLen := hide (show (cellsI (rootI s ds p q)).size = 15 from by rw [cellsI_size]; exact rootI_len s ds p q hdl)
  have HZ := hide (show (snapC (x0 : Int) nm y5 y6 s ds p q).size = 19 from snapC_size _ _ _ _ _ _ _ _ hdl)
  have K2 := hide (show Blk (w7.setCells (w.heap.size + 1) 4 (cellsI (rootI s ds p q)).toList) w.heap.size (snapC 0 ⟨#[]⟩ 0 0 0 (List.replicate 12 0) 0 0) 27 ∧ Blk (w7.setCells (w.heap.size + 1) 4 (cellsI (rootI s ds p q)).toList) (w.heap.size + 1) (snapC (x0 : Int) nm y5 y6 s ds p q) 27 ∧ Rdr w0 (w7.setCells (w.heap.size + 1) 4 (cellsI (rootI s ds p q)).toList) b lo ok7 dv zs p7 ∧ w.grownBy (w7.setCells (w.heap.size + 1) 4 (cellsI (rootI s ds p q)).toList) (some b) from
    ⟨Blk.cells_other _ 4 HR.out.res (by omega), snap_over _ _ _ _ s ds p q hdl HR.out.blk,
     Rdr.cellsG (by omega) (rootI s ds p q) 4 HR.out.rdr (fun j hj => ⟨0, by
       rw [rootI_len s ds p q hdl] at hj
       rw [HR.out.blk.cell (4 + j)]
       match j, hj with
       | 0, _ | 1, _ | 2, _ | 3, _ | 4, _ | 5, _ | 6, _ | 7, _ | 8, _ | 9, _ | 10, _ | 11, _ | 12, _ | 13, _ | 14, _ => rfl, by decide⟩),
     grow_cells HR.out.old (w.heap.size + 1) _ 4 (by omega)⟩)
  have T1 := hide (HR.out.blk.there 4 15 (by rw [snapC_size _ _ _ _ _ _ _ _ (by simp)]; omega))
  clear rR aR vR gR aR2 vR2 hdl
  go_wp2_with (first | (refine wpList_store_mid rfl 25 _ _ rfl (w.heap.size + 1) 4 (cellsI (rootI s ds p q)) rfl rfl (by rw [HLen.out]; exact T1.out) (by rw [HLen.out]; exact info15) (cellsI_one _) ?_; generalize w7.setCells (w.heap.size + 1) 4 (cellsI (rootI s ds p q)).toList = wS at K2 ⊢) | (refine wpList_load_row rfl 27 _ rfl (w.heap.size + 1) rfl 27 (snapC (x0 : Int) nm y5 y6 s ds p q) (0, 0) _ K2.out.2.1 Tryd.underlying27 rfl (by rw [HZ.out]; exact info19) ?_) | (refine wpList_store_row rfl 27 _ _ rfl w.heap.size (snapC (x0 : Int) nm y5 y6 s ds p q) rfl rfl 27 _ K2.out.1 (by rw [HZ.out]; exact info19) (by rw [HZ.out]; rfl) (snapC_one _ _ _ _ _ _ _ _) ?_))
  refine bodyPost_ret (v := .agg (snapC (x0 : Int) nm y5 y6 s ds p q)) ?_ rfl ⟨(x0 : Int), nm, y5, y6, s, ds, p, q, ok7, p7, rfl, HDL.out, HNs.out, ?_, HADC.out, HIA.out, grow_row K2.out.2.2.2 _ _ (Nat.le_refl _)⟩
  · exact results_cell_row rfl _ _ w.heap.size 27 (snapC (x0 : Int) nm y5 y6 s ds p q) (0, 0) _ rfl (K2.out.1.row _) Tryd.underlying27 rfl (by rw [HZ.out]; exact info19)
  · exact K2.out.2.2.1.rowS _ hlt K2.out.1
end Go.Proofs.YtkaennkfieebmaaDoor

namespace Go.Proofs.YtkaennkfieebmaaDoor
set_option linter.unusedVariables false
set_option linter.unusedSimpArgs false
open Go.RowKit

set_option maxRecDepth 100000 in
set_option maxHeartbeats 1000000 in
theorem end_neg (w0 w : World) (b lo : Nat) (ok : Bool) (dv : Value) (zs : List Int) (pos at_ : Nat) (h : Rdr w0 w b lo ok dv zs pos) (hp : at_ < pos) (hn : pos ≤ 4294967296) :
    Calls Tryd.prog 18 #[.pointer (some ⟨b, 0, none⟩), .int .i64 at_] w fun e w' => e = .returned (.tuple #[]) ∧ Rdr w0 w' b lo false dv zs pos ∧ w.grownBy w' (some b) := by
  have H := hide h
  obtain ⟨a, cap, rfl⟩ : ∃ a cap, dv = .slice a zs.length cap := by obtain ⟨a, cap, h1, _⟩ := h.rd; exact ⟨a, cap, h1⟩
  clear h
  go_enter Tryd.func18, Tryd.ntmps18
  go_wp2_with fail
  refine (zeros_neg w0 _ b lo ok _ zs pos at_ H.out hp hn).mono ?_
  rintro e w1 ⟨rfl, hr, hg⟩
  have HR := hide hr
  have HG := hide hg
  have hd1 := hr.data
  have ha1 := hr.at_
  have hlt1 := hr.ck.lt
  clear hr hg H
  go_wp2
  go_region_held (fun w' => w'.cell? ⟨b, 2, none⟩ = some (.slice a zs.length cap) ∧ w'.cell? ⟨b, 3, none⟩ = some (.int .i64 pos)) (go_keep) ((go_at_call 38; refine (need_any b lo _ 21 false _ _ (HR.out.ck.below ((Below.refl _ _).drew)) HR.out.lo1 HR.out.lo2).mono ?_; rintro e w2 ⟨rfl, hc2, ht2⟩; have hd2 := (ht2.2.1 2 (by omega)).trans hd1; have ha2 := (ht2.2.1 3 (by omega)).trans ha1))
  rw [Bool.false_and] at hc2
  have ht2' : Tch b w1 w2 := (Tch.of_below hlt1 ((Below.refl _ _).drew)).trans ht2
  have HW := hide (show Rdr w0 w2 b lo false (.slice a zs.length cap) zs pos ∧ w.grownBy w2 (some b) from ⟨HR.out.tch hc2 ht2', grownBy_trans HG.out ht2'.1⟩)
  clear hc2 ht2 ht2' hd2 ha2
  go_wp2
  go_end0
  exact ⟨rfl, HW.out.1, HW.out.2⟩
theorem endS_any (w0 w : World) (b lo : Nat) (ok : Bool) (dv : Value) (zs : List Int) (pos at_ : Nat) (h : Rdr w0 w b lo ok dv zs pos) (hok : ok = true → pos ≤ at_) (hn0 : 0 < at_) (hn : at_ ≤ 4294967296) (hz : zs.length ≤ 1048576) :
    Calls Tryd.prog 18 #[.pointer (some ⟨b, 0, none⟩), .int .i64 at_] w fun e w' => e = .returned (.tuple #[]) ∧ Ed w0 w w' b lo ok dv zs pos at_ := by
  by_cases hp : pos ≤ at_
  · exact end_any w0 w b lo ok dv zs pos at_ h hp hn0 hn (by omega)
  · refine (end_neg w0 w b lo ok dv zs pos at_ h (by omega) (by have := h.le; omega)).mono ?_
    rintro e w' ⟨rfl, hr, hg⟩
    have hk : ok = false := by
      cases hk : ok with
      | false => rfl
      | true => exact absurd (hok hk) hp
    refine ⟨rfl, hg, pos, ?_⟩
    rw [hk, Bool.false_and]
    exact hr
def noSn : Array Value := snapC 0 ⟨#[]⟩ 0 0 0 (List.replicate 12 0) 0 0
theorem noSn_one : noSn.all (·.oneCell') = true := snapC_one _ _ _ _ _ _ _ _
theorem blk_range {w : World} {b : Nat} {t : TypeId} {C : Array Value} (h : Blk w b C t) : w.rangeAt b 0 C.toList := by
  intro j v hv
  rw [Nat.zero_add, h.cell j]
  simpa using hv

set_option maxRecDepth 100000 in
set_option maxHeartbeats 1000000 in
theorem toldS_ok (C : Array Value) (w : World) (hx : C.size = 19) (h1 : C.all (·.oneCell') = true) :
    Calls Tryd.prog 21 #[.agg C, .nilIface] w fun e w' => e = .returned (.tuple #[.agg C, .int .i64 0]) ∧ Below w.heap.size w w' := by
  have HZ := hide (show C.size = 19 from hx)
  have kB := (Blk.new w C 27).alloc (.cells noSn 27)
  have kC := Blk.new (w.alloc (.cells C 27)) noSn 27
  rw [World.size_alloc] at kC
  have K := hide (And.intro kB (And.intro kC (((Below.refl w.heap.size w).alloc (Nat.le_refl _) (.cells C 27)).alloc (by simp) (.cells noSn 27))))
  clear kB kC hx
  go_enter Tryd.func21, Tryd.ntmps21
  go_wp2_with (first | (refine wpList_load_row rfl 27 _ rfl w.heap.size rfl 27 C (0, 0) _ K.out.1 Tryd.underlying27 rfl (by rw [HZ.out]; exact info19) ?_) | (refine wpList_store_row rfl 27 _ _ rfl (w.heap.size + 1) C rfl rfl 27 _ K.out.2.1 (by rw [HZ.out]; exact info19) (by rw [HZ.out]; rfl) h1 ?_))
  refine bodyPost_ret (v := .tuple #[.agg C, .int .i64 0]) ?_ rfl ⟨rfl, below_setRow K.out.2.2 (by omega) _⟩
  exact results_row_tmp rfl _ _ (w.heap.size + 1) 27 C (0, 0) _ _ rfl rfl (K.out.2.1.row _) Tryd.underlying27 rfl (by rw [HZ.out]; exact info19)

set_option maxRecDepth 100000 in
set_option maxHeartbeats 2000000 in
theorem toldS_bad (C : Array Value) (lo n : Nat) (v : Value) (c : Int) (w : World) (hx : C.size = 19) (h1 : C.all (·.oneCell') = true) (hv : Flt w lo n v c) (hg : ErrT w) :
    Calls Tryd.prog 21 #[.agg C, v] w fun e w' => e = .returned (.tuple #[.agg noSn, .int .i64 c]) ∧ Below w.heap.size w w' := by
  have HZ := hide (show C.size = 19 from hx)
  have HV := hide (And.intro hv hg)
  obtain ⟨t', x', rfl⟩ := hv.iface
  clear hv hg hx
  go_enter Tryd.func21, Tryd.ntmps21
  have kB := ((Blk.new (w.alloc (.cells C 27)) #[.int .i64 0, .string ⟨#[]⟩, .int .i64 0, .int .i64 0, .int .i64 0, .int .i64 0, .int .i64 0, .int .i64 0, .int .i64 0, .int .i64 0, .int .i64 0, .int .i64 0, .int .i64 0, .int .i64 0, .int .i64 0, .int .i64 0, .int .i64 0, .int .i64 0, .int .i64 0] 27).alloc (.cells #[.int .i64 0, .string ⟨#[]⟩, .int .i64 0, .int .i64 0, .int .i64 0, .int .i64 0, .int .i64 0, .int .i64 0, .int .i64 0, .int .i64 0, .int .i64 0, .int .i64 0, .int .i64 0, .int .i64 0, .int .i64 0, .int .i64 0, .int .i64 0, .int .i64 0, .int .i64 0] 27))
  have kC := Blk.new ((w.alloc (.cells C 27)).alloc (.cells #[.int .i64 0, .string ⟨#[]⟩, .int .i64 0, .int .i64 0, .int .i64 0, .int .i64 0, .int .i64 0, .int .i64 0, .int .i64 0, .int .i64 0, .int .i64 0, .int .i64 0, .int .i64 0, .int .i64 0, .int .i64 0, .int .i64 0, .int .i64 0, .int .i64 0, .int .i64 0] 27)) #[.int .i64 0, .string ⟨#[]⟩, .int .i64 0, .int .i64 0, .int .i64 0, .int .i64 0, .int .i64 0, .int .i64 0, .int .i64 0, .int .i64 0, .int .i64 0, .int .i64 0, .int .i64 0, .int .i64 0, .int .i64 0, .int .i64 0, .int .i64 0, .int .i64 0, .int .i64 0] 27
  rw [World.size_alloc] at kB
  rw [World.size_alloc, World.size_alloc] at kC
  have K0 := hide (And.intro kB (And.intro kC ((((Below.refl w.heap.size w).alloc (Nat.le_refl _) (.cells C 27)).alloc (by simp) (.cells #[.int .i64 0, .string ⟨#[]⟩, .int .i64 0, .int .i64 0, .int .i64 0, .int .i64 0, .int .i64 0, .int .i64 0, .int .i64 0, .int .i64 0, .int .i64 0, .int .i64 0, .int .i64 0, .int .i64 0, .int .i64 0, .int .i64 0, .int .i64 0, .int .i64 0, .int .i64 0] 27)).alloc (by simp; omega) (.cells #[.int .i64 0, .string ⟨#[]⟩, .int .i64 0, .int .i64 0, .int .i64 0, .int .i64 0, .int .i64 0, .int .i64 0, .int .i64 0, .int .i64 0, .int .i64 0, .int .i64 0, .int .i64 0, .int .i64 0, .int .i64 0, .int .i64 0, .int .i64 0, .int .i64 0, .int .i64 0] 27))))
  clear kB kC
  go_wp2
  generalize hW : ((w.alloc (.cells C 27)).alloc (.cells #[.int .i64 0, .string ⟨#[]⟩, .int .i64 0, .int .i64 0, .int .i64 0, .int .i64 0, .int .i64 0, .int .i64 0, .int .i64 0, .int .i64 0, .int .i64 0, .int .i64 0, .int .i64 0, .int .i64 0, .int .i64 0, .int .i64 0, .int .i64 0, .int .i64 0, .int .i64 0] 27)).alloc (.cells #[.int .i64 0, .string ⟨#[]⟩, .int .i64 0, .int .i64 0, .int .i64 0, .int .i64 0, .int .i64 0, .int .i64 0, .int .i64 0, .int .i64 0, .int .i64 0, .int .i64 0, .int .i64 0, .int .i64 0, .int .i64 0, .int .i64 0, .int .i64 0, .int .i64 0, .int .i64 0] 27) = W at K0 ⊢
  have hWs : W.heap.size = w.heap.size + 3 := by rw [← hW]; simp
  clear hW
  refine wp_region_noPanic ?_
  refine wp_region_held_drew (S := fun w' => Blk w' (w.heap.size + 1 + 1) noSn 27) (by kernel_rfl) (show Blk W.drew (w.heap.size + 1 + 1) noSn 27 from K0.out.2.1) (fun hH => ?_)
  refine wpAnyH_take (i := 0) (oi := _) (v := .agg noSn) rfl (by kernel_rfl) (by kernel_rfl) (by kernel_rfl) (fun _ _ _ h => h) (yieldsIf_load_mid (by rfl) 27 _ rfl (w.heap.size + 1 + 1) 0 rfl noSn.toList _ (fun w' h => blk_range h) Tryd.underlying27 rfl info19) hH ?_
  try simp only [Act.put, List.setIfInBounds_toArray, List.set_cons_zero, List.set_cons_succ]
  refine wpAnyH_take (i := 1) (oi := _) (v := .iface t' (.pointer (some x'))) rfl (by kernel_rfl) (by kernel_rfl) (by kernel_rfl) (fun _ _ _ h => h) (Or.inl ⟨by rfl, fun w' hw' => by rfl⟩) hH ?_
  try simp only [Act.put, List.setIfInBounds_toArray, List.set_cons_zero, List.set_cons_succ]
  refine wpAnyH_ready (rs := [2]) (by kernel_rfl) (by simp) ?_
  refine AllReadyH.cons (o := _) rfl (fun K hK => ?_) AllReadyH.nil
  go_simp
  refine (codeOf_any n _ c lo _ (HV.out.1.below (K0.out.2.2.drew.mono (by omega))) (HV.out.2.below K0.out.2.2.drew)).mono ?_
  rintro e w5 ⟨rfl, b5⟩
  have s5 : Blk w5 (w.heap.size + 1 + 1) noSn 27 := Blk.below (w := W.drew) K0.out.2.1 b5 (by show _ < W.heap.size; omega)
  have kb5 : Blk w5 (w.heap.size + 1) noSn 27 := Blk.below (w := W.drew) K0.out.1 b5 (by show _ < W.heap.size; omega)
  have HF := hide (And.intro (kb5.row noSn) (below_setRow (g := w.heap.size + 1) (K0.out.2.2.trans ((((Below.refl _ W).drew).trans b5).mono (by show w.heap.size ≤ W.heap.size; omega))) (by omega) noSn))
  have KB5 := hide kb5
  clear b5 kb5
  refine hK.out _ _ s5 (fun hH5 => ?_)
  clear hK K hH
  try simp only [Act.put, List.setIfInBounds_toArray, List.set_cons_zero, List.set_cons_succ]
  refine wpAnyH_ready (rs := [3]) (by kernel_rfl) (by simp) ?_
  refine AllReadyH.cons (o := _) rfl (fun K hK => ?_) AllReadyH.nil
  rw [if_pos (by rfl)]
  refine wp_store_row 27 _ _ rfl (w.heap.size + 1) noSn rfl rfl 27 _ KB5.out info19 rfl noSn_one ?_
  refine hK.out _ _ (show Blk _ _ _ _ from (setRow_block _ _ _ _ (by omega)).trans hH5) (fun hH6 => ?_)
  clear hK K
  try simp only [Act.put, List.setIfInBounds_toArray, List.set_cons_zero, List.set_cons_succ]
  refine wpAnyH_ready (rs := [4]) (by kernel_rfl) (by simp) ?_
  refine AllReadyH.cons (o := _) rfl (fun K hK => ?_) AllReadyH.nil
  go_simp
  refine hK.out _ _ hH6 (fun hH7 => ?_)
  clear hK K
  try simp only [Act.put, List.setIfInBounds_toArray, List.set_cons_zero, List.set_cons_succ]
  refine wpAnyH_done (by kernel_rfl) (NoPanic.normal ?_) _
  clear hH5 hH6 hH7 s5
  go_wp2
  refine bodyPost_ret (v := .tuple #[.agg noSn, .int .i64 c]) ?_ rfl ⟨rfl, HF.out.2⟩
  exact results_row_tmp rfl _ _ (w.heap.size + 1) 27 noSn (0, 0) _ _ rfl rfl HF.out.1 Tryd.underlying27 rfl info19
/-- What stands around a snapshot's fields: the sum, the letters, the zeros. -/
def frameS (zs : List Int) : Bool := sumB zs && decide (zs.take 8 = snapLet) && gapN (zs.take 508) && allz ((zs.drop 120).take 388)
/-- What DecodeSnap reads, and whether it is told. -/
def SnapRead (zs : List Int) (C : Array Value) (ok : Bool) : Prop :=
  ∃ pl nm ge cl s ds p q, ds.length = 12 ∧ nm.size ≤ 255 ∧ C = snapC pl nm ge cl s ds p q ∧ (zs.length ≠ 512 → ok = false) ∧ (zs.length = 512 → frameS zs = false → ok = false) ∧ (zs.length = 512 → frameS zs = true → SnapAt (zs.take 508) pl nm ge cl s ds p q ∧ ok = rightS pl nm ge cl s ds p q)
theorem snapRead_of (zs : List Int) (ok0 : Bool) (ys : List Int) (p0 : Nat) (hB : BlkRd zs snapLet ok0 ys p0) (pl : Int) (nm : ByteArray) (ge cl s : Int) (ds : List Int) (p q : Int) (hd : ds.length = 12) (hnm : nm.size ≤ 255) (ok2 : Bool) (pr : Nat) (ha : AdvE ys 120 (ok0 && gapN ys) ok2 pr) (hv : ok2 = true → SnapAt ys pl nm ge cl s ds p q) :
    SnapRead zs (snapC pl nm ge cl s ds p q) (ok2 && ((((ys.drop pr).take (508 - pr)).all fun z => decide (z = 0)) && decide (ys.length = 508)) && rightS pl nm ge cl s ds p q) := by
  obtain ⟨h2, h3⟩ := ha
  have hno : ok0 = false → ok2 = false := fun h => by
    cases h4 : ok2 with
    | false => rfl
    | true => have := (h2.1 h4).2; rw [h, Bool.false_and] at this; cases this
  refine ⟨pl, nm, ge, cl, s, ds, p, q, hd, hnm, rfl, fun h => ?_, fun h hf => ?_, fun h hf => ?_⟩
  · rcases hB with ⟨_, hk, _, _⟩ | ⟨hk, _⟩
    · rw [hno hk]; rfl
    · exact absurd hk h
  · rcases hB with ⟨hk, _, _, _⟩ | ⟨_, rfl, hk, _, _⟩
    · exact absurd h hk
    · cases h4 : ok2 with
      | false => rfl
      | true =>
        have hp := h3 h4
        subst hp
        have hC := (h2.1 h4).2
        rw [hk] at hC
        have e : ((zs.take 508).drop 120).take (508 - 120) = (zs.drop 120).take 388 := by rw [List.drop_take, List.take_take]; rfl
        unfold frameS sumB at hf
        rw [hC, Bool.true_and] at hf
        rw [e]
        have hf' : ((zs.drop 120).take 388).all (fun z => decide (z = 0)) = false := hf
        rw [hf']
        rfl
  · rcases hB with ⟨hk, _, _, _⟩ | ⟨_, rfl, hk, _, _⟩
    · exact absurd h hk
    · unfold frameS sumB at hf
      rw [← hk, Bool.and_eq_true] at hf
      have hlen : (zs.take 508).length = 508 := by rw [List.length_take, h]; rfl
      have ho := h2.2 ⟨by omega, hf.1⟩
      have hp := h3 ho
      subst hp
      refine ⟨hv ho, ?_⟩
      have e : ((zs.take 508).drop 120).take (508 - 120) = (zs.drop 120).take 388 := by rw [List.drop_take, List.take_take]; rfl
      have hf' : ((zs.drop 120).take 388).all (fun z => decide (z = 0)) = true := hf.2
      rw [ho, e, hf', decide_eq_true hlen]
      rfl
set_option maxRecDepth 100000 in
set_option maxHeartbeats 4000000 in
theorem implDS_any (v : Value) (zs : List Int) (w : World) (h : Rd .u8 w v zs) (hbd : ∀ z ∈ zs, 0 ≤ z ∧ z < 256) (hz : zs.length ≤ 1048576) (hg : ErrT w) (hL : LetS w) :
    Calls Tryd.prog 7 #[v] w fun e w' => ∃ C ok, SnapRead zs C ok ∧ e = .returned (.tuple #[.agg (if ok = true then C else noSn), .int .i64 (if ok = true then 0 else 21)]) ∧ Below w.heap.size w w' := by
  have HB := hide hbd
  have HR := hide (And.intro h hg)
  have hb0 : ∀ C, Below w.heap.size w (w.alloc C) := fun C => (Below.refl _ _).alloc (Nat.le_refl _) _
  have HB0 := hide hb0
  have HLt := hide (fun C => hL.below (hb0 C))
  clear hbd hg hb0 hL
  obtain ⟨a, cap, rfl, _⟩ := h
  go_enter Tryd.func7, Tryd.ntmps7
  go_wp2_with (first | (refine wpList_load_mid rfl 47 _ rfl 0 0 rfl (snapLet.map (Value.int .u8)) _ (HLt.out _) Tryd.underlying47 rfl (by kernel_rfl) ?_) | (go_at_call 16; fail))
  refine (newBlock_any _ zs snapLet _ rfl (HR.out.1.below (HB0.out _)) HB.out (by omega)).mono ?_
  rintro e w1 ⟨w0, rb, lo, ok0, dv, ys, p0, rfl, r1, b1, hrb, hBR⟩
  have hys : (∀ z ∈ ys, 0 ≤ z ∧ z < 256) ∧ ys.length ≤ 1048576 := by
    rcases hBR with ⟨_, _, _, rfl⟩ | ⟨_, rfl, _⟩
    · exact ⟨by simp, by simp⟩
    · exact ⟨fun z hz => HB.out z (List.mem_of_mem_take hz), by rw [List.length_take]; omega⟩
  have hA : AdvE ys 8 ok0 ok0 p0 := by
    rcases hBR with ⟨_, rfl, rfl, rfl⟩ | ⟨h5, rfl, h2, h3, h4⟩
    · exact ⟨⟨(fun h => by cases h), (fun h => h.2)⟩, (fun h => by cases h)⟩
    · exact ⟨⟨fun h => ⟨by rw [List.length_take, h5]; decide, h⟩, fun h => h.2⟩, h4⟩
  rw [World.size_alloc] at hrb b1
  have ki1 : Blk w1 w.heap.size #[.int .i64 0, .string ⟨#[]⟩, .int .i64 0, .int .i64 0, .int .i64 0, .int .i64 0, .int .i64 0, .int .i64 0, .int .i64 0, .int .i64 0, .int .i64 0, .int .i64 0, .int .i64 0, .int .i64 0, .int .i64 0, .int .i64 0, .int .i64 0, .int .i64 0, .int .i64 0] 27 := (Blk.new w #[.int .i64 0, .string ⟨#[]⟩, .int .i64 0, .int .i64 0, .int .i64 0, .int .i64 0, .int .i64 0, .int .i64 0, .int .i64 0, .int .i64 0, .int .i64 0, .int .i64 0, .int .i64 0, .int .i64 0, .int .i64 0, .int .i64 0, .int .i64 0, .int .i64 0, .int .i64 0] 27).below b1 (by omega)
  have H1 := hide (And.intro r1 (And.intro ki1 ((HB0.out (.cells #[.int .i64 0, .string ⟨#[]⟩, .int .i64 0, .int .i64 0, .int .i64 0, .int .i64 0, .int .i64 0, .int .i64 0, .int .i64 0, .int .i64 0, .int .i64 0, .int .i64 0, .int .i64 0, .int .i64 0, .int .i64 0, .int .i64 0, .int .i64 0, .int .i64 0, .int .i64 0] 27)).trans (b1.mono (by omega)))))
  have HBR := hide hBR
  clear r1 b1 ki1 hBR
  go_wp2_with (go_at_call 17; fail)
  have H1' := H1.out.1
  refine (readSnap_any _ _ _ _ ok0 _ ys p0 ok0 H1' hA hys.2 hys.1).mono ?_
  rintro e w2 ⟨pl, nm, ge, cl, s, ds, p, q, ok2, p2, rfl, hdl, hnm, r2, a2, v2, g2⟩
  obtain ⟨C, hC⟩ : ∃ C, C = snapC pl nm ge cl s ds p q := ⟨_, rfl⟩
  have HZ := hide (show C.size = 19 from by rw [hC]; exact snapC_size _ _ _ _ _ _ _ _ hdl)
  have HC1 := hide (show C.all (·.oneCell') = true from by rw [hC]; exact snapC_one _ _ _ _ _ _ _ _)
  obtain ⟨RF, hRF⟩ : ∃ RF, RF = rightS pl nm ge cl s ds p q := ⟨_, rfl⟩
  have HFF := hide (show ∀ w : World, Calls Tryd.prog 20 #[.agg C, .int .i64 21] w fun e w' => ∃ ev', e = .returned ev' ∧ FaultIs w' w.heap.size RF ev' 21 ∧ Below w.heap.size w w' from fun w => by rw [hC, hRF]; exact snapFault_any _ _ _ _ _ _ _ _ 21 w hdl (by unfold maxLen; omega))
  have HOKF := hide (snapRead_of zs ok0 ys p0 HBR.out pl nm ge cl s ds p q hdl hnm ok2 p2 a2 v2)
  rw [← hC, ← hRF] at HOKF
  rw [← hC]
  have hok2 : ok2 = true → p2 ≤ 508 := fun h => by have := a2.2 h; omega
  clear hC hRF hdl hnm v2 a2
  have hs2 := g2.size
  have hlt1 := H1'.ck.lt
  have hlo := r2.lo1
  have hlo2 := r2.lo2
  have ki2 : Blk w2 w.heap.size noSn 27 := (g2.block _ (by omega) (by simp; omega)).trans H1.out.2.1
  have hb12 : rb < w2.heap.size := r2.ck.lt
  have H2 := hide (show Rdr _ ((w2.alloc (.cells #[.int .i64 0, .string ⟨#[]⟩, .int .i64 0, .int .i64 0, .int .i64 0, .int .i64 0, .int .i64 0, .int .i64 0, .int .i64 0, .int .i64 0, .int .i64 0, .int .i64 0, .int .i64 0, .int .i64 0, .int .i64 0, .int .i64 0, .int .i64 0, .int .i64 0, .int .i64 0] 27)).setRow w2.heap.size C) rb _ ok2 _ ys p2 ∧ Blk ((w2.alloc (.cells #[.int .i64 0, .string ⟨#[]⟩, .int .i64 0, .int .i64 0, .int .i64 0, .int .i64 0, .int .i64 0, .int .i64 0, .int .i64 0, .int .i64 0, .int .i64 0, .int .i64 0, .int .i64 0, .int .i64 0, .int .i64 0, .int .i64 0, .int .i64 0, .int .i64 0, .int .i64 0] 27)).setRow w2.heap.size C) w.heap.size noSn 27 ∧ Below w.heap.size w ((w2.alloc (.cells #[.int .i64 0, .string ⟨#[]⟩, .int .i64 0, .int .i64 0, .int .i64 0, .int .i64 0, .int .i64 0, .int .i64 0, .int .i64 0, .int .i64 0, .int .i64 0, .int .i64 0, .int .i64 0, .int .i64 0, .int .i64 0, .int .i64 0, .int .i64 0, .int .i64 0, .int .i64 0] 27)).setRow w2.heap.size C) ∧ Blk ((w2.alloc (.cells #[.int .i64 0, .string ⟨#[]⟩, .int .i64 0, .int .i64 0, .int .i64 0, .int .i64 0, .int .i64 0, .int .i64 0, .int .i64 0, .int .i64 0, .int .i64 0, .int .i64 0, .int .i64 0, .int .i64 0, .int .i64 0, .int .i64 0, .int .i64 0, .int .i64 0, .int .i64 0] 27)).setRow w2.heap.size C) w2.heap.size C 27 from
    ⟨(r2.alloc _).rowS _ hb12 (Blk.new w2 (snapC 0 ⟨#[]⟩ 0 0 0 (List.replicate 12 0) 0 0) 27), (setRow_block _ _ _ _ (by omega)).trans (ki2.alloc _), below_setRow ((H1.out.2.2.grown g2 (by omega) (fun k e => by cases e; omega)).alloc (by omega) _) (by omega) _, (Blk.new w2 #[.int .i64 0, .string ⟨#[]⟩, .int .i64 0, .int .i64 0, .int .i64 0, .int .i64 0, .int .i64 0, .int .i64 0, .int .i64 0, .int .i64 0, .int .i64 0, .int .i64 0, .int .i64 0, .int .i64 0, .int .i64 0, .int .i64 0, .int .i64 0, .int .i64 0, .int .i64 0] 27).row _⟩)
  clear r2 ki2 g2 H1' H1
  go_wp2_with (first | (refine wpList_store_row rfl 27 _ _ rfl w2.heap.size C rfl rfl 27 _ (Blk.new w2 #[.int .i64 0, .string ⟨#[]⟩, .int .i64 0, .int .i64 0, .int .i64 0, .int .i64 0, .int .i64 0, .int .i64 0, .int .i64 0, .int .i64 0, .int .i64 0, .int .i64 0, .int .i64 0, .int .i64 0, .int .i64 0, .int .i64 0, .int .i64 0, .int .i64 0, .int .i64 0] 27) (by rw [HZ.out]; exact info19) (by rw [HZ.out]; rfl) (by first | exact HC1.out | exact noSn_one) ?_) | (go_at_call 18; fail))
  generalize hW3 : (w2.alloc (.cells #[.int .i64 0, .string ⟨#[]⟩, .int .i64 0, .int .i64 0, .int .i64 0, .int .i64 0, .int .i64 0, .int .i64 0, .int .i64 0, .int .i64 0, .int .i64 0, .int .i64 0, .int .i64 0, .int .i64 0, .int .i64 0, .int .i64 0, .int .i64 0, .int .i64 0, .int .i64 0] 27)).setRow w2.heap.size C = w3 at H2 ⊢
  clear hW3
  refine (endS_any _ _ _ _ ok2 _ ys p2 508 H2.out.1 hok2 (by omega) (by omega) hys.2).mono ?_
  rintro e w4 ⟨rfl, g4, p4, r4⟩
  have hs4 := g4.size
  have hl3 := H2.out.2.2.2.lt
  have ki4 : Blk w4 w.heap.size noSn 27 := (g4.block _ (by omega) (by simp; omega)).trans H2.out.2.1
  have kr4 : Blk w4 w2.heap.size C 27 := (g4.block _ (by omega) (by simp; omega)).trans H2.out.2.2.2
  have H4 := hide (And.intro r4 (And.intro ki4 (And.intro (H2.out.2.2.1.grown g4 (by omega) (fun k e => by cases e; omega)) kr4)))
  clear r4 ki4 kr4 g4 H2
  have hl4 : w2.heap.size < w4.heap.size := by omega
  have hl5 : rb < w4.heap.size := by omega
  go_wp2_with fail
  refine wp_region_noPanic ?_
  refine wp_region_held_drew (S := fun w' => Blk w' w2.heap.size C 27 ∧ w'.cell? ⟨rb, 0, none⟩ = some (.int .i64 21)) (by kernel_rfl) ⟨H4.out.2.2.2, H4.out.1.ck.1⟩ (fun hH => ?_)
  refine wpAnyH_take (i := 0) (oi := _) (v := (.pointer (some ⟨rb, 0, none⟩))) rfl (by kernel_rfl) (by kernel_rfl) (by kernel_rfl) (fun _ _ _ h => h) (Or.inl ⟨by rfl, fun w' hw' => by go_simp⟩) hH ?_
  try simp only [Act.put, List.setIfInBounds_toArray, List.set_cons_zero, List.set_cons_succ]
  refine wpAnyH_take (i := 1) (oi := _) (v := (.pointer (some ⟨rb, 0, none⟩))) rfl (by kernel_rfl) (by kernel_rfl) (by kernel_rfl) (fun _ _ _ h => h) (Or.inl ⟨by rfl, fun w' hw' => by go_simp⟩) hH ?_
  try simp only [Act.put, List.setIfInBounds_toArray, List.set_cons_zero, List.set_cons_succ]
  refine wpAnyH_take (i := 2) (oi := _) (v := (.pointer (some ⟨rb, 0, none⟩))) rfl (by kernel_rfl) (by kernel_rfl) (by kernel_rfl) (fun _ _ _ h => h) (Or.inl ⟨by rfl, fun w' hw' => by go_simp⟩) hH ?_
  try simp only [Act.put, List.setIfInBounds_toArray, List.set_cons_zero, List.set_cons_succ]
  refine wpAnyH_take (i := 3) (oi := _) (v := .agg C) rfl (by kernel_rfl) (by kernel_rfl) (by kernel_rfl) (fun _ _ _ h => h) (yieldsIf_load_mid (by rfl) 27 _ rfl w2.heap.size 0 rfl C.toList _ (fun w' h => blk_range h.1) Tryd.underlying27 rfl (by rw [Array.length_toList, HZ.out]; exact info19)) hH ?_
  try simp only [Act.put, List.setIfInBounds_toArray, List.set_cons_zero, List.set_cons_succ]
  refine wpAnyH_take (i := 4) (oi := _) (v := (.pointer (some ⟨rb, 0, none⟩))) rfl (by kernel_rfl) (by kernel_rfl) (by kernel_rfl) (fun _ _ _ h => h) (Or.inl ⟨by rfl, fun w' hw' => by go_simp⟩) hH ?_
  try simp only [Act.put, List.setIfInBounds_toArray, List.set_cons_zero, List.set_cons_succ]
  refine wpAnyH_take (i := 5) (oi := _) (v := (.pointer (some ⟨rb, 0, none⟩))) rfl (by kernel_rfl) (by kernel_rfl) (by kernel_rfl) (fun _ _ _ h => h) (Or.inl ⟨by rfl, fun w' hw' => by go_simp⟩) hH ?_
  try simp only [Act.put, List.setIfInBounds_toArray, List.set_cons_zero, List.set_cons_succ]
  refine wpAnyH_take (i := 6) (oi := _) (v := (.pointer (some ⟨rb, 0, none⟩))) rfl (by kernel_rfl) (by kernel_rfl) (by kernel_rfl) (fun _ _ _ h => h) (Or.inl ⟨by rfl, fun w' hw' => by go_simp⟩) hH ?_
  try simp only [Act.put, List.setIfInBounds_toArray, List.set_cons_zero, List.set_cons_succ]
  refine wpAnyH_take (i := 7) (oi := _) (v := (.pointer (some ⟨rb, 0, none⟩))) rfl (by kernel_rfl) (by kernel_rfl) (by kernel_rfl) (fun _ _ _ h => h) (Or.inl ⟨by rfl, fun w' hw' => by go_simp⟩) hH ?_
  try simp only [Act.put, List.setIfInBounds_toArray, List.set_cons_zero, List.set_cons_succ]
  refine wpAnyH_take (i := 8) (oi := _) (v := .int .i64 21) rfl (by kernel_rfl) (by kernel_rfl) (by kernel_rfl) (fun _ _ _ h => h) (Or.inl ⟨by rfl, fun w' hw' => by have hc := hw'.2; clear hw'; go_simp⟩) hH ?_
  try simp only [Act.put, List.setIfInBounds_toArray, List.set_cons_zero, List.set_cons_succ]
  refine wpAnyH_ready (rs := [9]) (by kernel_rfl) (by simp) ?_
  refine AllReadyH.cons (o := _) rfl (fun K hK => ?_) AllReadyH.nil
  go_simp
  refine (HFF.out _).mono ?_
  rintro e w5 ⟨ev, rfl, hf5, b5⟩
  have s5 : Blk w5 w2.heap.size C 27 ∧ w5.cell? ⟨rb, 0, none⟩ = some (.int .i64 21) := ⟨Blk.below (w := w4.drew) H4.out.2.2.2 b5 hl4, (b5.cell (p := ⟨rb, 0, none⟩) hl5).trans H4.out.1.ck.1⟩
  have ck5 := H4.out.1.ck.below (((Below.refl _ _).drew).trans b5)
  have ki5 : Blk w5 w.heap.size noSn 27 := Blk.below (w := w4.drew) H4.out.2.1 b5 (by show w.heap.size < w4.heap.size; omega)
  have B5 := hide (H4.out.2.2.1.trans ((((Below.refl _ _).drew).trans b5).mono (by show w.heap.size ≤ w4.heap.size; omega)))
  have F5 := hide (hf5.mono (show lo ≤ w4.heap.size by omega))
  have hs5 : w4.heap.size ≤ w5.heap.size := b5.size
  have C5 := hide (And.intro ck5 (And.intro ki5 s5))
  clear hf5 b5 ck5 ki5
  refine hK.out _ _ s5 (fun hH5 => ?_)
  clear hK K hH s5
  try simp only [Act.put, List.setIfInBounds_toArray, List.set_cons_zero, List.set_cons_succ]
  refine wpAnyH_ready (rs := [10]) (by kernel_rfl) (by simp) ?_
  refine AllReadyH.cons (o := _) rfl (fun K hK => ?_) AllReadyH.nil
  go_simp
  refine (inside_both rb lo _ 21 _ _ ev _ C5.out.1 F5.out (by omega) (by omega)).mono ?_
  rintro e w6 ⟨rfl, hc6, ht6⟩
  have hs6 := ht6.1.size
  have s6 : Blk w6 w2.heap.size C 27 := (ht6.1.block _ (by omega) (by simp; omega)).trans C5.out.2.2.1
  have ki6 : Blk w6 w.heap.size noSn 27 := (ht6.1.block _ (by omega) (by simp; omega)).trans C5.out.2.1
  have B6 := hide (B5.out.grown ht6.1 (by omega) (fun k e => by cases e; omega))
  have K6 := hide (And.intro s6 ki6)
  have e6 := ht6.2.1 0 (by omega)
  refine hK.out _ _ ⟨s6, e6.trans C5.out.2.2.2⟩ (fun hH6 => ?_)
  clear hK K hH5 hH6 ht6 s6 ki6 e6 B5 F5 C5 H4
  try simp only [Act.put, List.setIfInBounds_toArray, List.set_cons_zero, List.set_cons_succ]
  refine wpAnyH_done (by kernel_rfl) (NoPanic.normal ?_) _
  have HOK := hide HOKF.out
  generalize (ok2 && ((((ys.drop p2).take (508 - p2)).all fun z => decide (z = 0)) && decide (ys.length = 508)) && RF) = okF at hc6 HOK
  clear HOKF
  obtain ⟨c1, c2, ev6, c3, c4⟩ := hc6
  clear c1 c2
  rcases c4 with ⟨rfl, rfl⟩ | ⟨rfl, m, c4⟩
  · have C3 := hide c3
    clear c3
    go_wp2_with fail
    refine wp_region_noPanic ?_
    refine wp_region_held_drew (S := fun w' => Blk w' w2.heap.size C 27 ∧ w'.cell? ⟨rb, 1, none⟩ = some (.nilIface)) (by kernel_rfl) ⟨K6.out.1, C3.out⟩ (fun hH => ?_)
    refine wpAnyH_take (i := 0) (oi := _) (v := .agg C) rfl (by kernel_rfl) (by kernel_rfl) (by kernel_rfl) (fun _ _ _ h => h) (yieldsIf_load_mid (by rfl) 27 _ rfl w2.heap.size 0 rfl C.toList _ (fun w' h => blk_range h.1) Tryd.underlying27 rfl (by rw [Array.length_toList, HZ.out]; exact info19)) hH ?_
    try simp only [Act.put, List.setIfInBounds_toArray, List.set_cons_zero, List.set_cons_succ]
    refine wpAnyH_take (i := 1) (oi := _) (v := (.pointer (some ⟨rb, 0, none⟩))) rfl (by kernel_rfl) (by kernel_rfl) (by kernel_rfl) (fun _ _ _ h => h) (Or.inl ⟨by rfl, fun w' hw' => by go_simp⟩) hH ?_
    try simp only [Act.put, List.setIfInBounds_toArray, List.set_cons_zero, List.set_cons_succ]
    refine wpAnyH_take (i := 2) (oi := _) (v := (.pointer (some ⟨rb, 0, none⟩))) rfl (by kernel_rfl) (by kernel_rfl) (by kernel_rfl) (fun _ _ _ h => h) (Or.inl ⟨by rfl, fun w' hw' => by go_simp⟩) hH ?_
    try simp only [Act.put, List.setIfInBounds_toArray, List.set_cons_zero, List.set_cons_succ]
    refine wpAnyH_take (i := 3) (oi := _) (v := (.pointer (some ⟨rb, 0, none⟩))) rfl (by kernel_rfl) (by kernel_rfl) (by kernel_rfl) (fun _ _ _ h => h) (Or.inl ⟨by rfl, fun w' hw' => by go_simp⟩) hH ?_
    try simp only [Act.put, List.setIfInBounds_toArray, List.set_cons_zero, List.set_cons_succ]
    refine wpAnyH_take (i := 4) (oi := _) (v := (.pointer (some ⟨rb, 1, none⟩))) rfl (by kernel_rfl) (by kernel_rfl) (by kernel_rfl) (fun _ _ _ h => h) (Or.inl ⟨by rfl, fun w' hw' => by go_simp⟩) hH ?_
    try simp only [Act.put, List.setIfInBounds_toArray, List.set_cons_zero, List.set_cons_succ]
    refine wpAnyH_take (i := 5) (oi := _) (v := .nilIface) rfl (by kernel_rfl) (by kernel_rfl) (by kernel_rfl) (fun _ _ _ h => h) (Or.inl ⟨by rfl, fun w' hw' => by have hc := hw'.2; clear hw'; go_simp⟩) hH ?_
    try simp only [Act.put, List.setIfInBounds_toArray, List.set_cons_zero, List.set_cons_succ]
    refine wpAnyH_ready (rs := [6]) (by kernel_rfl) (by simp) ?_
    refine AllReadyH.cons (o := _) rfl (fun K hK => ?_) AllReadyH.nil
    go_simp
    refine (toldS_ok C _ HZ.out HC1.out).mono ?_
    rintro e w7 ⟨rfl, b7⟩
    have hl8 : w2.heap.size < w6.heap.size := K6.out.1.lt
    have hl9 : rb < w6.heap.size := by omega
    have s7 : Blk w7 w2.heap.size C 27 ∧ w7.cell? ⟨rb, 1, none⟩ = some (.nilIface) := ⟨Blk.below (w := w6.drew) K6.out.1 b7 hl8, (b7.cell (p := ⟨rb, 1, none⟩) hl9).trans C3.out⟩
    have kb7 : Blk w7 w.heap.size noSn 27 := Blk.below (w := w6.drew) K6.out.2 b7 (by show w.heap.size < w6.heap.size; omega)
    have HF := hide (And.intro kb7 (And.intro (kb7.row C) (below_setRow (B6.out.trans ((((Below.refl _ w6).drew).trans b7).mono (by show w.heap.size ≤ w6.heap.size; omega))) (Nat.le_refl _) C)))
    have HZ2 := hide (show C.size = 19 from HZ.out)
    clear kb7 b7
    refine hK.out _ _ s7 (fun hH => ?_)
    clear hK K s7
    try simp only [Act.put, List.setIfInBounds_toArray, List.set_cons_zero, List.set_cons_succ]
    refine wpAnyH_take (i := 7) (oi := _) (v := .agg C) rfl (by kernel_rfl) (by kernel_rfl) (by kernel_rfl) (fun _ _ _ h => h) (Or.inl ⟨by rfl, fun w' hw' => by go_simp⟩) hH ?_
    try simp only [Act.put, List.setIfInBounds_toArray, List.set_cons_zero, List.set_cons_succ]
    refine wpAnyH_take (i := 8) (oi := _) (v := .int .i64 0) rfl (by kernel_rfl) (by kernel_rfl) (by kernel_rfl) (fun _ _ _ h => h) (Or.inl ⟨by rfl, fun w' hw' => by go_simp⟩) hH ?_
    try simp only [Act.put, List.setIfInBounds_toArray, List.set_cons_zero, List.set_cons_succ]
    refine wpAnyH_ready (rs := [9]) (by kernel_rfl) (by simp) ?_
    refine AllReadyH.cons (o := _) rfl (fun K hK => ?_) AllReadyH.nil
    rw [if_pos (by rfl)]
    refine wp_store_row 27 _ _ rfl w.heap.size C rfl rfl 27 _ HF.out.1 (by rw [HZ2.out]; exact info19) (by first | (rw [HZ2.out]; done) | (rw [HZ2.out]; rfl)) (by first | exact HC1.out | exact noSn_one) ?_
    refine hK.out _ _ ⟨(setRow_block _ _ _ _ (by omega)).trans hH.1, (World.cell?_of_block (a := ⟨rb, 1, none⟩) (setRow_block _ _ _ _ (by show rb ≠ w.heap.size; omega))).trans hH.2⟩ (fun hH9 => ?_)
    clear hK K
    try simp only [Act.put, List.setIfInBounds_toArray, List.set_cons_zero, List.set_cons_succ]
    refine wpAnyH_ready (rs := [10]) (by kernel_rfl) (by simp) ?_
    refine AllReadyH.cons (o := _) rfl (fun K hK => ?_) AllReadyH.nil
    go_simp
    refine hK.out _ _ hH9 (fun hH10 => ?_)
    clear hK K
    try simp only [Act.put, List.setIfInBounds_toArray, List.set_cons_zero, List.set_cons_succ]
    refine wpAnyH_done (by kernel_rfl) (NoPanic.normal ?_) _
    clear hH hH9 hH10
    go_wp2
    refine bodyPost_ret (v := .tuple #[.agg C, .int .i64 0]) ?_ rfl ⟨C, true, HOK.out, rfl, HF.out.2.2⟩
    exact results_row_tmp rfl _ _ w.heap.size 27 C (0, 0) _ _ rfl rfl HF.out.2.1 Tryd.underlying27 rfl (by rw [HZ2.out]; exact info19)
  · have H6f := hide c4
    obtain ⟨t', x', rfl⟩ := c4.iface
    clear c4
    have C3 := hide c3
    clear c3
    go_wp2_with fail
    refine wp_region_noPanic ?_
    refine wp_region_held_drew (S := fun w' => Blk w' w2.heap.size C 27 ∧ w'.cell? ⟨rb, 1, none⟩ = some (.iface t' (.pointer (some x')))) (by kernel_rfl) ⟨K6.out.1, C3.out⟩ (fun hH => ?_)
    refine wpAnyH_take (i := 0) (oi := _) (v := .agg C) rfl (by kernel_rfl) (by kernel_rfl) (by kernel_rfl) (fun _ _ _ h => h) (yieldsIf_load_mid (by rfl) 27 _ rfl w2.heap.size 0 rfl C.toList _ (fun w' h => blk_range h.1) Tryd.underlying27 rfl (by rw [Array.length_toList, HZ.out]; exact info19)) hH ?_
    try simp only [Act.put, List.setIfInBounds_toArray, List.set_cons_zero, List.set_cons_succ]
    refine wpAnyH_take (i := 1) (oi := _) (v := (.pointer (some ⟨rb, 0, none⟩))) rfl (by kernel_rfl) (by kernel_rfl) (by kernel_rfl) (fun _ _ _ h => h) (Or.inl ⟨by rfl, fun w' hw' => by go_simp⟩) hH ?_
    try simp only [Act.put, List.setIfInBounds_toArray, List.set_cons_zero, List.set_cons_succ]
    refine wpAnyH_take (i := 2) (oi := _) (v := (.pointer (some ⟨rb, 0, none⟩))) rfl (by kernel_rfl) (by kernel_rfl) (by kernel_rfl) (fun _ _ _ h => h) (Or.inl ⟨by rfl, fun w' hw' => by go_simp⟩) hH ?_
    try simp only [Act.put, List.setIfInBounds_toArray, List.set_cons_zero, List.set_cons_succ]
    refine wpAnyH_take (i := 3) (oi := _) (v := (.pointer (some ⟨rb, 0, none⟩))) rfl (by kernel_rfl) (by kernel_rfl) (by kernel_rfl) (fun _ _ _ h => h) (Or.inl ⟨by rfl, fun w' hw' => by go_simp⟩) hH ?_
    try simp only [Act.put, List.setIfInBounds_toArray, List.set_cons_zero, List.set_cons_succ]
    refine wpAnyH_take (i := 4) (oi := _) (v := (.pointer (some ⟨rb, 1, none⟩))) rfl (by kernel_rfl) (by kernel_rfl) (by kernel_rfl) (fun _ _ _ h => h) (Or.inl ⟨by rfl, fun w' hw' => by go_simp⟩) hH ?_
    try simp only [Act.put, List.setIfInBounds_toArray, List.set_cons_zero, List.set_cons_succ]
    refine wpAnyH_take (i := 5) (oi := _) (v := .iface t' (.pointer (some x'))) rfl (by kernel_rfl) (by kernel_rfl) (by kernel_rfl) (fun _ _ _ h => h) (Or.inl ⟨by rfl, fun w' hw' => by have hc := hw'.2; clear hw'; go_simp⟩) hH ?_
    try simp only [Act.put, List.setIfInBounds_toArray, List.set_cons_zero, List.set_cons_succ]
    refine wpAnyH_ready (rs := [6]) (by kernel_rfl) (by simp) ?_
    refine AllReadyH.cons (o := _) rfl (fun K hK => ?_) AllReadyH.nil
    go_simp
    refine (toldS_bad C _ m _ 21 _ HZ.out HC1.out (H6f.out.below ((Below.refl _ _).drew)) ((HR.out.2.below B6.out).below ((Below.refl _ _).drew))).mono ?_
    rintro e w7 ⟨rfl, b7⟩
    have hl8 : w2.heap.size < w6.heap.size := K6.out.1.lt
    have hl9 : rb < w6.heap.size := by omega
    have s7 : Blk w7 w2.heap.size C 27 ∧ w7.cell? ⟨rb, 1, none⟩ = some (.iface t' (.pointer (some x'))) := ⟨Blk.below (w := w6.drew) K6.out.1 b7 hl8, (b7.cell (p := ⟨rb, 1, none⟩) hl9).trans C3.out⟩
    have kb7 : Blk w7 w.heap.size noSn 27 := Blk.below (w := w6.drew) K6.out.2 b7 (by show w.heap.size < w6.heap.size; omega)
    have HF := hide (And.intro kb7 (And.intro (kb7.row noSn) (below_setRow (B6.out.trans ((((Below.refl _ w6).drew).trans b7).mono (by show w.heap.size ≤ w6.heap.size; omega))) (Nat.le_refl _) noSn)))
    have HZ2 := hide (show noSn.size = 19 from rfl)
    clear kb7 b7
    refine hK.out _ _ s7 (fun hH => ?_)
    clear hK K s7
    try simp only [Act.put, List.setIfInBounds_toArray, List.set_cons_zero, List.set_cons_succ]
    refine wpAnyH_take (i := 7) (oi := _) (v := .agg noSn) rfl (by kernel_rfl) (by kernel_rfl) (by kernel_rfl) (fun _ _ _ h => h) (Or.inl ⟨by rfl, fun w' hw' => by go_simp⟩) hH ?_
    try simp only [Act.put, List.setIfInBounds_toArray, List.set_cons_zero, List.set_cons_succ]
    refine wpAnyH_take (i := 8) (oi := _) (v := .int .i64 21) rfl (by kernel_rfl) (by kernel_rfl) (by kernel_rfl) (fun _ _ _ h => h) (Or.inl ⟨by rfl, fun w' hw' => by go_simp⟩) hH ?_
    try simp only [Act.put, List.setIfInBounds_toArray, List.set_cons_zero, List.set_cons_succ]
    refine wpAnyH_ready (rs := [9]) (by kernel_rfl) (by simp) ?_
    refine AllReadyH.cons (o := _) rfl (fun K hK => ?_) AllReadyH.nil
    rw [if_pos (by rfl)]
    refine wp_store_row 27 _ _ rfl w.heap.size noSn rfl rfl 27 _ HF.out.1 (by rw [HZ2.out]; exact info19) (by first | (rw [HZ2.out]; done) | (rw [HZ2.out]; rfl)) (by first | exact HC1.out | exact noSn_one) ?_
    refine hK.out _ _ ⟨(setRow_block _ _ _ _ (by omega)).trans hH.1, (World.cell?_of_block (a := ⟨rb, 1, none⟩) (setRow_block _ _ _ _ (by show rb ≠ w.heap.size; omega))).trans hH.2⟩ (fun hH9 => ?_)
    clear hK K
    try simp only [Act.put, List.setIfInBounds_toArray, List.set_cons_zero, List.set_cons_succ]
    refine wpAnyH_ready (rs := [10]) (by kernel_rfl) (by simp) ?_
    refine AllReadyH.cons (o := _) rfl (fun K hK => ?_) AllReadyH.nil
    go_simp
    refine hK.out _ _ hH9 (fun hH10 => ?_)
    clear hK K
    try simp only [Act.put, List.setIfInBounds_toArray, List.set_cons_zero, List.set_cons_succ]
    refine wpAnyH_done (by kernel_rfl) (NoPanic.normal ?_) _
    clear hH hH9 hH10
    go_wp2
    refine bodyPost_ret (v := .tuple #[.agg noSn, .int .i64 21]) ?_ rfl ⟨C, false, HOK.out, rfl, HF.out.2.2⟩
    exact results_row_tmp rfl _ _ w.heap.size 27 noSn (0, 0) _ _ rfl rfl HF.out.2.1 Tryd.underlying27 rfl (by rw [HZ2.out]; exact info19)
end Go.Proofs.YtkaennkfieebmaaDoor

namespace Go.Proofs.YtkaennkfieebmaaDoor
set_option linter.unusedVariables false
set_option linter.unusedSimpArgs false
open Go.RowKit

def plS (zs : List Int) : Int := ((unle ((zs.drop 8).take 1) : Nat) : Int)
def nmS (zs : List Int) : ByteArray := strOfNums ((zs.drop 10).take (nlen zs))
/-- The model's reading is right. -/
def rightM (zs : List Int) : Bool := rightS (plS zs) (nmS zs) (mg zs 40 8) (mg zs 48 8) (mS (mR zs 56)) (gwords (mR zs 56) 12) (mP (mR zs 56)) (mQ (mR zs 56))
def snapM (zs : List Int) : Array Value := snapC (plS zs) (nmS zs) (mg zs 40 8) (mg zs 48 8) (mS (mR zs 56)) (gwords (mR zs 56) 12) (mP (mR zs 56)) (mQ (mR zs 56))
def bytesSM (zs : List Int) : List Int := bytesS (plS zs).toNat (nmS zs) (mg zs 40 8).toNat (mg zs 48 8).toNat (mS (mR zs 56)) (gwords (mR zs 56) 12) (mP (mR zs 56)) (mQ (mR zs 56))
def encM (zs : List Int) : List Int := encS (plS zs) (nmS zs) (mg zs 40 8) (mg zs 48 8) (mS (mR zs 56)) (gwords (mR zs 56) 12) (mP (mR zs 56)) (mQ (mR zs 56))
def okSn (zs : List Int) : Bool := decide (zs.length = 512) && (decide (nlen zs ≤ 26) && (rightM zs && decide (encM zs = zs)))
def decSn (zs : List Int) : Array Value := if okSn zs = true then snapM zs else noSn
def codeDS (zs : List Int) : Int := if okSn zs = true then 0 else 21
theorem encM_eq (zs : List Int) (h : rightM zs = true) : encM zs = sealed (bytesSM zs) := by
  unfold rightM at h
  unfold encM encS bytesSM
  rw [if_pos h]
theorem strInts_str : ∀ (xs : List Int), (∀ z ∈ xs, 0 ≤ z ∧ z < 256) → strInts (strOfNums xs) = xs := by
  intro xs h
  unfold strInts
  rw [strOfNums_data]
  induction xs with
  | nil => rfl
  | cons x xs ih =>
    have hx := h x (by simp)
    rw [List.map_cons, List.map_cons, ih (fun z hz => h z (by simp [hz]))]
    congr 1
    simp only [UInt8.toNat_ofNat']
    omega
theorem nlen_lt (zs : List Int) (h : ∀ z ∈ zs, 0 ≤ z ∧ z < 256) : nlen zs < 256 := by
  unfold nlen
  match e : (zs.drop 9).take 1 with
  | [] => decide
  | [x] =>
    have hx := bytes_cut h 9 1 x (by rw [e]; simp)
    simp only [unle]
    omega
  | x :: y :: r =>
    have := congrArg List.length e
    simp at this
    omega
theorem nmS_size (zs : List Int) (h : ∀ z ∈ zs, 0 ≤ z ∧ z < 256) (hz : 300 ≤ zs.length) : (nmS zs).size = nlen zs ∧ strInts (nmS zs) = (zs.drop 10).take (nlen zs) := by
  have e := strInts_str _ (bytes_cut h 10 (nlen zs))
  refine ⟨?_, e⟩
  have hl := nlen_lt zs h
  rw [← strInts_len]
  unfold nmS
  rw [e]
  simp
  omega
theorem rightM_nlen (zs : List Int) (h : ∀ z ∈ zs, 0 ≤ z ∧ z < 256) (hz : 300 ≤ zs.length) (hr : rightM zs = true) : nlen zs ≤ 26 := by
  unfold rightM rightS at hr
  simp only [Bool.and_eq_true] at hr
  have := chk_size hr.1.1.1.2
  rw [(nmS_size zs h hz).1] at this
  exact this.1
/-- What the program reads is what the model reads. -/
theorem snap_agree (zs : List Int) (h : ∀ z ∈ zs, 0 ≤ z ∧ z < 256) (hz : 300 ≤ zs.length) (pl : Int) (nm : ByteArray) (ge cl s : Int) (ds : List Int) (p q : Int) (hd : ds.length = 12) (hr : SnapAt zs pl nm ge cl s ds p q) :
    rightS pl nm ge cl s ds p q = rightM zs ∧
    (rightS pl nm ge cl s ds p q = true → snapC pl nm ge cl s ds p q = snapM zs ∧ le 8 (mg zs 40 8).toNat = (zs.drop 40).take 8 ∧ le 8 (mg zs 48 8).toNat = (zs.drop 48).take 8 ∧ bytesR (mS (mR zs 56)) (gwords (mR zs 56) 12) (mP (mR zs 56)) (mQ (mR zs 56)) = mR zs 56) := by
  obtain ⟨e0, e1, e2, e3, R1⟩ := hr
  have L1 : (mR zs 56).length = 64 := by unfold mR; simp; omega
  have B1 : ∀ z ∈ mR zs 56, 0 ≤ z ∧ z < 256 := bytes_cut h 56 64
  obtain ⟨a1, a2, a3, a4, a5⟩ := root_agree (mR zs 56) s ds p q B1 L1 hd (root_shiftL R1)
  have E2 := eightB _ (unle8_lt zs h 40)
  have E3 := eightB _ (unle8_lt zs h 48)
  rw [← e2] at E2
  rw [← e3] at E3
  change pl = plS zs at e0
  change nm = nmS zs at e1
  subst e0 e1
  unfold rightM snapM
  change rightR s ds p q = rightR (mS (mR zs 56)) ds p q at a4
  change rightR s ds p q = true → s = mS (mR zs 56) ∧ bytesR s ds p q = mR zs 56 at a5
  change p = mP (mR zs 56) at a2
  change q = mQ (mR zs 56) at a3
  rw [← a1, ← a2, ← a3]
  clear a1 a2 a3
  generalize mS (mR zs 56) = y1 at a4 a5 ⊢
  have M2 : mg zs 40 8 = ((gval ((zs.drop 40).take 8) : Nat) : Int) := rfl
  have M3 : mg zs 48 8 = ((gval ((zs.drop 48).take 8) : Nat) : Int) := rfl
  rw [M2, M3]
  rcases E2 with ⟨g2, k2⟩ | g2
  · rcases E3 with ⟨g3, k3⟩ | g3
    · cases c1 : rightR s ds p q with
      | false =>
        rw [c1] at a4
        have hA : rightS (plS zs) (nmS zs) ge cl s ds p q = false := by simp [rightS, c1]
        have hB : rightS (plS zs) (nmS zs) ((gval ((zs.drop 40).take 8) : Nat) : Int) ((gval ((zs.drop 48).take 8) : Nat) : Int) y1 ds p q = false := by simp [rightS, ← a4]
        exact ⟨by rw [hA, hB], fun hh => by rw [hA] at hh; cases hh⟩
      | true =>
        obtain ⟨d1, d2⟩ := a5 c1
        subst d1
        refine ⟨by rw [g2, g3], fun _ => ⟨by rw [g2, g3], ?_, ?_, d2⟩⟩
        · rw [k2, Int.toNat_natCast]; exact le_at h 40 8 (by omega)
        · rw [k3, Int.toNat_natCast]; exact le_at h 48 8 (by omega)
    · have hA : rightS (plS zs) (nmS zs) ge cl s ds p q = false := by simp [rightS, (g3 1 (by omega)).1]
      refine ⟨?_, fun hh => by rw [hA] at hh; cases hh⟩
      rw [hA]
      simp [rightS, (g3 1 (by omega)).2]
  · have hA : rightS (plS zs) (nmS zs) ge cl s ds p q = false := by simp [rightS, (g2 1 (by omega)).1]
    refine ⟨?_, fun hh => by rw [hA] at hh; cases hh⟩
    rw [hA]
    simp [rightS, (g2 1 (by omega)).2]
/-- The model's own reading is one of the program's kind. -/
theorem bytes_modelS (zs : List Int) (h : ∀ z ∈ zs, 0 ≤ z ∧ z < 256) (hz : 300 ≤ zs.length) (hr : rightM zs = true) : le 8 (mg zs 40 8).toNat = (zs.drop 40).take 8 ∧ le 8 (mg zs 48 8).toNat = (zs.drop 48).take 8 ∧ bytesR (mS (mR zs 56)) (gwords (mR zs 56) 12) (mP (mR zs 56)) (mQ (mR zs 56)) = mR zs 56 := by
  have hR : RootAt zs 56 (wrap64 ((unle ((zs.drop 56).take 8) : Nat) : Int)) (wordsFrom zs (56 + 8) 12) ((unle ((zs.drop (56 + 8 + 4 * 12)).take 4) : Nat) : Int) ((unle ((zs.drop (56 + 8 + 4 * 13)).take 4) : Nat) : Int) := ⟨rfl, by
    have e1 : wordsFrom zs (56 + 8) 13 = wordsFrom zs (56 + 8) 12 ++ [((unle ((zs.drop (56 + 8 + 4 * 12)).take 4) : Nat) : Int)] := wordsFrom_succ zs (56 + 8) 12
    have e2 : wordsFrom zs (56 + 8) 14 = wordsFrom zs (56 + 8) 13 ++ [((unle ((zs.drop (56 + 8 + 4 * 13)).take 4) : Nat) : Int)] := wordsFrom_succ zs (56 + 8) 13
    rw [e2, e1, List.append_assoc]
    rfl⟩
  obtain ⟨e1, e2⟩ := snap_agree zs h hz (plS zs) (nmS zs) _ _ _ _ _ _ (wordsFrom_len _ _ _) ⟨rfl, rfl, rfl, rfl, hR⟩
  exact (e2 (by rw [e1]; exact hr)).2
theorem snapLet_bd : ∀ z ∈ snapLet, 0 ≤ z ∧ z < 256 := by decide
/-- The bytes that the model lays down again, beside those that it read. -/
theorem bytesSM_parts (zs : List Int) (h : ∀ z ∈ zs, 0 ≤ z ∧ z < 256) (hz : 300 ≤ zs.length) (hr : rightM zs = true) :
    bytesSM zs = snapLet ++ ((zs.drop 8).take 1 ++ ((zs.drop 9).take 1 ++ ((zs.drop 10).take (nlen zs) ++ (List.replicate (30 - nlen zs) 0 ++ ((zs.drop 40).take 8 ++ ((zs.drop 48).take 8 ++ (zs.drop 56).take 64)))))) := by
  obtain ⟨b1, b2, b3⟩ := bytes_modelS zs h hz hr
  obtain ⟨n1, n2⟩ := nmS_size zs h hz
  have hp : le 1 (plS zs).toNat = (zs.drop 8).take 1 := by
    unfold plS
    rw [Int.toNat_natCast]
    exact le_at h 8 1 (by omega)
  have hn : le 1 (nlen zs) = (zs.drop 9).take 1 := le_at h 9 1 (by omega)
  unfold bytesSM bytesS
  rw [b1, b2, b3, n1, n2, hp, hn, show 40 - (10 + nlen zs) = 30 - nlen zs by omega]
  unfold mR
  simp only [List.append_assoc]
theorem bytes_parts (zs : List Int) (n : Nat) (hn : n ≤ 30) : (zs.drop 8).take 112 = (zs.drop 8).take 1 ++ ((zs.drop 9).take 1 ++ ((zs.drop 10).take n ++ ((zs.drop (10 + n)).take (30 - n) ++ ((zs.drop 40).take 8 ++ ((zs.drop 48).take 8 ++ (zs.drop 56).take 64))))) := by
  have e : (112 : Nat) = 1 + (1 + (n + ((30 - n) + (8 + (8 + 64))))) := by omega
  rw [e, cut_take zs 8 1, cut_take zs (8 + 1) 1, cut_take zs (8 + 1 + 1) n, cut_take zs (8 + 1 + 1 + n) (30 - n), cut_take zs (8 + 1 + 1 + n + (30 - n)) 8, cut_take zs (8 + 1 + 1 + n + (30 - n) + 8) 8]
  rw [show 8 + 1 + 1 + n + (30 - n) = 40 by omega]
theorem gap_take (zs : List Int) (hz : zs.length = 512) : nlen (zs.take 508) = nlen zs ∧ gapN (zs.take 508) = gapN zs := by
  have e1 : nlen (zs.take 508) = nlen zs := by
    unfold nlen
    rw [List.drop_take, List.take_take, Nat.min_eq_left (by omega)]
  refine ⟨e1, ?_⟩
  unfold gapN
  rw [e1]
  by_cases hn : nlen zs ≤ 30
  · rw [List.drop_take, List.take_take, Nat.min_eq_left (by omega)]
  · rw [decide_eq_false hn, Bool.false_and, Bool.false_and]
theorem frame_iffS (zs : List Int) (h : ∀ z ∈ zs, 0 ≤ z ∧ z < 256) (hz : zs.length = 512) (hr : rightM zs = true) : sealed (bytesSM zs) = zs ↔ frameS zs = true := by
  have hn := rightM_nlen zs h (by omega) hr
  have hB := bytesSM_parts zs h (by omega) hr
  have hg : gapN (zs.take 508) = allz ((zs.drop (10 + nlen zs)).take (30 - nlen zs)) := by
    rw [(gap_take zs hz).2]
    unfold gapN
    rw [decide_eq_true (show nlen zs ≤ 30 by omega), Bool.true_and]
  have hgl : ((zs.drop (10 + nlen zs)).take (30 - nlen zs)).length = 30 - nlen zs := by simp; omega
  cases ha : allz ((zs.drop (10 + nlen zs)).take (30 - nlen zs)) with
  | true =>
    have hrep := allz_rep _ ha
    rw [hgl] at hrep
    have hB2 : bytesSM zs = snapLet ++ (zs.drop 8).take 112 := by
      rw [hB, bytes_parts zs (nlen zs) (by omega), hrep]
    rw [hB2, sealed_iff zs snapLet 112 h hz rfl snapLet_bd (by omega)]
    unfold frameS sumB
    rw [hg, ha]
    simp only [Bool.and_eq_true, decide_eq_true_eq, and_true]
    constructor
    · rintro ⟨a, b, c⟩; exact ⟨⟨c, a⟩, b⟩
    · rintro ⟨⟨c, a⟩, b⟩; exact ⟨a, b, c⟩
  | false =>
    constructor
    · intro e
      exfalso
      unfold sealed pad at e
      rw [hB] at e
      have e2 := congrArg (fun l => (l.drop (10 + nlen zs)).take (30 - nlen zs)) e
      change List.take (30 - nlen zs) (List.drop (10 + nlen zs) _) = _ at e2
      have hl : (snapLet ++ ((zs.drop 8).take 1 ++ ((zs.drop 9).take 1 ++ (zs.drop 10).take (nlen zs)))).length = 10 + nlen zs := by simp [snapLet]; omega
      have e3 : allz ((zs.drop (10 + nlen zs)).take (30 - nlen zs)) = true := by
        rw [← e2]
        have hh : ∀ (X Y : List Int), ((snapLet ++ ((zs.drop 8).take 1 ++ ((zs.drop 9).take 1 ++ ((zs.drop 10).take (nlen zs) ++ (List.replicate (30 - nlen zs) 0 ++ X))))) ++ Y) = (snapLet ++ ((zs.drop 8).take 1 ++ ((zs.drop 9).take 1 ++ (zs.drop 10).take (nlen zs)))) ++ (List.replicate (30 - nlen zs) 0 ++ (X ++ Y)) := fun X Y => by simp only [List.append_assoc]
        rw [List.append_assoc, hh, List.drop_left' hl, List.take_left' (by simp)]
        exact allz_of_rep _
      rw [ha] at e3
      cases e3
    · intro hf
      unfold frameS at hf
      rw [hg, ha] at hf
      simp at hf
theorem at508S {zs : List Int} {pl : Int} {nm : ByteArray} {ge cl s : Int} {ds : List Int} {p q : Int} (hb : ∀ z ∈ zs, 0 ≤ z ∧ z < 256) (hz : zs.length = 512) (h : SnapAt (zs.take 508) pl nm ge cl s ds p q) : SnapAt zs pl nm ge cl s ds p q := by
  obtain ⟨h0, h1, h2, h3, ⟨h7, h8⟩⟩ := h
  have hn := nlen_lt zs hb
  have e : ∀ lo n, lo + n ≤ 508 → ((zs.take 508).drop lo).take n = (zs.drop lo).take n := fun lo n hn => by rw [List.drop_take, List.take_take, Nat.min_eq_left (by omega)]
  have ew : ∀ p n, p + 4 * n ≤ 508 → wordsFrom (zs.take 508) p n = wordsFrom zs p n := fun p n hn => by
    have := wordsFrom_shift zs 0 508 p n hn
    rw [List.drop_zero, Nat.zero_add] at this
    exact this
  rw [e 8 1 (by omega)] at h0
  rw [(gap_take zs hz).1, e 10 _ (by omega)] at h1
  rw [e 40 8 (by omega)] at h2
  rw [e 48 8 (by omega)] at h3
  rw [e 56 8 (by omega)] at h7
  rw [ew _ 14 (by omega)] at h8
  exact ⟨h0, h1, h2, h3, ⟨h7, h8⟩⟩
theorem read_sameS (zs : List Int) (C : Array Value) (ok : Bool) (h : ∀ z ∈ zs, 0 ≤ z ∧ z < 256) (hR : SnapRead zs C ok) : (if ok = true then C else noSn) = decSn zs ∧ (if ok = true then (0 : Int) else 21) = codeDS zs := by
  obtain ⟨pl, nm, ge, cl, s, ds, p, q, hd, hnm, rfl, h1, h2, h3⟩ := hR
  by_cases hz : zs.length = 512
  · cases hf : frameS zs with
    | true =>
      obtain ⟨hat, hok⟩ := h3 hz hf
      obtain ⟨e1, e2⟩ := snap_agree zs h (by omega) pl nm ge cl s ds p q hd (at508S h hz hat)
      have e3 : okSn zs = ok := by
        unfold okSn
        rw [decide_eq_true hz, Bool.true_and, hok, e1]
        cases hr : rightM zs with
        | false => rw [Bool.false_and, Bool.and_false]
        | true =>
          rw [Bool.true_and, decide_eq_true (rightM_nlen zs h (by omega) hr), Bool.true_and, decide_eq_true_eq, encM_eq zs hr]
          exact (frame_iffS zs h hz hr).2 hf
      unfold decSn codeDS
      rw [e3]
      refine ⟨?_, rfl⟩
      cases hk : ok with
      | false => rfl
      | true => exact (e2 (by rw [← hok]; exact hk)).1
    | false =>
      have hk := h2 hz hf
      have e3 : okSn zs = false := by
        unfold okSn
        rw [decide_eq_true hz, Bool.true_and]
        cases hr : rightM zs with
        | false => rw [Bool.false_and, Bool.and_false]
        | true =>
          have : decide (encM zs = zs) = false := by
            rw [decide_eq_false_iff_not, encM_eq zs hr]
            intro he
            have := (frame_iffS zs h hz hr).1 he
            rw [hf] at this
            cases this
          rw [this, Bool.and_false, Bool.and_false]
      unfold decSn codeDS
      rw [e3, hk]
      exact ⟨rfl, rfl⟩
  · have hk := h1 hz
    have e3 : okSn zs = false := by unfold okSn; rw [decide_eq_false hz]; rfl
    unfold decSn codeDS
    rw [e3, hk]
    exact ⟨rfl, rfl⟩
theorem implDS_same (v : Value) (zs : List Int) (w : World) (h : Rd .u8 w v zs) (hbd : ∀ z ∈ zs, 0 ≤ z ∧ z < 256) (hz : zs.length ≤ 1048576) (hg : ErrT w) (hL : LetS w) :
    Calls Tryd.prog 7 #[v] w fun e w' => e = .returned (.tuple #[.agg (decSn zs), .int .i64 (codeDS zs)]) ∧ Below w.heap.size w w' := by
  refine (implDS_any v zs w h hbd hz hg hL).mono ?_
  rintro e w' ⟨X, ok, hR, rfl, hb⟩
  obtain ⟨e1, e2⟩ := read_sameS zs X ok hbd hR
  rw [e1, e2]
  exact ⟨rfl, hb⟩
theorem decSn_sn (zs : List Int) (h : ∀ z ∈ zs, 0 ≤ z ∧ z < 256) : ∃ pl nm ge cl s ds p q, ds.length = 12 ∧ nm.size ≤ 255 ∧ decSn zs = snapC pl nm ge cl s ds p q := by
  unfold decSn
  by_cases ho : okSn zs = true
  · rw [if_pos ho]
    unfold okSn at ho
    simp only [Bool.and_eq_true, decide_eq_true_eq] at ho
    exact ⟨_, _, _, _, _, _, _, _, gwords_len _ _, by rw [(nmS_size zs h (by omega)).1]; omega, rfl⟩
  · rw [if_neg ho]
    exact ⟨0, ⟨#[]⟩, 0, 0, 0, List.replicate 12 0, 0, 0, rfl, by decide, rfl⟩
end Go.Proofs.YtkaennkfieebmaaDoor
