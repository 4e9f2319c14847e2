/- The model's l07Entries. -/
import Derived.Test.YtplieplmhdfndaaGreatDoorZg16
import Derived.Deep.OwnRows
import Derived.Deep.CutRange
import Derived.BigQuiet
import Derived.Deep.QuietTactic
namespace Go.Proofs.YtplieplmhdfndaaGreatDoor
set_option linter.unusedVariables false
set_option linter.unusedSimpArgs false
open Go.RowKit

theorem infoIn : (Tryz.prog.info? 3).map (fun i => (i.zero, i.size, i.bytes)) = some (some (.int .i64 0), 1, 8) := by kernel_rfl
/-- Three rows of numbers and a flag, in memory behind W. -/
structure TlI (N : Nat) (W : World) (g g1 g2 g3 : Nat) (xn xf xd : List Int) (ok : Bool) (wr : World) : Prop where
  blk : Blk wr g #[.slice (some ⟨g1, 0, none⟩) N N, .slice (some ⟨g2, 0, none⟩) N N, .slice (some ⟨g3, 0, none⟩) N N, .bool ok] 123
  r1 : Blk wr g1 (cellsI xn) 3
  r2 : Blk wr g2 (cellsI xf) 3
  r3 : Blk wr g3 (cellsI xd) 3
  n12 : g1 ≠ g2
  n13 : g1 ≠ g3
  n23 : g2 ≠ g3
  lo : W.heap.size ≤ g ∧ W.heap.size ≤ g1 ∧ W.heap.size ≤ g2 ∧ W.heap.size ≤ g3
  bel : Below W.heap.size W wr
theorem al4 (W : World) (a b c d : Obj) : ((((W.alloc a).alloc b).alloc c).alloc d).heap[W.heap.size]? = some a ∧ ((((W.alloc a).alloc b).alloc c).alloc d).heap[W.heap.size + 1]? = some b ∧ ((((W.alloc a).alloc b).alloc c).alloc d).heap[W.heap.size + 1 + 1]? = some c ∧ ((((W.alloc a).alloc b).alloc c).alloc d).heap[W.heap.size + 1 + 1 + 1]? = some d ∧ Below W.heap.size W ((((W.alloc a).alloc b).alloc c).alloc d) := by
  have s1 : (W.alloc a).heap.size = W.heap.size + 1 := by simp
  have s2 : ((W.alloc a).alloc b).heap.size = W.heap.size + 1 + 1 := by simp
  have s3 : (((W.alloc a).alloc b).alloc c).heap.size = W.heap.size + 1 + 1 + 1 := by simp
  have k0 := heap_alloc_new W a
  have k1 := heap_alloc_new (W.alloc a) b
  have k2 := heap_alloc_new ((W.alloc a).alloc b) c
  have k3 := heap_alloc_new (((W.alloc a).alloc b).alloc c) d
  rw [s1] at k1
  rw [s2] at k2
  rw [s3] at k3
  refine ⟨?_, ?_, ?_, k3, ?_⟩
  · rw [Below.heap_alloc _ _ _ (by rw [s3]; omega), Below.heap_alloc _ _ _ (by rw [s2]; omega), Below.heap_alloc _ _ _ (by rw [s1]; omega)]; exact k0
  · rw [Below.heap_alloc _ _ _ (by rw [s3]; omega), Below.heap_alloc _ _ _ (by rw [s2]; omega)]; exact k1
  · rw [Below.heap_alloc _ _ _ (by rw [s3]; omega)]; exact k2
  · exact ((((Below.refl _ _).alloc (Nat.le_refl _) a).alloc (by rw [s1]; omega) b).alloc (by rw [s2]; omega) c).alloc (by rw [s3]; omega) d
theorem zeros_row (N : Nat) : madeCells #[Value.int .i64 0] N = cellsI (List.replicate N 0) := by
  unfold cellsI
  apply Array.ext'
  rw [toList_madeCells_one]
  simp
theorem TlI.set1 {N : Nat} {W wr : World} {g g1 g2 g3 : Nat} {xn xf xd : List Int} {ok : Bool} (h : TlI N W g g1 g2 g3 xn xf xd ok wr) (i : Nat) (z : Int) : TlI N W g g1 g2 g3 (xn.set i z) xf xd ok (wr.setCell ⟨g1, i, none⟩ (.int .i64 z)) :=
  ⟨h.blk.other _ _ (fun e => by have h1 := h.blk; have h2 := h.r1; have e' : g = g1 := e; subst e'; unfold Blk at h1 h2; rw [h1] at h2; injection h2 with h2; injection h2 with _ h3; revert h3; decide), by have := h.r1.set i (.int .i64 z); rw [cellsI_set] at this; exact this, h.r2.other _ _ (fun e => h.n12 e.symm), h.r3.other _ _ (fun e => h.n13 e.symm), h.n12, h.n13, h.n23, h.lo, h.bel.setCell h.lo.2.1 _⟩
theorem TlI.set2 {N : Nat} {W wr : World} {g g1 g2 g3 : Nat} {xn xf xd : List Int} {ok : Bool} (h : TlI N W g g1 g2 g3 xn xf xd ok wr) (i : Nat) (z : Int) : TlI N W g g1 g2 g3 xn (xf.set i z) xd ok (wr.setCell ⟨g2, i, none⟩ (.int .i64 z)) :=
  ⟨h.blk.other _ _ (fun e => by have h1 := h.blk; have h2 := h.r2; have e' : g = g2 := e; subst e'; unfold Blk at h1 h2; rw [h1] at h2; injection h2 with h2; injection h2 with _ h3; revert h3; decide), h.r1.other _ _ h.n12, by have := h.r2.set i (.int .i64 z); rw [cellsI_set] at this; exact this, h.r3.other _ _ (fun e => h.n23 e.symm), h.n12, h.n13, h.n23, h.lo, h.bel.setCell h.lo.2.2.1 _⟩
theorem TlI.set3 {N : Nat} {W wr : World} {g g1 g2 g3 : Nat} {xn xf xd : List Int} {ok : Bool} (h : TlI N W g g1 g2 g3 xn xf xd ok wr) (i : Nat) (z : Int) : TlI N W g g1 g2 g3 xn xf (xd.set i z) ok (wr.setCell ⟨g3, i, none⟩ (.int .i64 z)) :=
  ⟨h.blk.other _ _ (fun e => by have h1 := h.blk; have h2 := h.r3; have e' : g = g3 := e; subst e'; unfold Blk at h1 h2; rw [h1] at h2; injection h2 with h2; injection h2 with _ h3; revert h3; decide), h.r1.other _ _ h.n13, h.r2.other _ _ h.n23, by have := h.r3.set i (.int .i64 z); rw [cellsI_set] at this; exact this, h.n12, h.n13, h.n23, h.lo, h.bel.setCell h.lo.2.2.2 _⟩
theorem TlI.below {N : Nat} {W wr w' : World} {g g1 g2 g3 : Nat} {xn xf xd : List Int} {ok : Bool} (h : TlI N W g g1 g2 g3 xn xf xd ok wr) (hb : Below wr.heap.size wr w') : TlI N W g g1 g2 g3 xn xf xd ok w' :=
  ⟨h.blk.below hb h.blk.lt, h.r1.below hb h.r1.lt, h.r2.below hb h.r2.lt, h.r3.below hb h.r3.lt, h.n12, h.n13, h.n23, h.lo, h.bel.trans (hb.mono h.bel.size)⟩
theorem row_rd {W : World} {g N : Nat} {xs : List Int} (h : Blk W g (cellsI xs) 3) (hl : xs.length = N) (hN : N ≤ 1048576) : Rd .i64 W (.slice (some ⟨g, 0, none⟩) N N) xs := by
  refine ⟨some ⟨g, 0, none⟩, N, by rw [hl], by rw [hl]; unfold maxLen; omega, fun _ => ⟨g, 0, rfl, h.lt, fun i hi => ?_⟩, by omega, by unfold maxLen; omega⟩
  rw [Nat.zero_add, h.cell i, cellsI_get xs i hi]
/-- What l07Entries answers. -/
def TalR (L : List Nd) (w w' : World) (r : Ending) : Prop := ∃ v1 v2 v3 ok, r = .returned (.agg #[v1, v2, v3, .bool ok]) ∧ (ok = true ↔ EntTo L L.length) ∧ (ok = true → Rd .i64 w' v1 (rowQ L.length (tnQ (allQ L L.length))) ∧ Rd .i64 w' v2 (rowQ L.length (tfQ (allQ L L.length))) ∧ Rd .i64 w' v3 (rowQ L.length (tdQ (allQ L L.length)))) ∧ Below w.heap.size w w' ∧ ∃ a1 l1 c1 a2 l2 c2 a3 l3 c3, v1 = .slice a1 l1 c1 ∧ v2 = .slice a2 l2 c2 ∧ v3 = .slice a3 l3 c3
theorem infoTl : (Tryz.prog.info? 123).map (·.size) = some 4 := by kernel_rfl
/-- In the midst of a state's entries: the rows tell of Q. -/
def EnI (L : List Nd) (W : World) (g g1 g2 g3 : Nat) (Q : QE) (wr : World) : Prop := TlI L.length W g g1 g2 g3 (rowQ L.length (tnQ Q)) (rowQ L.length (tfQ Q)) (rowQ L.length (tdQ Q)) true wr
theorem EnI.zero {L : List Nd} {W wr : World} {g g1 g2 g3 : Nat} (h : TlI L.length W g g1 g2 g3 (List.replicate L.length 0) (List.replicate L.length 0) (List.replicate L.length 0) true wr) : EnI L W g g1 g2 g3 [] wr := by
  have e : ∀ f : Nat → Int, (∀ i, f i = 0) → rowQ L.length f = List.replicate L.length 0 := fun f hf => by
    unfold rowQ
    apply List.ext_getElem?
    intro i
    by_cases hi : i < L.length <;> simp [hi, hf]
  unfold EnI
  rw [e (tnQ []) (fun _ => rfl), e (tfQ []) (fun _ => rfl), e (tdQ []) (fun _ => rfl)]
  exact h
/-- One entry tallied, not a directory. -/
theorem EnI.file {L : List Nd} {W wr : World} {g g1 g2 g3 k : Nat} {Q : QE} {e : ByteArray × Nat × Nat} (h : EnI L W g g1 g2 g3 Q wr) (he : e.2.2 ≠ 2) : EnI L W g g1 g2 g3 (Q ++ [(k, e)]) ((wr.setCell ⟨g1, e.2.1, none⟩ (.int .i64 (tnQ Q e.2.1 + 1))).setCell ⟨g2, e.2.1, none⟩ (.int .i64 (k : Int))) := by
  have h2 := (TlI.set1 h e.2.1 (tnQ Q e.2.1 + 1)).set2 e.2.1 (k : Int)
  unfold EnI
  rw [rowQ_set L.length (tnQ Q) (tnQ (Q ++ [(k, e)])) e.2.1 (fun j _ hj => by rw [tnQ_snoc, if_neg (fun h => hj h.symm)]), rowQ_set L.length (tfQ Q) (tfQ (Q ++ [(k, e)])) e.2.1 (fun j _ hj => by rw [tfQ_snoc, if_neg (fun h => hj h.symm)]), tnQ_snoc, if_pos rfl, tfQ_snoc, if_pos rfl]
  have : tdQ (Q ++ [(k, e)]) = tdQ Q := by funext j; rw [tdQ_snoc, if_neg (fun h => he h.2)]
  rw [this]
  exact h2
theorem EnI.dir {L : List Nd} {W wr : World} {g g1 g2 g3 k : Nat} {Q : QE} {e : ByteArray × Nat × Nat} (h : EnI L W g g1 g2 g3 Q wr) (he : e.2.2 = 2) : EnI L W g g1 g2 g3 (Q ++ [(k, e)]) (((wr.setCell ⟨g1, e.2.1, none⟩ (.int .i64 (tnQ Q e.2.1 + 1))).setCell ⟨g2, e.2.1, none⟩ (.int .i64 (k : Int))).setCell ⟨g3, k, none⟩ (.int .i64 (tdQ Q k + 1))) := by
  have h2 := ((TlI.set1 h e.2.1 (tnQ Q e.2.1 + 1)).set2 e.2.1 (k : Int)).set3 k (tdQ Q k + 1)
  unfold EnI
  rw [rowQ_set L.length (tnQ Q) (tnQ (Q ++ [(k, e)])) e.2.1 (fun j _ hj => by rw [tnQ_snoc, if_neg (fun h => hj h.symm)]), rowQ_set L.length (tfQ Q) (tfQ (Q ++ [(k, e)])) e.2.1 (fun j _ hj => by rw [tfQ_snoc, if_neg (fun h => hj h.symm)]), rowQ_set L.length (tdQ Q) (tdQ (Q ++ [(k, e)])) k (fun j _ hj => by rw [tdQ_snoc, if_neg (fun h => hj h.1.symm)]), tnQ_snoc, if_pos rfl, tfQ_snoc, if_pos rfl, tdQ_snoc, if_pos ⟨rfl, he⟩]
  exact h2
end Go.Proofs.YtplieplmhdfndaaGreatDoor
