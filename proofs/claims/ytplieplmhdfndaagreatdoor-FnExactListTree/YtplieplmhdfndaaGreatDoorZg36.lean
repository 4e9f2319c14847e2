/- The program's entriesFault. -/
import Derived.Test.YtplieplmhdfndaaGreatDoorZg35
namespace Go.Proofs.YtplieplmhdfndaaGreatDoor
set_option linter.unusedVariables false
set_option linter.unusedSimpArgs false
open Go.RowKit Go.Shelf
attribute [local go_sem] Oper.semAt_some

/-- The counts: of each number the names, and the directories among its own entries. -/
def cntL (N : Nat) (Q : QE) : List Int := (List.range N).flatMap (fun i => [tnQ Q i, tdQ Q i])
theorem flat2_len (f g : Nat → Int) : ∀ N, ((List.range N).flatMap (fun i => [f i, g i])).length = N * 2
  | 0 => rfl
  | N + 1 => by rw [List.range_succ, List.flatMap_append, List.length_append, flat2_len f g N]; simp; omega
theorem flat2_get (f g : Nat → Int) : ∀ N i, i < N → ((List.range N).flatMap (fun i => [f i, g i]))[i * 2]? = some (f i) ∧ ((List.range N).flatMap (fun i => [f i, g i]))[i * 2 + 1]? = some (g i)
  | 0, i, h => by omega
  | N + 1, i, h => by
    rw [List.range_succ, List.flatMap_append]
    rcases Nat.lt_or_ge i N with h1 | h1
    · rw [List.getElem?_append_left (by rw [flat2_len]; omega), List.getElem?_append_left (by rw [flat2_len]; omega)]
      exact flat2_get f g N i h1
    · have : i = N := by omega
      subst this
      rw [List.getElem?_append_right (by rw [flat2_len]; omega), List.getElem?_append_right (by rw [flat2_len]; omega), flat2_len]
      simp
theorem flat2_ext {N : Nat} {f g : Nat → Int} {l : List Int} (hl : l.length = N * 2) (h : ∀ i, i < N → l[i * 2]? = some (f i) ∧ l[i * 2 + 1]? = some (g i)) : (List.range N).flatMap (fun i => [f i, g i]) = l := by
  apply List.ext_getElem?
  intro j
  by_cases hj : j < N * 2
  · have h1 := h (j / 2) (by omega)
    have h2 := flat2_get f g N (j / 2) (by omega)
    rcases Nat.mod_two_eq_zero_or_one j with h0 | h0
    · have e : j / 2 * 2 = j := by omega
      rw [e] at h1 h2
      rw [h1.1, h2.1]
    · have e : j / 2 * 2 + 1 = j := by omega
      rw [e] at h1 h2
      rw [h1.2, h2.2]
  · rw [List.getElem?_eq_none (by rw [flat2_len]; omega), List.getElem?_eq_none (by omega)]
theorem cntL_len (N : Nat) (Q : QE) : (cntL N Q).length = N * 2 := flat2_len _ _ N
theorem cntL_get (N : Nat) (Q : QE) (i : Nat) (h : i < N) : (cntL N Q)[i * 2]? = some (tnQ Q i) ∧ (cntL N Q)[i * 2 + 1]? = some (tdQ Q i) := flat2_get _ _ N i h
theorem cntL_file (N : Nat) (Q : QE) (k : Nat) (e : ByteArray × Nat × Nat) (he : e.2.1 < N) (h2 : e.2.2 ≠ 2) : cntL N (Q ++ [(k, e)]) = (cntL N Q).set (e.2.1 * 2) (tnQ Q e.2.1 + 1) := by
  refine flat2_ext (by rw [List.length_set, cntL_len]) (fun i hi => ?_)
  have h1 := cntL_get N Q i hi
  rw [tnQ_snoc, tdQ_snoc]
  constructor
  · rw [List.getElem?_set]
    by_cases hx : e.2.1 = i
    · subst hx
      rw [if_pos rfl, if_pos rfl, if_pos (by rw [cntL_len]; omega)]
    · rw [if_neg hx, if_neg (by omega)]
      exact h1.1
  · rw [if_neg (fun h : k = i ∧ e.2.2 = 2 => h2 h.2), List.getElem?_set, if_neg (by omega)]
    exact h1.2
theorem cntL_dir (N : Nat) (Q : QE) (k : Nat) (e : ByteArray × Nat × Nat) (he : e.2.1 < N) (hk : k < N) (h2 : e.2.2 = 2) : cntL N (Q ++ [(k, e)]) = ((cntL N Q).set (e.2.1 * 2) (tnQ Q e.2.1 + 1)).set (k * 2 + 1) (tdQ Q k + 1) := by
  refine flat2_ext (by rw [List.length_set, List.length_set, cntL_len]) (fun i hi => ?_)
  have h1 := cntL_get N Q i hi
  rw [tnQ_snoc, tdQ_snoc]
  constructor
  · rw [List.getElem?_set, if_neg (by omega), List.getElem?_set]
    by_cases hx : e.2.1 = i
    · subst hx
      rw [if_pos rfl, if_pos rfl, if_pos (by rw [cntL_len]; omega)]
    · rw [if_neg hx, if_neg (by omega)]
      exact h1.1
  · rw [List.getElem?_set]
    by_cases hx : k = i
    · subst hx
      rw [if_pos rfl, if_pos (by rw [List.length_set, cntL_len]; omega), if_pos ⟨rfl, h2⟩]
    · rw [if_neg (by omega), if_neg (fun h => hx h.1), List.getElem?_set, if_neg (by omega)]
      exact h1.2
theorem cntL_zero (N : Nat) : cntL N [] = List.replicate (N * 2) 0 := by
  refine flat2_ext (by simp) (fun i hi => ?_)
  constructor
  · rw [List.getElem?_replicate, if_pos (by omega)]
    simp [tnQ]
  · rw [List.getElem?_replicate, if_pos (by omega)]
    simp [tdQ]
theorem infoCt : (Tryz.prog.info? 182).map (fun i => (i.zero, i.size, i.bytes)) = some (some (.agg #[.int .i64 0, .int .i64 0]), 2, 16) := by kernel_rfl
/-- What lies in memory between two steps: the counts of the entries Q, the check, the boxes, the marks. -/
theorem Ck.keepV {w w' : World} {b lo : Nat} {code : Int} {ok : Bool} (h : Ck w b lo code ok) (hb : w'.heap[b]? = w.heap[b]?) (hk : ∀ k o v, lo ≤ k → w.cell? ⟨k, o, none⟩ = some v → w'.cell? ⟨k, o, none⟩ = some v) : Ck w' b lo code ok := by
  obtain ⟨h1, h2, ev, h3, h4⟩ := h
  refine ⟨(World.cell?_of_block (a := ⟨b, 0, none⟩) hb).trans h1, (World.frozen?_of_block (a := ⟨b, 1, none⟩) hb).trans h2, ev, (World.cell?_of_block (a := ⟨b, 1, none⟩) hb).trans h3, ?_⟩
  rcases h4 with h4 | ⟨h4, n, h5⟩
  · exact .inl h4
  · exact .inr ⟨h4, n, h5.keep fun k o v hl hc => hk k o v hl hc⟩
structure EfI (w : World) (bs N : Nat) (l : List Int) (Ds : List Nat) (ok : Bool) (W : World) : Prop where
  sb : Boxed W w.heap.size 70 (.pointer (some ⟨bs, 0, none⟩))
  res : Boxed W (w.heap.size + 1) 72 .nilIface
  ck : Ck W (w.heap.size + 1 + 1) (w.heap.size + 5) 21 ok
  cnt : Blk W (w.heap.size + 1 + 1 + 1) (cellsI l) 182
  cb : Boxed W (w.heap.size + 1 + 1 + 1 + 1) 176 (.slice (some ⟨w.heap.size + 1 + 1 + 1, 0, none⟩) N N)
  old : Below w.heap.size w W
  mks : Mks Ds W
  lo : ∀ D ∈ Ds, w.heap.size + 5 ≤ D ∧ D < W.heap.size
  nd : Ds.Nodup
theorem EfI.size {w W : World} {bs N : Nat} {l : List Int} {Ds : List Nat} {ok : Bool} (h : EfI w bs N l Ds ok W) : w.heap.size + 5 ≤ W.heap.size := h.cb.lt
theorem EfI.grown {w W W' : World} {bs N B : Nat} {l : List Int} {Ds : List Nat} {ok : Bool} {row : Option Nat} (h : EfI w bs N l Ds ok W) (hB : w.heap.size + 5 ≤ B) (hD : ∀ D ∈ Ds, D < B) (hg : W.grownBy W' row) (hr : ∀ r, row = some r → B ≤ r ∧ ∃ o, W.heap[r]? = some o ∧ o.isCells = false) : EfI w bs N l Ds ok W' := by
  have hsz := h.old.size
  have hl : ∀ k, k < w.heap.size + 5 → k < W.heap.size → W'.heap[k]? = W.heap[k]? := fun k hk hkl => hg.block k hkl (fun e => by have := (hr k e.symm).1; omega)
  have hs := h.size
  refine ⟨(hl _ (by omega) h.sb.lt).trans h.sb, (hl _ (by omega) h.res.lt).trans h.res, h.ck.keepV (hl _ (by omega) h.ck.lt) (fun k o v hlo hc => ?_), (hl _ (by omega) h.cnt.lt).trans h.cnt, (hl _ (by omega) h.cb.lt).trans h.cb, h.old.grown hg hsz (fun k e => by have := (hr k e).1; omega), h.mks.grown hD hg (fun r e => (hr r e).1), fun D hDm => ⟨(h.lo D hDm).1, Nat.lt_of_lt_of_le (h.lo D hDm).2 hg.size⟩, h.nd⟩
  refine (World.cell?_of_block (a := ⟨k, o, none⟩) (hg.block k (cell_lt hc) (fun e => ?_))).trans hc
  obtain ⟨_, ob, ho, hcl⟩ := hr k e.symm
  obtain ⟨o2, ho2, hc2⟩ := cells_of_cell hc
  rw [ho] at ho2
  cases ho2
  rw [hcl] at hc2
  cases hc2
theorem EfI.alloc {w W : World} {bs N : Nat} {l : List Int} {Ds : List Nat} {ok : Bool} (h : EfI w bs N l Ds ok W) (o : Obj) : EfI w bs N l Ds ok (W.alloc o) :=
  h.grown (B := W.heap.size) h.size (fun D hD => (h.lo D hD).2) (row := none) ⟨rfl, rfl, rfl, by simp, fun k hk _ => Below.heap_alloc _ _ k hk⟩ (fun r e => by cases e)
theorem EfI.below {w W W' : World} {bs N : Nat} {l : List Int} {Ds : List Nat} {ok : Bool} (h : EfI w bs N l Ds ok W) (hb : Below W.heap.size W W') : EfI w bs N l Ds ok W' :=
  h.grown (B := W.heap.size) h.size (fun D hD => (h.lo D hD).2) (row := none) ⟨hb.os, hb.tape, hb.output, hb.size, fun k hk _ => hb.block k hk⟩ (fun r e => by cases e)
/-- A look at the check. -/
theorem EfI.tch {w W W' : World} {bs N : Nat} {l : List Int} {Ds : List Nat} {ok ok' : Bool} (h : EfI w bs N l Ds ok W) (hc : Ck W' (w.heap.size + 1 + 1) (w.heap.size + 5) 21 ok') (ht : Tch (w.heap.size + 1 + 1) W W') : EfI w bs N l Ds ok' W' := by
  have hl : ∀ k, k ≠ w.heap.size + 1 + 1 → k < W.heap.size → W'.heap[k]? = W.heap[k]? := fun k hk hkl => ht.1.block k hkl (by simp; omega)
  have hs := h.size
  refine ⟨(hl _ (by omega) h.sb.lt).trans h.sb, (hl _ (by omega) h.res.lt).trans h.res, hc, (hl _ (by omega) h.cnt.lt).trans h.cnt, (hl _ (by omega) h.cb.lt).trans h.cb, ht.under h.old (by omega) h.old.size, fun D hD => (hl D (by have := (h.lo D hD).1; omega) (h.lo D hD).2).trans (h.mks D hD), fun D hD => ⟨(h.lo D hD).1, Nat.lt_of_lt_of_le (h.lo D hD).2 ht.1.size⟩, h.nd⟩
theorem Ck.keepTrue {w w' : World} {b lo : Nat} {code : Int} (h : Ck w b lo code true) (hb : w'.heap[b]? = w.heap[b]?) : Ck w' b lo code true := by
  obtain ⟨h1, h2, ev, h3, h4⟩ := h
  refine ⟨(World.cell?_of_block (a := ⟨b, 0, none⟩) hb).trans h1, (World.frozen?_of_block (a := ⟨b, 1, none⟩) hb).trans h2, ev, (World.cell?_of_block (a := ⟨b, 1, none⟩) hb).trans h3, ?_⟩
  rcases h4 with h4 | ⟨h4, _⟩
  · exact .inl h4
  · cases h4
/-- A count is set. -/
theorem EfI.set {w W : World} {bs N : Nat} {l : List Int} {Ds : List Nat} (h : EfI w bs N l Ds true W) (j : Nat) (z : Int) : EfI w bs N (l.set j z) Ds true (W.setCell ⟨w.heap.size + 1 + 1 + 1, j, none⟩ (.int .i64 z)) := by
  have hl : ∀ k, k ≠ w.heap.size + 1 + 1 + 1 → (W.setCell ⟨w.heap.size + 1 + 1 + 1, j, none⟩ (.int .i64 z)).heap[k]? = W.heap[k]? := fun k hk => Below.heap_setCell W ⟨w.heap.size + 1 + 1 + 1, j, none⟩ _ k hk
  refine ⟨(hl _ (by omega)).trans h.sb, (hl _ (by omega)).trans h.res, h.ck.keepTrue (hl _ (by omega)), ?_, (hl _ (by omega)).trans h.cb, h.old.setCell (p := ⟨w.heap.size + 1 + 1 + 1, j, none⟩) (show w.heap.size ≤ w.heap.size + 1 + 1 + 1 by omega) _, fun D hD => (hl D (by have := (h.lo D hD).1; omega)).trans (h.mks D hD), fun D hD => ⟨(h.lo D hD).1, by simpa using (h.lo D hD).2⟩, h.nd⟩
  have h1 := h.cnt.set j (.int .i64 z)
  have e : cellsI (l.set j z) = (cellsI l).setIfInBounds j (.int .i64 z) := by unfold cellsI; simp [List.map_set]
  rw [e]
  exact h1
theorem EfI.cell {w W : World} {bs N j : Nat} {l : List Int} {Ds : List Nat} {ok : Bool} {z : Int} (h : EfI w bs N l Ds ok W) (hj : l[j]? = some z) : W.cell? ⟨w.heap.size + 1 + 1 + 1, j, none⟩ = some (.int .i64 z) := by
  refine (h.cnt.cell j).trans ?_
  unfold cellsI
  rw [List.getElem?_toArray, List.getElem?_map, hj]
  rfl
end Go.Proofs.YtplieplmhdfndaaGreatDoor
