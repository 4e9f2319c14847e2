/- The program's LogDrop: what is known between two rounds. -/
import Derived.Test.YtohmjfagbhnieaaGreatDoorZl34
import Derived.Maps.OwnIn
namespace Go.Proofs.YtohmjfagbhnieaaGreatDoor
set_option linter.unusedVariables false
set_option linter.unusedSimpArgs false
open Go.RowKit Go.Shelf
attribute [local go_sem] Oper.semAt_some

/-- What a log reads as is kept when a block that holds no cells turns. -/
theorem Rd.bare {A B : World} {r : Nat} {v : Value} {zs : List Int} (h : Rd .u8 A v zs) (hg : A.grownBy B (some r)) (hr : ∃ o, A.heap[r]? = some o ∧ o.isCells = false) : Rd .u8 B v zs := by
  obtain ⟨a, cap, rfl, hm, hc, hcap⟩ := h
  refine ⟨a, cap, rfl, hm, fun hne => ?_, hcap⟩
  obtain ⟨bl, off, rfl, hlt, hcell⟩ := hc hne
  have hbl : bl ≠ r := fun e => by
    subst e
    obtain ⟨o, ho, hcc⟩ := hr
    have h0 := hcell 0 (by cases zs with | nil => exact absurd rfl hne | cons _ _ => simp)
    unfold World.cell? at h0
    simp only [ho] at h0
    cases o <;> simp [Obj.isCells] at hcc h0
  exact ⟨bl, off, rfl, Nat.lt_of_lt_of_le hlt hg.size, fun i hi => (World.cell?_of_block (a := ⟨bl, off + i, none⟩) (hg.block bl hlt (fun e => hbl (by injection e)))).trans (hcell i hi)⟩
theorem own_bare {A B : World} {r base n sz : Nat} {e : TypeId} {v : Value} {xs : List Value} (h : A.ownsRow base e sz v n xs) (hg : A.grownBy B (some r)) (hr : ∃ o, A.heap[r]? = some o ∧ o.isCells = false) : B.ownsRow base e sz v n xs := by
  refine h.kept hg ?_
  rcases h.2 with ⟨rfl, _⟩ | ⟨g, cap, cur, rfl, _, hgb, _⟩
  · exact .inl rfl
  · refine .inr fun e' => ?_
    obtain ⟨o, ho, hc⟩ := hr
    injection e' with e'
    subst e'
    rw [hgb] at ho
    cases ho
    cases hc
theorem OkL.below {L : List EntL} {z : Nat} {T : Nat → Prop} {pre : List LX} {x : LX} {W0 W1 W2 : World} (h : OkL L z T pre x W0 W1) (hb : Below W1.heap.size W1 W2) : OkL L z T pre x W0 W2 :=
  ⟨h.here, h.same, h.raw.below hb, own_below h.data hb, h.apart⟩
theorem OkL.bare {L : List EntL} {z : Nat} {T : Nat → Prop} {pre : List LX} {x : LX} {W0 A B : World} {r : Nat} (h : OkL L z T pre x W0 A) (hg : A.grownBy B (some r)) (hr : ∃ o, A.heap[r]? = some o ∧ o.isCells = false) : OkL L z T pre x W0 B :=
  ⟨h.here, h.same, h.raw.bare hg hr, own_bare h.data hg hr, h.apart⟩
/-- The bytes of the records above a number. -/
def keepB (u : Int) (L : List EntL) : List Int := ((L.filter (fun e => decide (u < (e.n : Int)))).map EntL.raw).flatten
theorem keepB_snoc (u : Int) (L : List EntL) (e : EntL) : keepB u (L ++ [e]) = keepB u L ++ (if u < (e.n : Int) then e.raw else []) := by
  unfold keepB
  by_cases h : u < (e.n : Int)
  · simp [List.filter_append, h]
  · simp [List.filter_append, h]
theorem keepB_len (u : Int) : ∀ (L : List EntL), (keepB u L).length ≤ (L.map EntL.raw).flatten.length
  | [] => by simp [keepB]
  | e :: L => by
    have := keepB_len u L
    unfold keepB at this ⊢
    by_cases h : u < (e.n : Int)
    · simp only [List.filter_cons, h, decide_true, if_true, List.map_cons, List.flatten_cons, List.length_append]; omega
    · simp only [List.filter_cons, h, decide_false, List.map_cons, List.flatten_cons, List.length_append]
      exact Nat.le_trans this (by omega)
theorem flat_take (L : List EntL) (k : Nat) : ((L.take k).map EntL.raw).flatten.length ≤ (L.map EntL.raw).flatten.length := by
  conv => rhs; rw [← List.take_append_drop k L]
  rw [List.map_append, List.flatten_append, List.length_append]
  omega
/-- Between two rounds of LogDrop: the box of the number at q, that of what is left at q + 1; rows from z on. -/
structure Idr (w : World) (u : Int) (q z : Nat) (T : Nat → Prop) (pre : List LX) (W : World) : Prop where
  row : ∃ v, Boxed W (q + 1) 22 v ∧ W.ownsRow z 5 1 v (keepB u (pre.map (·.1))).length ((keepB u (pre.map (·.1))).map (Value.int .u8)) ∧ ∀ k, v.ownBlock = some k → ¬ T k
  upto : Boxed W q 3 (.int .i64 u)
  old : Below w.heap.size w W
  far : ∀ r, T r → z ≤ r ∧ r < W.heap.size
  size : z ≤ W.heap.size
theorem Idr.abides {w : World} {u : Int} {q z r0 : Nat} (hq : w.heap.size ≤ q) (hz : q + 2 ≤ r0) (hz2 : r0 < z) (T : Nat → Prop) : AbidesOf (fun r => T r ∨ r = r0) (Idr w u q z T) := by
  rintro pre A B row ⟨⟨v, h1, h2, h3⟩, h4, h5, h6, h7⟩ hg hr
  have hr' : ∀ r, row = some r → q + 2 ≤ r := fun r e => by
    rcases hr r e with h | h
    · have := (h6 r h).1; omega
    · omega
  refine ⟨⟨v, h1.kept hg (fun e => by have := hr' _ e.symm; omega), h2.kept hg ?_, h3⟩, h4.kept hg (fun e => by have := hr' _ e.symm; omega), h5.grown hg (by have := h1.lt; omega) (fun k e => by have := hr' k e; omega), fun r h => ⟨(h6 r h).1, Nat.lt_of_lt_of_le (h6 r h).2 hg.size⟩, Nat.le_trans h7 hg.size⟩
  cases hv : v.ownBlock with
  | none => exact .inl rfl
  | some k =>
    refine .inr fun e => ?_
    rcases hr k e.symm with h | h
    · exact h3 k hv h
    · have := (h2.lt k hv).1; omega
theorem Idr.below {w : World} {u : Int} {q z : Nat} {T : Nat → Prop} {pre : List LX} {W W' : World} (h : Idr w u q z T pre W) (hq : w.heap.size ≤ q) (hb : Below W.heap.size W W') : Idr w u q z T pre W' := by
  obtain ⟨⟨v, h1, h2, h3⟩, h4, h5, h6, h7⟩ := h
  exact ⟨⟨v, (hb.block _ h1.lt).trans h1, own_below h2 hb, h3⟩, (hb.block _ h4.lt).trans h4, h5.trans (hb.mono (by have := h1.lt; omega)), fun r h => ⟨(h6 r h).1, Nat.lt_of_lt_of_le (h6 r h).2 hb.size⟩, Nat.le_trans h7 hb.size⟩
theorem keeps_below {B : Nat} {W W' : World} (hb : Below W.heap.size W W') : KeepsFrom B W W' := ⟨hb.size, fun k o _ hk _ => (hb.block k (Array.getElem?_eq_some_iff.1 hk).1).trans hk⟩
theorem kpT_below {n₀ : Nat} {T : Nat → Prop} {W W' : World} (hb : Below W.heap.size W W') (hn : n₀ ≤ W.heap.size) (hT : ∀ r, T r → r < W.heap.size) : KpT n₀ T W W' := ⟨hb.mono hn, fun r hr => hb.block r (hT r hr)⟩
theorem keeps_row {W W' : World} {base n sz : Nat} {e : TypeId} {v : Value} {xs : List Value} (h : W.ownsRow base e sz v n xs) (hg : W.grownBy W' v.ownBlock) : KeepsOthers W W' :=
  KeepsOthers.of_grownBy hg fun j o ej hj => by
    rcases h.2 with ⟨rfl, _⟩ | ⟨g, cap, cur, rfl, _, hgb, _⟩
    · simp [Value.ownBlock] at ej
    · simp [Value.ownBlock] at ej
      subst ej
      rw [hgb] at hj
      cases hj
      rfl
set_option maxHeartbeats 1000000 in
/-- records: the log is boxed; the function value captures the box. -/
theorem records_in (n : Nat) (v : Value) (w : World) (a : Option Addr) (len cap : Nat) (hv : v = .slice a len cap) :
    CallsIn Fence.wide n Tryz.prog 35 #[v] w fun e w' => e = .returned (.func (.func 46) #[] #[.pointer (some ⟨w.heap.size, 0, none⟩)]) ∧ w' = w.alloc (.cells #[v] 22) := by
  subst hv
  refine callsIn_of_wp Tryz.func35 rfl trivial ?_ rfl
  simp only [Tryz.ntmps35, List.size_toArray, List.length_cons, List.length_nil, Nat.reduceAdd, Nat.reduceSub, Array.replicate_succ, Array.replicate_zero, List.push_toArray, List.append_toArray, List.nil_append, List.cons_append]
  gi_wp2
  go_ret
  exact ⟨rfl, rfl⟩
end Go.Proofs.YtohmjfagbhnieaaGreatDoor
