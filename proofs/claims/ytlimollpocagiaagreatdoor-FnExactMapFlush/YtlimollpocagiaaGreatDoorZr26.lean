/- The model's l04Flush in memory. The model's l04Now. -/
import Derived.Test.YtlimollpocagiaaGreatDoorZr19
import Derived.Test.YtlimollpocagiaaGreatDoorZr25
namespace Go.Proofs.YtlimollpocagiaaGreatDoor
set_option linter.unusedVariables false
set_option linter.unusedSimpArgs false
open Go.RowKit

/-- Where its rows stand: words, old, places, given, the tree's data. -/
def posM (j : Nat) : Nat := if j = 0 then 0 else if j = 1 then 1 else if j = 2 then 11 else if j = 3 then 12 else 2
theorem posM_lt {j : Nat} (h : j < 5) : posM j < 14 ∧ posM j ≠ 10 ∧ posM j ≠ 13 ∧ posM j ≠ 3 := by
  rcases (show j = 0 ∨ j = 1 ∨ j = 2 ∨ j = 3 ∨ j = 4 by omega) with rfl | rfl | rfl | rfl | rfl <;> decide
theorem posM_inj {i j : Nat} (hi : i < 5) (hj : j < 5) (h : posM i = posM j) : i = j := by
  rcases (show i = 0 ∨ i = 1 ∨ i = 2 ∨ i = 3 ∨ i = 4 by omega) with rfl | rfl | rfl | rfl | rfl <;> rcases (show j = 0 ∨ j = 1 ∨ j = 2 ∨ j = 3 ∨ j = 4 by omega) with rfl | rfl | rfl | rfl | rfl <;> first | rfl | (exact absurd h (by decide))
structure Fm (W : World) (base b : Nat) (C : Array Value) (R : Nat → Value) (LL : Nat → List Int) (cu sg : Int) (fu : Bool) : Prop where
  box : Blk W b C 77
  size : C.size = 14
  at_ : ∀ j, j < 5 → C[posM j]? = some (R j)
  row : ∀ j, j < 5 → W.ownsRow base 3 1 (R j) (LL j).length ((LL j).map (Value.int .i64))
  apart : ∀ i j, i < 5 → j < 5 → i ≠ j → (R i).ownBlock = none ∨ (R i).ownBlock ≠ (R j).ownBlock
  cur : C[10]? = some (.int .i64 cu)
  sing : C[3]? = some (.int .i64 sg)
  full : C[13]? = some (.bool fu)
section
variable {W W' : World} {base b : Nat} {C : Array Value} {R : Nat → Value} {LL : Nat → List Int} {cu sg : Int} {fu : Bool}
theorem Fm.below (h : Fm W base b C R LL cu sg fu) (hb : Below W.heap.size W W') : Fm W' base b C R LL cu sg fu :=
  ⟨h.box.below hb h.box.lt, h.size, h.at_, fun j hj => own_belowT (h.row j hj) hb, h.apart, h.cur, h.sing, h.full⟩
theorem Fm.ne_box (h : Fm W base b C R LL cu sg fu) {j : Nat} (hj : j < 5) : (R j).ownBlock ≠ some b := own_offF (h.row j hj) h.box (by decide)
/-- What a flush owns. -/
def ownM (b : Nat) (R : Nat → Value) (k : Nat) : Prop := k = b ∨ ∃ j, j < 5 ∧ (R j).ownBlock = some k
structure KpM (w w' : World) (b : Nat) (R R' : Nat → Value) : Prop where
  os : w'.os = w.os
  tape : w'.tape = w.tape
  output : w'.output = w.output
  size : w.heap.size ≤ w'.heap.size
  block : ∀ k, k < w.heap.size → ¬ ownM b R k → w'.heap[k]? = w.heap[k]?
  own : ∀ k, ownM b R' k → ownM b R k ∨ w.heap.size ≤ k
theorem KpM.of_below (b : Nat) (R : Nat → Value) (h : Below W.heap.size W W') : KpM W W' b R R := ⟨h.os, h.tape, h.output, h.size, fun k hk _ => h.block k hk, fun k hk => .inl hk⟩
theorem KpM.trans {w w1 w2 : World} {b : Nat} {R R1 R2 : Nat → Value} (h : KpM w w1 b R R1) (h2 : KpM w1 w2 b R1 R2) : KpM w w2 b R R2 :=
  ⟨h2.os.trans h.os, h2.tape.trans h.tape, h2.output.trans h.output, Nat.le_trans h.size h2.size, fun k hk hn => (h2.block k (Nat.lt_of_lt_of_le hk h.size) (fun hm => by
    rcases h.own k hm with h5 | h5
    · exact hn h5
    · omega)).trans (h.block k hk hn), fun k hk => by
    rcases h2.own k hk with h5 | h5
    · exact h.own k h5
    · exact .inr (Nat.le_trans h.size h5)⟩
theorem KpM.below {R' : Nat → Value} (h : KpM W W' b R R') (hf : Fm W base b C R LL cu sg fu) (hb : base ≤ b) (hs : base ≤ W.heap.size) : Below base W W' :=
  ⟨h.os, h.tape, h.output, h.size, fun k hk => h.block k (by omega) (fun hm => by
    rcases hm with rfl | ⟨j, hj, e⟩
    · omega
    · have := ((hf.row j hj).lt k e).1; omega)⟩
/-- A number of one of its rows is set. -/
theorem Fm.set (h : Fm W base b C R LL cu sg fu) {j g p : Nat} (hj : j < 5) (hg : (R j).ownBlock = some g) (x : Int) :
    Fm (W.setCell ⟨g, p, none⟩ (.int .i64 x)) base b C R (upd LL j ((LL j).set p x)) cu sg fu ∧ KpM W (W.setCell ⟨g, p, none⟩ (.int .i64 x)) b R R := by
  have hkeep : ∀ k, k ≠ g → (W.setCell ⟨g, p, none⟩ (.int .i64 x)).heap[k]? = W.heap[k]? := fun k hk => Below.heap_setCell W ⟨g, p, none⟩ _ k (fun e => hk e)
  have hgb : g ≠ b := fun e => h.ne_box hj (by rw [hg, e])
  refine ⟨⟨h.box.other _ _ (fun e => hgb e.symm), h.size, h.at_, fun i hi => ?_, h.apart, h.cur, h.sing, h.full⟩, ⟨rfl, rfl, rfl, by simp, fun k hk hn => hkeep k (fun e => hn (.inr ⟨j, hj, by rw [hg, e]⟩)), fun k hk => .inl hk⟩⟩
  by_cases e : i = j
  · subst e
    rw [upd_same, List.length_set, List.map_set]
    exact own_setCellF (h.row i hi) hg p _
  · rw [upd_other _ _ _ _ e]
    exact own_kept (h.row i hi) (fun k hk => hkeep k (fun e' => by
      rcases h.apart i j hi hj e with h5 | h5
      · rw [hk] at h5; cases h5
      · exact h5 (by rw [hk, hg, e'])))
theorem Fm.box_kept (h : Fm W base b C R LL cu sg fu) (p : Nat) (v : Value) : ∀ j, j < 5 → (W.setCell ⟨b, p, none⟩ v).ownsRow base 3 1 (R j) (LL j).length ((LL j).map (Value.int .i64)) := fun j hj =>
  own_kept (h.row j hj) (fun k hk => Below.heap_setCell W ⟨b, p, none⟩ _ k (fun e => h.ne_box hj (by rw [hk, e])))
theorem KpM.box (h : Fm W base b C R LL cu sg fu) (p : Nat) (v : Value) : KpM W (W.setCell ⟨b, p, none⟩ v) b R R :=
  ⟨rfl, rfl, rfl, by simp, fun k hk hn => Below.heap_setCell W ⟨b, p, none⟩ _ k (fun e => hn (.inl e)), fun k hk => .inl hk⟩
/-- The cursor, and that it is full. -/
theorem Fm.setCur (h : Fm W base b C R LL cu sg fu) (x : Int) : Fm (W.setCell ⟨b, 10, none⟩ (.int .i64 x)) base b (C.setIfInBounds 10 (.int .i64 x)) R LL x sg fu :=
  ⟨h.box.set 10 _, by simpa using h.size, fun j hj => by rw [get_set_ne (posM_lt hj).2.1]; exact h.at_ j hj, h.box_kept 10 _, h.apart, by rw [Array.getElem?_setIfInBounds_self_of_lt (by have := h.size; omega)], by rw [get_set_ne (by omega)]; exact h.sing, by rw [get_set_ne (by omega)]; exact h.full⟩
theorem Fm.setFull (h : Fm W base b C R LL cu sg fu) (x : Bool) : Fm (W.setCell ⟨b, 13, none⟩ (.bool x)) base b (C.setIfInBounds 13 (.bool x)) R LL cu sg x :=
  ⟨h.box.set 13 _, by simpa using h.size, fun j hj => by rw [get_set_ne (posM_lt hj).2.2.1]; exact h.at_ j hj, h.box_kept 13 _, h.apart, by rw [get_set_ne (by omega)]; exact h.cur, by rw [get_set_ne (by omega)]; exact h.sing, by rw [Array.getElem?_setIfInBounds_self_of_lt (by have := h.size; omega)]⟩
theorem ownM_upd {b k l : Nat} {R : Nat → Value} {sw : Value} (h : ownM b (upd R l sw) k) : ownM b R k ∨ sw.ownBlock = some k := by
  rcases h with h | ⟨j, hj, e⟩
  · exact .inl (.inl h)
  · by_cases hl : j = l
    · subst hl; rw [upd_same] at e; exact .inr e
    · rw [upd_other _ _ _ _ hl] at e; exact .inl (.inr ⟨j, hj, e⟩)
/-- One more place given. -/
theorem Fm.app (h : Fm W base b C R LL cu sg fu) {v' : Value} {x : Int} (ho : W'.ownsRow base 3 1 v' ((LL 3).length + 1) ((LL 3 ++ [x]).map (Value.int .i64))) (hg : W.grownBy W' (R 3).ownBlock) (hv : v'.ownBlock = (R 3).ownBlock ∨ ∃ g, v'.ownBlock = some g ∧ W.heap.size ≤ g) :
    Fm (W'.setCell ⟨b, 12, none⟩ v') base b (C.setIfInBounds 12 v') (upd R 3 v') (upd LL 3 (LL 3 ++ [x])) cu sg fu ∧ KpM W (W'.setCell ⟨b, 12, none⟩ v') b R (upd R 3 v') := by
  have hB : Blk W' b C 77 := (hg.block b h.box.lt (fun e => h.ne_box (j := 3) (by omega) e.symm)).trans h.box
  have hk1 : ∀ k, k ≠ b → (W'.setCell ⟨b, 12, none⟩ v').heap[k]? = W'.heap[k]? := fun k hk => Below.heap_setCell W' ⟨b, 12, none⟩ _ k (fun e => hk e)
  have hkeep : ∀ k, k < W.heap.size → k ≠ b → (R 3).ownBlock ≠ some k → (W'.setCell ⟨b, 12, none⟩ v').heap[k]? = W.heap[k]? := fun k hk hkb hr => (hk1 k hkb).trans (hg.block k hk (fun e => hr e.symm))
  have hvb : v'.ownBlock ≠ some b := own_offF ho hB (by decide)
  refine ⟨⟨hB.set 12 _, by simpa using h.size, fun j hj => ?_, fun j hj => ?_, fun i j hi hj hne => ?_, ?_, ?_, ?_⟩, ⟨hg.os, hg.tape, hg.output, by simpa using hg.size, fun k hk hn => hkeep k hk (fun e => hn (.inl e)) (fun e => hn (.inr ⟨3, by omega, e⟩)), fun k hk => ?_⟩⟩
  · by_cases e : j = 3
    · subst e; rw [upd_same]; show (C.setIfInBounds 12 v')[12]? = _; rw [Array.getElem?_setIfInBounds_self_of_lt (by have := h.size; omega)]
    · rw [upd_other _ _ _ _ e, get_set_ne (i := 12) (fun e' => e (posM_inj hj (show 3 < 5 by omega) e'))]; exact h.at_ j hj
  · by_cases e : j = 3
    · subst e
      rw [upd_same, upd_same, List.length_append]
      exact own_kept ho (fun k hk => hk1 k (fun e' => hvb (by rw [hk, e'])))
    · rw [upd_other _ _ _ _ e, upd_other _ _ _ _ e]
      exact own_kept (h.row j hj) (fun k hk => hkeep k ((h.row j hj).lt k hk).2 (fun e' => h.ne_box hj (by rw [hk, e'])) (fun e' => by
        rcases h.apart j 3 hj (by omega) e with h5 | h5
        · rw [hk] at h5; cases h5
        · exact h5 (hk.trans e'.symm)))
  · have key : ∀ j, j < 5 → j ≠ 3 → v'.ownBlock = none ∨ v'.ownBlock ≠ (R j).ownBlock := fun j hj hj2 => by
      rcases hv with h3 | ⟨g, h3, h4⟩
      · rw [h3]; exact h.apart 3 j (by omega) hj (fun e => hj2 e.symm)
      · right
        rw [h3]
        intro e'
        have := ((h.row j hj).lt g e'.symm).2
        omega
    by_cases e : i = 3
    · subst e
      rw [upd_same, upd_other _ _ _ _ (fun e => hne e.symm)]
      exact key j hj (fun e => hne e.symm)
    · by_cases e2 : j = 3
      · subst e2
        rw [upd_same, upd_other _ _ _ _ e]
        cases hR : (R i).ownBlock with
        | none => exact .inl rfl
        | some k =>
          right
          intro e'
          rcases key i hi e with h5 | h5
          · rw [← e'] at h5; cases h5
          · exact h5 (e'.symm.trans hR.symm)
      · rw [upd_other _ _ _ _ e, upd_other _ _ _ _ e2]; exact h.apart i j hi hj hne
  · rw [get_set_ne (by omega)]; exact h.cur
  · rw [get_set_ne (by omega)]; exact h.sing
  · rw [get_set_ne (by omega)]; exact h.full
  · rcases ownM_upd hk with h5 | h5
    · exact .inl h5
    · rcases hv with h3 | ⟨g, h3, h4⟩
      · exact .inl (.inr ⟨3, by omega, h3.symm.trans h5⟩)
      · rw [h3] at h5; injection h5 with h5; exact .inr (by omega)
end
end Go.Proofs.YtlimollpocagiaaGreatDoor

namespace Go.Proofs.YtlimollpocagiaaGreatDoor
set_option linter.unusedVariables false
set_option linter.unusedSimpArgs false
open Go.RowKit

/-- A row of the model's flush that isn't empty. -/
theorem Fm.at {W : World} {base b : Nat} {C : Array Value} {R : Nat → Value} {LL : Nat → List Int} {cu sg : Int} {fu : Bool} (h : Fm W base b C R LL cu sg fu) {j : Nat} (hj : j < 5) (hn : 0 < (LL j).length) : ∃ g c, R j = .slice (some ⟨g, 0, none⟩) (LL j).length c ∧ (R j).ownBlock = some g ∧ W.cell? ⟨b, posM j, none⟩ = some (.slice (some ⟨g, 0, none⟩) (LL j).length c) ∧ ∀ k, k < (LL j).length → W.cell? ⟨g, k, none⟩ = some (.int .i64 ((LL j).getD k 0)) ∧ W.frozen? ⟨g, k, none⟩ = false := by
  have hr := h.row j hj
  rcases hr.2 with ⟨e0, h0⟩ | ⟨g, cap, cur, e0, hb, hg, h1, h2, h3, h4⟩
  · omega
  · refine ⟨g, cap, e0, by rw [e0]; rfl, (h.box.cell _).trans (by rw [← e0]; exact h.at_ j hj), fun k hk => ⟨?_, ?_⟩⟩
    · have := hr.cells (g := g) (by rw [e0]; rfl) k (.int .i64 ((LL j).getD k 0)) (by simp [List.getD, hk])
      rw [Addr.add_mid, Nat.zero_add] at this
      exact this
    · have hB : Blk W g cur 3 := hg
      exact hB.frozen k
set_option maxRecDepth 100000 in
set_option maxHeartbeats 1000000 in
theorem nowM_any (base b k : Nat) (C : Array Value) (R : Nat → Value) (LL : Nat → List Int) (cu sg : Int) (fu : Bool) (w : World) (h : Fm w base b C R LL cu sg fu) (hk : k < (LL 2).length) (hd : (LL 2).getD k 0 = 0 → k < (LL 4).length) (hm : k ≤ 1000) :
    Calls Tryz.prog 84 #[.pointer (some ⟨b, 0, none⟩), .int .i64 (k : Int)] w fun e w' => e = .returned (.int .i64 (if (LL 2).getD k 0 = 0 then (LL 4).getD k 0 else (LL 2).getD k 0)) ∧ w' = w := by
  obtain ⟨g2, q2, _, _, c11, hc2⟩ := h.at (j := 2) (by omega) (by omega)
  have c11' : w.cell? ⟨b, 11, none⟩ = some (.slice (some ⟨g2, 0, none⟩) (LL 2).length q2) := c11
  have e2 := (hc2 k hk).1
  have HL := h.row 2 (by omega)
  have hl2 : (LL 2).length ≤ maxLen := by
    rcases HL.2 with ⟨_, h0⟩ | ⟨g, cap, cur, e0, hb, hg, h1, h2, h3, h4⟩
    · omega
    · omega
  unfold maxLen at hl2
  by_cases hz : (LL 2).getD k 0 = 0
  · obtain ⟨g4, q4, _, _, c2, hc4⟩ := h.at (j := 4) (by omega) (by have := hd hz; omega)
    have c2' : w.cell? ⟨b, 2, none⟩ = some (.slice (some ⟨g4, 0, none⟩) (LL 4).length q4) := c2
    have e4 := (hc4 k (hd hz)).1
    have hk4 := hd hz
    have HZ := hide hz
    obtain ⟨n2, hn2⟩ : ∃ n2, n2 = (LL 2).length := ⟨_, rfl⟩
    obtain ⟨n4, hn4⟩ : ∃ n4, n4 = (LL 4).length := ⟨_, rfl⟩
    obtain ⟨y, hy⟩ : ∃ y, y = (LL 4).getD k 0 := ⟨_, rfl⟩
    rw [hz] at e2
    rw [← hy] at e4
    rw [if_pos hz, ← hy]
    rw [← hn2] at c11' hk hl2
    rw [← hn4] at c2' hk4
    have hkI : (k : Int) < (n2 : Int) := by omega
    have hkJ : (k : Int) < (n4 : Int) := by omega
    clear hc2 hc4 c11 c2 hd h HL hz hn2 hn4 hy
    go_enter Tryz.func84, Tryz.ntmps84
    go_wp2
    go_ret
    exact ⟨rfl, rfl⟩
  · obtain ⟨n2, hn2⟩ : ∃ n2, n2 = (LL 2).length := ⟨_, rfl⟩
    rw [if_neg hz]
    obtain ⟨y, hy⟩ : ∃ y, y = (LL 2).getD k 0 := ⟨_, rfl⟩
    rw [← hy] at e2 hz ⊢
    rw [← hn2] at c11' hk hl2
    have hkI : (k : Int) < (n2 : Int) := by omega
    clear hc2 c11 hd h HL hn2 hy
    go_enter Tryz.func84, Tryz.ntmps84
    go_wp2
    go_ret
    exact ⟨rfl, rfl⟩
end Go.Proofs.YtlimollpocagiaaGreatDoor
