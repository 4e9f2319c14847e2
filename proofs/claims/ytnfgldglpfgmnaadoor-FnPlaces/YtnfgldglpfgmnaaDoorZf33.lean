/- What kinds of blocks a call may turn (as in DkM, for a seat without the device). The program's renewal: the supply of numbers, the renewal in memory, fresh. -/
import Derived.Test.YtnfgldglpfgmnaaDoorZf32
import Derived.Test.YtnfgldglpfgmnaaDoorZf31
import Derived.Maps.AppendAt
namespace Go.Proofs.YtnfgldglpfgmnaaDoor
set_option linter.unusedVariables false
set_option linter.unusedSimpArgs false
open Go.RowKit

/-- Only blocks whose cells are of a type in T have turned. -/
def KpY (T : TypeId → Prop) (W W' : World) : Prop := ∀ b, b < W.heap.size → (∀ c t s, W.heap[b]? = some (.cells c t s) → ¬ T t) → W'.heap[b]? = W.heap[b]?
section
variable {T : TypeId → Prop} {W W' W2 : World} {base d : Nat}
theorem KpY.refl (T : TypeId → Prop) (W : World) : KpY T W W := fun _ _ _ => rfl
theorem KpY.trans (h : KpY T W W') (k : KpY T W' W2) : KpY T W W2 := fun b hb hT => by
  have e := h b hb hT
  have hb2 : b < W'.heap.size := by
    have h1 : W.heap[b]? = some (W.heap[b]) := Array.getElem?_eq_getElem hb
    rw [← e] at h1
    exact (Array.getElem?_eq_some_iff.1 h1).1
  exact (k b hb2 (fun c t s hc => hT c t s (by rw [← e]; exact hc))).trans e
theorem KpY.below (h : KpY T W W') (hb : Below W'.heap.size W' W2) : KpY T W W2 := h.trans (fun b hb' _ => hb.block b hb')
theorem KpY.alloc (h : KpY T W W') (o : Obj) : KpY T W (W'.alloc o) := h.below ((Below.refl _ _).alloc (Nat.le_refl _) _)
theorem KpY.ownrow {e : TypeId} {sz n : Nat} {v : Value} {xs : List Value} (h : KpY T W W') (ho : W'.ownsRow base e sz v n xs) (hT : T e) (hg : W'.grownBy W2 v.ownBlock) : KpY T W W2 := by
  refine h.trans (fun b hb hT2 => hg.block b hb (fun e' => ?_))
  rcases ho.2 with ⟨rfl, _⟩ | ⟨g, cap, cur, rfl, _, hgg, _⟩
  · cases e'
  · have : b = g := Option.some.inj e'
    subst this
    exact hT2 _ _ _ hgg hT
theorem KpY.setCell {C : Array Value} {t : TypeId} {j : Nat} {u : Value} (h : KpY T W W') (hB : Blk W' d C t) (hT : T t) : KpY T W (W'.setCell ⟨d, j, none⟩ u) :=
  h.trans (fun b hb hT2 => Below.heap_setCell _ _ _ _ (fun e => by
    have h1 : W'.heap[d]? = some (.cells C t (0, 0)) := hB
    simp only at e
    subst e
    exact hT2 _ _ _ h1 hT))
theorem KpY.own {e : TypeId} {sz n : Nat} {v : Value} {xs : List Value} (h : KpY T W W') (ho : W.ownsRow base e sz v n xs) (hT : ¬ T e) : W'.ownsRow base e sz v n xs := by
  refine ⟨ho.1, ?_⟩
  rcases ho.2 with hn | ⟨g, cap, cur, rfl, hb, hgg, rest⟩
  · exact .inl hn
  · refine .inr ⟨g, cap, cur, rfl, hb, ?_, rest⟩
    rw [h g (Array.getElem?_eq_some_iff.1 hgg).1 (fun c t s hc => by rw [hgg] at hc; injection hc with hc; injection hc with _ hc _; rw [← hc]; exact hT)]
    exact hgg
theorem KpY.blk {C : Array Value} {t : TypeId} (h : KpY T W W') (hB : Blk W d C t) (hT : ¬ T t) : Blk W' d C t := by
  have h1 : W.heap[d]? = some (.cells C t (0, 0)) := hB
  show W'.heap[d]? = _
  rw [h d (Array.getElem?_eq_some_iff.1 h1).1 (fun c t' s hc => by rw [h1] at hc; injection hc with hc; injection hc with _ hc _; rw [← hc]; exact hT)]
  exact h1
theorem KpY.ownN {e : TypeId} {m : Nat} {v : Value} {L : List NE} {vs : List Value} (h : KpY T W W') (ho : OwnN W base e m v L vs) (hT : ¬ T e) (hT2 : ¬ T 5) : OwnN W' base e m v L vs :=
  ⟨ho.len, ho.pre, h.own ho.row hT, fun i u l hu hl => h.own (ho.dat i u l hu hl) hT2, ho.one⟩
end
end Go.Proofs.YtnfgldglpfgmnaaDoor

namespace Go.Proofs.YtnfgldglpfgmnaaDoor
set_option linter.unusedVariables false
set_option linter.unusedSimpArgs false
open Go.RowKit

/-- The supply of fresh numbers: one without end, or a list, its rest in a cell of its own. -/
def Sup (W0 W : World) (fv : Value) : Option (List Int) → Prop
  | none => fv = .func (.func 27) #[] #[]
  | some L => ∃ g a cap, fv = .func (.func 50) #[] #[.pointer (some ⟨g, 0, none⟩)] ∧ W0.heap.size ≤ g ∧ Blk W g #[.slice a L.length cap] 38 ∧ Rd .i64 W0 (.slice a L.length cap) L
def supN : Option (List Int) → Int
  | none => -1
  | some [] => 0
  | some (x :: _) => x
def supB : Option (List Int) → Bool
  | none => true
  | some [] => false
  | some (_ :: _) => true
def supT : Option (List Int) → Option (List Int)
  | none => none
  | some [] => some []
  | some (_ :: xs) => some xs
theorem unlike_any (w : World) : Calls Tryd.prog 27 #[] w fun e w' => e = .returned (.tuple #[.int .i64 (-1), .bool true]) ∧ w = w' := by
  go_enter Tryd.func27, Tryd.ntmps27
  go_wp2
  go_ret2
  exact ⟨rfl, rfl⟩
theorem supply_none (g : Nat) (a : Option Addr) (cap : Nat) (w : World) (h : Blk w g #[.slice a 0 cap] 38) : Calls Tryd.prog 50 #[.pointer (some ⟨g, 0, none⟩)] w fun e w' => e = .returned (.tuple #[.int .i64 0, .bool false]) ∧ w = w' := by
  have c0 := (h.cell 0).trans (show _ = some (.slice a 0 cap) from rfl)
  clear h
  go_enter Tryd.func50, Tryd.ntmps50
  go_wp2
  go_ret2
  exact ⟨rfl, rfl⟩
theorem supply_some (g bd off n cap : Nat) (x : Int) (w : World) (h : Blk w g #[.slice (some ⟨bd, off, none⟩) (n + 1) cap] 38) (hc : n + 1 ≤ cap) (hm : cap ≤ maxLen) (hx : w.cell? ⟨bd, off, none⟩ = some (.int .i64 x)) :
    Calls Tryd.prog 50 #[.pointer (some ⟨g, 0, none⟩)] w fun e w' => e = .returned (.tuple #[.int .i64 x, .bool true]) ∧ ∃ a', (cap ≠ 1 → a' = some ⟨bd, off + 1, none⟩) ∧ w' = w.setCell ⟨g, 0, none⟩ (.slice a' n (cap - 1)) := by
  have c0 := (h.cell 0).trans (show _ = some (.slice (some ⟨bd, off, none⟩) (n + 1) cap) from rfl)
  have f0 := h.frozen 0
  unfold maxLen at hm
  clear h
  go_enter Tryd.func50, Tryd.ntmps50
  by_cases hc1 : cap = 1
  · subst hc1
    obtain rfl : n = 0 := by omega
    go_wp2
    go_ret2
    exact ⟨rfl, _, fun h => absurd rfl h, rfl⟩
  · go_wp2
    go_ret2
    exact ⟨rfl, _, fun _ => rfl, rfl⟩
/-- A put as an element. -/
def neP (x : Int × List Int) : NE := ([.int .i64 x.1], x.2)
/-- What a renewal knows: its reference, the content, old and new numbers, what is put, whether numbers lacked, what is left of them. -/
structure RD where
  tr : Array Value
  cv : Value
  Lo : Nat → List Int
  Ln : Nat → List Int
  P : List (Int × List Int)
  sh : Bool
  st : Option (List Int)
/-- A renewal in memory, its cells and slices told. -/
structure RStC (W0 W : World) (b : Nat) (D : RD) (C : Array Value) (so sl : Nat → Value) (fv pv : Value) (vs : List Value) : Prop where
  trs : D.tr.size = 16
  size : C.size = 26
  tr : ∀ i, i < 16 → C[i]? = D.tr[i]?
  cv : C[16]? = some D.cv
  old : NumS W W0.heap.size b 17 C 72 so D.Lo
  now : NumS W W0.heap.size b 20 C 72 sl D.Ln
  apart : ∀ l m, l < 3 → m < 3 → (so l).ownBlock = none ∨ (so l).ownBlock ≠ (sl m).ownBlock
  fn : C[23]? = some fv
  sup : Sup W0 W fv D.st
  ps : C[24]? = some pv
  puts : OwnN W W0.heap.size 40 1 pv (D.P.map neP) vs
  sh : C[25]? = some (.bool D.sh)
  lo : W0.heap.size ≤ b
  low : Below W0.heap.size W0 W
def RSt (W0 W : World) (b : Nat) (D : RD) : Prop := ∃ C so sl fv pv vs, RStC W0 W b D C so sl fv pv vs
theorem Sup.below {W0 W W' : World} {fv : Value} {st : Option (List Int)} (h : Sup W0 W fv st) (hb : Below W.heap.size W W') : Sup W0 W' fv st := by
  cases st with
  | none => exact h
  | some L =>
    obtain ⟨g, a, cap, h1, h2, h3, h4⟩ := h
    exact ⟨g, a, cap, h1, h2, h3.below hb h3.lt, h4⟩
theorem RStC.below {W0 W W' : World} {b : Nat} {D : RD} {C : Array Value} {so sl : Nat → Value} {fv pv : Value} {vs : List Value} (h : RStC W0 W b D C so sl fv pv vs) (hb : Below W.heap.size W W') : RStC W0 W' b D C so sl fv pv vs :=
  ⟨h.trs, h.size, h.tr, h.cv, h.old.below hb, h.now.below hb, h.apart, h.fn, h.sup.below hb, h.ps, h.puts.below hb, h.sh, h.lo, h.low.trans (hb.mono h.low.size)⟩
theorem RSt.below {W0 W W' : World} {b : Nat} {D : RD} (h : RSt W0 W b D) (hb : Below W.heap.size W W') : RSt W0 W' b D := by
  obtain ⟨C, so, sl, fv, pv, vs, h⟩ := h
  exact ⟨C, so, sl, fv, pv, vs, h.below hb⟩
theorem NumS.kpy {T : TypeId → Prop} {W W' : World} {base b off : Nat} {C C' : Array Value} {t : TypeId} {sl : Nat → Value} {Ls : Nat → List Int} (h : NumS W base b off C t sl Ls) (k : KpY T W W') (hT : ¬ T 3) (hB : Blk W' b C' t) (hC : ∀ l, l < 3 → C'[off + l]? = C[off + l]?) : NumS W' base b off C' t sl Ls :=
  ⟨hB, fun l hl => (hC l hl).trans (h.at_ l hl), fun l hl => k.own (h.row l hl) hT, h.apart⟩
/-- The kinds of blocks that fresh turns, and all that a renewal turns. -/
def TyF (t : TypeId) : Prop := t = 72 ∨ t = 38 ∨ t = 40
def TyR (t : TypeId) : Prop := t = 72 ∨ t = 38 ∨ t = 40 ∨ t = 3
theorem KpY.weaker {T T' : TypeId → Prop} {W W' : World} (h : KpY T W W') (hT : ∀ t, T t → T' t) : KpY T' W W' := fun b hb hn => h b hb (fun c t s hc ht => hn c t s hc (hT t ht))
/-- No new number's row lies in block X. -/
def Apt (w : World) (b X : Nat) : Prop := ∀ l, l < 3 → ∀ v, w.cell? ⟨b, 20 + l, none⟩ = some v → v.ownBlock ≠ some X
/-- What a renewal keeps: blocks of other types, and integers that are no row of its new numbers. -/
def FrR (b : Nat) (w w' : World) : Prop := KpY TyR w w' ∧ (b < w.heap.size → b < w'.heap.size ∧ ∀ X C, Blk w X C 3 → Apt w b X → Blk w' X C 3 ∧ Apt w' b X) ∧ (w'.os = w.os ∧ w'.tape = w.tape ∧ w'.output = w.output ∧ w.heap.size ≤ w'.heap.size)
theorem FrR.refl (b : Nat) (w : World) : FrR b w w := ⟨KpY.refl _ _, fun h => ⟨h, fun X C h1 h2 => ⟨h1, h2⟩⟩, rfl, rfl, rfl, Nat.le_refl _⟩
theorem FrR.trans {b : Nat} {w w' w2 : World} (h : FrR b w w') (k : FrR b w' w2) : FrR b w w2 :=
  ⟨h.1.trans k.1, fun hb => by
    obtain ⟨h1, h2⟩ := h.2.1 hb
    obtain ⟨k1, k2⟩ := k.2.1 h1
    exact ⟨k1, fun X C x1 x2 => k2 X C (h2 X C x1 x2).1 (h2 X C x1 x2).2⟩, k.2.2.1.trans h.2.2.1, k.2.2.2.1.trans h.2.2.2.1, k.2.2.2.2.1.trans h.2.2.2.2.1, Nat.le_trans h.2.2.2.2.2 k.2.2.2.2.2⟩
theorem FrR.of_below {b : Nat} {w w' : World} (h : Below w.heap.size w w') : FrR b w w' :=
  ⟨(KpY.refl _ _).below h, fun hb => ⟨Nat.lt_of_lt_of_le hb h.size, fun X C h1 h2 => ⟨h1.below h h1.lt, fun l hl v hv => h2 l hl v ((h.cell (p := ⟨b, 20 + l, none⟩) hb).symm.trans hv)⟩⟩, h.os, h.tape, h.output, h.size⟩
theorem FrR.below {b : Nat} {w w' w2 : World} (h : FrR b w w') (k : Below w'.heap.size w' w2) : FrR b w w2 := h.trans (FrR.of_below k)
theorem FrR.blk {b d : Nat} {w w' : World} {C : Array Value} {t : TypeId} (h : FrR b w w') (hB : Blk w d C t) (hT : ¬ TyR t) : Blk w' d C t := h.1.blk hB hT
theorem FrR.of_fresh {b : Nat} {w w' : World} (h : KpY TyF w w') {n : Nat} (hs : Below n w w') (hc : ∀ l, l < 3 → w'.cell? ⟨b, 20 + l, none⟩ = w.cell? ⟨b, 20 + l, none⟩) : FrR b w w' :=
  ⟨h.weaker (fun t ht => by unfold TyR; unfold TyF at ht; rcases ht with ht | ht | ht <;> simp [ht]), fun hb => ⟨Nat.lt_of_lt_of_le hb hs.size, fun X C h1 h2 => ⟨h.blk h1 (by unfold TyF; decide), fun l hl v hv => h2 l hl v ((hc l hl).symm.trans hv)⟩⟩, hs.os, hs.tape, hs.output, hs.size⟩
theorem FrR.kq {b n₀ z : Nat} {w0 w w' : World} (h : FrR b w w') (h1 : Below n₀ w0 w) (h2 : Below n₀ w0 w') : Kq n₀ z TyR w w' :=
  ⟨⟨h.2.2.1, h.2.2.2.1, h.2.2.2.2.1, h.2.2.2.2.2, fun k hk => (h2.block k hk).trans (h1.block k hk).symm⟩, fun k cs t fr hk ht => (h.1 k (Array.getElem?_eq_some_iff.1 hk).1 (fun c t' s hc => by rw [hk] at hc; cases hc; exact ht)).trans hk, fun k o hz hk hc => (h.1 k (Array.getElem?_eq_some_iff.1 hk).1 (fun c t' s hc' => by rw [hk] at hc'; cases hc'; cases hc)).trans hk, h.2.2.2.2.2⟩
/-- What a renewal knows behind fresh. -/
def RD.fresh (D : RD) (ys : List Int) : RD := if supB D.st = true then { D with P := D.P ++ [(supN D.st, ys)], st := supT D.st } else { D with sh := true, st := supT D.st }
theorem infoPut : (Tryd.prog.info? 40).map (fun i => (i.zero, i.size, i.bytes)) = some (some (.agg #[.int .i64 0, .slice none 0 0]), 2, 32) := by kernel_rfl
end Go.Proofs.YtnfgldglpfgmnaaDoor
