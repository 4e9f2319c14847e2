/- The numbers of a tree, three rows in a struct: at, set, and what stays. -/
import Derived.Test.YtnfgldglpfgmnaaDoorZf28
namespace Go.Proofs.YtnfgldglpfgmnaaDoor
set_option linter.unusedVariables false
set_option linter.unusedSimpArgs false
open Go.RowKit Go.Shelf
attribute [local go_sem] Oper.semAt_some

def upd {α : Type} (f : Nat → α) (l : Nat) (v : α) : Nat → α := fun k => if k = l then v else f k
theorem upd_same {α : Type} (f : Nat → α) (l : Nat) (v : α) : upd f l v l = v := if_pos rfl
theorem upd_other {α : Type} (f : Nat → α) (l k : Nat) (v : α) (h : k ≠ l) : upd f l v k = f k := if_neg h
/-- Numbers in memory: three rows of their own, their slices in a struct. -/
structure NumS (W : World) (base b off : Nat) (C : Array Value) (t : TypeId) (sl : Nat → Value) (Ls : Nat → List Int) : Prop where
  box : Blk W b C t
  at_ : ∀ l, l < 3 → C[off + l]? = some (sl l)
  row : ∀ l, l < 3 → W.ownsRow base 3 1 (sl l) (Ls l).length ((Ls l).map (Value.int .i64))
  apart : ∀ l m, l < 3 → m < 3 → l ≠ m → (sl l).ownBlock = none ∨ (sl l).ownBlock ≠ (sl m).ownBlock
theorem NumS.below {W W' : World} {base b off : Nat} {C : Array Value} {t : TypeId} {sl : Nat → Value} {Ls : Nat → List Int} (h : NumS W base b off C t sl Ls) (hb : Below W.heap.size W W') : NumS W' base b off C t sl Ls :=
  ⟨h.box.below hb h.box.lt, h.at_, fun l hl => own_belowT (h.row l hl) hb, h.apart⟩
theorem NumS.abide {A B : World} {row : Option Nat} {z base b off : Nat} {C : Array Value} {t : TypeId} {sl : Nat → Value} {Ls : Nat → List Int} (h : NumS A base b off C t sl Ls) (hg : A.grownBy B row) (hr : ∀ r, row = some r → z ≤ r ∧ ∃ o, A.heap[r]? = some o ∧ o.isCells = false) : NumS B base b off C t sl Ls :=
  ⟨blk_abide h.box hg hr, h.at_, fun l hl => own_abide (h.row l hl) hg hr, h.apart⟩
theorem NumF.own {w w' : World} {b : Nat} {sv v : Value} {base n : Nat} {e : TypeId} {xs : List Value} (h : NumF w w' b sv) (ho : w.ownsRow base e 1 v n xs) (hb : v.ownBlock ≠ some b) (hv : v.ownBlock = none ∨ v.ownBlock ≠ sv.ownBlock) : w'.ownsRow base e 1 v n xs := by
  refine ⟨ho.1, ?_⟩
  rcases ho.2 with h1 | ⟨g, cap, cur, rfl, hbs, hg, h2⟩
  · exact .inl h1
  · refine .inr ⟨g, cap, cur, rfl, hbs, ?_, h2⟩
    have hlt : g < w.heap.size := (Array.getElem?_eq_some_iff.1 hg).1
    refine (h.block g hlt (fun e => hb (by rw [e]; rfl)) (fun e => ?_)).trans hg
    rcases hv with h3 | h3
    · cases h3
    · exact h3 (by rw [e]; rfl)
theorem NumF.blk {w w' : World} {b k base n : Nat} {sv : Value} {C : Array Value} {t : TypeId} {xs : List Value} (h : NumF w w' b sv) (ho : w.ownsRow base 3 1 sv n xs) (hk : Blk w k C t) (hkb : k ≠ b) (ht : t ≠ 3) : Blk w' k C t :=
  (h.block k hk.lt hkb (blk_off ho hk ht)).trans hk
theorem atS_any (b off l r : Nat) (C : Array Value) (t : TypeId) (sl : Nat → Value) (Ls : Nat → List Int) (base : Nat) (w : World) (h : NumS w base b off C t sl Ls) (hl : l < 3) (hr : r ≤ 100000) :
    Calls Tryd.prog 52 #[.pointer (some ⟨b, off, none⟩), spotV l r] w fun e w' => e = .returned (.int .i64 ((Ls l).getD r 0)) ∧ Below w.heap.size w w' :=
  at_any b off l r (sl l) (Ls l) w hl hr h.box.lt ((h.box.cell _).trans (h.at_ l hl)) (Rd.own (h.row l hl))
theorem setS2_any (b off l r : Nat) (C : Array Value) (t : TypeId) (sl : Nat → Value) (Ls : Nat → List Int) (x : Int) (base : Nat) (w : World) (h : NumS w base b off C t sl Ls) (hl : l < 3) (hr : r ≤ 100000) (hLl : (Ls l).length ≤ 100001) (ht : t ≠ 3) (hbs : base ≤ w.heap.size) :
    Calls Tryd.prog 70 #[.pointer (some ⟨b, off, none⟩), spotV l r, .int .i64 x] w fun e w' => e = .returned (.tuple #[]) ∧ ∃ sw, NumS w' base b off (C.setIfInBounds (off + l) sw) t (upd sl l sw) (upd Ls l (setN (Ls l) r x)) ∧ NumF w w' b (sl l) ∧ (sw.ownBlock = (sl l).ownBlock ∨ ∃ g, sw.ownBlock = some g ∧ w.heap.size ≤ g) := by
  refine (set_any b off l r (off + l) C t (sl l) (Ls l) x base w hl hr hLl rfl h.box (h.at_ l hl) ht (h.row l hl) hbs).mono ?_
  rintro e w' ⟨rfl, sw, h1, h2, h3, h4⟩
  refine ⟨rfl, sw, ⟨h1, fun m hm => ?_, fun m hm => ?_, fun m k hm hk hne => ?_⟩, h4, h3⟩
  · by_cases e : m = l
    · subst e
      rw [upd_same, Array.getElem?_setIfInBounds_self_of_lt (Array.getElem?_eq_some_iff.1 (h.at_ m hm)).1]
    · rw [upd_other _ _ _ _ e, Array.getElem?_setIfInBounds_ne (by omega)]
      exact h.at_ m hm
  · by_cases e : m = l
    · subst e
      rw [upd_same, upd_same]
      exact h2
    · rw [upd_other _ _ _ _ e, upd_other _ _ _ _ e]
      exact h4.own (h.row m hm) (blk_off (h.row m hm) h.box ht) (h.apart m l hm hl e)
  · have lt : ∀ j g, j < 3 → (sl j).ownBlock = some g → g < w.heap.size := fun j g hj hg => ((h.row j hj).lt g hg).2
    by_cases e1 : m = l
    · subst e1
      have e2 : k ≠ m := fun e => hne e.symm
      rw [upd_same, upd_other _ _ _ _ e2]
      rcases h3 with h3 | ⟨g, h3, hg⟩
      · rw [h3]; exact h.apart m k hm hk hne
      · refine .inr (fun e => ?_)
        rw [h3] at e
        have := lt k g hk e.symm
        omega
    · rw [upd_other _ _ _ _ e1]
      by_cases e2 : k = l
      · subst e2
        rw [upd_same]
        rcases h3 with h3 | ⟨g, h3, hg⟩
        · rw [h3]; exact h.apart m k hm hk hne
        · refine .inr (fun e => ?_)
          rw [h3] at e
          have := lt m g hm e
          omega
      · rw [upd_other _ _ _ _ e2]
        exact h.apart m k hm hk hne
theorem setS_any (b off l r : Nat) (C : Array Value) (t : TypeId) (sl : Nat → Value) (Ls : Nat → List Int) (x : Int) (base : Nat) (w : World) (h : NumS w base b off C t sl Ls) (hl : l < 3) (hr : r ≤ 100000) (hLl : (Ls l).length ≤ 100001) (ht : t ≠ 3) (hbs : base ≤ w.heap.size) :
    Calls Tryd.prog 70 #[.pointer (some ⟨b, off, none⟩), spotV l r, .int .i64 x] w fun e w' => e = .returned (.tuple #[]) ∧ ∃ sw, NumS w' base b off (C.setIfInBounds (off + l) sw) t (upd sl l sw) (upd Ls l (setN (Ls l) r x)) ∧ NumF w w' b (sl l) := by
  refine (setS2_any b off l r C t sl Ls x base w h hl hr hLl ht hbs).mono ?_
  rintro e w' ⟨h1, sw, h2, h3, _⟩
  exact ⟨h1, sw, h2, h3⟩
/-- The numbers that were told, by level and rank. -/
def numL (pre : List TX) : Nat → List Int := pre.foldl (fun f x => upd f x.1.1 (setN (f x.1.1) x.1.2.1 x.1.2.2)) (fun _ => [])
theorem numL_snoc (pre : List TX) (x : TX) : numL (pre ++ [x]) = upd (numL pre) x.1.1 (setN (numL pre x.1.1) x.1.2.1 x.1.2.2) := by unfold numL; rw [List.foldl_append]; rfl
theorem setN_len (L : List Int) (r : Nat) (x : Int) : (setN L r x).length = max L.length (r + 1) := by unfold setN; rw [List.length_set, List.length_append, List.length_replicate]; omega
end Go.Proofs.YtnfgldglpfgmnaaDoor
