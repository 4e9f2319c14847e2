/- A range over a function that has memory of its own, writes into it between two rounds, and hands over what it made there. -/
import Derived.RangeFuncNested
import Derived.RangeFuncBound
import Derived.RangeFuncCalls
import Derived.RangeFuncLeaves
import Derived.Test.YtlegmaadcemgnaaDoorBase
namespace Go.Proofs.YtlegmaadcemgnaaDoor
set_option linter.unusedVariables false
set_option linter.unusedSimpArgs false
open Go.RowKit

/-- What abides the turn of blocks that T names. -/
def AbidesOf {β : Type} (T : Nat → Prop) (J : β → World → Prop) : Prop := ∀ s A B row, J s A → A.grownBy B row → (∀ r, row = some r → T r) → J s B
/-- What a round must keep: all below n₀, and the blocks that T names. -/
def KpT (n₀ : Nat) (T : Nat → Prop) (A B : World) : Prop := Below n₀ A B ∧ ∀ r, T r → B.heap[r]? = A.heap[r]?
theorem KpT.trans {n₀ : Nat} {T : Nat → Prop} {A B C : World} (h : KpT n₀ T A B) (k : KpT n₀ T B C) : KpT n₀ T A C := ⟨h.1.trans k.1, fun r hr => (k.2 r hr).trans (h.2 r hr)⟩
/-- The contract of such a function, called in W: T names the blocks that are its own; Ok: what is known of an element when it is told, beside the world in which the round before was over. -/
def Goes {α : Type} (F : Fence) (n : Nat) (P : Program) (g : Nat) (lb : Array Value) (encs : α → Array Value) (n₀ : Nat) (Ok : (Nat → Prop) → List α → α → World → World → Prop) (S Sp : List α → Prop) (W : World) : Prop :=
  ∀ (l : Nat) (J Jx : (Nat → Prop) → List α → World → Prop), (∀ T, AbidesOf T (J T)) → (∀ T, AbidesOf T (Jx T)) →
    (∀ T pre x W0 W1, J T pre W0 → J T pre W1 → Ok T pre x W0 W1 → YieldAt F (n - 1) P l (encs x) W1 fun e W' => (e = .returned (.bool true) ∧ J T (pre ++ [x]) W' ∧ KpT n₀ T W1 W') ∨ (e = .returned (.bool false) ∧ Jx T (pre ++ [x]) W')) →
    (∀ T W', Below W.heap.size W W' → (∀ r, T r → W.heap.size ≤ r ∧ r < W'.heap.size) → J T [] W') →
    CallsIn F n P g (#[.func (.yield l) #[] #[]] ++ lb) W fun e W' => (∃ v, e = .returned v) ∧ ((∃ T xs, S xs ∧ J T xs W') ∨ (∃ T pre, Sp pre ∧ Jx T pre W'))
/-- A loop over it. -/
theorem wpIn_rangeGoes {α : Type} {F : Fence} {n : Nat} {P : Program} {g : Operand} {ps : Array Tmp} {assign body : Code} {Q : Exit → Act → World → Prop} {a : Act} {w : World}
    (hro : F.round = none) (h1 : 1 ≤ n) {gf : Nat} {lb : Array Value} (hg : a.eval g = .func (.func gf) #[] lb) (hFg : F.fn gf) (eg : ∀ args w, (callFunc gf args).run P w = .ok (.enter gf args) w)
    {encs : α → Array Value} {n₀ : Nat} {Ok : (Nat → Prop) → List α → α → World → World → Prop} {S Sp : List α → Prop} (hn₀ : n₀ ≤ w.heap.size)
    (hseq : ∀ W1, Below w.heap.size w W1 → W1.heap.size = w.heap.size + 2 → Goes F (n - 1) P gf lb encs n₀ Ok S Sp W1)
    (hps : ∀ x, (encs x).size = ps.size)
    (I : (Nat → Prop) → List α → World → Prop) (Ix : (Nat → Prop) → Code → List α → World → Prop) (hI : ∀ T, AbidesOf (fun r => T r ∨ r = w.heap.size + 1) (I T)) (hIx : ∀ T c, AbidesOf (fun r => T r ∨ r = w.heap.size + 1) (Ix T c))
    (h0 : ∀ T W', Below w.heap.size w W' → w.heap.size + 2 ≤ W'.heap.size → (∀ r, T r → w.heap.size + 2 ≤ r ∧ r < W'.heap.size) → I T [] W')
    (Ax : (Nat → Prop) → List α → α → World → Act → World → Prop) (hAx : ∀ T pre x W0 a' A B, Ax T pre x W0 a' A → A.grownBy B (some (w.heap.size + 1)) → (∃ o, A.heap[w.heap.size + 1]? = some o ∧ o.isCells = false) → Ax T pre x W0 a' B)
    (hassign : ∀ (l : Nat) (T : Nat → Prop) (pre : List α) (x : α) (W0 W : World) (K : Act → World → Prop), (∀ r, T r → w.heap.size + 2 ≤ r) → I T pre W0 → I T pre W → Ok T pre x W0 W → (∀ a' W', KeepsFrom w.heap.size W W' → KpT n₀ T W W' → Ax T pre x W0 a' W' → K a' W') → assign.wpIn (F.inRound l) (n - 1 - 1) P (Exit.then K (fun _ _ _ => False)) { tmps := (ps.zip (encs x)).foldl (fun t (p, v) => t.setIfInBounds p v) a.tmps, defers := [] } W)
    (hbody : ∀ (l : Nat) (T : Nat → Prop) (pre : List α) (x : α) (W0 : World) (a' : Act) (W : World), (∀ r, T r → w.heap.size + 2 ≤ r) → Ax T pre x W0 a' W → body.wpIn (F.inRound l) (n - 1 - 1) P (ownPostG w.heap.size (KpT n₀ T) (I T) (Ix T) (pre ++ [x]) W) a' W)
    (hdone : ∀ (T : Nat → Prop) (xs : List α) (W : World), S xs → I T xs W → W.heap[w.heap.size]? = some (.deferred (some [])) → Q .normal { a with defers := { target := .collected w.heap.size, args := #[] } :: a.defers } W)
    (hstop : ∀ (T : Nat → Prop) (c : Code) (pre : List α) (W : World), Sp pre → Ix T c pre W → W.heap[w.heap.size]? = some (.deferred (some [])) → c.wpIn F n P Q { a with defers := { target := .collected w.heap.size, args := #[] } :: a.defers } W) :
    (Code.rangeFunc g ps assign body).wpIn F n P Q a w := by
  refine wpIn_rangeFunc fun fn hfn => ?_
  rw [hro]
  obtain ⟨R, hR⟩ : ∃ R : LoopState → Option Code → Loop, R = fun st pe => { state := st, pending := pe, fn, tmps := a.tmps, params := ps, assign, body, defers := w.heap.size } := ⟨_, rfl⟩
  obtain ⟨W1, hW1⟩ : ∃ W1, W1 = (w.alloc (.deferred (some []))).alloc (.loop (R .ready none)) := ⟨_, rfl⟩
  have hs1 : W1.heap.size = w.heap.size + 2 := by rw [hW1]; simp
  have hb1 : Below w.heap.size w W1 := by rw [hW1]; exact ((Below.refl _ w).alloc (Nat.le_refl _) _).alloc (by simp) _
  have hl1 : W1.heap[w.heap.size + 1]? = some (.loop (R .ready none)) := by
    rw [hW1]
    have := World.alloc_heap_new (w.alloc (.deferred (some []))) (.loop (R .ready none))
    rwa [World.size_alloc] at this
  have hd1 : W1.heap[w.heap.size]? = some (.deferred (some [])) := by
    rw [hW1]
    exact (Below.heap_alloc _ _ _ (by simp)).trans (World.alloc_heap_new w _)
  have put : ∀ {T : Nat → Prop} {J : List α → World → Prop}, AbidesOf (fun r => T r ∨ r = w.heap.size + 1) J → ∀ s A o, J s A → J s (A.putObj (w.heap.size + 1) o) := fun hJ s A o h => hJ s A _ (some (w.heap.size + 1)) h (grownBy_putObj' _ _ _) (fun r e => by cases e; exact .inr rfl)
  have kept : ∀ {T : Nat → Prop} {A B : World} {row : Option Nat} {k : Nat} {o : Obj}, (∀ r, T r → w.heap.size + 2 ≤ r) → A.grownBy B row → (∀ r, row = some r → T r) → k < w.heap.size + 2 → A.heap[k]? = some o → B.heap[k]? = some o := fun {T A B row k o} hT hgr hr hk ho =>
    (hgr.block k (Array.getElem?_eq_some_iff.1 ho).1 (fun e => by have := hT k (hr k e.symm); omega)).trans ho
  have kp : ∀ (T : Nat → Prop) (A : World) (o o' : Obj), (∀ r, T r → w.heap.size + 2 ≤ r) → A.heap[w.heap.size + 1]? = some o → KpT n₀ T A (A.putObj (w.heap.size + 1) o') := fun T A o o' hT ho => by
    have hlt : w.heap.size + 1 < A.heap.size := (Array.getElem?_eq_some_iff.1 ho).1
    exact ⟨(Below.refl n₀ A).grown (grownBy_putObj' A _ o') (by omega) (fun k e => by cases e; omega), fun r hr => World.putObj_heap_other (by have := hT r hr; omega)⟩
  refine ⟨w.heap.size + 1, [{ target := .collected w.heap.size, args := #[] }], W1, { target := .fn (.func gf) lb, args := #[.func (.yield (w.heap.size + 1)) #[] #[]] }, W1, gf, #[.func (.yield (w.heap.size + 1)) #[] #[]] ++ lb, W1, ?_, ?_, ?_, ?_, fun _ => h1, ?_⟩
  · rw [hW1, hR]; exact run_enterLoop_outer _ _ _ _ _
  · simp only [resolve, hg]
    simp [go_sem]
  · intro f' hf'
    simp [Target.leads] at hf'
    subst hf'
    exact hFg
  · simp [invoke, go_sem, eg]
  refine (hseq W1 hb1 hs1 (w.heap.size + 1) (fun T pre W => (∀ r, T r → w.heap.size + 2 ≤ r) ∧ I T pre W ∧ W.heap[w.heap.size + 1]? = some (.loop (R .ready none)) ∧ W.heap[w.heap.size]? = some (.deferred (some [])))
    (fun T pre W => (∀ r, T r → w.heap.size + 2 ≤ r) ∧ ∃ c, Ix T c pre W ∧ W.heap[w.heap.size + 1]? = some (.loop (R .done (some c))) ∧ W.heap[w.heap.size]? = some (.deferred (some []))) ?_ ?_ ?_ ?_).mono ?_
  · rintro T s A B row ⟨hT, x1, x2, x3⟩ hgr hr
    exact ⟨hT, hI T s A B row x1 hgr (fun r e => .inl (hr r e)), kept hT hgr hr (by omega) x2, kept hT hgr hr (by omega) x3⟩
  · rintro T s A B row ⟨hT, c, x1, x2, x3⟩ hgr hr
    exact ⟨hT, c, hIx T c s A B row x1 hgr (fun r e => .inl (hr r e)), kept hT hgr hr (by omega) x2, kept hT hgr hr (by omega) x3⟩
  · rintro T pre x W0 W ⟨_, i0, _⟩ ⟨hT, i1, l1, d1⟩ hok
    have hy := run_yield (P := P) (args := encs x) l1 (by rw [hR]; exact hps x)
    rw [hR] at hy
    refine ⟨fn, _, assign, body, hy, roundIn_of_wpIn hfn (hassign _ T pre x W0 W _ hT i0 i1 hok ?_)⟩
    clear hy
    intro a' Wa ka kpa ax
    have la := ka.same _ _ (by omega) l1 rfl
    have da := ka.same _ _ (Nat.le_refl _) d1 rfl
    have hlt : w.heap.size + 1 < Wa.heap.size := (Array.getElem?_eq_some_iff.1 la).1
    refine ⟨_, run_beginRound la (by rw [hR]), ?_⟩
    have l2 : (Wa.putObj (w.heap.size + 1) (.loop { R .ready none with state := .busy })).heap[w.heap.size + 1]? = some (.loop { R .ready none with state := .busy }) := World.putObj_heap_same hlt
    have d2 : (Wa.putObj (w.heap.size + 1) (.loop { R .ready none with state := .busy })).heap[w.heap.size]? = some (.deferred (some [])) := (World.putObj_heap_other (by omega)).trans da
    refine wpIn_mono (hbody _ T pre x W0 a' _ hT (hAx _ _ _ _ _ _ _ ax (grownBy_putObj' _ _ _) ⟨_, la, rfl⟩)) ?_
    have fin : ∀ (jump : Option Code) (W3 : World), KeepsFrom w.heap.size (Wa.putObj (w.heap.size + 1) (.loop { R .ready none with state := .busy })) W3 →
        (Instr.endRound (w.heap.size + 1) jump).run P W3 = .ok (.bool jump.isNone) (W3.putObj (w.heap.size + 1) (.loop (R (if jump.isNone then .ready else .done) jump))) ∧
        (W3.putObj (w.heap.size + 1) (.loop (R (if jump.isNone then .ready else .done) jump))).heap[w.heap.size + 1]? = some (.loop (R (if jump.isNone then .ready else .done) jump)) ∧
        (W3.putObj (w.heap.size + 1) (.loop (R (if jump.isNone then .ready else .done) jump))).heap[w.heap.size]? = some (.deferred (some [])) ∧ W3.heap[w.heap.size + 1]? = some (.loop { R .ready none with state := .busy }) := fun jump W3 hk => by
      have l3 := hk.same _ _ (by omega) l2 rfl
      have he := run_endRound (P := P) jump l3
      refine ⟨?_, World.putObj_heap_same (Array.getElem?_eq_some_iff.1 l3).1, (World.putObj_heap_other (by omega)).trans (hk.same _ _ (Nat.le_refl _) d2 rfl), l3⟩
      rw [hR] at he ⊢
      exact he
    have leave : ∀ (c : Code) (W3 : World), KeepsFrom w.heap.size (Wa.putObj (w.heap.size + 1) (.loop { R .ready none with state := .busy })) W3 → Ix T c (pre ++ [x]) W3 → ∃ v w', (Instr.endRound (w.heap.size + 1) (some c)).run P W3 = .ok v w' ∧
        (((Ending.returned v) = .returned (.bool true) ∧ ((∀ r, T r → w.heap.size + 2 ≤ r) ∧ I T (pre ++ [x]) w' ∧ w'.heap[w.heap.size + 1]? = some (.loop (R .ready none)) ∧ w'.heap[w.heap.size]? = some (.deferred (some []))) ∧ KpT n₀ T W w') ∨ ((Ending.returned v) = .returned (.bool false) ∧ (∀ r, T r → w.heap.size + 2 ≤ r) ∧ ∃ c, Ix T c (pre ++ [x]) w' ∧ w'.heap[w.heap.size + 1]? = some (.loop (R .done (some c))) ∧ w'.heap[w.heap.size]? = some (.deferred (some [])))) := fun c W3 hk hx => by
      obtain ⟨r1, r2, r3, _⟩ := fin (some c) W3 hk
      exact ⟨_, _, r1, .inr ⟨rfl, hT, c, put (hIx T c) _ _ _ hx, r2, r3⟩⟩
    rintro e a3 W3 hp
    cases e with
    | normal =>
      obtain ⟨k3, kp3, i3⟩ := hp
      obtain ⟨r1, r2, r3, r4⟩ := fin none W3 k3
      exact ⟨_, _, r1, .inl ⟨rfl, ⟨hT, put (hI T) _ _ _ i3, r2, r3⟩, ((kpa.trans (kp T Wa _ _ hT la)).trans kp3).trans (kp T W3 _ _ hT r4)⟩⟩
    | ret => exact leave _ W3 hp.1 hp.2
    | exit id => exact leave _ W3 hp.1 hp.2
    | goto t => exact leave _ W3 hp.1 hp.2
    | panic ch => exact hp.elim
    | outgrown => exact hp.elim
  · rintro T W' hb hT
    rw [hs1] at hb hT
    exact ⟨fun r hr => (hT r hr).1, h0 T W' (hb1.trans (hb.mono (by omega))) (by have := hb.size; omega) hT, (hb.block _ (by omega)).trans hl1, (hb.block _ (by omega)).trans hd1⟩
  · rintro e W2 ⟨⟨v, rfl⟩, (⟨T, xs, hS, hT, hi, hl, hk⟩ | ⟨T, pre, hSp, hT, c, hi, hl, hk⟩)⟩
    · have he := run_endLoop (P := P) hl (by rw [hR]; simp)
      rw [hR] at he
      exact ⟨none, _, he, hdone T xs _ hS (put (hI T) _ _ _ hi) ((World.putObj_heap_other (by omega)).trans hk)⟩
    · have he := run_endLoop (P := P) hl (by rw [hR]; simp)
      rw [hR] at he
      exact ⟨some c, _, he, hstop T c pre _ hSp (put (hIx T c) _ _ _ hi) ((World.putObj_heap_other (by omega)).trans hk)⟩
end Go.Proofs.YtlegmaadcemgnaaDoor
