/- A range over a function that has memory of its own, writes into it between two rounds, and hands over what it made there. Structs in a fenced walk: load, store into a block of the call's own, a slice of one struct. The iterator over the records of a log: what is known between two rounds. -/
import Derived.RangeFuncNested
import Derived.RangeFuncBound
import Derived.RangeFuncCalls
import Derived.RangeFuncLeaves
import Derived.Test.YtohmjfagbhnieaaGreatDoorZl01
import Derived.OwnWalkIn
import Derived.Great.BuildSlice
import Derived.Great.FillDense
import Derived.Test.YtohmjfagbhnieaaGreatDoorZl02
import Derived.Test.YtohmjfagbhnieaaGreatDoorZl32
import Derived.Shelf.Abstract
import Derived.Shelf.RegionOpen
import Derived.WalkKit
import Derived.TacticsInMore
import Derived.LoopNIn
import Derived.LoopIn
import Derived.Maps.AppendAt
namespace Go.Proofs.YtohmjfagbhnieaaGreatDoor
set_option linter.unusedVariables false
set_option linter.unusedSimpArgs false
open Go.RowKit

/-- What abides the turn of blocks that T names. -/
def AbidesOf {β : Type} (T : Nat → Prop) (J : β → World → Prop) : Prop := ∀ s A B row, J s A → A.grownBy B row → (∀ r, row = some r → T r) → J s B
/-- What a round must keep: all below n₀, and the blocks that T names. -/
def KpT (n₀ : Nat) (T : Nat → Prop) (A B : World) : Prop := Below n₀ A B ∧ ∀ r, T r → B.heap[r]? = A.heap[r]?
theorem KpT.trans {n₀ : Nat} {T : Nat → Prop} {A B C : World} (h : KpT n₀ T A B) (k : KpT n₀ T B C) : KpT n₀ T A C := ⟨h.1.trans k.1, fun r hr => (k.2 r hr).trans (h.2 r hr)⟩
/-- The contract of such a function, called in W: T names the blocks that are its own; Ok: what is known of an element when it is told, beside the world in which the round before was over. -/
def Goes {α : Type} (F : Fence) (n : Nat) (P : Program) (g : Nat) (lb : Array Value) (encs : α → Array Value) (n₀ : Nat) (Ok : (Nat → Prop) → List α → α → World → World → Prop) (S Sp : List α → Prop) (W : World) : Prop :=
  ∀ (l : Nat) (J Jx : (Nat → Prop) → List α → World → Prop), (∀ T, AbidesOf T (J T)) → (∀ T, AbidesOf T (Jx T)) →
    (∀ T pre x W0 W1, J T pre W0 → J T pre W1 → Ok T pre x W0 W1 → YieldAt F (n - 1) P l (encs x) W1 fun e W' => (e = .returned (.bool true) ∧ J T (pre ++ [x]) W' ∧ KpT n₀ T W1 W') ∨ (e = .returned (.bool false) ∧ Jx T (pre ++ [x]) W')) →
    (∀ T W', Below W.heap.size W W' → (∀ r, T r → W.heap.size ≤ r ∧ r < W'.heap.size) → J T [] W') →
    CallsIn F n P g (#[.func (.yield l) #[] #[]] ++ lb) W fun e W' => (∃ v, e = .returned v) ∧ ((∃ T xs, S xs ∧ J T xs W') ∨ (∃ T pre, Sp pre ∧ Jx T pre W'))
/-- A loop over it. -/
theorem wpIn_rangeGoes {α : Type} {F : Fence} {n : Nat} {P : Program} {g : Operand} {ps : Array Tmp} {assign body : Code} {Q : Exit → Act → World → Prop} {a : Act} {w : World}
    (hro : F.round = none) (h1 : 1 ≤ n) {gf : Nat} {lb : Array Value} (hg : a.eval g = .func (.func gf) #[] lb) (hFg : F.fn gf) (eg : ∀ args w, (callFunc gf args).run P w = .ok (.enter gf args) w)
    {encs : α → Array Value} {n₀ : Nat} {Ok : (Nat → Prop) → List α → α → World → World → Prop} {S Sp : List α → Prop} (hn₀ : n₀ ≤ w.heap.size)
    (hseq : ∀ W1, Below w.heap.size w W1 → W1.heap.size = w.heap.size + 2 → Goes F (n - 1) P gf lb encs n₀ Ok S Sp W1)
    (hps : ∀ x, (encs x).size = ps.size)
    (I : (Nat → Prop) → List α → World → Prop) (Ix : (Nat → Prop) → Code → List α → World → Prop) (hI : ∀ T, AbidesOf (fun r => T r ∨ r = w.heap.size + 1) (I T)) (hIx : ∀ T c, AbidesOf (fun r => T r ∨ r = w.heap.size + 1) (Ix T c))
    (h0 : ∀ T W', Below w.heap.size w W' → w.heap.size + 2 ≤ W'.heap.size → (∀ r, T r → w.heap.size + 2 ≤ r ∧ r < W'.heap.size) → I T [] W')
    (Ax : (Nat → Prop) → List α → α → World → Act → World → Prop) (hAx : ∀ T pre x W0 a' A B, Ax T pre x W0 a' A → A.grownBy B (some (w.heap.size + 1)) → (∃ o, A.heap[w.heap.size + 1]? = some o ∧ o.isCells = false) → Ax T pre x W0 a' B)
    (hassign : ∀ (l : Nat) (T : Nat → Prop) (pre : List α) (x : α) (W0 W : World) (K : Act → World → Prop), (∀ r, T r → w.heap.size + 2 ≤ r) → I T pre W0 → I T pre W → Ok T pre x W0 W → (∀ a' W', KeepsFrom w.heap.size W W' → KpT n₀ T W W' → Ax T pre x W0 a' W' → K a' W') → assign.wpIn (F.inRound l) (n - 1 - 1) P (Exit.then K (fun _ _ _ => False)) { tmps := (ps.zip (encs x)).foldl (fun t (p, v) => t.setIfInBounds p v) a.tmps, defers := [] } W)
    (hbody : ∀ (l : Nat) (T : Nat → Prop) (pre : List α) (x : α) (W0 : World) (a' : Act) (W : World), (∀ r, T r → w.heap.size + 2 ≤ r) → Ax T pre x W0 a' W → body.wpIn (F.inRound l) (n - 1 - 1) P (ownPostG w.heap.size (KpT n₀ T) (I T) (Ix T) (pre ++ [x]) W) a' W)
    (hdone : ∀ (T : Nat → Prop) (xs : List α) (W : World), S xs → I T xs W → W.heap[w.heap.size]? = some (.deferred (some [])) → Q .normal { a with defers := { target := .collected w.heap.size, args := #[] } :: a.defers } W)
    (hstop : ∀ (T : Nat → Prop) (c : Code) (pre : List α) (W : World), Sp pre → Ix T c pre W → W.heap[w.heap.size]? = some (.deferred (some [])) → c.wpIn F n P Q { a with defers := { target := .collected w.heap.size, args := #[] } :: a.defers } W) :
    (Code.rangeFunc g ps assign body).wpIn F n P Q a w := by
  refine wpIn_rangeFunc fun fn hfn => ?_
  rw [hro]
  obtain ⟨R, hR⟩ : ∃ R : LoopState → Option Code → Loop, R = fun st pe => { state := st, pending := pe, fn, tmps := a.tmps, params := ps, assign, body, defers := w.heap.size } := ⟨_, rfl⟩
  obtain ⟨W1, hW1⟩ : ∃ W1, W1 = (w.alloc (.deferred (some []))).alloc (.loop (R .ready none)) := ⟨_, rfl⟩
  have hs1 : W1.heap.size = w.heap.size + 2 := by rw [hW1]; simp
  have hb1 : Below w.heap.size w W1 := by rw [hW1]; exact ((Below.refl _ w).alloc (Nat.le_refl _) _).alloc (by simp) _
  have hl1 : W1.heap[w.heap.size + 1]? = some (.loop (R .ready none)) := by
    rw [hW1]
    have := World.alloc_heap_new (w.alloc (.deferred (some []))) (.loop (R .ready none))
    rwa [World.size_alloc] at this
  have hd1 : W1.heap[w.heap.size]? = some (.deferred (some [])) := by
    rw [hW1]
    exact (Below.heap_alloc _ _ _ (by simp)).trans (World.alloc_heap_new w _)
  have put : ∀ {T : Nat → Prop} {J : List α → World → Prop}, AbidesOf (fun r => T r ∨ r = w.heap.size + 1) J → ∀ s A o, J s A → J s (A.putObj (w.heap.size + 1) o) := fun hJ s A o h => hJ s A _ (some (w.heap.size + 1)) h (grownBy_putObj' _ _ _) (fun r e => by cases e; exact .inr rfl)
  have kept : ∀ {T : Nat → Prop} {A B : World} {row : Option Nat} {k : Nat} {o : Obj}, (∀ r, T r → w.heap.size + 2 ≤ r) → A.grownBy B row → (∀ r, row = some r → T r) → k < w.heap.size + 2 → A.heap[k]? = some o → B.heap[k]? = some o := fun {T A B row k o} hT hgr hr hk ho =>
    (hgr.block k (Array.getElem?_eq_some_iff.1 ho).1 (fun e => by have := hT k (hr k e.symm); omega)).trans ho
  have kp : ∀ (T : Nat → Prop) (A : World) (o o' : Obj), (∀ r, T r → w.heap.size + 2 ≤ r) → A.heap[w.heap.size + 1]? = some o → KpT n₀ T A (A.putObj (w.heap.size + 1) o') := fun T A o o' hT ho => by
    have hlt : w.heap.size + 1 < A.heap.size := (Array.getElem?_eq_some_iff.1 ho).1
    exact ⟨(Below.refl n₀ A).grown (grownBy_putObj' A _ o') (by omega) (fun k e => by cases e; omega), fun r hr => World.putObj_heap_other (by have := hT r hr; omega)⟩
  refine ⟨w.heap.size + 1, [{ target := .collected w.heap.size, args := #[] }], W1, { target := .fn (.func gf) lb, args := #[.func (.yield (w.heap.size + 1)) #[] #[]] }, W1, gf, #[.func (.yield (w.heap.size + 1)) #[] #[]] ++ lb, W1, ?_, ?_, ?_, ?_, fun _ => h1, ?_⟩
  · rw [hW1, hR]; exact run_enterLoop_outer _ _ _ _ _
  · simp only [resolve, hg]
    simp [go_sem]
  · intro f' hf'
    simp [Target.leads] at hf'
    subst hf'
    exact hFg
  · simp [invoke, go_sem, eg]
  refine (hseq W1 hb1 hs1 (w.heap.size + 1) (fun T pre W => (∀ r, T r → w.heap.size + 2 ≤ r) ∧ I T pre W ∧ W.heap[w.heap.size + 1]? = some (.loop (R .ready none)) ∧ W.heap[w.heap.size]? = some (.deferred (some [])))
    (fun T pre W => (∀ r, T r → w.heap.size + 2 ≤ r) ∧ ∃ c, Ix T c pre W ∧ W.heap[w.heap.size + 1]? = some (.loop (R .done (some c))) ∧ W.heap[w.heap.size]? = some (.deferred (some []))) ?_ ?_ ?_ ?_).mono ?_
  · rintro T s A B row ⟨hT, x1, x2, x3⟩ hgr hr
    exact ⟨hT, hI T s A B row x1 hgr (fun r e => .inl (hr r e)), kept hT hgr hr (by omega) x2, kept hT hgr hr (by omega) x3⟩
  · rintro T s A B row ⟨hT, c, x1, x2, x3⟩ hgr hr
    exact ⟨hT, c, hIx T c s A B row x1 hgr (fun r e => .inl (hr r e)), kept hT hgr hr (by omega) x2, kept hT hgr hr (by omega) x3⟩
  · rintro T pre x W0 W ⟨_, i0, _⟩ ⟨hT, i1, l1, d1⟩ hok
    have hy := run_yield (P := P) (args := encs x) l1 (by rw [hR]; exact hps x)
    rw [hR] at hy
    refine ⟨fn, _, assign, body, hy, roundIn_of_wpIn hfn (hassign _ T pre x W0 W _ hT i0 i1 hok ?_)⟩
    clear hy
    intro a' Wa ka kpa ax
    have la := ka.same _ _ (by omega) l1 rfl
    have da := ka.same _ _ (Nat.le_refl _) d1 rfl
    have hlt : w.heap.size + 1 < Wa.heap.size := (Array.getElem?_eq_some_iff.1 la).1
    refine ⟨_, run_beginRound la (by rw [hR]), ?_⟩
    have l2 : (Wa.putObj (w.heap.size + 1) (.loop { R .ready none with state := .busy })).heap[w.heap.size + 1]? = some (.loop { R .ready none with state := .busy }) := World.putObj_heap_same hlt
    have d2 : (Wa.putObj (w.heap.size + 1) (.loop { R .ready none with state := .busy })).heap[w.heap.size]? = some (.deferred (some [])) := (World.putObj_heap_other (by omega)).trans da
    refine wpIn_mono (hbody _ T pre x W0 a' _ hT (hAx _ _ _ _ _ _ _ ax (grownBy_putObj' _ _ _) ⟨_, la, rfl⟩)) ?_
    have fin : ∀ (jump : Option Code) (W3 : World), KeepsFrom w.heap.size (Wa.putObj (w.heap.size + 1) (.loop { R .ready none with state := .busy })) W3 →
        (Instr.endRound (w.heap.size + 1) jump).run P W3 = .ok (.bool jump.isNone) (W3.putObj (w.heap.size + 1) (.loop (R (if jump.isNone then .ready else .done) jump))) ∧
        (W3.putObj (w.heap.size + 1) (.loop (R (if jump.isNone then .ready else .done) jump))).heap[w.heap.size + 1]? = some (.loop (R (if jump.isNone then .ready else .done) jump)) ∧
        (W3.putObj (w.heap.size + 1) (.loop (R (if jump.isNone then .ready else .done) jump))).heap[w.heap.size]? = some (.deferred (some [])) ∧ W3.heap[w.heap.size + 1]? = some (.loop { R .ready none with state := .busy }) := fun jump W3 hk => by
      have l3 := hk.same _ _ (by omega) l2 rfl
      have he := run_endRound (P := P) jump l3
      refine ⟨?_, World.putObj_heap_same (Array.getElem?_eq_some_iff.1 l3).1, (World.putObj_heap_other (by omega)).trans (hk.same _ _ (Nat.le_refl _) d2 rfl), l3⟩
      rw [hR] at he ⊢
      exact he
    have leave : ∀ (c : Code) (W3 : World), KeepsFrom w.heap.size (Wa.putObj (w.heap.size + 1) (.loop { R .ready none with state := .busy })) W3 → Ix T c (pre ++ [x]) W3 → ∃ v w', (Instr.endRound (w.heap.size + 1) (some c)).run P W3 = .ok v w' ∧
        (((Ending.returned v) = .returned (.bool true) ∧ ((∀ r, T r → w.heap.size + 2 ≤ r) ∧ I T (pre ++ [x]) w' ∧ w'.heap[w.heap.size + 1]? = some (.loop (R .ready none)) ∧ w'.heap[w.heap.size]? = some (.deferred (some []))) ∧ KpT n₀ T W w') ∨ ((Ending.returned v) = .returned (.bool false) ∧ (∀ r, T r → w.heap.size + 2 ≤ r) ∧ ∃ c, Ix T c (pre ++ [x]) w' ∧ w'.heap[w.heap.size + 1]? = some (.loop (R .done (some c))) ∧ w'.heap[w.heap.size]? = some (.deferred (some [])))) := fun c W3 hk hx => by
      obtain ⟨r1, r2, r3, _⟩ := fin (some c) W3 hk
      exact ⟨_, _, r1, .inr ⟨rfl, hT, c, put (hIx T c) _ _ _ hx, r2, r3⟩⟩
    rintro e a3 W3 hp
    cases e with
    | normal =>
      obtain ⟨k3, kp3, i3⟩ := hp
      obtain ⟨r1, r2, r3, r4⟩ := fin none W3 k3
      exact ⟨_, _, r1, .inl ⟨rfl, ⟨hT, put (hI T) _ _ _ i3, r2, r3⟩, ((kpa.trans (kp T Wa _ _ hT la)).trans kp3).trans (kp T W3 _ _ hT r4)⟩⟩
    | ret => exact leave _ W3 hp.1 hp.2
    | exit id => exact leave _ W3 hp.1 hp.2
    | goto t => exact leave _ W3 hp.1 hp.2
    | panic ch => exact hp.elim
    | outgrown => exact hp.elim
  · rintro T W' hb hT
    rw [hs1] at hb hT
    exact ⟨fun r hr => (hT r hr).1, h0 T W' (hb1.trans (hb.mono (by omega))) (by have := hb.size; omega) hT, (hb.block _ (by omega)).trans hl1, (hb.block _ (by omega)).trans hd1⟩
  · rintro e W2 ⟨⟨v, rfl⟩, (⟨T, xs, hS, hT, hi, hl, hk⟩ | ⟨T, pre, hSp, hT, c, hi, hl, hk⟩)⟩
    · have he := run_endLoop (P := P) hl (by rw [hR]; simp)
      rw [hR] at he
      exact ⟨none, _, he, hdone T xs _ hS (put (hI T) _ _ _ hi) ((World.putObj_heap_other (by omega)).trans hk)⟩
    · have he := run_endLoop (P := P) hl (by rw [hR]; simp)
      rw [hR] at he
      exact ⟨some c, _, he, hstop T c pre _ hSp (put (hIx T c) _ _ _ hi) ((World.putObj_heap_other (by omega)).trans hk)⟩
end Go.Proofs.YtohmjfagbhnieaaGreatDoor

namespace Go.Proofs.YtohmjfagbhnieaaGreatDoor
set_option linter.unusedVariables false
set_option linter.unusedSimpArgs false
open Go.RowKit
section
variable {F : Fence} {n : Nat} {P : Program} {ops : Array Oper} {rest : List Oper} {o : Oper} {a : Act} {w : World} {Q : Exit → Act → World → Prop}
theorem wpListIn_run (hgd : o.guard = none) (hnc : ∀ c, o.op ≠ .call c) (hnd : ∀ c, o.op ≠ .defer c) (v : Value) (w' : World) (hrun : (execOp a.eval o).run P w = .ok (.value v) w') (h : wpListIn F n P ops Q rest (a.put o.dst v) w') : wpListIn F n P ops Q (o :: rest) a w := by
  refine wpListIn_plain hgd fun K hK' => ?_
  have hab : o.about P w a.eval = none := by
    unfold Oper.about
    split
    · rename_i c hc
      exact absurd hc (hnc c)
    · rfl
  unfold Oper.wpIn
  refine ⟨?_, ?_⟩
  · simp [hab]
  · rw [Oper.semAt_plain F _ _ hnd, hrun]
    exact hK' _ _ h
theorem wpListIn_runS (hgd : o.guard = none) (hnc : ∀ c, o.op ≠ .call c) (hnd : ∀ c, o.op ≠ .defer c) (w' : World) (hrun : (execOp a.eval o).run P w = .ok .skip w') (h : wpListIn F n P ops Q rest (a.put o.dst undef) w') : wpListIn F n P ops Q (o :: rest) a w := by
  refine wpListIn_plain hgd fun K hK' => ?_
  have hab : o.about P w a.eval = none := by
    unfold Oper.about
    split
    · rename_i c hc
      exact absurd hc (hnc c)
    · rfl
  unfold Oper.wpIn
  refine ⟨?_, ?_⟩
  · simp [hab]
  · rw [Oper.semAt_plain F _ _ hnd, hrun]
    exact hK' _ _ h
theorem wpListIn_load_mid (hgd : o.guard = none) (ty : TypeId) (x : Operand) (ho : o.op = .load ty x)
    (b q : Nat) (hx : a.eval x = .pointer (some ⟨b, q, none⟩)) (cs : List Value) (d : TypeDesc) (hc : w.rangeAt b q cs)
    (hu : P.underlying ty = some d) (hd : d.isRow = true) (hi : (P.info? ty).map (·.size) = some cs.length)
    (h : wpListIn F n P ops Q rest (a.put o.dst (.agg cs.toArray)) w) : wpListIn F n P ops Q (o :: rest) a w := by
  refine wpListIn_run hgd (by rw [ho]; intro c hc; cases hc) (by rw [ho]; intro c hc; cases hc) _ _ ?_ h
  unfold execOp
  simp only [ho, hx, Sem.run_bind, run_loadAt_mid w b q ty cs d hc hu hd hi, Result.andThen_ok]
  rfl
theorem wpListIn_store_new (B : Nat) (W0 : World) (hgd : o.guard = none) (ty : TypeId) (x y : Operand) (ho : o.op = .store ty x y)
    (g : Nat) (cells : Array Value) (hx : a.eval x = .pointer (some ⟨g, 0, none⟩)) (hy : a.eval y = .agg cells)
    (t : TypeId) (old : Array Value) (hg : Blk w g old t) (hi : (P.info? ty).map (·.size) = some cells.size)
    (hold : old.size = cells.size) (h1 : cells.all (·.oneCell') = true) (hB : Below B W0 w) (hBg : B ≤ g)
    (h : ∀ w2, Blk w2 g cells t → Below B W0 w2 → wpListIn F n P ops Q rest (a.put o.dst undef) w2) : wpListIn F n P ops Q (o :: rest) a w := by
  refine wpListIn_runS hgd (by rw [ho]; intro c hc; cases hc) (by rw [ho]; intro c hc; cases hc) (w.setRow g cells) ?_ (h _ (hg.row cells) (below_setRow hB hBg cells))
  unfold execOp
  simp only [ho, hx, hy, Instr.storeAt, Instr.sureAddr, Sem.run_bind, Sem.run_pure, Result.andThen_ok, run_storeVar_row w g t ty old cells hg hi hold h1]
theorem wpListIn_build1 (hgd : o.guard = none) (t e : TypeId) (x : Operand) (ho : o.op = .buildSlice t 1 #[(0, x)]) (cells : Array Value) (hx : a.eval x = .agg cells) (i : TypeInfo) (z : Value)
    (hu : P.underlying t = some (.slice e)) (hi : P.info? e = some i) (hz : i.zero = some z) (hs : i.size = cells.size) (hp : 0 < cells.size) (hl : cells.size ≤ 1000)
    (h : wpListIn F n P ops Q rest (a.put o.dst (.slice (some ⟨w.heap.size, 0, none⟩) 1 1)) (w.alloc (.cells cells e))) : wpListIn F n P ops Q (o :: rest) a w := by
  refine wpListIn_run hgd (by rw [ho]; intro c hc; cases hc) (by rw [ho]; intro c hc; cases hc) _ _ ?_ h
  have hf : Instr.fill (fun j => some (j * i.size, i.size)) ((Array.range (1 * i.size)).map (z.cells[· % z.cells.size]!)) [(0, Value.agg cells)] = some cells := by
    have := Great.fill_whole (s := i.size) (by omega) [.agg cells] ((Array.range (1 * i.size)).map (z.cells[· % z.cells.size]!)) (by intro v hv; simp at hv; subst hv; exact hs.symm) (by simp)
    simpa [Value.cells] using this
  have hr := run_buildSlice w t e 1 [(0, Value.agg cells)].toArray cells i z hu hi hz (by omega) (by omega) (by simpa using hf)
  have he : (#[(0, x)] : Array (Nat × Operand)).map (fun p => (p.1, a.eval p.2)) = [(0, Value.agg cells)].toArray := by simp [hx]
  unfold execOp
  simp only [ho]
  rw [← he] at hr
  simp only [Sem.run_bind, hr, Result.andThen_ok]
  rfl
end
end Go.Proofs.YtohmjfagbhnieaaGreatDoor

namespace Go.Proofs.YtohmjfagbhnieaaGreatDoor
set_option linter.unusedVariables false
set_option linter.unusedSimpArgs false
open Go.RowKit

/-- What the iterator tells: an entry, the slice of its Data, the slice of its bytes. -/
abbrev LX := EntL × Value × Value
def LX.cells (x : LX) : Array Value := logC (x.1.n : Int) x.1.K x.1.A x.1.B x.1.U x.1.G x.1.p x.1.q x.2.1 x.2.2
def LX.enc (x : LX) : Array Value := #[.agg x.cells]
/-- What is known of it when it is told: it is the next entry of L; its bytes lie in the log; its Data is new. -/
structure OkL (L : List EntL) (z : Nat) (T : Nat → Prop) (pre : List LX) (x : LX) (W0 W1 : World) : Prop where
  here : L[pre.length]? = some x.1
  same : pre.map (·.1) = L.take pre.length
  raw : Rd .u8 W1 x.2.2 x.1.raw
  data : W1.ownsRow (if pre.length = 0 then z else W0.heap.size) 5 1 x.2.1 x.1.ds.length (x.1.ds.map (Value.int .u8))
  apart : ∀ k, x.2.1.ownBlock = some k → ¬ T k
/-- A reader, found again behind a round that kept its block and all below n₀. -/
theorem Rdr.again {w V W' : World} {b lo : Nat} {dv : Value} {zs : List Int} {pos : Nat} (h : Rdr (upTo V b) V b lo true dv zs pos) (hb : W'.heap[b]? = V.heap[b]?) (hR : Rd .u8 w dv zs) (hw : Below w.heap.size w W') (hn : w.heap.size ≤ b) (hV : V.heap.size ≤ W'.heap.size) :
    Rdr (upTo W' b) W' b (b + 1) true dv zs pos := by
  have hbl : b < V.heap.size := h.ck.lt
  obtain ⟨c1, c2, ev, c3, c4⟩ := h.ck
  rcases c4 with ⟨_, c4⟩ | ⟨c4, _⟩
  · refine ⟨⟨(World.cell?_of_block (a := ⟨b, 0, none⟩) hb).trans c1, (World.frozen?_of_block (a := ⟨b, 1, none⟩) hb).trans c2, ev, (World.cell?_of_block (a := ⟨b, 1, none⟩) hb).trans c3, .inl ⟨rfl, c4⟩⟩, (World.cell?_of_block (a := ⟨b, 2, none⟩) hb).trans h.data, (World.cell?_of_block (a := ⟨b, 3, none⟩) hb).trans h.at_, (World.frozen?_of_block (a := ⟨b, 3, none⟩) hb).trans h.fr, upTo_below W' b (by omega), upTo_size W' b (by omega), ?_, h.le, by omega, by omega⟩
    exact Rd.upTo (n₀ := 0) hR hw hn (by omega)
  · cases c4
/-- Any reader whose base is known only up to b, seen from the world as it stands. -/
theorem Rdr.base {w w0 V : World} {b lo : Nat} {ok : Bool} {dv : Value} {zs : List Int} {pos : Nat} (h : Rdr w0 V b lo ok dv zs pos) (hR : Rd .u8 w dv zs) (hw : Below w.heap.size w V) (hn : w.heap.size ≤ b) : Rdr (upTo V b) V b lo ok dv zs pos := by
  have hbl : b < V.heap.size := h.ck.lt
  exact ⟨h.ck, h.data, h.at_, h.fr, upTo_below V b (by omega), upTo_size V b (by omega), Rd.upTo (n₀ := 0) hR hw hn (by omega), h.le, h.lo1, h.lo2⟩
/-- How much is left to be read. -/
def rdM (b len : Nat) (W : World) : Nat := match W.cell? ⟨b, 1, none⟩, W.cell? ⟨b, 3, none⟩ with
  | some .nilIface, some (.int _ p) => len - p.toNat + 1
  | _, _ => 0
theorem rdM_ok {w0 W : World} {b lo : Nat} {dv : Value} {zs : List Int} {pos : Nat} (h : Rdr w0 W b lo true dv zs pos) (len : Nat) : rdM b len W = len - pos + 1 := by
  obtain ⟨c1, c2, ev, c3, c4⟩ := h.ck
  rcases c4 with ⟨_, rfl⟩ | ⟨c4, _⟩
  · unfold rdM; rw [c3, h.at_]; simp
  · cases c4
theorem rdM_no {w0 W : World} {b lo : Nat} {dv : Value} {zs : List Int} {pos : Nat} (h : Rdr w0 W b lo false dv zs pos) (len : Nat) : rdM b len W = 0 := by
  obtain ⟨c1, c2, ev, c3, c4⟩ := h.ck
  rcases c4 with ⟨c4, _⟩ | ⟨_, n, c5⟩
  · cases c4
  · obtain ⟨t', x', rfl⟩ := c5.iface
    unfold rdM; rw [c3]
/-- Between two rounds: the world w at the beginning (where the log lies), the reader at b, the record read at c. -/
structure Irc (w : World) (zs : List Int) (dv : Value) (L : List EntL) (J : (Nat → Prop) → List LX → World → Prop) (z b c : Nat) (ok : Bool) (p lo : Nat) (C : Array Value) (pre : List LX) (wr : World) : Prop where
  inv : J (fun r => r = b ∨ r = c) pre wr
  old : Below w.heap.size w wr
  rdr : Rdr (upTo wr b) wr b lo ok dv zs p
  blk : Blk wr c C 72
  lt : b < c
  base : w.heap.size ≤ b
  start : z ≤ b
  same : pre.map (·.1) = L.take pre.length
  le : pre.length ≤ L.length
  more : ok = true → ∃ (x : LX) (W0 : World), C = x.cells ∧ J (fun r => r = b ∨ r = c) pre W0 ∧ OkL L z (fun r => r = b ∨ r = c) pre x W0 wr ∧ x.1.ok ∧ ScE (some x.1.n) (zs.drop p) (L.drop (pre.length + 1))
  last : ok = false → pre.length = L.length
theorem rcM {w : World} {zs : List Int} {dv : Value} {L : List EntL} {J : (Nat → Prop) → List LX → World → Prop} {z b c : Nat} {ok : Bool} {p lo : Nat} {C : Array Value} {pre : List LX} {wr : World} (h : Irc w zs dv L J z b c ok p lo C pre wr) : rdM b zs.length wr = if ok then zs.length - p + 1 else 0 := by
  cases ok with
  | true => exact rdM_ok h.rdr _
  | false => exact rdM_no h.rdr _
/-- What reading on tells of the entries. -/
theorem rl_next {zs : List Int} (hbd : ∀ z ∈ zs, 0 ≤ z ∧ z < 256) {L : List EntL} {o : Option Nat} {k p p' : Nat} {e : EntL} {ok1 okN : Bool} (hS : ScE o (zs.drop p) (L.drop k)) (hk : k ≤ L.length) (hR : RL zs p e ok1 p') (hN : ok1 = true → (okN = true ↔ folE o e)) :
    ((ok1 && okN) = true → L[k]? = some e ∧ e.ok ∧ ScE (some e.n) (zs.drop p') (L.drop (k + 1)) ∧ p' = p + e.raw.length ∧ p' ≤ zs.length ∧ (zs.drop p).take (p' - p) = e.raw) ∧ ((ok1 && okN) = false → k = L.length) := by
  have bd' : ∀ z ∈ zs.drop p, 0 ≤ z ∧ z < 256 := fun z hz => hbd z (List.mem_of_mem_drop hz)
  have lastOf : L.drop k = [] → k = L.length := fun h => by
    have := congrArg List.length h
    rw [List.length_drop] at this
    simp at this
    omega
  rcases hR with ⟨h1, h2, h3, h4, h5⟩ | ⟨h1, h2⟩
  · subst h1
    rw [Bool.true_and]
    refine ⟨fun h => ?_, fun h => ?_⟩
    · obtain ⟨L', hL, hS'⟩ := hS.head bd' h2 ((hN rfl).1 h) h3
      have hk2 : k < L.length := by
        rcases Nat.lt_or_ge k L.length with h | h
        · exact h
        · rw [List.drop_eq_nil_of_le h] at hL; cases hL
      have hd := List.drop_eq_getElem_cons hk2
      rw [hd] at hL
      injection hL with hL1 hL2
      refine ⟨by rw [List.getElem?_eq_getElem hk2, hL1], h2, by rw [hL2]; exact hS', h4, h5, ?_⟩
      rw [h3, h4, Nat.add_sub_cancel_left, List.take_left]
    · refine lastOf (hS.nothing (fun f r hf hfol hz => ?_))
      obtain ⟨rfl, _⟩ := ent_one hf h2 (hz.symm.trans h3) (by rw [← hz]; exact bd')
      have := (hN rfl).2 hfol
      rw [this] at h
      cases h
  · subst h1
    rw [Bool.false_and]
    exact ⟨fun h => (by cases h), fun _ => lastOf (hS.nothing (fun f r hf _ => h2 f r hf))⟩
/-- A record has been read: what is known before the next round. -/
theorem irc_of {w : World} {zs : List Int} {dv : Value} {L : List EntL} {J : (Nat → Prop) → List LX → World → Prop} {z b c : Nat} {ok : Bool} {p p' lo : Nat} {pre : List LX} {wr w0 W0 : World} {x : Nat} {K A B U G : Int} {pa qa : ByteArray} {d rv : Value} {ds : List Int} {o : Option Nat} {ok1 okN : Bool}
    (hbd : ∀ z ∈ zs, 0 ≤ z ∧ z < 256) (inv : J (fun r => r = b ∨ r = c) pre wr) (old : Below w.heap.size w wr) (hR : Rd .u8 w dv zs) (rdr : Rdr w0 wr b lo ok dv zs p') (blk : Blk wr c (logC (wrap64 (x : Int)) K A B U G pa qa d rv) 72) (lt : b < c) (base : w.heap.size ≤ b) (start : z ≤ b)
    (same : pre.map (·.1) = L.take pre.length) (le : pre.length ≤ L.length) (hS : ScE o (zs.drop p) (L.drop pre.length)) (hm : RL zs p ⟨x, K, A, B, U, G, pa, qa, ds⟩ ok1 p') (hN : ok1 = true → (okN = true ↔ folE o ⟨x, K, A, B, U, G, pa, qa, ds⟩)) (hok : ok = (ok1 && okN))
    (hW0 : J (fun r => r = b ∨ r = c) pre W0) (raw : Rd .u8 wr rv ((zs.drop p).take (p' - p))) (data : wr.ownsRow (if pre.length = 0 then z else W0.heap.size) 5 1 d ds.length (ds.map (Value.int .u8))) (apart : ∀ k, d.ownBlock = some k → k ≠ b ∧ k ≠ c) :
    Irc w zs dv L J z b c ok p' lo (logC (wrap64 (x : Int)) K A B U G pa qa d rv) pre wr := by
  obtain ⟨n1, n2⟩ := rl_next hbd hS le hm hN
  rw [← hok] at n1 n2
  refine ⟨inv, old, rdr.base hR old base, blk, lt, base, start, same, le, fun h => ?_, n2⟩
  obtain ⟨q1, q2, q3, q4, q5, q6⟩ := n1 h
  have hx := q2.1
  refine ⟨(⟨x, K, A, B, U, G, pa, qa, ds⟩, d, rv), W0, ?_, hW0, ⟨q1, same, by rw [← q6]; exact raw, data, fun k hk hT => ?_⟩, q2, q3⟩
  · show logC (wrap64 (x : Int)) K A B U G pa qa d rv = logC (x : Int) K A B U G pa qa d rv
    rw [show wrap64 (x : Int) = (x : Int) from by unfold wrap64; simp only at hx; omega]
  · have := apart k hk
    omega
theorem wpListIn_store_rowL {F : Fence} {n : Nat} {P : Program} {ops : Array Oper} {rest : List Oper} {o : Oper} {a : Act} {w : World} {Q : Exit → Act → World → Prop} (hgd : o.guard = none) (ty : TypeId) (x y : Operand) (ho : o.op = .store ty x y)
    (g : Nat) (cells : Array Value) (hx : a.eval x = .pointer (some ⟨g, 0, none⟩)) (hy : a.eval y = .agg cells)
    (t : TypeId) (old : Array Value) (hg : Blk w g old t) (hi : (P.info? ty).map (·.size) = some cells.size)
    (hold : old.size = cells.size) (h1 : cells.all (·.oneCell') = true)
    (h : wpListIn F n P ops Q rest (a.put o.dst undef) (w.setRow g cells)) : wpListIn F n P ops Q (o :: rest) a w := by
  refine wpListIn_runS hgd (by rw [ho]; intro c hc; cases hc) (by rw [ho]; intro c hc; cases hc) (w.setRow g cells) ?_ h
  unfold execOp
  simp only [ho, hx, hy, Instr.storeAt, Instr.sureAddr, Sem.run_bind, Sem.run_pure, Result.andThen_ok, run_storeVar_row w g t ty old cells hg hi hold h1]
theorem grown_drew (W : World) (r : Option Nat) : W.grownBy W.drew r := ⟨rfl, rfl, rfl, Nat.le_refl _, fun _ _ _ => rfl⟩
theorem own_asideE {W W' : World} {base g m : Nat} {e : TypeId} {v : Value} {xs : List Value} (h : W.ownsRow base e 1 v m xs) (hg : W.grownBy W' (some g)) (hlt : g < base) : W'.ownsRow base e 1 v m xs :=
  h.kept hg (by
    cases hv : v.ownBlock with
    | none => exact .inl rfl
    | some k => exact .inr (fun e => by have := (h.lt k hv).1; injection e with e; omega))
theorem take_snoc {L : List EntL} {pre : List LX} {x : LX} (h : pre.map (·.1) = L.take pre.length) (hx : L[pre.length]? = some x.1) : (pre ++ [x]).map (·.1) = L.take (pre ++ [x]).length ∧ (pre ++ [x]).length ≤ L.length := by
  have hlt := (List.getElem?_eq_some_iff.1 hx).1
  refine ⟨?_, by simp; omega⟩
  rw [List.map_append, h, List.length_append, List.length_singleton, List.take_add_one, hx]
  rfl
theorem raw_pos (e : EntL) : 45 ≤ e.raw.length := by rw [e.raw_len]; omega
end Go.Proofs.YtohmjfagbhnieaaGreatDoor
