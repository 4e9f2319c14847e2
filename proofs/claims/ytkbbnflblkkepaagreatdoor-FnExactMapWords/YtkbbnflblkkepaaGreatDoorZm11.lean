/- A range over a function that hands over what it made: a round may turn blocks of its own types alone. What is told of a tree, piece by piece: mathematics. The program's look at a root: isPointer, blocksOf, pointersFault, rootFault. -/
import Derived.Test.YtkbbnflblkkepaaGreatDoorZm10
import Derived.Test.YtkbbnflblkkepaaGreatDoorZm06
import Derived.Test.YtkbbnflblkkepaaGreatDoorZm02
import Derived.Test.YtkbbnflblkkepaaGreatDoorZm03
import Derived.Test.YtkbbnflblkkepaaGreatDoorZm07
namespace Go.Proofs.YtkbbnflblkkepaaGreatDoor
set_option linter.unusedVariables false
set_option linter.unusedSimpArgs false
open Go.RowKit

/-- What abides new memory, and the turn of a block from z on that holds no cells. -/
def AbidesZ {β : Type} (z : Nat) (J : β → World → Prop) : Prop := ∀ s A B row, J s A → A.grownBy B row → (∀ r, row = some r → z ≤ r ∧ ∃ o, A.heap[r]? = some o ∧ o.isCells = false) → J s B
/-- The contract of such a function, called in W; Ok: what is known of an element when it is told; Kp: what a round that goes on keeps. -/
def GoesK {α : Type} (F : Fence) (n : Nat) (P : Program) (g : Nat) (lb : Array Value) (encs : α → Array Value) (Kp : World → World → Prop) (Ok : List α → α → World → Prop) (S Sp : List α → Prop) (W : World) : Prop :=
  ∀ (l : Nat) (J Jx : List α → World → Prop), AbidesZ W.heap.size J → AbidesZ W.heap.size Jx →
    (∀ pre x W1, J pre W1 → Ok pre x W1 → YieldAt F (n - 1) P l (encs x) W1 fun e W' => (e = .returned (.bool true) ∧ J (pre ++ [x]) W' ∧ Kp W1 W') ∨ (e = .returned (.bool false) ∧ Jx (pre ++ [x]) W' ∧ KeepsFrom W.heap.size W1 W')) →
    J [] W →
    CallsIn F n P g (#[.func (.yield l) #[] #[]] ++ lb) W fun e W' => (∃ v, e = .returned v) ∧ ((∃ xs, S xs ∧ J xs W') ∨ (∃ pre, Sp pre ∧ Jx pre W'))
theorem keepsT_mono {B B' : Nat} {A C : World} (h : KeepsFrom B A C) (hB : B ≤ B') : KeepsFrom B' A C := ⟨h.size, fun b o hb ho hc => h.same b o (Nat.le_trans hB hb) ho hc⟩
theorem keepsT_put {B l : Nat} (A : World) (hl : l < B) (o : Obj) : KeepsFrom B A (A.putObj l o) := ⟨(grownBy_putObj' A l o).size, fun b x hb ho _ => (World.putObj_heap_other (by omega)).trans ho⟩
/-- A loop over it. -/
theorem wpIn_rangeGoesK {α : Type} {F : Fence} {n : Nat} {P : Program} {g : Operand} {ps : Array Tmp} {assign body : Code} {Q : Exit → Act → World → Prop} {a : Act} {w : World}
    (hro : F.round = none) (h1 : 1 ≤ n) {gf : Nat} {lb : Array Value} (hg : a.eval g = .func (.func gf) #[] lb) (hFg : F.fn gf) (eg : ∀ args w, (callFunc gf args).run P w = .ok (.enter gf args) w)
    {encs : α → Array Value} {Kp : World → World → Prop} (hKt : ∀ {A B C}, Kp A B → Kp B C → Kp A C) (hKb : ∀ A o o', A.heap[w.heap.size + 1]? = some o → o.isCells = false → Kp A (A.putObj (w.heap.size + 1) o'))
    {Ok : List α → α → World → Prop} {S Sp : List α → Prop}
    (hseq : ∀ W1, Below w.heap.size w W1 → W1.heap.size = w.heap.size + 2 → GoesK F (n - 1) P gf lb encs Kp Ok S Sp W1)
    (hps : ∀ x, (encs x).size = ps.size)
    (I : List α → World → Prop) (Ix : Code → List α → World → Prop) (hI : AbidesZ (w.heap.size + 1) I) (hIx : ∀ c, AbidesZ (w.heap.size + 1) (Ix c))
    (h0 : ∀ W', Below w.heap.size w W' → W'.heap.size = w.heap.size + 2 → I [] W')
    (Ax : List α → α → Act → World → Prop) (hAx : ∀ pre x a' A B, Ax pre x a' A → A.grownBy B (some (w.heap.size + 1)) → (∃ o, A.heap[w.heap.size + 1]? = some o ∧ o.isCells = false) → Ax pre x a' B)
    (hassign : ∀ (l : Nat) (pre : List α) (x : α) (W : World) (K : Act → World → Prop), I pre W → Ok pre x W → (∀ a' W', KeepsFrom w.heap.size W W' → Kp W W' → Ax pre x a' W' → K a' W') → assign.wpIn (F.inRound l) (n - 1 - 1) P (Exit.then K (fun _ _ _ => False)) { tmps := (ps.zip (encs x)).foldl (fun t (p, v) => t.setIfInBounds p v) a.tmps, defers := [] } W)
    (hbody : ∀ (l : Nat) (pre : List α) (x : α) (a' : Act) (W : World), Ax pre x a' W → body.wpIn (F.inRound l) (n - 1 - 1) P (ownPostG w.heap.size Kp I Ix (pre ++ [x]) W) a' W)
    (hdone : ∀ (xs : List α) (W : World), S xs → I xs W → W.heap[w.heap.size]? = some (.deferred (some [])) → Q .normal { a with defers := { target := .collected w.heap.size, args := #[] } :: a.defers } W)
    (hstop : ∀ (c : Code) (pre : List α) (W : World), Sp pre → Ix c pre W → W.heap[w.heap.size]? = some (.deferred (some [])) → c.wpIn F n P Q { a with defers := { target := .collected w.heap.size, args := #[] } :: a.defers } W) :
    (Code.rangeFunc g ps assign body).wpIn F n P Q a w := by
  refine wpIn_rangeFunc fun fn hfn => ?_
  rw [hro]
  obtain ⟨R, hR⟩ : ∃ R : LoopState → Option Code → Loop, R = fun st pe => { state := st, pending := pe, fn, tmps := a.tmps, params := ps, assign, body, defers := w.heap.size } := ⟨_, rfl⟩
  obtain ⟨W1, hW1⟩ : ∃ W1, W1 = (w.alloc (.deferred (some []))).alloc (.loop (R .ready none)) := ⟨_, rfl⟩
  have hs1 : W1.heap.size = w.heap.size + 2 := by rw [hW1]; simp
  have hb1 : Below w.heap.size w W1 := by rw [hW1]; exact ((Below.refl _ w).alloc (Nat.le_refl _) _).alloc (by simp) _
  have hl1 : W1.heap[w.heap.size + 1]? = some (.loop (R .ready none)) := by
    rw [hW1]
    have := World.alloc_heap_new (w.alloc (.deferred (some []))) (.loop (R .ready none))
    rwa [World.size_alloc] at this
  have hd1 : W1.heap[w.heap.size]? = some (.deferred (some [])) := by
    rw [hW1]
    exact (Below.heap_alloc _ _ _ (by simp)).trans (World.alloc_heap_new w _)
  have put : ∀ {J : List α → World → Prop}, AbidesZ (w.heap.size + 1) J → ∀ s A o o', A.heap[w.heap.size + 1]? = some o → o.isCells = false → J s A → J s (A.putObj (w.heap.size + 1) o') := fun hJ s A o o' ho hc h => hJ s A _ (some (w.heap.size + 1)) h (grownBy_putObj' _ _ _) (fun r e => by cases e; exact ⟨Nat.le_refl _, o, ho, hc⟩)
  have kept : ∀ {A B : World} {row : Option Nat} {k : Nat} {o : Obj}, A.grownBy B row → (∀ r, row = some r → W1.heap.size ≤ r ∧ ∃ o, A.heap[r]? = some o ∧ o.isCells = false) → k < w.heap.size + 2 → A.heap[k]? = some o → B.heap[k]? = some o := fun {A B row k o} hgr hr hk ho =>
    (hgr.block k (Array.getElem?_eq_some_iff.1 ho).1 (fun e => by have := (hr k e.symm).1; omega)).trans ho
  have more : ∀ {A : World} {row : Option Nat}, (∀ r, row = some r → W1.heap.size ≤ r ∧ ∃ o, A.heap[r]? = some o ∧ o.isCells = false) → ∀ r, row = some r → w.heap.size + 1 ≤ r ∧ ∃ o, A.heap[r]? = some o ∧ o.isCells = false := fun hr r e => ⟨by have := (hr r e).1; omega, (hr r e).2⟩
  refine ⟨w.heap.size + 1, [{ target := .collected w.heap.size, args := #[] }], W1, { target := .fn (.func gf) lb, args := #[.func (.yield (w.heap.size + 1)) #[] #[]] }, W1, gf, #[.func (.yield (w.heap.size + 1)) #[] #[]] ++ lb, W1, ?_, ?_, ?_, ?_, fun _ => h1, ?_⟩
  · rw [hW1, hR]; exact run_enterLoop_outer _ _ _ _ _
  · simp only [resolve, hg]
    simp [go_sem]
  · intro f' hf'
    simp [Target.leads] at hf'
    subst hf'
    exact hFg
  · simp [invoke, go_sem, eg]
  refine (hseq W1 hb1 hs1 (w.heap.size + 1) (fun pre W => I pre W ∧ W.heap[w.heap.size + 1]? = some (.loop (R .ready none)) ∧ W.heap[w.heap.size]? = some (.deferred (some [])))
    (fun pre W => ∃ c, Ix c pre W ∧ W.heap[w.heap.size + 1]? = some (.loop (R .done (some c))) ∧ W.heap[w.heap.size]? = some (.deferred (some []))) ?_ ?_ ?_ ?_).mono ?_
  · rintro s A B row ⟨x1, x2, x3⟩ hgr hr
    exact ⟨hI s A B row x1 hgr (more hr), kept hgr hr (by omega) x2, kept hgr hr (by omega) x3⟩
  · rintro s A B row ⟨c, x1, x2, x3⟩ hgr hr
    exact ⟨c, hIx c s A B row x1 hgr (more hr), kept hgr hr (by omega) x2, kept hgr hr (by omega) x3⟩
  · rintro pre x W ⟨i1, l1, d1⟩ hok
    have hy := run_yield (P := P) (args := encs x) l1 (by rw [hR]; exact hps x)
    rw [hR] at hy
    refine ⟨fn, _, assign, body, hy, roundIn_of_wpIn hfn (hassign _ pre x W _ i1 hok ?_)⟩
    clear hy
    intro a' Wa ka kpa ax
    have la := ka.same _ _ (by omega) l1 rfl
    have da := ka.same _ _ (Nat.le_refl _) d1 rfl
    have hlt : w.heap.size + 1 < Wa.heap.size := (Array.getElem?_eq_some_iff.1 la).1
    refine ⟨_, run_beginRound la (by rw [hR]), ?_⟩
    have l2 : (Wa.putObj (w.heap.size + 1) (.loop { R .ready none with state := .busy })).heap[w.heap.size + 1]? = some (.loop { R .ready none with state := .busy }) := World.putObj_heap_same hlt
    have d2 : (Wa.putObj (w.heap.size + 1) (.loop { R .ready none with state := .busy })).heap[w.heap.size]? = some (.deferred (some [])) := (World.putObj_heap_other (by omega)).trans da
    refine wpIn_mono (hbody _ pre x a' _ (hAx _ _ _ _ _ ax (grownBy_putObj' _ _ _) ⟨_, la, rfl⟩)) ?_
    have fin : ∀ (jump : Option Code) (W3 : World), KeepsFrom w.heap.size (Wa.putObj (w.heap.size + 1) (.loop { R .ready none with state := .busy })) W3 →
        (Instr.endRound (w.heap.size + 1) jump).run P W3 = .ok (.bool jump.isNone) (W3.putObj (w.heap.size + 1) (.loop (R (if jump.isNone then .ready else .done) jump))) ∧
        (W3.putObj (w.heap.size + 1) (.loop (R (if jump.isNone then .ready else .done) jump))).heap[w.heap.size + 1]? = some (.loop (R (if jump.isNone then .ready else .done) jump)) ∧
        (W3.putObj (w.heap.size + 1) (.loop (R (if jump.isNone then .ready else .done) jump))).heap[w.heap.size]? = some (.deferred (some [])) ∧ W3.heap[w.heap.size + 1]? = some (.loop { R .ready none with state := .busy }) := fun jump W3 hk => by
      have l3 := hk.same _ _ (by omega) l2 rfl
      have he := run_endRound (P := P) jump l3
      refine ⟨?_, World.putObj_heap_same (Array.getElem?_eq_some_iff.1 l3).1, (World.putObj_heap_other (by omega)).trans (hk.same _ _ (Nat.le_refl _) d2 rfl), l3⟩
      rw [hR] at he ⊢
      exact he
    have leave : ∀ (c : Code) (W3 : World), KeepsFrom w.heap.size (Wa.putObj (w.heap.size + 1) (.loop { R .ready none with state := .busy })) W3 → Ix c (pre ++ [x]) W3 → ∃ v w', (Instr.endRound (w.heap.size + 1) (some c)).run P W3 = .ok v w' ∧
        (((Ending.returned v) = .returned (.bool true) ∧ (I (pre ++ [x]) w' ∧ w'.heap[w.heap.size + 1]? = some (.loop (R .ready none)) ∧ w'.heap[w.heap.size]? = some (.deferred (some []))) ∧ Kp W w') ∨ ((Ending.returned v) = .returned (.bool false) ∧ (∃ c, Ix c (pre ++ [x]) w' ∧ w'.heap[w.heap.size + 1]? = some (.loop (R .done (some c))) ∧ w'.heap[w.heap.size]? = some (.deferred (some []))) ∧ KeepsFrom W1.heap.size W w')) := fun c W3 hk hx => by
      obtain ⟨r1, r2, r3, r4⟩ := fin (some c) W3 hk
      refine ⟨_, _, r1, .inr ⟨rfl, ⟨c, put (hIx c) _ _ _ _ r4 rfl hx, r2, r3⟩, ?_⟩⟩
      exact ((keepsT_mono (B' := W1.heap.size) ka (by omega)).trans (keepsT_put Wa (by omega) _)).trans ((keepsT_mono hk (by omega)).trans (keepsT_put W3 (by omega) _))
    rintro e a3 W3 hp
    cases e with
    | normal =>
      obtain ⟨k3, kp3, i3⟩ := hp
      obtain ⟨r1, r2, r3, r4⟩ := fin none W3 k3
      exact ⟨_, _, r1, .inl ⟨rfl, ⟨put hI _ _ _ _ r4 rfl i3, r2, r3⟩, hKt (hKt (hKt kpa (hKb Wa _ _ la rfl)) kp3) (hKb W3 _ _ r4 rfl)⟩⟩
    | ret => exact leave _ W3 hp.1 hp.2
    | exit id => exact leave _ W3 hp.1 hp.2
    | goto t => exact leave _ W3 hp.1 hp.2
    | panic ch => exact hp.elim
    | outgrown => exact hp.elim
  · exact ⟨h0 W1 hb1 hs1, hl1, hd1⟩
  · rintro e W2 ⟨⟨v, rfl⟩, (⟨xs, hS, hi, hl, hk⟩ | ⟨pre, hSp, c, hi, hl, hk⟩)⟩
    · have he := run_endLoop (P := P) hl (by rw [hR]; simp)
      rw [hR] at he
      exact ⟨none, _, he, hdone xs _ hS (put hI _ _ _ _ hl rfl hi) ((World.putObj_heap_other (by omega)).trans hk)⟩
    · have he := run_endLoop (P := P) hl (by rw [hR]; simp)
      rw [hR] at he
      exact ⟨some c, _, he, hstop c pre _ hSp (put (hIx c) _ _ _ _ hl rfl hi) ((World.putObj_heap_other (by omega)).trans hk)⟩
/-- What a round keeps: all below n₀, cells of types that Ty does not name, what is no cells from z on. -/
structure Kq (n₀ z : Nat) (Ty : TypeId → Prop) (W W' : World) : Prop where
  below : Below n₀ W W'
  cells : ∀ (k : Nat) (cs : Array Value) (t : TypeId) (fr : Nat × Nat), W.heap[k]? = some (.cells cs t fr) → ¬ Ty t → W'.heap[k]? = some (.cells cs t fr)
  rest : ∀ (k : Nat) (o : Obj), z ≤ k → W.heap[k]? = some o → o.isCells = false → W'.heap[k]? = some o
  size : W.heap.size ≤ W'.heap.size
theorem Kq.trans {n₀ z : Nat} {Ty : TypeId → Prop} {A B C : World} (h : Kq n₀ z Ty A B) (k : Kq n₀ z Ty B C) : Kq n₀ z Ty A C :=
  ⟨h.below.trans k.below, fun b cs t fr hb ht => k.cells b cs t fr (h.cells b cs t fr hb ht) ht, fun b o hz hb hc => k.rest b o hz (h.rest b o hz hb hc) hc, Nat.le_trans h.size k.size⟩
theorem Kq.refl (n₀ z : Nat) (Ty : TypeId → Prop) (W : World) : Kq n₀ z Ty W W := ⟨Below.refl _ _, fun _ _ _ _ h _ => h, fun _ _ _ h _ => h, Nat.le_refl _⟩
theorem Kq.of_below {n₀ z : Nat} {Ty : TypeId → Prop} {W W' : World} (h : Below W.heap.size W W') (hn : n₀ ≤ W.heap.size) : Kq n₀ z Ty W W' :=
  ⟨h.mono hn, fun k _ _ _ hk _ => (h.block k (Array.getElem?_eq_some_iff.1 hk).1).trans hk, fun k _ _ hk _ => (h.block k (Array.getElem?_eq_some_iff.1 hk).1).trans hk, h.size⟩
theorem Kq.blk {n₀ z : Nat} {Ty : TypeId → Prop} {W W' : World} {b : Nat} {C : Array Value} {t : TypeId} (h : Kq n₀ z Ty W W') (hb : Blk W b C t) (ht : ¬ Ty t) : Blk W' b C t := h.cells _ _ _ _ hb ht
theorem Kq.keeps {n₀ z : Nat} {Ty : TypeId → Prop} {W W' : World} (h : Kq n₀ z Ty W W') {B : Nat} (hB : z ≤ B) : KeepsFrom B W W' := ⟨h.size, fun k o hk ho hc => h.rest k o (Nat.le_trans hB hk) ho hc⟩
theorem Kq.keepsZ {n₀ z : Nat} {Ty : TypeId → Prop} {W W' : World} (h : Kq n₀ z Ty W W') : KeepsFrom z W W' := h.keeps (Nat.le_refl _)
theorem Kq.put {n₀ z : Nat} {Ty : TypeId → Prop} {A : World} {l : Nat} {o : Obj} (o' : Obj) (hl : n₀ ≤ l) (hz : l < z) (ho : A.heap[l]? = some o) (hc : o.isCells = false) : Kq n₀ z Ty A (A.putObj l o') := by
  have hlt : l < A.heap.size := (Array.getElem?_eq_some_iff.1 ho).1
  refine ⟨(Below.refl n₀ A).grown (grownBy_putObj' A _ o') (by omega) (fun k e => by cases e; omega), fun k cs t fr hk ht => ?_, fun k x hk hx hxc => (World.putObj_heap_other (by omega)).trans hx, (grownBy_putObj' A l o').size⟩
  refine (World.putObj_heap_other (fun e => ?_)).trans hk
  subst e
  rw [ho] at hk
  cases hk
  cases hc
theorem Kq.weak {n₀ z z' : Nat} {Ty : TypeId → Prop} {W W' : World} (h : Kq n₀ z Ty W W') (hz : z ≤ z') : Kq n₀ z' Ty W W' := ⟨h.below, h.cells, fun k o hk => h.rest k o (Nat.le_trans hz hk), h.size⟩
end Go.Proofs.YtkbbnflblkkepaaGreatDoor

namespace Go.Proofs.YtkbbnflblkkepaaGreatDoor
set_option linter.unusedVariables false
set_option linter.unusedSimpArgs false
open Go.RowKit

theorem thenT_nil (t : TL) : thenT ([], false) t = t := by unfold thenT; simp
theorem thenT_assoc (a b c : TL) : thenT (thenT a b) c = thenT a (thenT b c) := by
  unfold thenT
  cases ha : a.2 with
  | true => simp [ha]
  | false =>
    cases hb : b.2 with
    | true => simp [hb]
    | false => simp [hb]
/-- What is told from here on, A having been told, is a part of all that is told. -/
def FitsT (Z : TL) (A : List HG) (t : TL) : Prop := ∃ B, Z = thenT (A, false) (thenT t B)
theorem FitsT.bad {Z : TL} {A : List HG} {t : TL} (h : FitsT Z A t) (ht : t.2 = true) : Z = (A ++ t.1, true) := by
  obtain ⟨B, rfl⟩ := h
  unfold thenT
  simp [ht]
theorem FitsT.fst {Z : TL} {A : List HG} {t u : TL} (h : FitsT Z A (thenT t u)) : FitsT Z A t := by
  obtain ⟨B, rfl⟩ := h
  exact ⟨thenT u B, by rw [thenT_assoc]⟩
theorem FitsT.snd {Z : TL} {A : List HG} {t u : TL} (h : FitsT Z A (thenT t u)) (ht : t.2 = false) : FitsT Z (A ++ t.1) u := by
  obtain ⟨B, rfl⟩ := h
  refine ⟨B, ?_⟩
  rw [thenT_assoc t u B]
  unfold thenT
  simp [ht]
theorem FitsT.pre {Z : TL} {A : List HG} {t : TL} (h : FitsT Z A t) : A ++ t.1 <+: Z.1 := by
  obtain ⟨B, rfl⟩ := h
  unfold thenT
  cases ht : t.2 with
  | true => simp [ht]
  | false => simp [ht]
theorem FitsT.all (Z : TL) : FitsT Z [] Z := ⟨([], false), by
  obtain ⟨L, b⟩ := Z
  cases b <;> simp [thenT]⟩
/-- An element: a block that hangs, and what is wrong. -/
abbrev TX := HG × Value
def TX.enc (x : TX) : Array Value := #[.agg #[.int .i64 (x.1.1 : Int), .int .i64 (x.1.2.1 : Int), .int .i64 x.1.2.2], x.2]
def upX (L : List HG) : List TX := L.map (fun h => (h, .nilIface))
theorem upX_snoc (L : List HG) (h : HG) : upX (L ++ [h]) = upX L ++ [(h, .nilIface)] := by unfold upX; simp
theorem upX_inj {A B : List HG} (h : upX A = upX B) : A = B := by
  have h1 := congrArg (List.map (·.1)) h
  unfold upX at h1
  rw [List.map_map, List.map_map] at h1
  have e : ((fun x : TX => x.1) ∘ fun h : HG => (h, Value.nilIface)) = id := rfl
  rw [e, List.map_id, List.map_id] at h1
  exact h1
/-- What is known of an element when it is told. -/
def OkX (Z : TL) (pre : List TX) (x : TX) (W : World) : Prop :=
  (x.2 = .nilIface ∧ ∃ A, pre = upX A ∧ A ++ [x.1] <+: Z.1) ∨ (x.1 = (0, 0, 0) ∧ ∃ A, pre = upX A ∧ Z = (A, true) ∧ ∃ n, Flt W 0 n x.2 21)
end Go.Proofs.YtkbbnflblkkepaaGreatDoor

namespace Go.Proofs.YtkbbnflblkkepaaGreatDoor
set_option linter.unusedVariables false
set_option linter.unusedSimpArgs false
open Go.RowKit

theorem isBlock_any (x n : Int) (w : World) : Calls Tryz.prog 70 #[.int .i64 x, .int .i64 n] w fun e w' => e = .returned (.bool (decide (2 ≤ x) && decide (x < n))) ∧ w = w' := by
  by_cases h2 : 2 ≤ x
  · have HR := hide (show (decide (2 ≤ x) && decide (x < n)) = decide (x < n) from by simp [h2])
    go_enter Tryz.func70, Tryz.ntmps70
    go_wp2
    go_ret
    exact ⟨ret_bool (by rw [HR.out]), rfl⟩
  · have hq2 : decide (2 ≤ x) = false := by simp; omega
    have HR := hide (show (decide (2 ≤ x) && decide (x < n)) = false from by rw [hq2]; rfl)
    go_enter Tryz.func70, Tryz.ntmps70
    go_wp2
    go_ret
    exact ⟨ret_bool (by first | rfl | rw [HR.out]), rfl⟩
theorem isPointer_any (x n : Int) (w : World) : Calls Tryz.prog 75 #[.int .i64 x, .int .i64 n] w fun e w' => e = .returned (.bool (ptrB x n)) ∧ w = w' := by
  have HP := hide (show ptrB x n = (decide (x = 0) || (decide (2 ≤ x) && decide (x < n))) from rfl)
  by_cases h0 : x = 0
  · subst h0
    go_enter Tryz.func75, Tryz.ntmps75
    go_wp2
    go_ret
    exact ⟨rfl, rfl⟩
  · have hq : (x == 0) = false := by simp [h0]
    have HD := hide (show ptrB x n = (decide (2 ≤ x) && decide (x < n)) from by rw [HP.out]; simp [h0])
    clear h0
    go_enter Tryz.func75, Tryz.ntmps75
    go_wp2_with (go_at_call 70; refine (isBlock_any x n _).mono ?_; rintro e w' ⟨rfl, rfl⟩)
    go_ret
    exact ⟨ret_bool (by rw [HD.out]), rfl⟩

theorem blocksOf_out (x : Int) (w : World) : Calls Tryz.prog 95 #[.int .i64 x] w fun e w' => (∃ y, e = .returned (.int .i64 y) ∧ (0 ≤ x → x ≤ 262144 → y = (x + 511) / 512)) ∧ w = w' := by
  by_cases h0 : 0 ≤ x ∧ x ≤ 262144
  · obtain ⟨h0, h1⟩ := h0
    have h2 : x / 512 ≤ 512 := by omega
    have h3 : 0 ≤ x / 512 := by omega
    by_cases hr : x % 512 = 0
    · have hq : (x % 512 != 0) = false := by simp [hr]
      have HR := hide hr
      clear hr
      go_enter Tryz.func95, Tryz.ntmps95
      go_wp2
      go_ret
      exact ⟨⟨x / 512, rfl, fun _ _ => by have := HR.out; omega⟩, rfl⟩
    · have hq : (x % 512 != 0) = true := by simpa using hr
      have HR := hide hr
      clear hr
      go_enter Tryz.func95, Tryz.ntmps95
      go_wp2
      go_ret
      exact ⟨⟨x / 512 + 1, rfl, fun _ _ => by have := HR.out; omega⟩, rfl⟩
  · have H := hide h0
    clear h0
    go_enter Tryz.func95, Tryz.ntmps95
    go_wp2
    all_goals go_ret
    all_goals exact ⟨⟨_, rfl, fun a b => absurd ⟨a, b⟩ H.out⟩, rfl⟩

theorem index12 (ds : List Int) (k : Nat) (hd : ds.length = 12) (hk : k < 12) (w : World) : (Instr.index 32 (.agg (cellsI ds)) (.int .i64 k)).run Tryz.prog w = .ok (.int .i64 (ds.getD k 0)) w := by
  have hg : k < ds.length := by omega
  simp [Instr.index, run_underlying Tryz.underlying32, asIntOf, go_sem, cellsI, hg]
  intro h
  omega
theorem all_take' (f : Int → Bool) (ds : List Int) (k : Nat) (h : k < ds.length) : (ds.take (k + 1)).all f = ((ds.take k).all f && f (ds.getD k 0)) := by
  rw [List.take_succ_eq_append_getElem h, List.all_append]
  simp [List.getD, h]
/-- What the loops keep: the boxed root, the check, and all that is older. -/
structure Kp (w wr : World) (C : Array Value) (t : TypeId) (code : Int) (ok : Bool) : Prop where
  blk : Blk wr w.heap.size C t
  ck : Ck wr (w.heap.size + 1) (w.heap.size + 1 + 1) code ok
  old : Below w.heap.size w wr
theorem Kp.lo {w wr : World} {C : Array Value} {t : TypeId} {code : Int} {ok : Bool} (h : Kp w wr C t code ok) : w.heap.size + 1 + 1 ≤ wr.heap.size := h.ck.lt
theorem Kp.tch {w wr w' : World} {C : Array Value} {t : TypeId} {code : Int} {ok ok' : Bool} (h : Kp w wr C t code ok) (hc : Ck w' (w.heap.size + 1) (w.heap.size + 1 + 1) code ok') (ht : Tch (w.heap.size + 1) wr w') : Kp w w' C t code ok' :=
  ⟨(ht.1.block _ h.blk.lt (by simp)).trans h.blk, hc, ht.under h.old (by omega) (Nat.le_of_lt h.blk.lt)⟩
theorem Kp.fault {w wr : World} {C : Array Value} {t : TypeId} {code : Int} {ok : Bool} (h : Kp w wr C t code ok) : ∃ ev, wr.cell? ⟨w.heap.size + 1, 1, none⟩ = some ev ∧ FaultIs wr w.heap.size ok ev code := by
  obtain ⟨_, _, ev, c3, c4⟩ := h.ck
  refine ⟨ev, c3, ?_⟩
  rcases c4 with c4 | ⟨c4, n, c5⟩
  · exact .inl c4
  · exact .inr ⟨c4, n, c5.mono (by omega)⟩

def ptrsB (ds : List Int) (p q n : Int) : Bool := (ds.all fun x => ptrB x n) && ptrB p n && ptrB q n

set_option maxRecDepth 100000 in
set_option maxHeartbeats 1000000 in
theorem pointersFault_any (s : Int) (ds : List Int) (p q n code : Int) (w : World) (hd : ds.length = 12) :
    Calls Tryz.prog 73 #[.agg (cellsI (rootI s ds p q)), .int .i64 n, .int .i64 code] w fun e w' => ∃ ev, e = .returned ev ∧ FaultIs w' w.heap.size (ptrsB ds p q n) ev code ∧ Below w.heap.size w w' := by
  have HD := hide hd
  have kB := (Blk.new w (cellsI (rootI s ds p q)) 34).alloc (.cells #[.int .i64 code, .nilIface] 99)
  have kC := Ck.fresh (w.alloc (.cells (cellsI (rootI s ds p q)) 34)) code 99
  rw [World.size_alloc] at kC
  have hb0 : Below w.heap.size w ((w.alloc (.cells (cellsI (rootI s ds p q)) 34)).alloc (.cells #[.int .i64 code, .nilIface] 99)) := ((Below.refl _ _).alloc (Nat.le_refl _) _).alloc (by simp) _
  have hr := kB.range 1 12 (by rw [rootI_len _ _ _ _ HD.out]; omega)
  rw [root_range _ _ _ _ HD.out] at hr
  have HX := hide (fun k hk w => index12 ds k HD.out hk w)
  have K := hide (show Kp w ((w.alloc (.cells (cellsI (rootI s ds p q)) 34)).alloc (.cells #[.int .i64 code, .nilIface] 99)) (cellsI (rootI s ds p q)) 34 code true from ⟨kB, kC, hb0⟩)
  have HR := hide hr
  clear hd kB kC hb0 hr
  go_enter Tryz.func73, Tryz.ntmps73
  go_wp2_with (refine wpList_load_mid rfl 32 _ rfl w.heap.size 1 rfl (ds.map (Value.int .i64)) _ HR.out Tryz.underlying32 rfl (by rw [List.length_map, HD.out]; exact info12) ?_)
  go_loopw [14] (fun i wr => ∃ k : Nat, k ≤ 12 ∧ i = .int .i64 k ∧ Kp w wr (cellsI (rootI s ds p q)) 34 code ((ds.take k).all fun x => ptrB x n)) (fun i _ => 12 - (intOf i).toNat)
  case atStart => exact ⟨0, by omega, rfl, K.out⟩
  case round =>
    obtain ⟨k, hk, rfl, hkp⟩ := hrel
    have HK := hide hkp
    clear hkp K HR
    by_cases hlt : k < 12
    · have hix : ∀ w, (Instr.index 32 (.agg (ds.map (Value.int .i64)).toArray) (.int .i64 k)).run Tryz.prog w = .ok (.int .i64 (ds.getD k 0)) w := fun w => HX.out k hlt w
      have HT := hide (all_take' (fun x => ptrB x n) ds k (by rw [HD.out]; exact hlt))
      generalize ds.getD k 0 = z at hix HT
      go_wp2_with (first | (go_at_call 75; refine (isPointer_any z n _).mono ?_; rintro e w1 ⟨rfl, rfl⟩) | (go_at_call 50; refine (need_any (w.heap.size + 1) (w.heap.size + 1 + 1) _ code _ (ptrB z n) _ HK.out.ck (by omega) HK.out.lo).mono ?_; rintro e w1 ⟨rfl, hc1, ht1⟩))
      have H1 := hide (HK.out.tch hc1 ht1)
      clear hc1 ht1
      go_roundw
      case rel => exact ⟨k + 1, by omega, by go_num, by rw [HT.out]; exact H1.out⟩
      case measure => simp [intOf]; omega
    · have e12 : k = 12 := by omega
      subst e12
      rw [List.take_of_length_le (by rw [HD.out]; omega)] at HK
      have a13 := (HK.out.blk.cell 13).trans (rootI_get13 s ds p q HD.out)
      have lt1 := HK.out.lo
      go_wp2_with (first | (go_at_call 75; refine (isPointer_any p n _).mono ?_; rintro e w1 ⟨rfl, rfl⟩) | (go_at_call 50; fail))
      refine (need_any (w.heap.size + 1) (w.heap.size + 1 + 1) _ code _ (ptrB p n) _ HK.out.ck (by omega) HK.out.lo).mono ?_
      rintro e w1 ⟨rfl, hc1, ht1⟩
      have H1 := hide (HK.out.tch hc1 ht1)
      have a14 := (H1.out.blk.cell 14).trans (rootI_get14 s ds p q HD.out)
      clear hc1 ht1 a13 lt1
      go_wp2_with (first | (go_at_call 75; refine (isPointer_any q n _).mono ?_; rintro e w1' ⟨rfl, rfl⟩) | (go_at_call 50; fail))
      refine (need_any (w.heap.size + 1) (w.heap.size + 1 + 1) _ code _ (ptrB q n) _ H1.out.ck (by omega) H1.out.lo).mono ?_
      rintro e w2 ⟨rfl, hc2, ht2⟩
      have H2 := hide (H1.out.tch hc2 ht2)
      obtain ⟨ev, c3, hf⟩ := H2.out.fault
      have HF := hide hf
      clear hc2 ht2 a14 hf
      go_wp2
      go_ret
      exact ⟨ev, rfl, HF.out, H2.out.old⟩

/-- The program's own way of saying rightR. -/
def rightI (s : Int) (ds : List Int) (p q y : Int) : Bool :=
  (((((decide (0 ≤ s) && decide (s ≤ 262144)) && ptrsB ds p q 2048) && ((List.range 12).all fun i => decide (ds.getD i 0 = 0) || decide ((i : Int) < y))) && (decide (p = 0) || decide (12 < y))) && (decide (q = 0) || decide (140 < y)))
theorem right_eq (s : Int) (ds : List Int) (p q y : Int) (hd : ds.length = 12) (hy : 0 ≤ s → s ≤ 262144 → y = (s + 511) / 512) : rightI s ds p q y = rightR s ds p q := by
  unfold rightI rightR
  by_cases h1 : 0 ≤ s
  · by_cases h2 : s ≤ 262144
    · rw [hy h1 h2]
      match ds, hd with
      | [d0, d1, d2, d3, d4, d5, d6, d7, d8, d9, d10, d11], _ =>
        simp [ptrsB, allR, okAt, lst, h1, h2, List.range, List.range.loop, List.getD]
        ac_rfl
    · simp [h2]
  · simp [h1]
end Go.Proofs.YtkbbnflblkkepaaGreatDoor
