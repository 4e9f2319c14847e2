/- A range over a function that hands over what it made: a round may turn blocks of its own types alone. What is told of a tree, piece by piece: mathematics. The laws' own helpers over []byte: a copy, two held against each other. The laws' own marks on []byte: laid into what is owned, and found again. -/
import Derived.Test.YtlimollpocagiaaGreatDoorZr05
import Derived.Test.YtlimollpocagiaaGreatDoorZr03
import Derived.Test.YtlimollpocagiaaGreatDoorRows
import Derived.Test.YtlimollpocagiaaGreatDoorZr01
import Derived.Test.YtlimollpocagiaaGreatDoorZr02
import Derived.WalkLawsBesides
import Derived.Deep.QuietTactic
import Derived.BigQuiet
namespace Go.Proofs.YtlimollpocagiaaGreatDoor
set_option linter.unusedVariables false
set_option linter.unusedSimpArgs false
open Go.RowKit

/-- What abides new memory, and the turn of a block from z on that holds no cells. -/
def AbidesZ {β : Type} (z : Nat) (J : β → World → Prop) : Prop := ∀ s A B row, J s A → A.grownBy B row → (∀ r, row = some r → z ≤ r ∧ ∃ o, A.heap[r]? = some o ∧ o.isCells = false) → J s B
/-- The contract of such a function, called in W; Ok: what is known of an element when it is told; Kp: what a round that goes on keeps. -/
def GoesK {α : Type} (F : Fence) (n : Nat) (P : Program) (g : Nat) (lb : Array Value) (encs : α → Array Value) (Kp : World → World → Prop) (Ok : List α → α → World → Prop) (S Sp : List α → Prop) (W : World) : Prop :=
  ∀ (l : Nat) (J Jx : List α → World → Prop), AbidesZ W.heap.size J → AbidesZ W.heap.size Jx →
    (∀ pre x W1, J pre W1 → Ok pre x W1 → YieldAt F (n - 1) P l (encs x) W1 fun e W' => (e = .returned (.bool true) ∧ J (pre ++ [x]) W' ∧ Kp W1 W') ∨ (e = .returned (.bool false) ∧ Jx (pre ++ [x]) W' ∧ KeepsFrom W.heap.size W1 W')) →
    J [] W →
    CallsIn F n P g (#[.func (.yield l) #[] #[]] ++ lb) W fun e W' => (∃ v, e = .returned v) ∧ ((∃ xs, S xs ∧ J xs W') ∨ (∃ pre, Sp pre ∧ Jx pre W'))
theorem keepsT_mono {B B' : Nat} {A C : World} (h : KeepsFrom B A C) (hB : B ≤ B') : KeepsFrom B' A C := ⟨h.size, fun b o hb ho hc => h.same b o (Nat.le_trans hB hb) ho hc⟩
theorem keepsT_put {B l : Nat} (A : World) (hl : l < B) (o : Obj) : KeepsFrom B A (A.putObj l o) := ⟨(grownBy_putObj' A l o).size, fun b x hb ho _ => (World.putObj_heap_other (by omega)).trans ho⟩
/-- A loop over it. -/
theorem wpIn_rangeGoesK {α : Type} {F : Fence} {n : Nat} {P : Program} {g : Operand} {ps : Array Tmp} {assign body : Code} {Q : Exit → Act → World → Prop} {a : Act} {w : World}
    (hro : F.round = none) (h1 : 1 ≤ n) {gf : Nat} {lb : Array Value} (hg : a.eval g = .func (.func gf) #[] lb) (hFg : F.fn gf) (eg : ∀ args w, (callFunc gf args).run P w = .ok (.enter gf args) w)
    {encs : α → Array Value} {Kp : World → World → Prop} (hKt : ∀ {A B C}, Kp A B → Kp B C → Kp A C) (hKb : ∀ A o o', A.heap[w.heap.size + 1]? = some o → o.isCells = false → Kp A (A.putObj (w.heap.size + 1) o'))
    {Ok : List α → α → World → Prop} {S Sp : List α → Prop}
    (hseq : ∀ W1, Below w.heap.size w W1 → W1.heap.size = w.heap.size + 2 → GoesK F (n - 1) P gf lb encs Kp Ok S Sp W1)
    (hps : ∀ x, (encs x).size = ps.size)
    (I : List α → World → Prop) (Ix : Code → List α → World → Prop) (hI : AbidesZ (w.heap.size + 1) I) (hIx : ∀ c, AbidesZ (w.heap.size + 1) (Ix c))
    (h0 : ∀ W', Below w.heap.size w W' → W'.heap.size = w.heap.size + 2 → I [] W')
    (Ax : List α → α → Act → World → Prop) (hAx : ∀ pre x a' A B, Ax pre x a' A → A.grownBy B (some (w.heap.size + 1)) → (∃ o, A.heap[w.heap.size + 1]? = some o ∧ o.isCells = false) → Ax pre x a' B)
    (hassign : ∀ (l : Nat) (pre : List α) (x : α) (W : World) (K : Act → World → Prop), I pre W → Ok pre x W → (∀ a' W', KeepsFrom w.heap.size W W' → Kp W W' → Ax pre x a' W' → K a' W') → assign.wpIn (F.inRound l) (n - 1 - 1) P (Exit.then K (fun _ _ _ => False)) { tmps := (ps.zip (encs x)).foldl (fun t (p, v) => t.setIfInBounds p v) a.tmps, defers := [] } W)
    (hbody : ∀ (l : Nat) (pre : List α) (x : α) (a' : Act) (W : World), Ax pre x a' W → body.wpIn (F.inRound l) (n - 1 - 1) P (ownPostG w.heap.size Kp I Ix (pre ++ [x]) W) a' W)
    (hdone : ∀ (xs : List α) (W : World), S xs → I xs W → W.heap[w.heap.size]? = some (.deferred (some [])) → Q .normal { a with defers := { target := .collected w.heap.size, args := #[] } :: a.defers } W)
    (hstop : ∀ (c : Code) (pre : List α) (W : World), Sp pre → Ix c pre W → W.heap[w.heap.size]? = some (.deferred (some [])) → c.wpIn F n P Q { a with defers := { target := .collected w.heap.size, args := #[] } :: a.defers } W) :
    (Code.rangeFunc g ps assign body).wpIn F n P Q a w := by
  refine wpIn_rangeFunc fun fn hfn => ?_
  rw [hro]
  obtain ⟨R, hR⟩ : ∃ R : LoopState → Option Code → Loop, R = fun st pe => { state := st, pending := pe, fn, tmps := a.tmps, params := ps, assign, body, defers := w.heap.size } := ⟨_, rfl⟩
  obtain ⟨W1, hW1⟩ : ∃ W1, W1 = (w.alloc (.deferred (some []))).alloc (.loop (R .ready none)) := ⟨_, rfl⟩
  have hs1 : W1.heap.size = w.heap.size + 2 := by rw [hW1]; simp
  have hb1 : Below w.heap.size w W1 := by rw [hW1]; exact ((Below.refl _ w).alloc (Nat.le_refl _) _).alloc (by simp) _
  have hl1 : W1.heap[w.heap.size + 1]? = some (.loop (R .ready none)) := by
    rw [hW1]
    have := World.alloc_heap_new (w.alloc (.deferred (some []))) (.loop (R .ready none))
    rwa [World.size_alloc] at this
  have hd1 : W1.heap[w.heap.size]? = some (.deferred (some [])) := by
    rw [hW1]
    exact (Below.heap_alloc _ _ _ (by simp)).trans (World.alloc_heap_new w _)
  have put : ∀ {J : List α → World → Prop}, AbidesZ (w.heap.size + 1) J → ∀ s A o o', A.heap[w.heap.size + 1]? = some o → o.isCells = false → J s A → J s (A.putObj (w.heap.size + 1) o') := fun hJ s A o o' ho hc h => hJ s A _ (some (w.heap.size + 1)) h (grownBy_putObj' _ _ _) (fun r e => by cases e; exact ⟨Nat.le_refl _, o, ho, hc⟩)
  have kept : ∀ {A B : World} {row : Option Nat} {k : Nat} {o : Obj}, A.grownBy B row → (∀ r, row = some r → W1.heap.size ≤ r ∧ ∃ o, A.heap[r]? = some o ∧ o.isCells = false) → k < w.heap.size + 2 → A.heap[k]? = some o → B.heap[k]? = some o := fun {A B row k o} hgr hr hk ho =>
    (hgr.block k (Array.getElem?_eq_some_iff.1 ho).1 (fun e => by have := (hr k e.symm).1; omega)).trans ho
  have more : ∀ {A : World} {row : Option Nat}, (∀ r, row = some r → W1.heap.size ≤ r ∧ ∃ o, A.heap[r]? = some o ∧ o.isCells = false) → ∀ r, row = some r → w.heap.size + 1 ≤ r ∧ ∃ o, A.heap[r]? = some o ∧ o.isCells = false := fun hr r e => ⟨by have := (hr r e).1; omega, (hr r e).2⟩
  refine ⟨w.heap.size + 1, [{ target := .collected w.heap.size, args := #[] }], W1, { target := .fn (.func gf) lb, args := #[.func (.yield (w.heap.size + 1)) #[] #[]] }, W1, gf, #[.func (.yield (w.heap.size + 1)) #[] #[]] ++ lb, W1, ?_, ?_, ?_, ?_, fun _ => h1, ?_⟩
  · rw [hW1, hR]; exact run_enterLoop_outer _ _ _ _ _
  · simp only [resolve, hg]
    simp [go_sem]
  · intro f' hf'
    simp [Target.leads] at hf'
    subst hf'
    exact hFg
  · simp [invoke, go_sem, eg]
  refine (hseq W1 hb1 hs1 (w.heap.size + 1) (fun pre W => I pre W ∧ W.heap[w.heap.size + 1]? = some (.loop (R .ready none)) ∧ W.heap[w.heap.size]? = some (.deferred (some [])))
    (fun pre W => ∃ c, Ix c pre W ∧ W.heap[w.heap.size + 1]? = some (.loop (R .done (some c))) ∧ W.heap[w.heap.size]? = some (.deferred (some []))) ?_ ?_ ?_ ?_).mono ?_
  · rintro s A B row ⟨x1, x2, x3⟩ hgr hr
    exact ⟨hI s A B row x1 hgr (more hr), kept hgr hr (by omega) x2, kept hgr hr (by omega) x3⟩
  · rintro s A B row ⟨c, x1, x2, x3⟩ hgr hr
    exact ⟨c, hIx c s A B row x1 hgr (more hr), kept hgr hr (by omega) x2, kept hgr hr (by omega) x3⟩
  · rintro pre x W ⟨i1, l1, d1⟩ hok
    have hy := run_yield (P := P) (args := encs x) l1 (by rw [hR]; exact hps x)
    rw [hR] at hy
    refine ⟨fn, _, assign, body, hy, roundIn_of_wpIn hfn (hassign _ pre x W _ i1 hok ?_)⟩
    clear hy
    intro a' Wa ka kpa ax
    have la := ka.same _ _ (by omega) l1 rfl
    have da := ka.same _ _ (Nat.le_refl _) d1 rfl
    have hlt : w.heap.size + 1 < Wa.heap.size := (Array.getElem?_eq_some_iff.1 la).1
    refine ⟨_, run_beginRound la (by rw [hR]), ?_⟩
    have l2 : (Wa.putObj (w.heap.size + 1) (.loop { R .ready none with state := .busy })).heap[w.heap.size + 1]? = some (.loop { R .ready none with state := .busy }) := World.putObj_heap_same hlt
    have d2 : (Wa.putObj (w.heap.size + 1) (.loop { R .ready none with state := .busy })).heap[w.heap.size]? = some (.deferred (some [])) := (World.putObj_heap_other (by omega)).trans da
    refine wpIn_mono (hbody _ pre x a' _ (hAx _ _ _ _ _ ax (grownBy_putObj' _ _ _) ⟨_, la, rfl⟩)) ?_
    have fin : ∀ (jump : Option Code) (W3 : World), KeepsFrom w.heap.size (Wa.putObj (w.heap.size + 1) (.loop { R .ready none with state := .busy })) W3 →
        (Instr.endRound (w.heap.size + 1) jump).run P W3 = .ok (.bool jump.isNone) (W3.putObj (w.heap.size + 1) (.loop (R (if jump.isNone then .ready else .done) jump))) ∧
        (W3.putObj (w.heap.size + 1) (.loop (R (if jump.isNone then .ready else .done) jump))).heap[w.heap.size + 1]? = some (.loop (R (if jump.isNone then .ready else .done) jump)) ∧
        (W3.putObj (w.heap.size + 1) (.loop (R (if jump.isNone then .ready else .done) jump))).heap[w.heap.size]? = some (.deferred (some [])) ∧ W3.heap[w.heap.size + 1]? = some (.loop { R .ready none with state := .busy }) := fun jump W3 hk => by
      have l3 := hk.same _ _ (by omega) l2 rfl
      have he := run_endRound (P := P) jump l3
      refine ⟨?_, World.putObj_heap_same (Array.getElem?_eq_some_iff.1 l3).1, (World.putObj_heap_other (by omega)).trans (hk.same _ _ (Nat.le_refl _) d2 rfl), l3⟩
      rw [hR] at he ⊢
      exact he
    have leave : ∀ (c : Code) (W3 : World), KeepsFrom w.heap.size (Wa.putObj (w.heap.size + 1) (.loop { R .ready none with state := .busy })) W3 → Ix c (pre ++ [x]) W3 → ∃ v w', (Instr.endRound (w.heap.size + 1) (some c)).run P W3 = .ok v w' ∧
        (((Ending.returned v) = .returned (.bool true) ∧ (I (pre ++ [x]) w' ∧ w'.heap[w.heap.size + 1]? = some (.loop (R .ready none)) ∧ w'.heap[w.heap.size]? = some (.deferred (some []))) ∧ Kp W w') ∨ ((Ending.returned v) = .returned (.bool false) ∧ (∃ c, Ix c (pre ++ [x]) w' ∧ w'.heap[w.heap.size + 1]? = some (.loop (R .done (some c))) ∧ w'.heap[w.heap.size]? = some (.deferred (some []))) ∧ KeepsFrom W1.heap.size W w')) := fun c W3 hk hx => by
      obtain ⟨r1, r2, r3, r4⟩ := fin (some c) W3 hk
      refine ⟨_, _, r1, .inr ⟨rfl, ⟨c, put (hIx c) _ _ _ _ r4 rfl hx, r2, r3⟩, ?_⟩⟩
      exact ((keepsT_mono (B' := W1.heap.size) ka (by omega)).trans (keepsT_put Wa (by omega) _)).trans ((keepsT_mono hk (by omega)).trans (keepsT_put W3 (by omega) _))
    rintro e a3 W3 hp
    cases e with
    | normal =>
      obtain ⟨k3, kp3, i3⟩ := hp
      obtain ⟨r1, r2, r3, r4⟩ := fin none W3 k3
      exact ⟨_, _, r1, .inl ⟨rfl, ⟨put hI _ _ _ _ r4 rfl i3, r2, r3⟩, hKt (hKt (hKt kpa (hKb Wa _ _ la rfl)) kp3) (hKb W3 _ _ r4 rfl)⟩⟩
    | ret => exact leave _ W3 hp.1 hp.2
    | exit id => exact leave _ W3 hp.1 hp.2
    | goto t => exact leave _ W3 hp.1 hp.2
    | panic ch => exact hp.elim
    | outgrown => exact hp.elim
  · exact ⟨h0 W1 hb1 hs1, hl1, hd1⟩
  · rintro e W2 ⟨⟨v, rfl⟩, (⟨xs, hS, hi, hl, hk⟩ | ⟨pre, hSp, c, hi, hl, hk⟩)⟩
    · have he := run_endLoop (P := P) hl (by rw [hR]; simp)
      rw [hR] at he
      exact ⟨none, _, he, hdone xs _ hS (put hI _ _ _ _ hl rfl hi) ((World.putObj_heap_other (by omega)).trans hk)⟩
    · have he := run_endLoop (P := P) hl (by rw [hR]; simp)
      rw [hR] at he
      exact ⟨some c, _, he, hstop c pre _ hSp (put (hIx c) _ _ _ _ hl rfl hi) ((World.putObj_heap_other (by omega)).trans hk)⟩
/-- What a round keeps: all below n₀, cells of types that Ty does not name, what is no cells from z on. -/
structure Kq (n₀ z : Nat) (Ty : TypeId → Prop) (W W' : World) : Prop where
  below : Below n₀ W W'
  cells : ∀ (k : Nat) (cs : Array Value) (t : TypeId) (fr : Nat × Nat), W.heap[k]? = some (.cells cs t fr) → ¬ Ty t → W'.heap[k]? = some (.cells cs t fr)
  rest : ∀ (k : Nat) (o : Obj), z ≤ k → W.heap[k]? = some o → o.isCells = false → W'.heap[k]? = some o
  size : W.heap.size ≤ W'.heap.size
theorem Kq.trans {n₀ z : Nat} {Ty : TypeId → Prop} {A B C : World} (h : Kq n₀ z Ty A B) (k : Kq n₀ z Ty B C) : Kq n₀ z Ty A C :=
  ⟨h.below.trans k.below, fun b cs t fr hb ht => k.cells b cs t fr (h.cells b cs t fr hb ht) ht, fun b o hz hb hc => k.rest b o hz (h.rest b o hz hb hc) hc, Nat.le_trans h.size k.size⟩
theorem Kq.refl (n₀ z : Nat) (Ty : TypeId → Prop) (W : World) : Kq n₀ z Ty W W := ⟨Below.refl _ _, fun _ _ _ _ h _ => h, fun _ _ _ h _ => h, Nat.le_refl _⟩
theorem Kq.of_below {n₀ z : Nat} {Ty : TypeId → Prop} {W W' : World} (h : Below W.heap.size W W') (hn : n₀ ≤ W.heap.size) : Kq n₀ z Ty W W' :=
  ⟨h.mono hn, fun k _ _ _ hk _ => (h.block k (Array.getElem?_eq_some_iff.1 hk).1).trans hk, fun k _ _ hk _ => (h.block k (Array.getElem?_eq_some_iff.1 hk).1).trans hk, h.size⟩
theorem Kq.blk {n₀ z : Nat} {Ty : TypeId → Prop} {W W' : World} {b : Nat} {C : Array Value} {t : TypeId} (h : Kq n₀ z Ty W W') (hb : Blk W b C t) (ht : ¬ Ty t) : Blk W' b C t := h.cells _ _ _ _ hb ht
theorem Kq.keeps {n₀ z : Nat} {Ty : TypeId → Prop} {W W' : World} (h : Kq n₀ z Ty W W') {B : Nat} (hB : z ≤ B) : KeepsFrom B W W' := ⟨h.size, fun k o hk ho hc => h.rest k o (Nat.le_trans hB hk) ho hc⟩
theorem Kq.keepsZ {n₀ z : Nat} {Ty : TypeId → Prop} {W W' : World} (h : Kq n₀ z Ty W W') : KeepsFrom z W W' := h.keeps (Nat.le_refl _)
theorem Kq.put {n₀ z : Nat} {Ty : TypeId → Prop} {A : World} {l : Nat} {o : Obj} (o' : Obj) (hl : n₀ ≤ l) (hz : l < z) (ho : A.heap[l]? = some o) (hc : o.isCells = false) : Kq n₀ z Ty A (A.putObj l o') := by
  have hlt : l < A.heap.size := (Array.getElem?_eq_some_iff.1 ho).1
  refine ⟨(Below.refl n₀ A).grown (grownBy_putObj' A _ o') (by omega) (fun k e => by cases e; omega), fun k cs t fr hk ht => ?_, fun k x hk hx hxc => (World.putObj_heap_other (by omega)).trans hx, (grownBy_putObj' A l o').size⟩
  refine (World.putObj_heap_other (fun e => ?_)).trans hk
  subst e
  rw [ho] at hk
  cases hk
  cases hc
theorem Kq.weak {n₀ z z' : Nat} {Ty : TypeId → Prop} {W W' : World} (h : Kq n₀ z Ty W W') (hz : z ≤ z') : Kq n₀ z' Ty W W' := ⟨h.below, h.cells, fun k o hk => h.rest k o (Nat.le_trans hz hk), h.size⟩
end Go.Proofs.YtlimollpocagiaaGreatDoor

namespace Go.Proofs.YtlimollpocagiaaGreatDoor
set_option linter.unusedVariables false
set_option linter.unusedSimpArgs false
open Go.RowKit

theorem thenT_nil (t : TL) : thenT ([], false) t = t := by unfold thenT; simp
theorem thenT_assoc (a b c : TL) : thenT (thenT a b) c = thenT a (thenT b c) := by
  unfold thenT
  cases ha : a.2 with
  | true => simp [ha]
  | false =>
    cases hb : b.2 with
    | true => simp [hb]
    | false => simp [hb]
/-- What is told from here on, A having been told, is a part of all that is told. -/
def FitsT (Z : TL) (A : List HG) (t : TL) : Prop := ∃ B, Z = thenT (A, false) (thenT t B)
theorem FitsT.bad {Z : TL} {A : List HG} {t : TL} (h : FitsT Z A t) (ht : t.2 = true) : Z = (A ++ t.1, true) := by
  obtain ⟨B, rfl⟩ := h
  unfold thenT
  simp [ht]
theorem FitsT.fst {Z : TL} {A : List HG} {t u : TL} (h : FitsT Z A (thenT t u)) : FitsT Z A t := by
  obtain ⟨B, rfl⟩ := h
  exact ⟨thenT u B, by rw [thenT_assoc]⟩
theorem FitsT.snd {Z : TL} {A : List HG} {t u : TL} (h : FitsT Z A (thenT t u)) (ht : t.2 = false) : FitsT Z (A ++ t.1) u := by
  obtain ⟨B, rfl⟩ := h
  refine ⟨B, ?_⟩
  rw [thenT_assoc t u B]
  unfold thenT
  simp [ht]
theorem FitsT.pre {Z : TL} {A : List HG} {t : TL} (h : FitsT Z A t) : A ++ t.1 <+: Z.1 := by
  obtain ⟨B, rfl⟩ := h
  unfold thenT
  cases ht : t.2 with
  | true => simp [ht]
  | false => simp [ht]
theorem FitsT.all (Z : TL) : FitsT Z [] Z := ⟨([], false), by
  obtain ⟨L, b⟩ := Z
  cases b <;> simp [thenT]⟩
/-- An element: a block that hangs, and what is wrong. -/
abbrev TX := HG × Value
def TX.enc (x : TX) : Array Value := #[.agg #[.int .i64 (x.1.1 : Int), .int .i64 (x.1.2.1 : Int), .int .i64 x.1.2.2], x.2]
def upX (L : List HG) : List TX := L.map (fun h => (h, .nilIface))
theorem upX_snoc (L : List HG) (h : HG) : upX (L ++ [h]) = upX L ++ [(h, .nilIface)] := by unfold upX; simp
/-- What is known of an element when it is told. -/
def OkX (Z : TL) (pre : List TX) (x : TX) (W : World) : Prop :=
  (x.2 = .nilIface ∧ ∃ A, pre = upX A ∧ A ++ [x.1] <+: Z.1) ∨ (x.1 = (0, 0, 0) ∧ ∃ A, pre = upX A ∧ Z = (A, true) ∧ ∃ n, Flt W 0 n x.2 21)
end Go.Proofs.YtlimollpocagiaaGreatDoor

namespace Go.Proofs.YtlimollpocagiaaGreatDoor
open Go.RowKit

theorem infoU8 : (Tryz.prog.info? 5).map (fun i => (i.zero, i.size, i.bytes)) = some (some (.int .u8 0), 1, 1) := by kernel_rfl

set_option maxHeartbeats 400000 in
theorem toByteS_any (v : Value) (zs : List Int) (w : World) (h : Rd .u8 w v zs) (hn : zs.length ≤ 140737488355328) :
    Calls Tryz.prog 16 #[v] w fun e w' => ∃ v', e = .returned v' ∧ w'.ownsRow w.heap.size 5 1 v' zs.length (zs.map (Value.int .u8)) ∧ Below w.heap.size w w' := by
  obtain ⟨i0, hi, hz0, hz1, hz2⟩ := info_parts infoU8
  have hm := h.len
  have hnm : zs.length ≤ 9223372036854775807 := by omega
  rcases h.parts with ⟨a, cap, rfl, hlow⟩ | ⟨b, off, cap, rfl, hbw, hcell⟩
  all_goals
    clear h
    go_enter Tryz.func16, Tryz.ntmps16
    go_wp2_with (refine wpList_make_full _ rfl (.tmp 6) (.tmp 6) 22 rfl w.heap.size 5 i0 (.int .u8 0) 1 Tryz.underlying22 hi hz0 hz1 .i64 .i64 zs.length zs.length zs.length rfl rfl rfl rfl (by rw [hz2]; omega) hm (Nat.le_refl _) ?_; intro w1 hown hgrow; rw [made_one _ _ rfl] at hown)
    have hb1 : Below w.heap.size w w1 := (Below.refl _ _).grown hgrow (Nat.le_refl _) (fun k h => by cases h)
    clear hgrow
    go_loopw [4] (fun i wr => ∃ k : Nat, k ≤ zs.length ∧ i = .int .i64 k ∧ wr.ownsRow w.heap.size 5 1 (.slice (some ⟨w.heap.size, 0, none⟩) zs.length zs.length) zs.length ((zs.map (Value.int .u8)).take k ++ List.replicate (zs.length - k) (.int .u8 0)) ∧ Below w.heap.size w wr) (fun i _ => zs.length - (intOf i).toNat)
    case atStart => exact ⟨0, Nat.zero_le _, rfl, by simpa using hown, hb1⟩
    case round =>
      clear hown hb1
      obtain ⟨k, hk, rfl, hown, hb1⟩ := hrel
      by_cases hlt : k < zs.length
      · first
        | omega
        | (have hcx : wr.cell? ⟨b, off + k, none⟩ = some (.int .u8 (zs.getD k 0)) := (hb1.cell (p := ⟨b, off + k, none⟩) hbw).trans (hcell k hlt)
           have hzk : zs[k]? = some (zs.getD k 0) := by simp [List.getD, hlt]
           generalize zs.getD k 0 = z at hcx hzk
           have hst := hown.stored k (.int .u8 z)
           have hfr := hown.frozenAt k
           have hco : wr.cell? ⟨w.heap.size, k, none⟩ = some (.int .u8 0) := by
             rw [hown.cellAt k (by omega), List.getElem?_append_right (by simp; omega), List.getElem?_replicate, if_pos (by simp; omega)]
           have HS : Hid ((wr.setCell ⟨w.heap.size, k, none⟩ (.int .u8 z)).ownsRow w.heap.size 5 1 (.slice (some ⟨w.heap.size, 0, none⟩) zs.length zs.length) zs.length ((zs.map (Value.int .u8)).take (k + 1) ++ List.replicate (zs.length - (k + 1)) (.int .u8 0)) ∧ Below w.heap.size w (wr.setCell ⟨w.heap.size, k, none⟩ (.int .u8 z))) := by
             refine ⟨?_, hb1.setCell (Nat.le_refl _) _⟩
             rw [← set_fill (zs.map (Value.int .u8)) (.int .u8 z) (.int .u8 0) k zs.length hlt (by simp) (by simp [hzk])]
             exact hst.1
           clear hst hown hb1 hzk
           go_wp2
           go_roundw
           case rel => exact ⟨k + 1, by omega, by go_num, HS.out.1, HS.out.2⟩
           case measure => simp [intOf]; omega)
      · go_wp2
        go_ret
        refine ⟨_, rfl, ?_, hb1⟩
        have : k = zs.length := by omega
        subst this
        have e : (zs.map (Value.int .u8)).take zs.length = zs.map (Value.int .u8) := List.take_of_length_le (by simp)
        rw [e] at hown
        simpa using hown

set_option maxHeartbeats 400000 in
theorem eqByteS_any (v1 v2 : Value) (xs ys : List Int) (w : World) (h1 : Rd .u8 w v1 xs) (h2 : Rd .u8 w v2 ys) :
    Calls Tryz.prog 20 #[v1, v2] w fun e w' => e = .returned (.bool (decide (xs = ys))) ∧ Below w.heap.size w w' := by
  have hm := h1.len
  have hm2 := h2.len
  unfold maxLen at hm hm2
  by_cases hlen : xs.length = ys.length
  · have p1 : At .u8 w v1 xs.length xs := h1.parts
    have p2 : At .u8 w v2 ys.length ys := h2.parts
    rw [← hlen] at p2
    have HL : Hid (xs.length = ys.length) := hlen
    clear hlen h1 h2 hm2
    generalize hn : xs.length = n at *
    have HN : Hid (xs.length = n) := hn
    clear hn
    rcases p1 with ⟨a1, cap1, rfl, hlow⟩ | ⟨b1, off1, cap1, rfl, hbw1, hcell1⟩ <;> rcases p2 with ⟨a2, cap2, rfl, hlow2⟩ | ⟨b2, off2, cap2, rfl, hbw2, hcell2⟩
    all_goals
      go_enter Tryz.func20, Tryz.ntmps20
      go_wp2
      go_loopw [5] (fun i wr => ∃ k nq : Nat, k ≤ n ∧ i = .int .i64 k ∧ wr = w.drewN nq ∧ xs.take k = ys.take k) (fun i _ => n - (intOf i).toNat)
      case atStart => exact ⟨0, 0, Nat.zero_le _, rfl, rfl, rfl⟩
      case round =>
        obtain ⟨k, nq, hk, rfl, rfl, ht⟩ := hrel
        have HT : Hid (xs.take k = ys.take k) := ht
        clear ht
        by_cases hlt : k < n
        · first
          | omega
          | (have c1 := hcell1 k hlt
             have c2 := hcell2 k hlt
             have HX : Hid (xs.getD k 0 = ys.getD k 0 → xs.take (k + 1) = ys.take (k + 1)) := fun he => take_eq_step xs ys k (by have := HN.out; omega) (by have := HL.out; omega) HT.out he
             have HY : Hid (xs.getD k 0 ≠ ys.getD k 0 → ¬ xs = ys) := fun he h => he (by rw [h])
             generalize xs.getD k 0 = x at c1 HX HY
             generalize ys.getD k 0 = y at c2 HX HY
             have hlt' : (k : Int) < (n : Int) := by omega
             clear hcell1 hcell2
             by_cases hxy : x = y
             · have hq : (x != y) = false := by simp [hxy]
               have HXY : Hid (x = y) := hxy
               clear hxy
               go_wp2
               go_quiet (fail)
               go_wp2
               go_roundw
               case rel => exact ⟨k + 1, _, by omega, by go_num, rfl, HX.out HXY.out⟩
               case measure => simp [intOf]; omega
             · have hq : (x != y) = true := by simpa using hxy
               have HXY : Hid (x ≠ y) := hxy
               clear hxy
               go_wp2
               go_quiet (fail)
               go_wp2
               go_ret
               exact ⟨ret_bool (by have := HY.out HXY.out; simp [this]), below_drewN (below_drewN (Below.refl _ _) _) _⟩)
        · go_wp2
          go_ret
          have : k = n := by omega
          subst this
          have e1 := HT.out
          rw [List.take_of_length_le (by have := HN.out; omega), List.take_of_length_le (by have := HL.out; omega)] at e1
          exact ⟨ret_bool (by simp [e1]), below_drewN (Below.refl _ _) _⟩
  · obtain ⟨a1, cap1, rfl, _, _⟩ := h1
    obtain ⟨a2, cap2, rfl, _, _⟩ := h2
    have hq : ((xs.length : Int) == (ys.length : Int)) = false := by simp; omega
    have HF : Hid (¬ xs = ys) := fun h => hlen (by rw [h])
    clear hlen
    go_enter Tryz.func20, Tryz.ntmps20
    go_wp2
    go_ret
    exact ⟨ret_bool (by simp [HF.out]), Below.refl _ _⟩

theorem eqByteS_same (v1 v2 : Value) (xs : List Int) (w : World) (h1 : Rd .u8 w v1 xs) (h2 : Rd .u8 w v2 xs) :
    Calls Tryz.prog 20 #[v1, v2] w fun e w' => e = .returned (.bool true) ∧ Below w.heap.size w w' := by
  refine (eqByteS_any v1 v2 xs xs w h1 h2).mono ?_
  rintro e w' ⟨rfl, hb⟩
  exact ⟨by simp, hb⟩
end Go.Proofs.YtlimollpocagiaaGreatDoor

namespace Go.Proofs.YtlimollpocagiaaGreatDoor
open Go.RowKit

set_option maxHeartbeats 400000 in
theorem markByteS_any (v : Value) (base n k0 : Nat) (xs : List Value) (w : World) (h : w.ownsRow base 5 1 v n xs) (hn : n ≤ 140737488355328) (hk0 : k0 ≤ 140737488355328) :
    Calls Tryz.prog 22 #[v, .int .i64 k0] w fun e w' => e = .returned (.int .i64 ((k0 + n : Nat) : Int)) ∧ w'.ownsRow base 5 1 v n ((mk8 k0 n).map (Value.int .u8)) ∧ w.grownBy w' v.ownBlock := by
  rcases h.2 with ⟨rfl, rfl⟩ | ⟨g, cap, cur, rfl, hb, hg, hnc, hcm, hcs, htake⟩
  · clear h
    go_enter Tryz.func22, Tryz.ntmps22
    go_wp2
    refine wp_loop_rounds 1 ?_
    rw [rounds_succ]
    go_wp2
    go_ret
    exact ⟨rfl, World.ownsRow_nil _ _ _ _, World.grownBy.refl _ _⟩
  · have hown : w.ownsRow base 5 1 (.slice (some ⟨g, 0, none⟩) n cap) n xs := h
    have hxl : xs.length = n := by have := h.1; omega
    clear h hg hcs htake hb
    go_enter Tryz.func22, Tryz.ntmps22
    go_wp2
    go_loopw [1, 5] (fun q i wr => ∃ k : Nat, k ≤ n ∧ i = .int .i64 k ∧ q = .int .i64 ((k0 + k : Nat) : Int) ∧ wr.ownsRow base 5 1 (.slice (some ⟨g, 0, none⟩) n cap) n (((mk8 k0 n).map (Value.int .u8)).take k ++ xs.drop k) ∧ w.grownBy wr (some g)) (fun _ i _ => n - (intOf i).toNat)
    case atStart => exact ⟨0, Nat.zero_le _, rfl, rfl, by simpa using hown, World.grownBy.refl _ _⟩
    case round =>
      clear hown
      obtain ⟨k, hk, rfl, rfl, hown, hgr⟩ := hrel
      by_cases hlt : k < n
      · have hst := hown.stored k (.int .u8 (((k0 + k : Nat) : Int) % 256))
        have hfr := hown.frozenAt k
        obtain ⟨old, hco⟩ : ∃ u, wr.cell? ⟨g, k, none⟩ = some u := by
          rw [hown.cellAt k (by omega)]
          exact ⟨_, List.getElem?_eq_getElem (by simp [mk8_len]; omega)⟩
        have HS : Hid ((wr.setCell ⟨g, k, none⟩ (.int .u8 (((k0 + k : Nat) : Int) % 256))).ownsRow base 5 1 (.slice (some ⟨g, 0, none⟩) n cap) n (((mk8 k0 n).map (Value.int .u8)).take (k + 1) ++ xs.drop (k + 1)) ∧ w.grownBy (wr.setCell ⟨g, k, none⟩ (.int .u8 (((k0 + k : Nat) : Int) % 256))) (some g)) := by
          refine ⟨?_, grownBy_trans hgr hst.2⟩
          rw [← set_over ((mk8 k0 n).map (Value.int .u8)) xs (.int .u8 (((k0 + k : Nat) : Int) % 256)) k n hlt (by simp [mk8_len]) hxl (by simp [mk8_get k0 n k hlt])]
          exact hst.1
        clear hst hown hgr hxl
        generalize hq : k0 + k = q at *
        have HQ : Hid (k0 + k = q) := hq
        have hql : q ≤ 281474976710656 := by omega
        clear hq
        go_wp2
        go_roundw
        case rel => exact ⟨k + 1, by omega, by go_num, by rw [← Nat.add_assoc, HQ.out]; go_num, HS.out.1, HS.out.2⟩
        case measure => simp [intOf]; omega
      · go_wp2
        go_ret
        have : k = n := by omega
        subst this
        have e : ((mk8 k0 k).map (Value.int .u8)).take k = (mk8 k0 k).map (Value.int .u8) := List.take_of_length_le (by simp [mk8_len])
        rw [e, List.drop_of_length_le (by omega)] at hown
        exact ⟨rfl, by simpa using hown, hgr⟩

set_option maxHeartbeats 400000 in
theorem heldByteS_any (v : Value) (n k0 : Nat) (w : World) (h : Rd .u8 w v (mk8 k0 n)) (hn : n ≤ 140737488355328) (hk0 : k0 ≤ 140737488355328) :
    Calls Tryz.prog 90 #[v, .int .i64 k0] w fun e w' => e = .returned (.int .i64 ((k0 + n : Nat) : Int)) ∧ w' = w := by
  have hp := h.parts
  rw [mk8_len] at hp
  rcases hp with ⟨a, cap, rfl, hlow⟩ | ⟨b, off, cap, rfl, hbw, hcell⟩
  all_goals
    clear h
    go_enter Tryz.func90, Tryz.ntmps90
    go_wp2
    go_loop [1, 5] (fun q i => ∃ k : Nat, k ≤ n ∧ i = .int .i64 k ∧ q = .int .i64 ((k0 + k : Nat) : Int)) (fun _ i => n - (intOf i).toNat)
    case atStart => exact ⟨0, Nat.zero_le _, rfl, rfl⟩
    case round =>
      obtain ⟨k, hk, rfl, rfl⟩ := hrel
      by_cases hlt : k < n
      · first
        | omega
        | (have c1 := hcell k hlt
           rw [mk8_getD k0 n k hlt] at c1
           clear hcell
           generalize hq : k0 + k = q at *
           have HQ : Hid (k0 + k = q) := hq
           have hql : q ≤ 281474976710656 := by omega
           clear hq
           go_wp2
           go_round
           case rel => exact ⟨k + 1, by omega, by go_num, by rw [← Nat.add_assoc, HQ.out]; go_num⟩
           case measure => simp [intOf]; omega)
      · go_wp2
        go_ret
        have : k = n := by omega
        subst this
        exact ⟨rfl, rfl⟩
end Go.Proofs.YtlimollpocagiaaGreatDoor
