/- The program's device: its small changes. -/
import Derived.Test.YthghibopnnjboaaZi31
import Derived.Great.BuildSlice
import Derived.WalkLawsBesides
namespace Go.Proofs.Ythghibopnnjboaa
set_option linter.unusedVariables false
set_option linter.unusedSimpArgs false
open Go.RowKit

theorem splice_getG {α : Type} (L cs : List α) (o i : Nat) (h : o + cs.length ≤ L.length) : (splice L o cs)[i]? = if i < o then L[i]? else if i < o + cs.length then cs[i - o]? else L[i]? := by
  unfold splice
  have ht : (L.take o).length = o := by rw [List.length_take]; omega
  by_cases h1 : i < o
  · rw [if_pos h1, List.getElem?_append_left (by omega), List.getElem?_take, if_pos h1]
  · rw [if_neg h1, List.getElem?_append_right (by omega), ht]
    by_cases h2 : i < o + cs.length
    · rw [if_pos h2, List.getElem?_append_left (by omega)]
    · rw [if_neg h2, List.getElem?_append_right (by omega), List.getElem?_drop]
      congr 1
      omega
theorem blk_spliceK {b : Nat} {t : TypeId} : ∀ (vs : List Value) {w : World} {L : List Value} (o : Nat), w.heap[b]? = some (.cells L.toArray t (0, 0)) → o + vs.length ≤ L.length → (w.setCells b o vs).heap[b]? = some (.cells (splice L o vs).toArray t (0, 0))
  | [], w, L, o, h, _ => by simpa [splice, World.setCells] using h
  | v :: vs, w, L, o, h, hl => by
    have hl2 : o + 1 + vs.length ≤ (L.set o v).length := by simp at hl ⊢; omega
    have h1 : (w.setCell ⟨b, o, none⟩ v).heap[b]? = some (.cells (L.set o v).toArray t (0, 0)) := by
      have := heap_setCell_same w b o L.toArray t v h
      simpa using this
    have h2 := blk_spliceK vs (o + 1) h1 hl2
    have e : splice (L.set o v) (o + 1) vs = splice L o (v :: vs) := by
      have hlt : o < L.length := by simp at hl; omega
      apply List.ext_getElem?
      intro i
      rw [splice_getG _ _ _ _ hl2, splice_getG _ _ _ _ hl, List.getElem?_set]
      simp only [List.length_cons]
      by_cases h0 : i < o
      · rw [if_pos (by omega), if_neg (by omega), if_pos h0]
      · by_cases h1 : i = o
        · subst h1
          rw [if_pos (by omega), if_pos rfl, if_pos hlt, if_neg (by omega), if_pos (by omega), Nat.sub_self]
          rfl
        · rw [if_neg (by omega), if_neg h0]
          by_cases h2 : i < o + 1 + vs.length
          · rw [if_pos h2, if_pos (by omega), show i - o = (i - (o + 1)) + 1 by omega, List.getElem?_cons_succ]
          · rw [if_neg h2, if_neg (by omega), if_neg (by omega)]
    rw [e] at h2
    exact h2
theorem cells_grownK {b : Nat} : ∀ (vs : List Value) (w : World) (o : Nat), w.grownBy (w.setCells b o vs) (some b)
  | [], w, o => ⟨rfl, rfl, rfl, Nat.le_refl _, fun _ _ _ => rfl⟩
  | v :: vs, w, o => by
    have h1 := grown_setCK w b o v
    have h2 := cells_grownK (b := b) vs (w.setCell ⟨b, o, none⟩ v) (o + 1)
    exact ⟨h2.os.trans h1.os, h2.tape.trans h1.tape, h2.output.trans h1.output, Nat.le_trans h1.size h2.size, fun k hk hne => (h2.block k (Nat.lt_of_lt_of_le hk h1.size) hne).trans (h1.block k hk hne)⟩
theorem own_spliceK {w : World} {base : Nat} {e : TypeId} {sz n g cap o : Nat} {xs vs : List Value} (h : w.ownsRow base e sz (.slice (some ⟨g, 0, none⟩) n cap) n xs) (hl : o + vs.length ≤ xs.length) : (w.setCells g o vs).ownsRow base e sz (.slice (some ⟨g, 0, none⟩) n cap) n (splice xs o vs) := by
  rcases h.2 with ⟨e1, _⟩ | ⟨g', cap', cur, e1, hb, hc, hn, hm, hs, ht⟩
  · cases e1
  · injection e1 with e1 e2 e3
    injection e1 with e1
    injection e1 with e1 e4
    subst e1
    subst e3
    have hcl : cur.toList.length = cap * sz := by simpa using hs
    have hxl : xs.length ≤ cur.toList.length := by rw [← ht, List.length_take]; omega
    have hk := blk_spliceK vs (w := w) (L := cur.toList) (t := e) o (by simpa using hc) (by omega)
    refine ⟨by rw [length_splice _ _ _ hl]; exact h.1, .inr ⟨g, cap, _, rfl, hb, hk, hn, hm, by rw [List.size_toArray, length_splice _ _ _ (by omega), hcl], ?_⟩⟩
    rw [List.toList_toArray]
    have hx : xs.length = n * sz := h.1
    apply List.ext_getElem?
    intro i
    rw [List.getElem?_take]
    have hget : ∀ j, j < n * sz → cur.toList[j]? = xs[j]? := fun j hj => by rw [← ht, List.getElem?_take, if_pos hj]
    by_cases hi : i < n * sz
    · rw [if_pos hi, splice_getG _ _ _ _ (by omega), splice_getG _ _ _ _ hl, hget i hi]
    · rw [if_neg hi, List.getElem?_eq_none (by rw [length_splice _ _ _ hl]; omega)]
theorem splice_map {α β : Type} (f : α → β) (L vs : List α) (o : Nat) : splice (L.map f) o (vs.map f) = (splice L o vs).map f := by simp [splice]
theorem wp_build1K {P : Program} {o : Oper} {a : Act} {w : World} {K : Act → World → Prop} {Q : Exit → Act → World → Prop} (t e : TypeId) (x : Operand) (ho : o.op = .buildSlice t 1 #[(0, x)]) (cells : Array Value) (hx : a.eval x = .agg cells) (i : TypeInfo) (z : Value)
    (hu : P.underlying t = some (.slice e)) (hi : P.info? e = some i) (hz : i.zero = some z) (hs : i.size = cells.size) (hp : 0 < cells.size) (hl : cells.size ≤ 1000)
    (h : K (a.put o.dst (.slice (some ⟨w.heap.size, 0, none⟩) 1 1)) (w.alloc (.cells cells e))) : o.wp P a w K Q := by
  have hf : Instr.fill (fun j => some (j * i.size, i.size)) ((Array.range (1 * i.size)).map (z.cells[· % z.cells.size]!)) [(0, Value.agg cells)] = some cells := by
    have := Great.fill_whole (s := i.size) (by omega) [.agg cells] ((Array.range (1 * i.size)).map (z.cells[· % z.cells.size]!)) (by intro v hv; simp at hv; subst hv; exact hs.symm) (by simp)
    simpa [Value.cells] using this
  have he : ((#[(0, x)] : Array (Nat × Operand)).map (fun p => (p.1, a.eval p.2))).toList = [(0, Value.agg cells)] := by simp [hx]
  exact wp_buildSlice t e 1 _ ho cells i z hu hi hz (by omega) (by omega) (by rw [← he] at hf; exact hf) h
/-- The kinds of blocks that a sector write turns, what is seen aside. -/
def TyQ (t : TypeId) : Prop := t = 61 ∨ t = 95
/-- Only blocks of a kind in T, or in B, have turned. -/
def KpB (T : TypeId → Prop) (B : Nat → Prop) (W W' : World) : Prop := ∀ b, b < W.heap.size → ¬ B b → (∀ c t s, W.heap[b]? = some (.cells c t s) → ¬ T t) → W'.heap[b]? = W.heap[b]?
theorem KpY.toB {T : TypeId → Prop} (B : Nat → Prop) {W W' : World} (h : KpY T W W') : KpB T B W W' := fun b hb _ hT => h b hb hT
theorem KpB.trans {T : TypeId → Prop} {B : Nat → Prop} {W W' W2 : World} (h : KpB T B W W') (k : KpB T B W' W2) : KpB T B W W2 := fun b hb hB hT => by
  have e := h b hb hB hT
  have hb2 : b < W'.heap.size := by
    have h1 : W.heap[b]? = some (W.heap[b]) := Array.getElem?_eq_getElem hb
    rw [← e] at h1
    exact (Array.getElem?_eq_some_iff.1 h1).1
  exact (k b hb2 hB (fun c t s hc => hT c t s (by rw [← e]; exact hc))).trans e
theorem KpB.grown {T : TypeId → Prop} {B : Nat → Prop} {W W' : World} {g : Nat} (hg : W.grownBy W' (some g)) (hB : B g) : KpB T B W W' := fun b hb h1 _ => hg.block b hb (fun e => h1 (by have := Option.some.inj e; rw [this]; exact hB))
theorem KpB.toY {W W' : World} {base n : Nat} {v : Value} {xs : List Value} (h : KpB TyQ (fun b => v.ownBlock = some b) W W') (ho : W.ownsRow base 76 128 v n xs) : KpY TyP W W' := fun b hb hT => by
  refine h b hb (fun e => ?_) (fun c t s hc ht => hT c t s hc (by rcases ht with e | e; exact .inl e; exact .inr (.inr e)))
  rcases ho.2 with ⟨rfl, _⟩ | ⟨g, cap, cur, rfl, _, hg, _⟩
  · cases e
  · have : g = b := Option.some.inj e
    subst this
    exact hT _ _ _ hg (.inr (.inl rfl))
/-- A sector write as cells. -/
def secX (at1 : Nat) (P : List Int) : Array Value := (Value.int .i64 (at1 : Int) :: P.map (Value.int .u8)).toArray
theorem secX_size (at1 : Nat) (P : List Int) (h : P.length = 128) : (secX at1 P).size = 129 := by simp [secX, h]
theorem secX_one (at1 : Nat) (P : List Int) : (secX at1 P).all (·.oneCell') = true := by simp [secX, Value.oneCell']
theorem cellsC_snoc (C : List (Nat × List Int)) (c : Nat × List Int) : cellsC (C ++ [c]) = cellsC C ++ (.int .i64 (c.1 : Int) :: c.2.map (Value.int .u8)) := by simp [cellsC]
def zSW : Value := .agg (#[.int .i64 0] ++ zSec)
theorem infoSW : (Try.prog.info? 95).map (fun i => (i.zero, i.size, i.bytes)) = some (some zSW, 129, 136) := by kernel_rfl
theorem infoSWs : (Try.prog.info? 95).map (·.size) = some 129 := by kernel_rfl
section
variable {W W' : World} {base d : Nat} {vf ve vc : Value} {n : Nat} {F E : List Int} {C : List (Nat × List Int)} {fuse : Int} {off : Bool}
theorem Dev.kpy {T : TypeId → Prop} (h : Dev W base d vf ve vc n F E C fuse off) (k : KpY T W W') (h1 : ¬ T 61) (h2 : ¬ T 76) (h3 : ¬ T 95) : Dev W' base d vf ve vc n F E C fuse off :=
  ⟨k.blk h.blk h1, k.own h.saf h2, k.own h.see h2, k.own h.cac h3, h.ap, h.n1, h.ok⟩
theorem Dev.apD (h : Dev W base d vf ve vc n F E C fuse off) : vf.ownBlock ≠ some d ∧ ve.ownBlock ≠ some d ∧ vc.ownBlock ≠ some d :=
  ⟨blk_apart h.saf h.blk (by decide), blk_apart h.see h.blk (by decide), blk_apart h.cac h.blk (by decide)⟩
theorem Dev.setFuse (h : Dev W base d vf ve vc n F E C fuse off) (f : Int) : Dev (W.setCell ⟨d, 3, none⟩ (.int .i64 f)) base d vf ve vc n F E C f off :=
  ⟨h.blk.set 3 _, own_setD h.saf h.apD.1, own_setD h.see h.apD.2.1, own_setD h.cac h.apD.2.2, h.ap, h.n1, h.ok⟩
theorem Dev.setOff (h : Dev W base d vf ve vc n F E C fuse off) (t : Bool) : Dev (W.setCell ⟨d, 4, none⟩ (.bool t)) base d vf ve vc n F E C fuse t :=
  ⟨h.blk.set 4 _, own_setD h.saf h.apD.1, own_setD h.see h.apD.2.1, own_setD h.cac h.apD.2.2, h.ap, h.n1, h.ok⟩
theorem Dev.setNil (h : Dev W base d vf ve vc n F E C fuse off) : Dev (W.setCell ⟨d, 2, none⟩ (.slice none 0 0)) base d vf ve (.slice none 0 0) n F E [] fuse off :=
  ⟨h.blk.set 2 _, own_setD h.saf h.apD.1, own_setD h.see h.apD.2.1, World.ownsRow_nil _ _ _ _, h.ap, h.n1, fun c hc => (by cases hc)⟩
/-- One more write in the cache: the row grown, then stored into the device. -/
theorem Dev.pushC (h : Dev W base d vf ve vc n F E C fuse off) (c : Nat × List Int) (v' : Value) (ho : W'.ownsRow base 95 129 v' (C.length + 1) (cellsC C ++ (.int .i64 (c.1 : Int) :: c.2.map (Value.int .u8)))) (hg : W.grownBy W' vc.ownBlock) (hok : c.1 < n ∧ c.2.length = 128) :
    Dev (W'.setCell ⟨d, 2, none⟩ v') base d vf ve v' n F E (C ++ [c]) fuse off ∧ KpY (fun t => t = 95) W W' ∧ Blk W' d #[vf, ve, vc, .int .i64 fuse, .bool off] 61 := by
  have kp : KpY (fun t => t = 95) W W' := (KpY.refl _ _).ownrow h.cac rfl hg
  have kB := kp.blk h.blk (by decide)
  have hF := kp.own h.saf (by decide)
  have hE := kp.own h.see (by decide)
  refine ⟨⟨kB.set 2 _, own_setD hF (blk_apart hF kB (by decide)), own_setD hE (blk_apart hE kB (by decide)), ?_, h.ap, h.n1, fun x hx => ?_⟩, kp, kB⟩
  · rw [List.length_append, List.length_singleton, cellsC_snoc]
    exact own_setD ho (blk_apart ho kB (by decide))
  · rcases List.mem_append.1 hx with hx | hx
    · exact h.ok x hx
    · rw [List.mem_singleton.1 hx]; exact hok
theorem Dev.lens (h : Dev W base d vf ve vc n F E C fuse off) : F.length = n * 128 ∧ E.length = n * 128 := by
  have h1 := h.saf.1
  have h2 := h.see.1
  simp at h1 h2
  exact ⟨h1, h2⟩
/-- A sector of what is seen turned. -/
theorem Dev.setSeen {g cap : Nat} (h : Dev W base d vf (.slice (some ⟨g, 0, none⟩) n cap) vc n F E C fuse off) (at1 : Nat) (P : List Int) (hP : P.length = 128) (hat : at1 < n) : Dev (W.setCells g (at1 * 128) (P.map (Value.int .u8))) base d vf (.slice (some ⟨g, 0, none⟩) n cap) vc n F (splice E (at1 * 128) P) C fuse off := by
  have hg := cells_grownK (b := g) (P.map (Value.int .u8)) W (at1 * 128)
  have hl := h.lens
  have h1 := h.apD.2.1
  have hgd : g ≠ d := fun e => h1 (by rw [e]; rfl)
  refine ⟨(hg.block d h.blk.lt (fun e => hgd (Option.some.inj e).symm)).trans h.blk, h.saf.kept hg ?_, ?_, h.cac.kept hg (own_apart h.cac h.see (by decide)), h.ap, h.n1, h.ok⟩
  · cases hv : vf.ownBlock with
    | none => exact .inl rfl
    | some k => exact .inr (fun e => h.ap k hv (by rw [e]; rfl))
  · rw [← splice_map]
    exact own_spliceK h.see (by rw [List.length_map, List.length_map, hP, hl.2]; omega)
/-- A sector of what is safe turned. -/
theorem Dev.setSafe {g cap : Nat} (h : Dev W base d (.slice (some ⟨g, 0, none⟩) n cap) ve vc n F E C fuse off) (at1 : Nat) (P : List Int) (hP : P.length = 128) (hat : at1 < n) : Dev (W.setCells g (at1 * 128) (P.map (Value.int .u8))) base d (.slice (some ⟨g, 0, none⟩) n cap) ve vc n (splice F (at1 * 128) P) E C fuse off := by
  have hg := cells_grownK (b := g) (P.map (Value.int .u8)) W (at1 * 128)
  have hl := h.lens
  have h1 := h.apD.1
  have hgd : g ≠ d := fun e => h1 (by rw [e]; rfl)
  refine ⟨(hg.block d h.blk.lt (fun e => hgd (Option.some.inj e).symm)).trans h.blk, ?_, h.see.kept hg ?_, h.cac.kept hg (own_apart h.cac h.saf (by decide)), h.ap, h.n1, h.ok⟩
  · rw [← splice_map]
    exact own_spliceK h.saf (by rw [List.length_map, List.length_map, hP, hl.1]; omega)
  · exact .inr (h.ap g rfl)
end
end Go.Proofs.Ythghibopnnjboaa
