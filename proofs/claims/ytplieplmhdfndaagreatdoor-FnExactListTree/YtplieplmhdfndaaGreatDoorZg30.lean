/- Structs in a fenced walk: load, store into a block of the call's own, a slice of one struct. openDirectory's range over the slots: what holds between two rounds, and behind a return out of one. A region that draws its order, inside a fence (also within a round of a range over a function): Inv's way, for operations that are no calls. -/
import Derived.OwnWalkIn
import Derived.Great.BuildSlice
import Derived.Great.FillDense
import Derived.Test.YtplieplmhdfndaaGreatDoorZg05
import Derived.Test.YtplieplmhdfndaaGreatDoorZg24
import Derived.Test.YtplieplmhdfndaaGreatDoorZg28
import Derived.Test.YtplieplmhdfndaaGreatDoorZg29
import Derived.Test.YtplieplmhdfndaaGreatDoorZg11
import Derived.OrdersIn
import Derived.Shelf.RegionOpen
namespace Go.Proofs.YtplieplmhdfndaaGreatDoor
set_option linter.unusedVariables false
set_option linter.unusedSimpArgs false
open Go.RowKit
section
variable {F : Fence} {n : Nat} {P : Program} {ops : Array Oper} {rest : List Oper} {o : Oper} {a : Act} {w : World} {Q : Exit → Act → World → Prop}
theorem wpListIn_run (hgd : o.guard = none) (hnc : ∀ c, o.op ≠ .call c) (hnd : ∀ c, o.op ≠ .defer c) (v : Value) (w' : World) (hrun : (execOp a.eval o).run P w = .ok (.value v) w') (h : wpListIn F n P ops Q rest (a.put o.dst v) w') : wpListIn F n P ops Q (o :: rest) a w := by
  refine wpListIn_plain hgd fun K hK' => ?_
  have hab : o.about P w a.eval = none := by
    unfold Oper.about
    split
    · rename_i c hc
      exact absurd hc (hnc c)
    · rfl
  unfold Oper.wpIn
  refine ⟨?_, ?_⟩
  · simp [hab]
  · rw [Oper.semAt_plain F _ _ hnd, hrun]
    exact hK' _ _ h
theorem wpListIn_runS (hgd : o.guard = none) (hnc : ∀ c, o.op ≠ .call c) (hnd : ∀ c, o.op ≠ .defer c) (w' : World) (hrun : (execOp a.eval o).run P w = .ok .skip w') (h : wpListIn F n P ops Q rest (a.put o.dst undef) w') : wpListIn F n P ops Q (o :: rest) a w := by
  refine wpListIn_plain hgd fun K hK' => ?_
  have hab : o.about P w a.eval = none := by
    unfold Oper.about
    split
    · rename_i c hc
      exact absurd hc (hnc c)
    · rfl
  unfold Oper.wpIn
  refine ⟨?_, ?_⟩
  · simp [hab]
  · rw [Oper.semAt_plain F _ _ hnd, hrun]
    exact hK' _ _ h
theorem wpListIn_load_mid (hgd : o.guard = none) (ty : TypeId) (x : Operand) (ho : o.op = .load ty x)
    (b q : Nat) (hx : a.eval x = .pointer (some ⟨b, q, none⟩)) (cs : List Value) (d : TypeDesc) (hc : w.rangeAt b q cs)
    (hu : P.underlying ty = some d) (hd : d.isRow = true) (hi : (P.info? ty).map (·.size) = some cs.length)
    (h : wpListIn F n P ops Q rest (a.put o.dst (.agg cs.toArray)) w) : wpListIn F n P ops Q (o :: rest) a w := by
  refine wpListIn_run hgd (by rw [ho]; intro c hc; cases hc) (by rw [ho]; intro c hc; cases hc) _ _ ?_ h
  unfold execOp
  simp only [ho, hx, Sem.run_bind, run_loadAt_mid w b q ty cs d hc hu hd hi, Result.andThen_ok]
  rfl
theorem wpListIn_store_new (B : Nat) (W0 : World) (hgd : o.guard = none) (ty : TypeId) (x y : Operand) (ho : o.op = .store ty x y)
    (g : Nat) (cells : Array Value) (hx : a.eval x = .pointer (some ⟨g, 0, none⟩)) (hy : a.eval y = .agg cells)
    (t : TypeId) (old : Array Value) (hg : Blk w g old t) (hi : (P.info? ty).map (·.size) = some cells.size)
    (hold : old.size = cells.size) (h1 : cells.all (·.oneCell') = true) (hB : Below B W0 w) (hBg : B ≤ g)
    (h : ∀ w2, Blk w2 g cells t → Below B W0 w2 → wpListIn F n P ops Q rest (a.put o.dst undef) w2) : wpListIn F n P ops Q (o :: rest) a w := by
  refine wpListIn_runS hgd (by rw [ho]; intro c hc; cases hc) (by rw [ho]; intro c hc; cases hc) (w.setRow g cells) ?_ (h _ (hg.row cells) (below_setRow hB hBg cells))
  unfold execOp
  simp only [ho, hx, hy, Instr.storeAt, Instr.sureAddr, Sem.run_bind, Sem.run_pure, Result.andThen_ok, run_storeVar_row w g t ty old cells hg hi hold h1]
end
end Go.Proofs.YtplieplmhdfndaaGreatDoor

namespace Go.Proofs.YtplieplmhdfndaaGreatDoor
set_option linter.unusedVariables false
set_option linter.unusedSimpArgs false
open Go.RowKit Go.Shelf

theorem Ck.keepT {w w' : World} {b lo : Nat} {code : Int} (h : Ck w b lo code true) (hb : w'.heap[b]? = w.heap[b]?) : Ck w' b lo code true := by
  obtain ⟨h1, h2, ev, h3, h4⟩ := h
  refine ⟨(World.cell?_of_block (a := ⟨b, 0, none⟩) hb).trans h1, (World.frozen?_of_block (a := ⟨b, 1, none⟩) hb).trans h2, ev, (World.cell?_of_block (a := ⟨b, 1, none⟩) hb).trans h3, ?_⟩
  rcases h4 with h4 | ⟨h4, _⟩
  · exact .inl h4
  · cases h4
theorem Dr.keepG {H : Type} {base : Nat} {W W' : World} {b mb n nn : Nat} {v : Value} {xs : List Value} {D : DataW H} {row : Option Nat} (h : Dr base W b mb n nn v xs D) (hg : W.grownBy W' row) (h1 : some b ≠ row) (h2 : some mb ≠ row) (h3 : v.ownBlock = none ∨ v.ownBlock ≠ row) : Dr base W' b mb n nn v xs D := by
  refine ⟨(hg.block b h.blk.lt h1).trans h.blk, h.own.kept hg h3, h.ne, ?_, h.nb⟩
  have hl := h.map.lt
  obtain ⟨es, ck, e1, e2⟩ := h.map
  exact ⟨es, ck, (hg.block mb hl h2).trans e1, e2⟩
theorem Dr.keepB {H : Type} {base : Nat} {W W' : World} {b mb n nn : Nat} {v : Value} {xs : List Value} {D : DataW H} (h : Dr base W b mb n nn v xs D) (hb : Below W.heap.size W W') : Dr base W' b mb n nn v xs D :=
  h.keepG (row := none) ⟨hb.os, hb.tape, hb.output, hb.size, fun k hk _ => hb.block k hk⟩ (by simp) (by simp) (by cases v.ownBlock <;> simp)
/-- Between two rounds. M: the map's block; the directory, its box and the iterator's two boxes lie behind it. -/
structure Iod (H : Type) (zs : List Int) (w : World) (M : Nat) (sv : Value) (pre : List Nat) (W : World) : Prop where
  dir : ∃ v nn, Dr (H := H) (M + 5) W (M + 1) M pre.length nn v (entsI (pre.map (slotE zs))) (mapR H zs pre.reverse) ∧ nn ≤ pre.length
  ent : ∃ es, entR zs pre.reverse = some es
  ck : Ck W (w.heap.size + 2) (M + 5) 21 true
  r1 : Boxed W w.heap.size 79 (.pointer none)
  r2 : Boxed W (w.heap.size + 1) 72 .nilIface
  bd : Boxed W (M + 2) 79 (.pointer (some ⟨M + 1, 0, none⟩))
  bx1 : Boxed W (M + 3) 45 sv
  bx2 : Boxed W (M + 4) 3 (.int .i64 ((32 : Nat) : Int))
  old : Below w.heap.size w W
  size : M + 5 ≤ W.heap.size
theorem Iod.own {H : Type} {zs : List Int} {w : World} {M : Nat} {sv : Value} (hM : w.heap.size + 3 ≤ M) : OwnFrom (M + 5) (Iod H zs w M sv) := by
  intro pre X Y row hs hg hr
  have hb : ∀ {B : Nat} {t : TypeId} {v : Value}, B < M + 5 → Boxed X B t v → Boxed Y B t v := fun hB h => h.kept hg (fun e => by have := (hr _ e.symm).1; omega)
  have hne : ∀ B, B < M + 5 → some B ≠ row := fun B hB e => by have := (hr _ e.symm).1; omega
  obtain ⟨v, nn, hd, hnn⟩ := hs.dir
  refine ⟨⟨v, nn, hd.keepG hg (hne _ (by omega)) (hne _ (by omega)) ?_, hnn⟩, hs.ent, hs.ck.keepT (hg.block _ hs.ck.lt (hne _ (by omega))), hb (by omega) hs.r1, hb (by omega) hs.r2, hb (by omega) hs.bd, hb (by omega) hs.bx1, hb (by omega) hs.bx2, ?_, Nat.le_trans hs.size hg.size⟩
  · rcases hd.own.2 with ⟨rfl, _⟩ | ⟨g, cap, cur, rfl, _, hgb, _⟩
    · exact .inl rfl
    · refine .inr fun e' => ?_
      obtain ⟨_, o, ho, hc⟩ := hr g (by simpa [Value.ownBlock] using e'.symm)
      rw [hgb] at ho; cases ho; cases hc
  · exact hs.old.grown hg hs.old.size (fun k e => by have := (hr k e).1; omega)
theorem Iod.next {H : Type} {zs : List Int} {w : World} {M : Nat} {sv : Value} {pre : List Nat} {x : Nat} {W w4 w6 w7 : World} {v v' : Value} {nn nn' : Nat} (hM : w.heap.size + 3 ≤ M) (hI : Iod H zs w M sv pre W)
    (hv : Dr (H := H) (M + 5) W (M + 1) M pre.length nn v (entsI (pre.map (slotE zs))) (mapR H zs pre.reverse)) (hB4 : Below W.heap.size W w4) (hc6 : Ck w6 (w.heap.size + 2) (M + 5) 21 true) (ht6 : Tch (w.heap.size + 2) w4 w6)
    (hd : Dr (H := H) (M + 5) w7 (M + 1) M (pre ++ [x]).length nn' v' (entsI ((pre ++ [x]).map (slotE zs))) (mapR H zs (pre ++ [x]).reverse)) (hnn : nn' ≤ (pre ++ [x]).length) (hf : Fr w6 w7 (M + 1) M v v') (hent : ∃ es, entR zs (pre ++ [x]).reverse = some es) :
    KeepsFrom (M + 5) W w7 ∧ Kc w.heap.size (M + 3) (M + 4) W w7 ∧ Iod H zs w M sv (pre ++ [x]) w7 := by
  have h1 := hI.size
  have h4 := hB4.size
  have h6 := ht6.1.size
  have h7 := hf.low.size
  have hO := hI.old.size
  have hown : ∀ k, k < M + 5 → v.ownBlock ≠ some k := fun k hk e => by have := (hv.own.lt k e).1; omega
  have hblk : ∀ k, k < W.heap.size → k ≠ w.heap.size + 2 → k ≠ M + 1 → k ≠ M → v.ownBlock ≠ some k → w7.heap[k]? = W.heap[k]? := by
    intro k hk1 hk2 hk3 hk4 hk5
    rw [hf.kept k (by omega) hk3 hk4 hk5, ht6.1.block k (by omega) (by simp; omega), hB4.block k hk1]
  have hBw : Below w.heap.size W w7 := by
    have hb6 : Below w.heap.size W w6 := (hB4.mono (by omega)).grown ht6.1 (by omega) (fun k e => by cases e; omega)
    exact ⟨hf.low.os.trans hb6.os, hf.low.tape.trans hb6.tape, hf.low.output.trans hb6.output, Nat.le_trans hb6.size h7, fun k hk => hblk k (by omega) (by omega) (by omega) (by omega) (hown k (by omega))⟩
  have hbx : ∀ {B : Nat} {t : TypeId} {u : Value}, B < M + 5 → B ≠ w.heap.size + 2 → B ≠ M + 1 → B ≠ M → Boxed W B t u → Boxed w7 B t u := fun h1 h2 h3 h4 h => (hblk _ h.lt h2 h3 h4 (hown _ h1)).trans h
  refine ⟨⟨by omega, fun k o hB hk' ho => ?_⟩, ⟨hBw, hblk _ (by omega) (by omega) (by omega) (by omega) (hown _ (by omega)), hblk _ (by omega) (by omega) (by omega) (by omega) (hown _ (by omega))⟩, ?_⟩
  · refine (hblk k (Array.getElem?_eq_some_iff.1 hk').1 (by omega) (by omega) (by omega) (fun e => ?_)).trans hk'
    rcases hv.own.2 with ⟨rfl, _⟩ | ⟨g, cap, cur, rfl, _, hgb, _⟩
    · cases e
    · obtain rfl : g = k := by simpa [Value.ownBlock] using e
      rw [hgb] at hk'
      cases hk'
      cases ho
  · refine ⟨⟨v', nn', hd, hnn⟩, hent, hc6.keepT (hf.kept _ hc6.lt (by omega) (by omega) (hown _ (by omega))), hbx (by omega) (by omega) (by omega) (by omega) hI.r1, hbx (by omega) (by omega) (by omega) (by omega) hI.r2, hbx (by omega) (by omega) (by omega) (by omega) hI.bd, hbx (by omega) (by omega) (by omega) (by omega) hI.bx1, hbx (by omega) (by omega) (by omega) (by omega) hI.bx2, hI.old.trans hBw, by omega⟩
/-- Behind a return out of a round: the results lie in their boxes. -/
structure Ixd (zs : List Int) (w : World) (M : Nat) (pre : List Nat) (W : World) : Prop where
  ent : entR zs pre.reverse = none
  r1 : Boxed W w.heap.size 79 (.pointer none)
  r2 : ∃ ev m, Boxed W (w.heap.size + 1) 72 ev ∧ Flt W (M + 5) m ev 21
  old : Below w.heap.size w W
  size : M + 5 ≤ W.heap.size
theorem Ixd.own {zs : List Int} {w : World} {M : Nat} (hM : w.heap.size + 3 ≤ M) : OwnFrom (M + 5) (Ixd zs w M) := by
  intro pre X Y row hs hg hr
  have hb : ∀ {B : Nat} {t : TypeId} {v : Value}, B < M + 5 → Boxed X B t v → Boxed Y B t v := fun hB h => h.kept hg (fun e => by have := (hr _ e.symm).1; omega)
  obtain ⟨ev, m, h1, h2⟩ := hs.r2
  refine ⟨hs.ent, hb (by omega) hs.r1, ⟨ev, m, hb (by omega) h1, h2.keep ?_⟩, hs.old.grown hg hs.old.size (fun k e => by have := (hr k e).1; omega), Nat.le_trans hs.size hg.size⟩
  intro k o v hk hc
  have hlt := cell_lt hc
  refine (World.cell?_of_block (a := ⟨k, o, none⟩) (hg.block k hlt (fun e => ?_))).trans hc
  obtain ⟨_, ob, ho, hcc⟩ := hr k e.symm
  unfold World.cell? at hc
  rw [ho] at hc
  cases ob <;> simp_all [Obj.isCells]
/-- Out of the round: the two results stored into their boxes. -/
theorem Ixd.mk2 {H : Type} {zs : List Int} {w : World} {M : Nat} {sv : Value} {pre : List Nat} {x : Nat} {W w4 w6 W8 : World} {ev : Value} {m : Nat} (hM : w.heap.size + 3 ≤ M) (hI : Iod H zs w M sv pre W) (hB4 : Below W.heap.size W w4) (ht6 : Tch (w.heap.size + 2) w4 w6) (hF : Flt w6 (M + 5) m ev 21)
    (hent : entR zs (pre ++ [x]).reverse = none) (h8 : ∀ k, k ≠ w.heap.size → k ≠ w.heap.size + 1 → W8.heap[k]? = w6.heap[k]?) (hs8 : W8.heap.size = w6.heap.size) (hos : W8.os = w6.os ∧ W8.tape = w6.tape ∧ W8.output = w6.output)
    (hr1 : Boxed W8 w.heap.size 79 (.pointer none)) (hr2 : Boxed W8 (w.heap.size + 1) 72 ev) : KeepsFrom (M + 5) W W8 ∧ Ixd zs w M (pre ++ [x]) W8 := by
  have h1 := hI.size
  have h4 := hB4.size
  have h6 := ht6.1.size
  have hO := hI.old.size
  have hblk : ∀ k, k < W.heap.size → k ≠ w.heap.size + 2 → k ≠ w.heap.size → k ≠ w.heap.size + 1 → W8.heap[k]? = W.heap[k]? := by
    intro k hk1 hk2 hk3 hk4
    rw [h8 k hk3 hk4, ht6.1.block k (by omega) (by simp; omega), hB4.block k hk1]
  have hb6 : Below w.heap.size W w6 := (hB4.mono (by omega)).grown ht6.1 (by omega) (fun k e => by cases e; omega)
  refine ⟨⟨by omega, fun k o hB hk' ho => (hblk k (Array.getElem?_eq_some_iff.1 hk').1 (by omega) (by omega) (by omega)).trans hk'⟩, hent, hr1, ⟨ev, m, hr2, hF.keep ?_⟩, hI.old.trans ⟨hos.1.trans hb6.os, hos.2.1.trans hb6.tape, hos.2.2.trans hb6.output, by omega, fun k hk => hblk k (by omega) (by omega) (by omega) (by omega)⟩, by omega⟩
  intro k o v hk hc
  exact (World.cell?_of_block (a := ⟨k, o, none⟩) (h8 k (by omega) (by omega))).trans hc
end Go.Proofs.YtplieplmhdfndaaGreatDoor

namespace Go.Proofs.YtplieplmhdfndaaGreatDoor
set_option linter.unusedVariables false
set_option linter.unusedSimpArgs false
open Go.RowKit

theorem ready_nilB {ops : Array Oper} {listed : Array Bool} {md : Region.Mode} (hsz : listed.size = ops.size) (hord : ∀ (i : Nat) (o : Oper), ops[i]? = some o → ∀ e ∈ o.after, Region.binds md e = true → e.on < i) (h : Region.ready md ops listed = []) : ∀ i, i < ops.size → listed.getD i false = true := by
  intro i
  induction i using Nat.strongRecOn with
  | ind i ih =>
    intro hi
    cases e : listed.getD i false with
    | true => rfl
    | false =>
      exfalso
      have hm : i ∈ Region.ready md ops listed := by
        rw [mem_ready]
        refine ⟨?_, ops[i], Array.getElem?_eq_getElem hi, fun ed he hb => ih ed.on (hord i ops[i] (Array.getElem?_eq_getElem hi) ed he hb) ?_⟩
        · rw [Array.getD_eq_getD_getElem?, Array.getElem?_eq_getElem (by omega)] at e ⊢
          exact e
        · have := hord i ops[i] (Array.getElem?_eq_getElem hi) ed he hb
          omega
      rw [h] at hm
      cases hm

def rchkB (ops : Array Oper) (m : Nat) (ks : List Nat) : Bool :=
  (List.range ops.size).all fun i => match ops[i]? with
    | none => true
    | some o => (o.after.toList.all fun e => !(Region.binds .any e) || decide (e.on < i)) && (match o.dst with
      | none => true
      | some d => decide (d < m) && !ks.contains d && (List.range i).all fun j => match ops[j]? with
        | none => true
        | some oj => !(oj.dst == some d))
theorem rchkB_at {ops : Array Oper} {m : Nat} {ks : List Nat} (h : rchkB ops m ks = true) {i : Nat} {o : Oper} (hi : ops[i]? = some o) :
    (∀ e ∈ o.after, Region.binds .any e = true → e.on < i) ∧ ∀ d, o.dst = some d → d < m ∧ d ∉ ks ∧ ∀ j oj, j < i → ops[j]? = some oj → oj.dst ≠ some d := by
  have hlt : i < ops.size := (Array.getElem?_eq_some_iff.1 hi).1
  unfold rchkB at h
  rw [List.all_eq_true] at h
  have h1 := h i (List.mem_range.2 hlt)
  simp only [hi, Bool.and_eq_true] at h1
  obtain ⟨ha, hb⟩ := h1
  refine ⟨fun e he hbd => ?_, fun d hd => ?_⟩
  · rw [List.all_eq_true] at ha
    have h9 := ha e (Array.mem_toList_iff.2 he)
    rw [hbd] at h9
    simpa using h9
  · simp only [hd, Bool.and_eq_true] at hb
    obtain ⟨⟨h2, h3⟩, h4⟩ := hb
    refine ⟨of_decide_eq_true h2, by simpa using h3, fun j oj hj hoj e => ?_⟩
    rw [List.all_eq_true] at h4
    have h5 := h4 j (List.mem_range.2 hj)
    simp only [hoj, e] at h5
    simp at h5
theorem wpAnyIn_inv {F : Fence} {n : Nat} {P : Program} {ops : Array Oper} {Q : Exit → Act → World → Prop} (fs : List (Nat × Value)) (S : World → Prop) (V : Nat → Value → World → Prop) (m : Nat) (ds : List Deferred)
    (hord : ∀ (i : Nat) (o : Oper), ops[i]? = some o → ∀ e ∈ o.after, Region.binds .any e = true → e.on < i)
    (hdst : ∀ (i j : Nat) (oi oj : Oper) (d : Nat), ops[i]? = some oi → ops[j]? = some oj → oi.dst = some d → oj.dst = some d → i = j)
    (hfix : ∀ (i : Nat) (o : Oper) (d : Nat), ops[i]? = some o → o.dst = some d → d < m ∧ ∀ v, (d, v) ∉ fs)
    (hstep : ∀ (i : Nat) (o : Oper) (listed : Array Bool) (a : Act) (w : World), ops[i]? = some o → (∀ e ∈ o.after, Region.binds .any e = true → listed.getD e.on false = true) → RInv ops fs S V m ds listed a w →
      Region.wanted o (yielded ops a.tmps) = true ∧ (∀ c, o.op ≠ .call c) ∧ (∀ c, o.op ≠ .defer c) ∧ ∃ x v w', (execOp a.eval o).run P w = .ok x w' ∧ (x = .value v ∨ (x = .skip ∧ v = undef)) ∧ V i v w' ∧ S w' ∧ ∀ j u, V j u w → V j u w')
    (hfin : ∀ listed a w, (∀ i, i < ops.size → listed.getD i false = true) → RInv ops fs S V m ds listed a w → Q .normal a w) :
    ∀ (fuel : Nat) (listed : Array Bool) (a : Act) (w : World), listed.size = ops.size → listed.toList.count false ≤ fuel → RInv ops fs S V m ds listed a w → wpAnyIn F n P .any ops Q fuel listed a w
  | 0, listed, a, w, hsz, hc, hI => by
    have hall : ∀ i, i < ops.size → listed.getD i false = true := by
      intro i hi
      cases e : listed.getD i false with
      | true => rfl
      | false =>
        have : false ∈ listed.toList := by
          rw [Array.getD_eq_getD_getElem?, Array.getElem?_eq_getElem (by omega), Option.getD_some] at e
          rw [← e]; exact Array.mem_toList_iff.2 (Array.getElem_mem (by omega))
        have := List.count_pos_iff.2 this
        omega
    refine ⟨?_, hfin listed a w hall hI⟩
    cases e : Region.ready .any ops listed with
    | nil => rfl
    | cons j l =>
      have hj : j ∈ Region.ready .any ops listed := by rw [e]; simp
      obtain ⟨h0, o, ho, _⟩ := mem_ready.1 hj
      have hlt : j < ops.size := (Array.getElem?_eq_some_iff.1 ho).1
      have h1 := hall j hlt
      rw [Array.getD_eq_getD_getElem?, Array.getElem?_eq_getElem (by omega)] at h0 h1
      simp at h0 h1
      rw [h0] at h1
      cases h1
  | fuel + 1, listed, a, w, hsz, hc, hI => by
    refine ⟨fun h => hfin listed a w (ready_nilB hsz hord h) hI, fun i hi => ?_⟩
    obtain ⟨h0, o, ho, hall⟩ := mem_ready.1 hi
    have hlt : i < ops.size := (Array.getElem?_eq_some_iff.1 ho).1
    obtain ⟨hwt, hnc, hnd, x, v, w', hrun, hx, hv, hS, hk⟩ := hstep i o listed a w ho hall hI
    have hab : o.about P w a.eval = none := by
      unfold Oper.about
      split
      · rename_i c hc
        exact absurd hc (hnc c)
      · rfl
    unfold wpOpIn
    simp only [ho, hwt, if_true]
    unfold Oper.wpIn
    refine ⟨by simp [hab], ?_⟩
    rw [Oper.semAt_plain F _ _ hnd, hrun]
    suffices h : wpAnyIn F n P .any ops Q fuel (listed.setIfInBounds i true) (a.put o.dst v) w' by
      rcases hx with rfl | ⟨rfl, rfl⟩
      · exact h
      · exact h
    have hcs := count_set (listed := listed) (i := i) (by omega) h0
    refine wpAnyIn_inv fs S V m ds hord hdst hfix hstep hfin fuel _ _ _ (by simpa using hsz) (by omega) ?_
    cases hd : o.dst with
    | none =>
      refine ⟨hI.sz, hI.df, hS, fun j oj d hj hl hjd => ?_, hI.fix, fun j oj hj hl => ?_⟩
      · rw [listed_set (by omega)] at hl
        by_cases e : j = i
        · subst e
          rw [ho] at hj
          cases hj
          rw [hd] at hjd
          cases hjd
        · rw [if_neg e] at hl
          exact hk j _ (hI.vals j oj d hj hl hjd)
      · rw [listed_set (by omega)] at hl
        by_cases e : j = i
        · subst e
          exact ⟨v, hv⟩
        · rw [if_neg e] at hl
          obtain ⟨u, hu⟩ := hI.seen j oj hj hl
          exact ⟨u, hk j u hu⟩
    | some d0 =>
      have hf := hfix i o d0 ho hd
      have hd0 : d0 < a.tmps.size := by rw [hI.sz]; exact hf.1
      refine ⟨by simp [Act.put, hI.sz], by simpa [Act.put] using hI.df, hS, fun j oj d hj hl hjd => ?_, fun t u htu => ?_, fun j oj hj hl => ?_⟩
      · rw [listed_set (by omega)] at hl
        rw [getD_put hd0]
        by_cases e : j = i
        · subst e
          rw [ho] at hj
          cases hj
          rw [hd] at hjd
          cases hjd
          rw [if_pos rfl]
          exact hv
        · rw [if_neg e] at hl
          rw [if_neg (fun h => e (hdst j i oj o d hj ho hjd (by rw [hd, h])))]
          exact hk j _ (hI.vals j oj d hj hl hjd)
      · rw [getD_put hd0, if_neg (fun h : t = d0 => hf.2 u (by rw [← h]; exact htu))]
        exact hI.fix t u htu
      · rw [listed_set (by omega)] at hl
        by_cases e : j = i
        · subst e
          exact ⟨v, hv⟩
        · rw [if_neg e] at hl
          obtain ⟨u, hu⟩ := hI.seen j oj hj hl
          exact ⟨u, hk j u hu⟩

theorem wpAnyIn_invB {F : Fence} {n : Nat} {P : Program} {ops : Array Oper} {Q : Exit → Act → World → Prop} (fs : List (Nat × Value)) (S : World → Prop) (V : Nat → Value → World → Prop) (m : Nat) (ds : List Deferred)
    (hB : rchkB ops m (fs.map (·.1)) = true)
    (hstep : ∀ (i : Nat) (o : Oper) (listed : Array Bool) (a : Act) (w : World), ops[i]? = some o → (∀ e ∈ o.after, Region.binds .any e = true → listed.getD e.on false = true) → RInv ops fs S V m ds listed a w →
      Region.wanted o (yielded ops a.tmps) = true ∧ (∀ c, o.op ≠ .call c) ∧ (∀ c, o.op ≠ .defer c) ∧ ∃ x v w', (execOp a.eval o).run P w = .ok x w' ∧ (x = .value v ∨ (x = .skip ∧ v = undef)) ∧ V i v w' ∧ S w' ∧ ∀ j u, V j u w → V j u w')
    (hfin : ∀ listed a w, (∀ i, i < ops.size → listed.getD i false = true) → RInv ops fs S V m ds listed a w → Q .normal a w)
    (a : Act) (w : World) (hsz : a.tmps.size = m) (hdf : a.defers = ds) (hS : S w) (hf : ∀ t v, (t, v) ∈ fs → a.tmps.getD t undef = v) : wpAnyIn F n P .any ops Q ops.size (Array.replicate ops.size false) a w := by
  refine wpAnyIn_inv fs S V m ds (fun i o hi => (rchkB_at hB hi).1) (fun i j oi oj d hi hj h1 h2 => ?_) (fun i o d hi hd => ?_) hstep hfin _ _ _ _ (by simp) ?_ ⟨hsz, hdf, hS, fun i o d _ hl _ => ?_, hf, fun i o _ hl => ?_⟩
  · rcases Nat.lt_trichotomy i j with h | h | h
    · exact absurd h1 (((rchkB_at hB hj).2 d h2).2.2 i oi h hi)
    · exact h
    · exact absurd h2 (((rchkB_at hB hi).2 d h1).2.2 j oj h hj)
  · have := (rchkB_at hB hi).2 d hd
    exact ⟨this.1, fun v hv => this.2.1 (List.mem_map.2 ⟨_, hv, rfl⟩)⟩
  · rw [Array.toList_replicate, List.count_replicate]; simp
  · simp [Array.getD_eq_getD_getElem?, Array.getElem?_replicate] at hl
    split at hl <;> simp at hl
  · simp [Array.getD_eq_getD_getElem?, Array.getElem?_replicate] at hl
    split at hl <;> simp at hl
theorem tmps71 (a : Array Value) (h : a.size = 71) : a = #[a.getD 0 undef, a.getD 1 undef, a.getD 2 undef, a.getD 3 undef, a.getD 4 undef, a.getD 5 undef, a.getD 6 undef, a.getD 7 undef, a.getD 8 undef, a.getD 9 undef, a.getD 10 undef, a.getD 11 undef, a.getD 12 undef, a.getD 13 undef, a.getD 14 undef, a.getD 15 undef, a.getD 16 undef, a.getD 17 undef, a.getD 18 undef, a.getD 19 undef, a.getD 20 undef, a.getD 21 undef, a.getD 22 undef, a.getD 23 undef, a.getD 24 undef, a.getD 25 undef, a.getD 26 undef, a.getD 27 undef, a.getD 28 undef, a.getD 29 undef, a.getD 30 undef, a.getD 31 undef, a.getD 32 undef, a.getD 33 undef, a.getD 34 undef, a.getD 35 undef, a.getD 36 undef, a.getD 37 undef, a.getD 38 undef, a.getD 39 undef, a.getD 40 undef, a.getD 41 undef, a.getD 42 undef, a.getD 43 undef, a.getD 44 undef, a.getD 45 undef, a.getD 46 undef, a.getD 47 undef, a.getD 48 undef, a.getD 49 undef, a.getD 50 undef, a.getD 51 undef, a.getD 52 undef, a.getD 53 undef, a.getD 54 undef, a.getD 55 undef, a.getD 56 undef, a.getD 57 undef, a.getD 58 undef, a.getD 59 undef, a.getD 60 undef, a.getD 61 undef, a.getD 62 undef, a.getD 63 undef, a.getD 64 undef, a.getD 65 undef, a.getD 66 undef, a.getD 67 undef, a.getD 68 undef, a.getD 69 undef, a.getD 70 undef] := by
  have e : a = ((List.range 71).map fun i => a.getD i undef).toArray := Array.ext (by simp [h]) (fun i h1 h2 => by simp [Array.getD, h1])
  exact e
end Go.Proofs.YtplieplmhdfndaaGreatDoor
