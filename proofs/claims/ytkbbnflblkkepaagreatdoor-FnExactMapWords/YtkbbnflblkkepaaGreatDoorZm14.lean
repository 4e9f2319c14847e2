/- A region that draws its order, by what each operation's value is to be: one step an operation, whatever the order. Structs in a fenced walk: load, store into a block of the call's own, a slice of one struct. A region that draws its order, inside a fence (also within a round of a range over a function): Inv's way, for operations that are no calls. A region that draws its order, inside a fence or a round: what only reads comes first, in whatever order; then number mm. -/
import Derived.Test.YtkbbnflblkkepaaGreatDoorZm01
import Derived.Orders
import Derived.OwnWalkIn
import Derived.Great.BuildSlice
import Derived.Great.FillDense
import Derived.Test.YtkbbnflblkkepaaGreatDoorZm06
import Derived.OrdersIn
import Derived.Shelf.RegionOpen
namespace Go.Proofs.YtkbbnflblkkepaaGreatDoor
set_option linter.unusedVariables false
set_option linter.unusedSimpArgs false
open Go.RowKit

/-- What stands in the midst of the region: the frame's size, the slots that no operation writes, what holds of the world, what the values of those that came up are. -/
structure RInv (ops : Array Oper) (fs : List (Nat × Value)) (S : World → Prop) (V : Nat → Value → World → Prop) (m : Nat) (ds : List Deferred) (listed : Array Bool) (a : Act) (w : World) : Prop where
  sz : a.tmps.size = m
  df : a.defers = ds
  held : S w
  vals : ∀ i o d, ops[i]? = some o → listed.getD i false = true → o.dst = some d → V i (a.tmps.getD d undef) w
  fix : ∀ t v, (t, v) ∈ fs → a.tmps.getD t undef = v
  seen : ∀ i o, ops[i]? = some o → listed.getD i false = true → ∃ v, V i v w

theorem getD_put {a : Act} {d t : Nat} {v : Value} (hd : d < a.tmps.size) : (a.put (some d) v).tmps.getD t undef = if t = d then v else a.tmps.getD t undef := by
  simp only [Act.put, Array.getD_eq_getD_getElem?, Array.getElem?_setIfInBounds]
  by_cases h : d = t
  · subst h; simp [hd]
  · simp [h, Ne.symm h]
theorem listed_set {listed : Array Bool} {i j : Nat} (hi : i < listed.size) : (listed.setIfInBounds i true).getD j false = if j = i then true else listed.getD j false := by
  simp only [Array.getD_eq_getD_getElem?, Array.getElem?_setIfInBounds]
  by_cases h : i = j
  · subst h; simp [hi]
  · simp [h, Ne.symm h]
theorem count_set {listed : Array Bool} {i : Nat} (hi : i < listed.size) (h : listed.getD i true = false) : (listed.setIfInBounds i true).toList.count false + 1 = listed.toList.count false := by
  have hl : listed[i] = false := by simpa [hi] using h
  rw [Array.toList_setIfInBounds, List.count_set (by simpa using hi)]
  have hp : 0 < listed.toList.count false := List.count_pos_iff.2 (by rw [← hl]; exact Array.mem_toList_iff.2 (Array.getElem_mem hi))
  simp [hl]
  have : List.count false listed.toList = Array.count false listed := by simp
  omega

theorem ready_nil {ops : Array Oper} {listed : Array Bool} {md : Region.Mode} (hsz : listed.size = ops.size) (hord : ∀ (i : Nat) (o : Oper), ops[i]? = some o → ∀ e ∈ o.after, e.on < i) (h : Region.ready md ops listed = []) : ∀ i, i < ops.size → listed.getD i false = true := by
  intro i
  induction i using Nat.strongRecOn with
  | ind i ih =>
    intro hi
    cases e : listed.getD i false with
    | true => rfl
    | false =>
      exfalso
      have hm : i ∈ Region.ready md ops listed := by
        rw [mem_ready]
        refine ⟨?_, ops[i], Array.getElem?_eq_getElem hi, fun ed he _ => ih ed.on (hord i ops[i] (Array.getElem?_eq_getElem hi) ed he) ?_⟩
        · rw [Array.getD_eq_getD_getElem?, Array.getElem?_eq_getElem (by omega)] at e ⊢
          exact e
        · have := hord i ops[i] (Array.getElem?_eq_getElem hi) ed he
          omega
      rw [h] at hm
      cases hm

theorem wpAny_inv {P : Program} {ops : Array Oper} {Q : Exit → Act → World → Prop} (fs : List (Nat × Value)) (S : World → Prop) (V : Nat → Value → World → Prop) (m : Nat) (ds : List Deferred)
    (hord : ∀ (i : Nat) (o : Oper), ops[i]? = some o → ∀ e ∈ o.after, e.on < i)
    (hdst : ∀ (i j : Nat) (oi oj : Oper) (d : Nat), ops[i]? = some oi → ops[j]? = some oj → oi.dst = some d → oj.dst = some d → i = j)
    (hfix : ∀ (i : Nat) (o : Oper) (d : Nat), ops[i]? = some o → o.dst = some d → d < m ∧ ∀ v, (d, v) ∉ fs)
    (hstep : ∀ (i : Nat) (o : Oper) (listed : Array Bool) (a : Act) (w : World), ops[i]? = some o → (∀ e ∈ o.after, Region.binds .any e = true → listed.getD e.on false = true) → RInv ops fs S V m ds listed a w →
      Region.wanted o (yielded ops a.tmps) = true ∧ o.wp P a w (fun a' w' => ∃ v, a' = a.put o.dst v ∧ V i v w' ∧ S w' ∧ ∀ j u, V j u w → V j u w') Q)
    (hfin : ∀ listed a w, (∀ i, i < ops.size → listed.getD i false = true) → RInv ops fs S V m ds listed a w → Q .normal a w) :
    ∀ (fuel : Nat) (listed : Array Bool) (a : Act) (w : World), listed.size = ops.size → listed.toList.count false ≤ fuel → RInv ops fs S V m ds listed a w → wpAny P .any ops Q fuel listed a w
  | 0, listed, a, w, hsz, hc, hI => by
    have hall : ∀ i, i < ops.size → listed.getD i false = true := by
      intro i hi
      cases e : listed.getD i false with
      | true => rfl
      | false =>
        have : false ∈ listed.toList := by
          rw [Array.getD_eq_getD_getElem?, Array.getElem?_eq_getElem (by omega), Option.getD_some] at e
          rw [← e]; exact Array.mem_toList_iff.2 (Array.getElem_mem (by omega))
        have := List.count_pos_iff.2 this
        omega
    refine ⟨?_, hfin listed a w hall hI⟩
    cases e : Region.ready .any ops listed with
    | nil => rfl
    | cons j l =>
      have hj : j ∈ Region.ready .any ops listed := by rw [e]; simp
      obtain ⟨h0, o, ho, _⟩ := mem_ready.1 hj
      have hlt : j < ops.size := (Array.getElem?_eq_some_iff.1 ho).1
      have h1 := hall j hlt
      rw [Array.getD_eq_getD_getElem?, Array.getElem?_eq_getElem (by omega)] at h0 h1
      simp at h0 h1
      rw [h0] at h1
      cases h1
  | fuel + 1, listed, a, w, hsz, hc, hI => by
    refine ⟨fun h => hfin listed a w (ready_nil hsz hord h) hI, fun i hi => ?_⟩
    obtain ⟨h0, o, ho, hall⟩ := mem_ready.1 hi
    have hlt : i < ops.size := (Array.getElem?_eq_some_iff.1 ho).1
    have hs := hstep i o listed a w ho hall hI
    unfold wpOp
    simp only [ho, hs.1, if_true]
    refine .inl (Oper.wp_mono ?_ hs.2)
    rintro a' w' ⟨v, rfl, hv, hS, hk⟩
    have hcs := count_set (listed := listed) (i := i) (by omega) h0
    refine wpAny_inv fs S V m ds hord hdst hfix hstep hfin fuel _ _ _ (by simpa using hsz) (by omega) ?_
    cases hd : o.dst with
    | none =>
      refine ⟨hI.sz, hI.df, hS, fun j oj d hj hl hjd => ?_, hI.fix, fun j oj hj hl => ?_⟩
      · rw [listed_set (by omega)] at hl
        by_cases e : j = i
        · subst e
          rw [ho] at hj
          cases hj
          rw [hd] at hjd
          cases hjd
        · rw [if_neg e] at hl
          exact hk j _ (hI.vals j oj d hj hl hjd)
      · rw [listed_set (by omega)] at hl
        by_cases e : j = i
        · subst e
          exact ⟨v, hv⟩
        · rw [if_neg e] at hl
          obtain ⟨u, hu⟩ := hI.seen j oj hj hl
          exact ⟨u, hk j u hu⟩
    | some d0 =>
      have hf := hfix i o d0 ho hd
      have hd0 : d0 < a.tmps.size := by rw [hI.sz]; exact hf.1
      refine ⟨by simp [Act.put, hI.sz], by simpa [Act.put] using hI.df, hS, fun j oj d hj hl hjd => ?_, fun t u htu => ?_, fun j oj hj hl => ?_⟩
      · rw [listed_set (by omega)] at hl
        rw [getD_put hd0]
        by_cases e : j = i
        · subst e
          rw [ho] at hj
          cases hj
          rw [hd] at hjd
          cases hjd
          rw [if_pos rfl]
          exact hv
        · rw [if_neg e] at hl
          rw [if_neg (fun h => e (hdst j i oj o d hj ho hjd (by rw [hd, h])))]
          exact hk j _ (hI.vals j oj d hj hl hjd)
      · rw [getD_put hd0, if_neg (fun h : t = d0 => hf.2 u (by rw [← h]; exact htu))]
        exact hI.fix t u htu
      · rw [listed_set (by omega)] at hl
        by_cases e : j = i
        · subst e
          exact ⟨v, hv⟩
        · rw [if_neg e] at hl
          obtain ⟨u, hu⟩ := hI.seen j oj hj hl
          exact ⟨u, hk j u hu⟩

/-- The region's own order, looked at by program. -/
def rchk (ops : Array Oper) (m : Nat) (ks : List Nat) : Bool :=
  (List.range ops.size).all fun i => match ops[i]? with
    | none => true
    | some o => (o.after.toList.all fun e => decide (e.on < i)) && (match o.dst with
      | none => true
      | some d => decide (d < m) && !ks.contains d && (List.range i).all fun j => match ops[j]? with
        | none => true
        | some oj => !(oj.dst == some d))
theorem rchk_at {ops : Array Oper} {m : Nat} {ks : List Nat} (h : rchk ops m ks = true) {i : Nat} {o : Oper} (hi : ops[i]? = some o) :
    (∀ e ∈ o.after, e.on < i) ∧ ∀ d, o.dst = some d → d < m ∧ d ∉ ks ∧ ∀ j oj, j < i → ops[j]? = some oj → oj.dst ≠ some d := by
  have hlt : i < ops.size := (Array.getElem?_eq_some_iff.1 hi).1
  unfold rchk at h
  rw [List.all_eq_true] at h
  have h1 := h i (List.mem_range.2 hlt)
  simp only [hi, Bool.and_eq_true] at h1
  obtain ⟨ha, hb⟩ := h1
  refine ⟨fun e he => ?_, fun d hd => ?_⟩
  · rw [List.all_eq_true] at ha
    exact of_decide_eq_true (ha e (Array.mem_toList_iff.2 he))
  · simp only [hd, Bool.and_eq_true] at hb
    obtain ⟨⟨h2, h3⟩, h4⟩ := hb
    refine ⟨of_decide_eq_true h2, by simpa using h3, fun j oj hj hoj e => ?_⟩
    rw [List.all_eq_true] at h4
    have h5 := h4 j (List.mem_range.2 hj)
    simp only [hoj, e] at h5
    simp at h5
theorem wpAny_invB {P : Program} {ops : Array Oper} {Q : Exit → Act → World → Prop} (fs : List (Nat × Value)) (S : World → Prop) (V : Nat → Value → World → Prop) (m : Nat) (ds : List Deferred)
    (hB : rchk ops m (fs.map (·.1)) = true)
    (hstep : ∀ (i : Nat) (o : Oper) (listed : Array Bool) (a : Act) (w : World), ops[i]? = some o → (∀ e ∈ o.after, Region.binds .any e = true → listed.getD e.on false = true) → RInv ops fs S V m ds listed a w →
      Region.wanted o (yielded ops a.tmps) = true ∧ o.wp P a w (fun a' w' => ∃ v, a' = a.put o.dst v ∧ V i v w' ∧ S w' ∧ ∀ j u, V j u w → V j u w') Q)
    (hfin : ∀ listed a w, (∀ i, i < ops.size → listed.getD i false = true) → RInv ops fs S V m ds listed a w → Q .normal a w)
    (a : Act) (w : World) (hsz : a.tmps.size = m) (hdf : a.defers = ds) (hS : S w) (hf : ∀ t v, (t, v) ∈ fs → a.tmps.getD t undef = v) : wpAny P .any ops Q ops.size (Array.replicate ops.size false) a w := by
  refine wpAny_inv fs S V m ds (fun i o hi => (rchk_at hB hi).1) (fun i j oi oj d hi hj h1 h2 => ?_) (fun i o d hi hd => ?_) hstep hfin _ _ _ _ (by simp) ?_ ⟨hsz, hdf, hS, fun i o d _ hl _ => ?_, hf, fun i o _ hl => ?_⟩
  · rcases Nat.lt_trichotomy i j with h | h | h
    · exact absurd h1 (((rchk_at hB hj).2 d h2).2.2 i oi h hi)
    · exact h
    · exact absurd h2 (((rchk_at hB hi).2 d h1).2.2 j oj h hj)
  · have := (rchk_at hB hi).2 d hd
    exact ⟨this.1, fun v hv => this.2.1 (List.mem_map.2 ⟨_, hv, rfl⟩)⟩
  · rw [Array.toList_replicate, List.count_replicate]; simp
  · simp [Array.getD_eq_getD_getElem?, Array.getElem?_replicate] at hl
    split at hl <;> simp at hl
  · simp [Array.getD_eq_getD_getElem?, Array.getElem?_replicate] at hl
    split at hl <;> simp at hl
/-- The value of one that came up. -/
theorem RInv.at {ops : Array Oper} {fs : List (Nat × Value)} {S : World → Prop} {V : Nat → Value → World → Prop} {m : Nat} {ds : List Deferred} {listed : Array Bool} {a : Act} {w : World} {o oj : Oper} (h : RInv ops fs S V m ds listed a w)
    (hall : ∀ e ∈ o.after, Region.binds .any e = true → listed.getD e.on false = true) (j d : Nat) (hj : ops[j]? = some oj) (hd : oj.dst = some d) (ha : (o.after.toList.any fun e => e.on == j && Region.binds .any e) = true) : V j (a.tmps.getD d undef) w := by
  rw [List.any_eq_true] at ha
  obtain ⟨e, he, h2⟩ := ha
  rw [Bool.and_eq_true] at h2
  have h3 : e.on = j := by simpa using h2.1
  have h4 := hall e (Array.mem_toList_iff.1 he) h2.2
  rw [h3] at h4
  exact h.vals j oj d hj h4 hd
end Go.Proofs.YtkbbnflblkkepaaGreatDoor

namespace Go.Proofs.YtkbbnflblkkepaaGreatDoor
set_option linter.unusedVariables false
set_option linter.unusedSimpArgs false
open Go.RowKit
section
variable {F : Fence} {n : Nat} {P : Program} {ops : Array Oper} {rest : List Oper} {o : Oper} {a : Act} {w : World} {Q : Exit → Act → World → Prop}
theorem wpListIn_run (hgd : o.guard = none) (hnc : ∀ c, o.op ≠ .call c) (hnd : ∀ c, o.op ≠ .defer c) (v : Value) (w' : World) (hrun : (execOp a.eval o).run P w = .ok (.value v) w') (h : wpListIn F n P ops Q rest (a.put o.dst v) w') : wpListIn F n P ops Q (o :: rest) a w := by
  refine wpListIn_plain hgd fun K hK' => ?_
  have hab : o.about P w a.eval = none := by
    unfold Oper.about
    split
    · rename_i c hc
      exact absurd hc (hnc c)
    · rfl
  unfold Oper.wpIn
  refine ⟨?_, ?_⟩
  · simp [hab]
  · rw [Oper.semAt_plain F _ _ hnd, hrun]
    exact hK' _ _ h
theorem wpListIn_runS (hgd : o.guard = none) (hnc : ∀ c, o.op ≠ .call c) (hnd : ∀ c, o.op ≠ .defer c) (w' : World) (hrun : (execOp a.eval o).run P w = .ok .skip w') (h : wpListIn F n P ops Q rest (a.put o.dst undef) w') : wpListIn F n P ops Q (o :: rest) a w := by
  refine wpListIn_plain hgd fun K hK' => ?_
  have hab : o.about P w a.eval = none := by
    unfold Oper.about
    split
    · rename_i c hc
      exact absurd hc (hnc c)
    · rfl
  unfold Oper.wpIn
  refine ⟨?_, ?_⟩
  · simp [hab]
  · rw [Oper.semAt_plain F _ _ hnd, hrun]
    exact hK' _ _ h
theorem wpListIn_load_mid (hgd : o.guard = none) (ty : TypeId) (x : Operand) (ho : o.op = .load ty x)
    (b q : Nat) (hx : a.eval x = .pointer (some ⟨b, q, none⟩)) (cs : List Value) (d : TypeDesc) (hc : w.rangeAt b q cs)
    (hu : P.underlying ty = some d) (hd : d.isRow = true) (hi : (P.info? ty).map (·.size) = some cs.length)
    (h : wpListIn F n P ops Q rest (a.put o.dst (.agg cs.toArray)) w) : wpListIn F n P ops Q (o :: rest) a w := by
  refine wpListIn_run hgd (by rw [ho]; intro c hc; cases hc) (by rw [ho]; intro c hc; cases hc) _ _ ?_ h
  unfold execOp
  simp only [ho, hx, Sem.run_bind, run_loadAt_mid w b q ty cs d hc hu hd hi, Result.andThen_ok]
  rfl
theorem wpListIn_store_new (B : Nat) (W0 : World) (hgd : o.guard = none) (ty : TypeId) (x y : Operand) (ho : o.op = .store ty x y)
    (g : Nat) (cells : Array Value) (hx : a.eval x = .pointer (some ⟨g, 0, none⟩)) (hy : a.eval y = .agg cells)
    (t : TypeId) (old : Array Value) (hg : Blk w g old t) (hi : (P.info? ty).map (·.size) = some cells.size)
    (hold : old.size = cells.size) (h1 : cells.all (·.oneCell') = true) (hB : Below B W0 w) (hBg : B ≤ g)
    (h : ∀ w2, Blk w2 g cells t → Below B W0 w2 → wpListIn F n P ops Q rest (a.put o.dst undef) w2) : wpListIn F n P ops Q (o :: rest) a w := by
  refine wpListIn_runS hgd (by rw [ho]; intro c hc; cases hc) (by rw [ho]; intro c hc; cases hc) (w.setRow g cells) ?_ (h _ (hg.row cells) (below_setRow hB hBg cells))
  unfold execOp
  simp only [ho, hx, hy, Instr.storeAt, Instr.sureAddr, Sem.run_bind, Sem.run_pure, Result.andThen_ok, run_storeVar_row w g t ty old cells hg hi hold h1]
theorem wpListIn_build1 (hgd : o.guard = none) (t e : TypeId) (x : Operand) (ho : o.op = .buildSlice t 1 #[(0, x)]) (cells : Array Value) (hx : a.eval x = .agg cells) (i : TypeInfo) (z : Value)
    (hu : P.underlying t = some (.slice e)) (hi : P.info? e = some i) (hz : i.zero = some z) (hs : i.size = cells.size) (hp : 0 < cells.size) (hl : cells.size ≤ 1000)
    (h : wpListIn F n P ops Q rest (a.put o.dst (.slice (some ⟨w.heap.size, 0, none⟩) 1 1)) (w.alloc (.cells cells e))) : wpListIn F n P ops Q (o :: rest) a w := by
  refine wpListIn_run hgd (by rw [ho]; intro c hc; cases hc) (by rw [ho]; intro c hc; cases hc) _ _ ?_ h
  have hf : Instr.fill (fun j => some (j * i.size, i.size)) ((Array.range (1 * i.size)).map (z.cells[· % z.cells.size]!)) [(0, Value.agg cells)] = some cells := by
    have := Great.fill_whole (s := i.size) (by omega) [.agg cells] ((Array.range (1 * i.size)).map (z.cells[· % z.cells.size]!)) (by intro v hv; simp at hv; subst hv; exact hs.symm) (by simp)
    simpa [Value.cells] using this
  have hr := run_buildSlice w t e 1 [(0, Value.agg cells)].toArray cells i z hu hi hz (by omega) (by omega) (by simpa using hf)
  have he : (#[(0, x)] : Array (Nat × Operand)).map (fun p => (p.1, a.eval p.2)) = [(0, Value.agg cells)].toArray := by simp [hx]
  unfold execOp
  simp only [ho]
  rw [← he] at hr
  simp only [Sem.run_bind, hr, Result.andThen_ok]
  rfl
end
end Go.Proofs.YtkbbnflblkkepaaGreatDoor

namespace Go.Proofs.YtkbbnflblkkepaaGreatDoor
set_option linter.unusedVariables false
set_option linter.unusedSimpArgs false
open Go.RowKit

theorem ready_nilB {ops : Array Oper} {listed : Array Bool} {md : Region.Mode} (hsz : listed.size = ops.size) (hord : ∀ (i : Nat) (o : Oper), ops[i]? = some o → ∀ e ∈ o.after, Region.binds md e = true → e.on < i) (h : Region.ready md ops listed = []) : ∀ i, i < ops.size → listed.getD i false = true := by
  intro i
  induction i using Nat.strongRecOn with
  | ind i ih =>
    intro hi
    cases e : listed.getD i false with
    | true => rfl
    | false =>
      exfalso
      have hm : i ∈ Region.ready md ops listed := by
        rw [mem_ready]
        refine ⟨?_, ops[i], Array.getElem?_eq_getElem hi, fun ed he hb => ih ed.on (hord i ops[i] (Array.getElem?_eq_getElem hi) ed he hb) ?_⟩
        · rw [Array.getD_eq_getD_getElem?, Array.getElem?_eq_getElem (by omega)] at e ⊢
          exact e
        · have := hord i ops[i] (Array.getElem?_eq_getElem hi) ed he hb
          omega
      rw [h] at hm
      cases hm

def rchkB (ops : Array Oper) (m : Nat) (ks : List Nat) : Bool :=
  (List.range ops.size).all fun i => match ops[i]? with
    | none => true
    | some o => (o.after.toList.all fun e => !(Region.binds .any e) || decide (e.on < i)) && (match o.dst with
      | none => true
      | some d => decide (d < m) && !ks.contains d && (List.range i).all fun j => match ops[j]? with
        | none => true
        | some oj => !(oj.dst == some d))
theorem rchkB_at {ops : Array Oper} {m : Nat} {ks : List Nat} (h : rchkB ops m ks = true) {i : Nat} {o : Oper} (hi : ops[i]? = some o) :
    (∀ e ∈ o.after, Region.binds .any e = true → e.on < i) ∧ ∀ d, o.dst = some d → d < m ∧ d ∉ ks ∧ ∀ j oj, j < i → ops[j]? = some oj → oj.dst ≠ some d := by
  have hlt : i < ops.size := (Array.getElem?_eq_some_iff.1 hi).1
  unfold rchkB at h
  rw [List.all_eq_true] at h
  have h1 := h i (List.mem_range.2 hlt)
  simp only [hi, Bool.and_eq_true] at h1
  obtain ⟨ha, hb⟩ := h1
  refine ⟨fun e he hbd => ?_, fun d hd => ?_⟩
  · rw [List.all_eq_true] at ha
    have h9 := ha e (Array.mem_toList_iff.2 he)
    rw [hbd] at h9
    simpa using h9
  · simp only [hd, Bool.and_eq_true] at hb
    obtain ⟨⟨h2, h3⟩, h4⟩ := hb
    refine ⟨of_decide_eq_true h2, by simpa using h3, fun j oj hj hoj e => ?_⟩
    rw [List.all_eq_true] at h4
    have h5 := h4 j (List.mem_range.2 hj)
    simp only [hoj, e] at h5
    simp at h5
theorem wpAnyIn_inv {F : Fence} {n : Nat} {P : Program} {ops : Array Oper} {Q : Exit → Act → World → Prop} (fs : List (Nat × Value)) (S : World → Prop) (V : Nat → Value → World → Prop) (m : Nat) (ds : List Deferred)
    (hord : ∀ (i : Nat) (o : Oper), ops[i]? = some o → ∀ e ∈ o.after, Region.binds .any e = true → e.on < i)
    (hdst : ∀ (i j : Nat) (oi oj : Oper) (d : Nat), ops[i]? = some oi → ops[j]? = some oj → oi.dst = some d → oj.dst = some d → i = j)
    (hfix : ∀ (i : Nat) (o : Oper) (d : Nat), ops[i]? = some o → o.dst = some d → d < m ∧ ∀ v, (d, v) ∉ fs)
    (hstep : ∀ (i : Nat) (o : Oper) (listed : Array Bool) (a : Act) (w : World), ops[i]? = some o → (∀ e ∈ o.after, Region.binds .any e = true → listed.getD e.on false = true) → RInv ops fs S V m ds listed a w →
      Region.wanted o (yielded ops a.tmps) = true ∧ (∀ c, o.op ≠ .call c) ∧ (∀ c, o.op ≠ .defer c) ∧ ∃ x v w', (execOp a.eval o).run P w = .ok x w' ∧ (x = .value v ∨ (x = .skip ∧ v = undef)) ∧ V i v w' ∧ S w' ∧ ∀ j u, V j u w → V j u w')
    (hfin : ∀ listed a w, (∀ i, i < ops.size → listed.getD i false = true) → RInv ops fs S V m ds listed a w → Q .normal a w) :
    ∀ (fuel : Nat) (listed : Array Bool) (a : Act) (w : World), listed.size = ops.size → listed.toList.count false ≤ fuel → RInv ops fs S V m ds listed a w → wpAnyIn F n P .any ops Q fuel listed a w
  | 0, listed, a, w, hsz, hc, hI => by
    have hall : ∀ i, i < ops.size → listed.getD i false = true := by
      intro i hi
      cases e : listed.getD i false with
      | true => rfl
      | false =>
        have : false ∈ listed.toList := by
          rw [Array.getD_eq_getD_getElem?, Array.getElem?_eq_getElem (by omega), Option.getD_some] at e
          rw [← e]; exact Array.mem_toList_iff.2 (Array.getElem_mem (by omega))
        have := List.count_pos_iff.2 this
        omega
    refine ⟨?_, hfin listed a w hall hI⟩
    cases e : Region.ready .any ops listed with
    | nil => rfl
    | cons j l =>
      have hj : j ∈ Region.ready .any ops listed := by rw [e]; simp
      obtain ⟨h0, o, ho, _⟩ := mem_ready.1 hj
      have hlt : j < ops.size := (Array.getElem?_eq_some_iff.1 ho).1
      have h1 := hall j hlt
      rw [Array.getD_eq_getD_getElem?, Array.getElem?_eq_getElem (by omega)] at h0 h1
      simp at h0 h1
      rw [h0] at h1
      cases h1
  | fuel + 1, listed, a, w, hsz, hc, hI => by
    refine ⟨fun h => hfin listed a w (ready_nilB hsz hord h) hI, fun i hi => ?_⟩
    obtain ⟨h0, o, ho, hall⟩ := mem_ready.1 hi
    have hlt : i < ops.size := (Array.getElem?_eq_some_iff.1 ho).1
    obtain ⟨hwt, hnc, hnd, x, v, w', hrun, hx, hv, hS, hk⟩ := hstep i o listed a w ho hall hI
    have hab : o.about P w a.eval = none := by
      unfold Oper.about
      split
      · rename_i c hc
        exact absurd hc (hnc c)
      · rfl
    unfold wpOpIn
    simp only [ho, hwt, if_true]
    unfold Oper.wpIn
    refine ⟨by simp [hab], ?_⟩
    rw [Oper.semAt_plain F _ _ hnd, hrun]
    suffices h : wpAnyIn F n P .any ops Q fuel (listed.setIfInBounds i true) (a.put o.dst v) w' by
      rcases hx with rfl | ⟨rfl, rfl⟩
      · exact h
      · exact h
    have hcs := count_set (listed := listed) (i := i) (by omega) h0
    refine wpAnyIn_inv fs S V m ds hord hdst hfix hstep hfin fuel _ _ _ (by simpa using hsz) (by omega) ?_
    cases hd : o.dst with
    | none =>
      refine ⟨hI.sz, hI.df, hS, fun j oj d hj hl hjd => ?_, hI.fix, fun j oj hj hl => ?_⟩
      · rw [listed_set (by omega)] at hl
        by_cases e : j = i
        · subst e
          rw [ho] at hj
          cases hj
          rw [hd] at hjd
          cases hjd
        · rw [if_neg e] at hl
          exact hk j _ (hI.vals j oj d hj hl hjd)
      · rw [listed_set (by omega)] at hl
        by_cases e : j = i
        · subst e
          exact ⟨v, hv⟩
        · rw [if_neg e] at hl
          obtain ⟨u, hu⟩ := hI.seen j oj hj hl
          exact ⟨u, hk j u hu⟩
    | some d0 =>
      have hf := hfix i o d0 ho hd
      have hd0 : d0 < a.tmps.size := by rw [hI.sz]; exact hf.1
      refine ⟨by simp [Act.put, hI.sz], by simpa [Act.put] using hI.df, hS, fun j oj d hj hl hjd => ?_, fun t u htu => ?_, fun j oj hj hl => ?_⟩
      · rw [listed_set (by omega)] at hl
        rw [getD_put hd0]
        by_cases e : j = i
        · subst e
          rw [ho] at hj
          cases hj
          rw [hd] at hjd
          cases hjd
          rw [if_pos rfl]
          exact hv
        · rw [if_neg e] at hl
          rw [if_neg (fun h => e (hdst j i oj o d hj ho hjd (by rw [hd, h])))]
          exact hk j _ (hI.vals j oj d hj hl hjd)
      · rw [getD_put hd0, if_neg (fun h : t = d0 => hf.2 u (by rw [← h]; exact htu))]
        exact hI.fix t u htu
      · rw [listed_set (by omega)] at hl
        by_cases e : j = i
        · subst e
          exact ⟨v, hv⟩
        · rw [if_neg e] at hl
          obtain ⟨u, hu⟩ := hI.seen j oj hj hl
          exact ⟨u, hk j u hu⟩

theorem wpAnyIn_invB {F : Fence} {n : Nat} {P : Program} {ops : Array Oper} {Q : Exit → Act → World → Prop} (fs : List (Nat × Value)) (S : World → Prop) (V : Nat → Value → World → Prop) (m : Nat) (ds : List Deferred)
    (hB : rchkB ops m (fs.map (·.1)) = true)
    (hstep : ∀ (i : Nat) (o : Oper) (listed : Array Bool) (a : Act) (w : World), ops[i]? = some o → (∀ e ∈ o.after, Region.binds .any e = true → listed.getD e.on false = true) → RInv ops fs S V m ds listed a w →
      Region.wanted o (yielded ops a.tmps) = true ∧ (∀ c, o.op ≠ .call c) ∧ (∀ c, o.op ≠ .defer c) ∧ ∃ x v w', (execOp a.eval o).run P w = .ok x w' ∧ (x = .value v ∨ (x = .skip ∧ v = undef)) ∧ V i v w' ∧ S w' ∧ ∀ j u, V j u w → V j u w')
    (hfin : ∀ listed a w, (∀ i, i < ops.size → listed.getD i false = true) → RInv ops fs S V m ds listed a w → Q .normal a w)
    (a : Act) (w : World) (hsz : a.tmps.size = m) (hdf : a.defers = ds) (hS : S w) (hf : ∀ t v, (t, v) ∈ fs → a.tmps.getD t undef = v) : wpAnyIn F n P .any ops Q ops.size (Array.replicate ops.size false) a w := by
  refine wpAnyIn_inv fs S V m ds (fun i o hi => (rchkB_at hB hi).1) (fun i j oi oj d hi hj h1 h2 => ?_) (fun i o d hi hd => ?_) hstep hfin _ _ _ _ (by simp) ?_ ⟨hsz, hdf, hS, fun i o d _ hl _ => ?_, hf, fun i o _ hl => ?_⟩
  · rcases Nat.lt_trichotomy i j with h | h | h
    · exact absurd h1 (((rchkB_at hB hj).2 d h2).2.2 i oi h hi)
    · exact h
    · exact absurd h2 (((rchkB_at hB hi).2 d h1).2.2 j oj h hj)
  · have := (rchkB_at hB hi).2 d hd
    exact ⟨this.1, fun v hv => this.2.1 (List.mem_map.2 ⟨_, hv, rfl⟩)⟩
  · rw [Array.toList_replicate, List.count_replicate]; simp
  · simp [Array.getD_eq_getD_getElem?, Array.getElem?_replicate] at hl
    split at hl <;> simp at hl
  · simp [Array.getD_eq_getD_getElem?, Array.getElem?_replicate] at hl
    split at hl <;> simp at hl
theorem tmps71 (a : Array Value) (h : a.size = 71) : a = #[a.getD 0 undef, a.getD 1 undef, a.getD 2 undef, a.getD 3 undef, a.getD 4 undef, a.getD 5 undef, a.getD 6 undef, a.getD 7 undef, a.getD 8 undef, a.getD 9 undef, a.getD 10 undef, a.getD 11 undef, a.getD 12 undef, a.getD 13 undef, a.getD 14 undef, a.getD 15 undef, a.getD 16 undef, a.getD 17 undef, a.getD 18 undef, a.getD 19 undef, a.getD 20 undef, a.getD 21 undef, a.getD 22 undef, a.getD 23 undef, a.getD 24 undef, a.getD 25 undef, a.getD 26 undef, a.getD 27 undef, a.getD 28 undef, a.getD 29 undef, a.getD 30 undef, a.getD 31 undef, a.getD 32 undef, a.getD 33 undef, a.getD 34 undef, a.getD 35 undef, a.getD 36 undef, a.getD 37 undef, a.getD 38 undef, a.getD 39 undef, a.getD 40 undef, a.getD 41 undef, a.getD 42 undef, a.getD 43 undef, a.getD 44 undef, a.getD 45 undef, a.getD 46 undef, a.getD 47 undef, a.getD 48 undef, a.getD 49 undef, a.getD 50 undef, a.getD 51 undef, a.getD 52 undef, a.getD 53 undef, a.getD 54 undef, a.getD 55 undef, a.getD 56 undef, a.getD 57 undef, a.getD 58 undef, a.getD 59 undef, a.getD 60 undef, a.getD 61 undef, a.getD 62 undef, a.getD 63 undef, a.getD 64 undef, a.getD 65 undef, a.getD 66 undef, a.getD 67 undef, a.getD 68 undef, a.getD 69 undef, a.getD 70 undef] := by
  have e : a = ((List.range 71).map fun i => a.getD i undef).toArray := Array.ext (by simp [h]) (fun i h1 h2 => by simp [Array.getD, h1])
  exact e
end Go.Proofs.YtkbbnflblkkepaaGreatDoor

namespace Go.Proofs.YtkbbnflblkkepaaGreatDoor
set_option linter.unusedVariables false
set_option linter.unusedSimpArgs false
open Go.RowKit

def allB : Nat → List (List Bool)
  | 0 => [[]]
  | n + 1 => (allB n).flatMap fun l => [true :: l, false :: l]
theorem mem_allB : ∀ (l : List Bool), l ∈ allB l.length
  | [] => by simp [allB]
  | b :: l => by
    simp only [List.length_cons, allB, List.mem_flatMap]
    exact ⟨l, mem_allB l, by cases b <;> simp⟩
/-- The listed ones: l says which of the first ones have come, the others have not. -/
def lstB (N mm : Nat) (l : List Bool) : Array Bool := (l ++ List.replicate (N - mm) false).toArray
def closedB (ops : Array Oper) (mm : Nat) (l : List Bool) : Bool := (List.range mm).all fun i => !(l.getD i false) || (match ops[i]? with | some o => o.after.toList.all (fun e => !(Region.binds .any e) || l.getD e.on false) | none => true)
def readsB (ops : Array Oper) (mm : Nat) : Bool := decide (mm ≤ ops.size) && (allB mm).all fun l => !(closedB ops mm l) || l.all id || (!(Region.ready .any ops (lstB ops.size mm l)).isEmpty && (Region.ready .any ops (lstB ops.size mm l)).all (fun i => decide (i < mm)))
theorem readsB_at {ops : Array Oper} {mm : Nat} (h : readsB ops mm = true) {l : List Bool} (hl : l.length = mm) (hc : closedB ops mm l = true) (hn : l.all id = false) : Region.ready .any ops (lstB ops.size mm l) ≠ [] ∧ ∀ i ∈ Region.ready .any ops (lstB ops.size mm l), i < mm := by
  unfold readsB at h
  rw [Bool.and_eq_true, List.all_eq_true] at h
  have h1 := h.2 l (by rw [← hl]; exact mem_allB l)
  rw [hc, hn] at h1
  simp at h1
  exact ⟨h1.1, h1.2⟩
theorem lst_getD {N mm : Nat} {l : List Bool} (hl : l.length = mm) (i : Nat) : (lstB N mm l).getD i false = l.getD i false := by
  unfold lstB
  rw [Array.getD_eq_getD_getElem?]
  simp only [List.getElem?_toArray, List.getElem?_append, List.getD_eq_getElem?_getD]
  split
  · rfl
  · rw [List.getElem?_replicate]
    rw [List.getElem?_eq_none (by omega)]
    split <;> rfl
theorem lst_set {N mm : Nat} {l : List Bool} (hl : l.length = mm) {i : Nat} (hi : i < mm) : (lstB N mm l).setIfInBounds i true = lstB N mm (l.set i true) := by
  unfold lstB
  simp [List.set_append, hl, hi]
theorem wpAnyIn_reads {F : Fence} {n : Nat} {P : Program} {ops : Array Oper} {Q : Exit → Act → World → Prop} (fs : List (Nat × Value)) (w : World) (V : Nat → Value) (m : Nat) (ds : List Deferred) (mm : Nat)
    (hB : rchkB ops m (fs.map (·.1)) = true) (hchk : readsB ops mm = true)
    (hstep : ∀ (i : Nat) (o : Oper) (listed : Array Bool) (a : Act), i < mm → ops[i]? = some o → (∀ e ∈ o.after, Region.binds .any e = true → listed.getD e.on false = true) → RInv ops fs (fun w' => w' = w) (fun i v _ => v = V i) m ds listed a w →
      Region.wanted o (yielded ops a.tmps) = true ∧ (∀ c, o.op ≠ .call c) ∧ (∀ c, o.op ≠ .defer c) ∧ (execOp a.eval o).run P w = .ok (.value (V i)) w)
    (hfin : ∀ a, RInv ops fs (fun w' => w' = w) (fun i v _ => v = V i) m ds (lstB ops.size mm (List.replicate mm true)) a w → wpAnyIn F n P .any ops Q (ops.size - mm) (lstB ops.size mm (List.replicate mm true)) a w) :
    ∀ (k : Nat) (l : List Bool) (a : Act), l.length = mm → closedB ops mm l = true → l.count false = k → RInv ops fs (fun w' => w' = w) (fun i v _ => v = V i) m ds (lstB ops.size mm l) a w → wpAnyIn F n P .any ops Q (k + (ops.size - mm)) (lstB ops.size mm l) a w
  | 0, l, a, hl, hc, hk, hI => by
    have e : l = List.replicate mm true := by
      rw [List.eq_replicate_iff]
      refine ⟨hl, fun b hb => ?_⟩
      cases b with
      | true => rfl
      | false => exact absurd (List.count_pos_iff.2 hb) (by omega)
    subst e
    rw [Nat.zero_add]
    exact hfin a hI
  | k + 1, l, a, hl, hc, hk, hI => by
    have hn : l.all id = false := by
      have : false ∈ l := List.count_pos_iff.1 (by omega)
      cases e : l.all id with
      | false => rfl
      | true => rw [List.all_eq_true] at e; have := e false this; simp at this
    obtain ⟨hne, hlt⟩ := readsB_at hchk hl hc hn
    rw [show k + 1 + (ops.size - mm) = (k + (ops.size - mm)) + 1 by omega]
    refine ⟨fun h => absurd h hne, fun i hi => ?_⟩
    have him := hlt i hi
    obtain ⟨h0, o, ho, hall⟩ := mem_ready.1 hi
    have hall' : ∀ e ∈ o.after, Region.binds .any e = true → (lstB ops.size mm l).getD e.on false = true := hall
    obtain ⟨hwt, hnc, hnd, hrun⟩ := hstep i o _ a him ho hall' hI
    have hab : o.about P w a.eval = none := by
      unfold Oper.about
      split
      · rename_i c hc
        exact absurd hc (hnc c)
      · rfl
    unfold wpOpIn
    simp only [ho, hwt, if_true]
    unfold Oper.wpIn
    refine ⟨by simp [hab], ?_⟩
    rw [Oper.semAt_plain F _ _ hnd, hrun]
    show wpAnyIn F n P .any ops Q (k + (ops.size - mm)) ((lstB ops.size mm l).setIfInBounds i true) (a.put o.dst (V i)) w
    rw [lst_set hl him]
    have hli : l.getD i false = false := by
      have h1 : (lstB ops.size mm l).getD i true = false := h0
      unfold lstB at h1
      rw [Array.getD_eq_getD_getElem?, List.getElem?_toArray, List.getElem?_append_left (by omega), List.getElem?_eq_getElem (by omega)] at h1
      rw [List.getD_eq_getElem?_getD, List.getElem?_eq_getElem (by omega)]
      exact h1
    have hget : ∀ j, (lstB ops.size mm (l.set i true)).getD j false = if j = i then true else (lstB ops.size mm l).getD j false := fun j => by
      rw [lst_getD (by simpa using hl), lst_getD hl, List.getD_eq_getElem?_getD, List.getD_eq_getElem?_getD, List.getElem?_set]
      by_cases e : i = j
      · subst e
        rw [if_pos rfl, if_pos (by omega), if_pos rfl]; rfl
      · rw [if_neg e, if_neg (fun h => e h.symm)]
    refine wpAnyIn_reads fs w V m ds mm hB hchk hstep hfin k (l.set i true) _ (by simpa using hl) ?_ ?_ ?_
    · unfold closedB at hc ⊢
      rw [List.all_eq_true] at hc ⊢
      intro j hj
      have hcj := hc j hj
      have hset : ∀ x, l.getD x false = true → (l.set i true).getD x false = true := fun x hx => by
        rw [List.getD_eq_getElem?_getD, List.getElem?_set]
        by_cases e : i = x
        · subst e; rw [if_pos rfl, if_pos (by omega)]; rfl
        · rw [if_neg e]; rw [List.getD_eq_getElem?_getD] at hx; exact hx
      by_cases e : j = i
      · subst e
        rw [ho]
        simp only [Bool.or_eq_true, List.all_eq_true]
        refine .inr (fun ed he => ?_)
        cases hbd : Region.binds .any ed with
        | false => simp
        | true =>
          have h5 := hall' ed (Array.mem_toList_iff.1 he) hbd
          rw [lst_getD hl] at h5
          exact .inr (hset _ h5)
      · have hji : (l.set i true).getD j false = l.getD j false := by
          rw [List.getD_eq_getElem?_getD, List.getD_eq_getElem?_getD, List.getElem?_set, if_neg (fun h => e h.symm)]
        rw [hji]
        rw [Bool.or_eq_true] at hcj ⊢
        rcases hcj with h | h
        · exact .inl h
        · refine .inr ?_
          cases hoj : ops[j]? with
          | none => rfl
          | some oj =>
            rw [hoj] at h
            simp only [List.all_eq_true, Bool.or_eq_true] at h ⊢
            intro ed he
            rcases h ed he with h6 | h6
            · exact .inl h6
            · exact .inr (hset _ h6)
    · have hcs : List.count false (l.set i true) + 1 = List.count false l := by
        have hlt2 : i < l.length := by omega
        rw [List.count_set hlt2]
        have hv : l[i] = false := by rw [List.getD_eq_getElem?_getD, List.getElem?_eq_getElem hlt2] at hli; exact hli
        have hp : 0 < l.count false := by omega
        simp [hv]
        omega
      omega
    · cases hd : o.dst with
      | none =>
        refine ⟨hI.sz, hI.df, rfl, fun j oj d hj hl2 hjd => ?_, hI.fix, fun j oj hj hl2 => ⟨_, rfl⟩⟩
        rw [hget] at hl2
        by_cases e : j = i
        · subst e
          rw [ho] at hj
          cases hj
          rw [hd] at hjd
          cases hjd
        · rw [if_neg e] at hl2
          exact hI.vals j oj d hj hl2 hjd
      | some d0 =>
        have hf := (rchkB_at hB ho).2 d0 hd
        have hd0 : d0 < a.tmps.size := by rw [hI.sz]; exact hf.1
        refine ⟨by simp [Act.put, hI.sz], by simpa [Act.put] using hI.df, rfl, fun j oj d hj hl2 hjd => ?_, fun t u htu => ?_, fun j oj hj hl2 => ⟨_, rfl⟩⟩
        · rw [hget] at hl2
          rw [getD_put hd0]
          by_cases e : j = i
          · subst e
            rw [ho] at hj
            cases hj
            rw [hd] at hjd
            cases hjd
            rw [if_pos rfl]
          · rw [if_neg e] at hl2
            have hne2 : d ≠ d0 := fun h => by
              subst h
              rcases Nat.lt_trichotomy j i with h | h | h
              · exact ((rchkB_at hB ho).2 d hd).2.2 j oj h hj hjd
              · exact e h
              · exact ((rchkB_at hB hj).2 d hjd).2.2 i o h ho hd
            rw [if_neg hne2]
            exact hI.vals j oj d hj hl2 hjd
        · rw [getD_put hd0, if_neg (fun h : t = d0 => hf.2.1 (List.mem_map.2 ⟨(t, u), htu, h⟩))]
          exact hI.fix t u htu
/-- From the beginning. -/
theorem wpAnyIn_readsB {F : Fence} {n : Nat} {P : Program} {ops : Array Oper} {Q : Exit → Act → World → Prop} (fs : List (Nat × Value)) (w : World) (V : Nat → Value) (m : Nat) (ds : List Deferred) (mm : Nat)
    (hB : rchkB ops m (fs.map (·.1)) = true) (hchk : readsB ops mm = true)
    (hstep : ∀ (i : Nat) (o : Oper) (listed : Array Bool) (a : Act), i < mm → ops[i]? = some o → (∀ e ∈ o.after, Region.binds .any e = true → listed.getD e.on false = true) → RInv ops fs (fun w' => w' = w) (fun i v _ => v = V i) m ds listed a w →
      Region.wanted o (yielded ops a.tmps) = true ∧ (∀ c, o.op ≠ .call c) ∧ (∀ c, o.op ≠ .defer c) ∧ (execOp a.eval o).run P w = .ok (.value (V i)) w)
    (hfin : ∀ a, RInv ops fs (fun w' => w' = w) (fun i v _ => v = V i) m ds (lstB ops.size mm (List.replicate mm true)) a w → wpAnyIn F n P .any ops Q (ops.size - mm) (lstB ops.size mm (List.replicate mm true)) a w)
    (a : Act) (hsz : a.tmps.size = m) (hdf : a.defers = ds) (hf : ∀ t v, (t, v) ∈ fs → a.tmps.getD t undef = v) : wpAnyIn F n P .any ops Q ops.size (Array.replicate ops.size false) a w := by
  have hmm : mm ≤ ops.size := by
    unfold readsB at hchk
    rw [Bool.and_eq_true] at hchk
    exact of_decide_eq_true hchk.1
  have e : Array.replicate ops.size false = lstB ops.size mm (List.replicate mm false) := by
    unfold lstB
    rw [List.replicate_append_replicate, show mm + (ops.size - mm) = ops.size by omega]
    simp
  have h := wpAnyIn_reads (F := F) (n := n) (P := P) (Q := Q) fs w V m ds mm hB hchk hstep hfin mm (List.replicate mm false) a (by simp) ?_ (by simp) ⟨hsz, hdf, rfl, fun i o d _ hl _ => ?_, hf, fun i o _ hl => ⟨_, rfl⟩⟩
  · rw [show mm + (ops.size - mm) = ops.size by omega] at h
    rw [e]
    exact h
  · unfold closedB
    rw [List.all_eq_true]
    intro j hj
    have : (List.replicate mm false).getD j false = false := by rw [List.getD_eq_getElem?_getD, List.getElem?_replicate]; split <;> rfl
    rw [this]
    rfl
  · rw [lst_getD (by simp)] at hl
    have : (List.replicate mm false).getD i false = false := by rw [List.getD_eq_getElem?_getD, List.getElem?_replicate]; split <;> rfl
    rw [this] at hl
    cases hl
end Go.Proofs.YtkbbnflblkkepaaGreatDoor
