/- A region that draws its order, inside a fence (also within a round of a range over a function): Inv's way, for operations that are no calls. -/
import Derived.Test.YtlegmaadcemgnaaDoorInv
import Derived.Test.YtlegmaadcemgnaaDoorStepIn
import Derived.OrdersIn
import Derived.Shelf.RegionOpen
namespace Go.Proofs.YtlegmaadcemgnaaDoor
set_option linter.unusedVariables false
set_option linter.unusedSimpArgs false
open Go.RowKit

theorem ready_nilB {ops : Array Oper} {listed : Array Bool} {md : Region.Mode} (hsz : listed.size = ops.size) (hord : ∀ (i : Nat) (o : Oper), ops[i]? = some o → ∀ e ∈ o.after, Region.binds md e = true → e.on < i) (h : Region.ready md ops listed = []) : ∀ i, i < ops.size → listed.getD i false = true := by
  intro i
  induction i using Nat.strongRecOn with
  | ind i ih =>
    intro hi
    cases e : listed.getD i false with
    | true => rfl
    | false =>
      exfalso
      have hm : i ∈ Region.ready md ops listed := by
        rw [mem_ready]
        refine ⟨?_, ops[i], Array.getElem?_eq_getElem hi, fun ed he hb => ih ed.on (hord i ops[i] (Array.getElem?_eq_getElem hi) ed he hb) ?_⟩
        · rw [Array.getD_eq_getD_getElem?, Array.getElem?_eq_getElem (by omega)] at e ⊢
          exact e
        · have := hord i ops[i] (Array.getElem?_eq_getElem hi) ed he hb
          omega
      rw [h] at hm
      cases hm

def rchkB (ops : Array Oper) (m : Nat) (ks : List Nat) : Bool :=
  (List.range ops.size).all fun i => match ops[i]? with
    | none => true
    | some o => (o.after.toList.all fun e => !(Region.binds .any e) || decide (e.on < i)) && (match o.dst with
      | none => true
      | some d => decide (d < m) && !ks.contains d && (List.range i).all fun j => match ops[j]? with
        | none => true
        | some oj => !(oj.dst == some d))
theorem rchkB_at {ops : Array Oper} {m : Nat} {ks : List Nat} (h : rchkB ops m ks = true) {i : Nat} {o : Oper} (hi : ops[i]? = some o) :
    (∀ e ∈ o.after, Region.binds .any e = true → e.on < i) ∧ ∀ d, o.dst = some d → d < m ∧ d ∉ ks ∧ ∀ j oj, j < i → ops[j]? = some oj → oj.dst ≠ some d := by
  have hlt : i < ops.size := (Array.getElem?_eq_some_iff.1 hi).1
  unfold rchkB at h
  rw [List.all_eq_true] at h
  have h1 := h i (List.mem_range.2 hlt)
  simp only [hi, Bool.and_eq_true] at h1
  obtain ⟨ha, hb⟩ := h1
  refine ⟨fun e he hbd => ?_, fun d hd => ?_⟩
  · rw [List.all_eq_true] at ha
    have h9 := ha e (Array.mem_toList_iff.2 he)
    rw [hbd] at h9
    simpa using h9
  · simp only [hd, Bool.and_eq_true] at hb
    obtain ⟨⟨h2, h3⟩, h4⟩ := hb
    refine ⟨of_decide_eq_true h2, by simpa using h3, fun j oj hj hoj e => ?_⟩
    rw [List.all_eq_true] at h4
    have h5 := h4 j (List.mem_range.2 hj)
    simp only [hoj, e] at h5
    simp at h5
theorem wpAnyIn_inv {F : Fence} {n : Nat} {P : Program} {ops : Array Oper} {Q : Exit → Act → World → Prop} (fs : List (Nat × Value)) (S : World → Prop) (V : Nat → Value → World → Prop) (m : Nat) (ds : List Deferred)
    (hord : ∀ (i : Nat) (o : Oper), ops[i]? = some o → ∀ e ∈ o.after, Region.binds .any e = true → e.on < i)
    (hdst : ∀ (i j : Nat) (oi oj : Oper) (d : Nat), ops[i]? = some oi → ops[j]? = some oj → oi.dst = some d → oj.dst = some d → i = j)
    (hfix : ∀ (i : Nat) (o : Oper) (d : Nat), ops[i]? = some o → o.dst = some d → d < m ∧ ∀ v, (d, v) ∉ fs)
    (hstep : ∀ (i : Nat) (o : Oper) (listed : Array Bool) (a : Act) (w : World), ops[i]? = some o → (∀ e ∈ o.after, Region.binds .any e = true → listed.getD e.on false = true) → RInv ops fs S V m ds listed a w →
      Region.wanted o (yielded ops a.tmps) = true ∧ (∀ c, o.op ≠ .call c) ∧ (∀ c, o.op ≠ .defer c) ∧ ∃ x v w', (execOp a.eval o).run P w = .ok x w' ∧ (x = .value v ∨ (x = .skip ∧ v = undef)) ∧ V i v w' ∧ S w' ∧ ∀ j u, V j u w → V j u w')
    (hfin : ∀ listed a w, (∀ i, i < ops.size → listed.getD i false = true) → RInv ops fs S V m ds listed a w → Q .normal a w) :
    ∀ (fuel : Nat) (listed : Array Bool) (a : Act) (w : World), listed.size = ops.size → listed.toList.count false ≤ fuel → RInv ops fs S V m ds listed a w → wpAnyIn F n P .any ops Q fuel listed a w
  | 0, listed, a, w, hsz, hc, hI => by
    have hall : ∀ i, i < ops.size → listed.getD i false = true := by
      intro i hi
      cases e : listed.getD i false with
      | true => rfl
      | false =>
        have : false ∈ listed.toList := by
          rw [Array.getD_eq_getD_getElem?, Array.getElem?_eq_getElem (by omega), Option.getD_some] at e
          rw [← e]; exact Array.mem_toList_iff.2 (Array.getElem_mem (by omega))
        have := List.count_pos_iff.2 this
        omega
    refine ⟨?_, hfin listed a w hall hI⟩
    cases e : Region.ready .any ops listed with
    | nil => rfl
    | cons j l =>
      have hj : j ∈ Region.ready .any ops listed := by rw [e]; simp
      obtain ⟨h0, o, ho, _⟩ := mem_ready.1 hj
      have hlt : j < ops.size := (Array.getElem?_eq_some_iff.1 ho).1
      have h1 := hall j hlt
      rw [Array.getD_eq_getD_getElem?, Array.getElem?_eq_getElem (by omega)] at h0 h1
      simp at h0 h1
      rw [h0] at h1
      cases h1
  | fuel + 1, listed, a, w, hsz, hc, hI => by
    refine ⟨fun h => hfin listed a w (ready_nilB hsz hord h) hI, fun i hi => ?_⟩
    obtain ⟨h0, o, ho, hall⟩ := mem_ready.1 hi
    have hlt : i < ops.size := (Array.getElem?_eq_some_iff.1 ho).1
    obtain ⟨hwt, hnc, hnd, x, v, w', hrun, hx, hv, hS, hk⟩ := hstep i o listed a w ho hall hI
    have hab : o.about P w a.eval = none := by
      unfold Oper.about
      split
      · rename_i c hc
        exact absurd hc (hnc c)
      · rfl
    unfold wpOpIn
    simp only [ho, hwt, if_true]
    unfold Oper.wpIn
    refine ⟨by simp [hab], ?_⟩
    rw [Oper.semAt_plain F _ _ hnd, hrun]
    suffices h : wpAnyIn F n P .any ops Q fuel (listed.setIfInBounds i true) (a.put o.dst v) w' by
      rcases hx with rfl | ⟨rfl, rfl⟩
      · exact h
      · exact h
    have hcs := count_set (listed := listed) (i := i) (by omega) h0
    refine wpAnyIn_inv fs S V m ds hord hdst hfix hstep hfin fuel _ _ _ (by simpa using hsz) (by omega) ?_
    cases hd : o.dst with
    | none =>
      refine ⟨hI.sz, hI.df, hS, fun j oj d hj hl hjd => ?_, hI.fix, fun j oj hj hl => ?_⟩
      · rw [listed_set (by omega)] at hl
        by_cases e : j = i
        · subst e
          rw [ho] at hj
          cases hj
          rw [hd] at hjd
          cases hjd
        · rw [if_neg e] at hl
          exact hk j _ (hI.vals j oj d hj hl hjd)
      · rw [listed_set (by omega)] at hl
        by_cases e : j = i
        · subst e
          exact ⟨v, hv⟩
        · rw [if_neg e] at hl
          obtain ⟨u, hu⟩ := hI.seen j oj hj hl
          exact ⟨u, hk j u hu⟩
    | some d0 =>
      have hf := hfix i o d0 ho hd
      have hd0 : d0 < a.tmps.size := by rw [hI.sz]; exact hf.1
      refine ⟨by simp [Act.put, hI.sz], by simpa [Act.put] using hI.df, hS, fun j oj d hj hl hjd => ?_, fun t u htu => ?_, fun j oj hj hl => ?_⟩
      · rw [listed_set (by omega)] at hl
        rw [getD_put hd0]
        by_cases e : j = i
        · subst e
          rw [ho] at hj
          cases hj
          rw [hd] at hjd
          cases hjd
          rw [if_pos rfl]
          exact hv
        · rw [if_neg e] at hl
          rw [if_neg (fun h => e (hdst j i oj o d hj ho hjd (by rw [hd, h])))]
          exact hk j _ (hI.vals j oj d hj hl hjd)
      · rw [getD_put hd0, if_neg (fun h : t = d0 => hf.2 u (by rw [← h]; exact htu))]
        exact hI.fix t u htu
      · rw [listed_set (by omega)] at hl
        by_cases e : j = i
        · subst e
          exact ⟨v, hv⟩
        · rw [if_neg e] at hl
          obtain ⟨u, hu⟩ := hI.seen j oj hj hl
          exact ⟨u, hk j u hu⟩

theorem wpAnyIn_invB {F : Fence} {n : Nat} {P : Program} {ops : Array Oper} {Q : Exit → Act → World → Prop} (fs : List (Nat × Value)) (S : World → Prop) (V : Nat → Value → World → Prop) (m : Nat) (ds : List Deferred)
    (hB : rchkB ops m (fs.map (·.1)) = true)
    (hstep : ∀ (i : Nat) (o : Oper) (listed : Array Bool) (a : Act) (w : World), ops[i]? = some o → (∀ e ∈ o.after, Region.binds .any e = true → listed.getD e.on false = true) → RInv ops fs S V m ds listed a w →
      Region.wanted o (yielded ops a.tmps) = true ∧ (∀ c, o.op ≠ .call c) ∧ (∀ c, o.op ≠ .defer c) ∧ ∃ x v w', (execOp a.eval o).run P w = .ok x w' ∧ (x = .value v ∨ (x = .skip ∧ v = undef)) ∧ V i v w' ∧ S w' ∧ ∀ j u, V j u w → V j u w')
    (hfin : ∀ listed a w, (∀ i, i < ops.size → listed.getD i false = true) → RInv ops fs S V m ds listed a w → Q .normal a w)
    (a : Act) (w : World) (hsz : a.tmps.size = m) (hdf : a.defers = ds) (hS : S w) (hf : ∀ t v, (t, v) ∈ fs → a.tmps.getD t undef = v) : wpAnyIn F n P .any ops Q ops.size (Array.replicate ops.size false) a w := by
  refine wpAnyIn_inv fs S V m ds (fun i o hi => (rchkB_at hB hi).1) (fun i j oi oj d hi hj h1 h2 => ?_) (fun i o d hi hd => ?_) hstep hfin _ _ _ _ (by simp) ?_ ⟨hsz, hdf, hS, fun i o d _ hl _ => ?_, hf, fun i o _ hl => ?_⟩
  · rcases Nat.lt_trichotomy i j with h | h | h
    · exact absurd h1 (((rchkB_at hB hj).2 d h2).2.2 i oi h hi)
    · exact h
    · exact absurd h2 (((rchkB_at hB hi).2 d h1).2.2 j oj h hj)
  · have := (rchkB_at hB hi).2 d hd
    exact ⟨this.1, fun v hv => this.2.1 (List.mem_map.2 ⟨_, hv, rfl⟩)⟩
  · rw [Array.toList_replicate, List.count_replicate]; simp
  · simp [Array.getD_eq_getD_getElem?, Array.getElem?_replicate] at hl
    split at hl <;> simp at hl
  · simp [Array.getD_eq_getD_getElem?, Array.getElem?_replicate] at hl
    split at hl <;> simp at hl
theorem tmps71 (a : Array Value) (h : a.size = 71) : a = #[a.getD 0 undef, a.getD 1 undef, a.getD 2 undef, a.getD 3 undef, a.getD 4 undef, a.getD 5 undef, a.getD 6 undef, a.getD 7 undef, a.getD 8 undef, a.getD 9 undef, a.getD 10 undef, a.getD 11 undef, a.getD 12 undef, a.getD 13 undef, a.getD 14 undef, a.getD 15 undef, a.getD 16 undef, a.getD 17 undef, a.getD 18 undef, a.getD 19 undef, a.getD 20 undef, a.getD 21 undef, a.getD 22 undef, a.getD 23 undef, a.getD 24 undef, a.getD 25 undef, a.getD 26 undef, a.getD 27 undef, a.getD 28 undef, a.getD 29 undef, a.getD 30 undef, a.getD 31 undef, a.getD 32 undef, a.getD 33 undef, a.getD 34 undef, a.getD 35 undef, a.getD 36 undef, a.getD 37 undef, a.getD 38 undef, a.getD 39 undef, a.getD 40 undef, a.getD 41 undef, a.getD 42 undef, a.getD 43 undef, a.getD 44 undef, a.getD 45 undef, a.getD 46 undef, a.getD 47 undef, a.getD 48 undef, a.getD 49 undef, a.getD 50 undef, a.getD 51 undef, a.getD 52 undef, a.getD 53 undef, a.getD 54 undef, a.getD 55 undef, a.getD 56 undef, a.getD 57 undef, a.getD 58 undef, a.getD 59 undef, a.getD 60 undef, a.getD 61 undef, a.getD 62 undef, a.getD 63 undef, a.getD 64 undef, a.getD 65 undef, a.getD 66 undef, a.getD 67 undef, a.getD 68 undef, a.getD 69 undef, a.getD 70 undef] := by
  have e : a = ((List.range 71).map fun i => a.getD i undef).toArray := Array.ext (by simp [h]) (fun i h1 h2 => by simp [Array.getD, h1])
  exact e
end Go.Proofs.YtlegmaadcemgnaaDoor
