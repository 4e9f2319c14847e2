/- A region that draws its order, inside a fence or a round: what only reads and one operation that turns w into w1 come first, in whatever order; then the rest. -/
import Derived.Test.YtnbfpmmpmblmmaaGreatDoorZe38
namespace Go.Proofs.YtnbfpmmpmblmmaaGreatDoor
set_option linter.unusedVariables false
set_option linter.unusedSimpArgs false
open Go.RowKit

/-- The world by whether number j has come. -/
def wlA (w w1 : World) (j : Nat) (l : List Bool) : World := if l.getD j false = true then w1 else w
theorem wpAnyIn_readsA {F : Fence} {n : Nat} {P : Program} {ops : Array Oper} {Q : Exit → Act → World → Prop} (fs : List (Nat × Value)) (w w1 : World) (j : Nat) (V : Nat → Value) (m : Nat) (ds : List Deferred) (mm : Nat) (hjm : j < mm)
    (hB : rchkB ops m (fs.map (·.1)) = true) (hchk : readsB ops mm = true)
    (hstep : ∀ (i : Nat) (o : Oper) (listed : Array Bool) (a : Act), i < mm → ops[i]? = some o → (∀ e ∈ o.after, Region.binds .any e = true → listed.getD e.on false = true) → ∀ wx, (wx = w ∨ wx = w1) → (i = j → wx = w) → RInv ops fs (fun _ => True) (fun i v _ => v = V i) m ds listed a wx →
      Region.wanted o (yielded ops a.tmps) = true ∧ (∀ c, o.op ≠ .call c) ∧ (∀ c, o.op ≠ .defer c) ∧ (execOp a.eval o).run P wx = .ok (.value (V i)) (if i = j then w1 else wx))
    (hfin : ∀ a, RInv ops fs (fun _ => True) (fun i v _ => v = V i) m ds (lstB ops.size mm (List.replicate mm true)) a w1 → wpAnyIn F n P .any ops Q (ops.size - mm) (lstB ops.size mm (List.replicate mm true)) a w1) :
    ∀ (k : Nat) (l : List Bool) (a : Act), l.length = mm → closedB ops mm l = true → l.count false = k → RInv ops fs (fun _ => True) (fun i v _ => v = V i) m ds (lstB ops.size mm l) a (wlA w w1 j l) → wpAnyIn F n P .any ops Q (k + (ops.size - mm)) (lstB ops.size mm l) a (wlA w w1 j l)
  | 0, l, a, hl, hc, hk, hI => by
    have e : l = List.replicate mm true := by
      rw [List.eq_replicate_iff]
      refine ⟨hl, fun b hb => ?_⟩
      cases b with
      | true => rfl
      | false => exact absurd (List.count_pos_iff.2 hb) (by omega)
    subst e
    have ew : wlA w w1 j (List.replicate mm true) = w1 := by
      unfold wlA
      rw [if_pos (by rw [List.getD_eq_getElem?_getD, List.getElem?_replicate, if_pos hjm]; rfl)]
    rw [ew] at hI ⊢
    rw [Nat.zero_add]
    exact hfin a hI
  | k + 1, l, a, hl, hc, hk, hI => by
    have hn : l.all id = false := by
      have : false ∈ l := List.count_pos_iff.1 (by omega)
      cases e : l.all id with
      | false => rfl
      | true => rw [List.all_eq_true] at e; have := e false this; simp at this
    obtain ⟨hne, hlt⟩ := readsB_at hchk hl hc hn
    rw [show k + 1 + (ops.size - mm) = (k + (ops.size - mm)) + 1 by omega]
    refine ⟨fun h => absurd h hne, fun i hi => ?_⟩
    have him := hlt i hi
    obtain ⟨h0, o, ho, hall⟩ := mem_ready.1 hi
    have hall' : ∀ e ∈ o.after, Region.binds .any e = true → (lstB ops.size mm l).getD e.on false = true := hall
    have hli : l.getD i false = false := by
      have h1 : (lstB ops.size mm l).getD i true = false := h0
      unfold lstB at h1
      rw [Array.getD_eq_getD_getElem?, List.getElem?_toArray, List.getElem?_append_left (by omega), List.getElem?_eq_getElem (by omega)] at h1
      rw [List.getD_eq_getElem?_getD, List.getElem?_eq_getElem (by omega)]
      exact h1
    have hw1 : wlA w w1 j l = w ∨ wlA w w1 j l = w1 := by unfold wlA; split <;> simp
    have hw2 : i = j → wlA w w1 j l = w := fun e => by subst e; unfold wlA; rw [hli]; rfl
    obtain ⟨hwt, hnc, hnd, hrun⟩ := hstep i o _ a him ho hall' _ hw1 hw2 hI
    have hwn : (if i = j then w1 else wlA w w1 j l) = wlA w w1 j (l.set i true) := by
      by_cases e : i = j
      · subst e
        rw [if_pos rfl]
        unfold wlA
        rw [if_pos (by rw [List.getD_eq_getElem?_getD, List.getElem?_set, if_pos rfl, if_pos (by omega)]; rfl)]
      · rw [if_neg e]
        unfold wlA
        rw [List.getD_eq_getElem?_getD, List.getD_eq_getElem?_getD, List.getElem?_set, if_neg e]
    rw [hwn] at hrun
    have hab : o.about P (wlA w w1 j l) a.eval = none := by
      unfold Oper.about
      split
      · rename_i c hc
        exact absurd hc (hnc c)
      · rfl
    unfold wpOpIn
    simp only [ho, hwt, if_true]
    unfold Oper.wpIn
    refine ⟨by simp [hab], ?_⟩
    rw [Oper.semAt_plain F _ _ hnd, hrun]
    show wpAnyIn F n P .any ops Q (k + (ops.size - mm)) ((lstB ops.size mm l).setIfInBounds i true) (a.put o.dst (V i)) (wlA w w1 j (l.set i true))
    rw [lst_set hl him]
    have hget : ∀ j, (lstB ops.size mm (l.set i true)).getD j false = if j = i then true else (lstB ops.size mm l).getD j false := fun j => by
      rw [lst_getD (by simpa using hl), lst_getD hl, List.getD_eq_getElem?_getD, List.getD_eq_getElem?_getD, List.getElem?_set]
      by_cases e : i = j
      · subst e
        rw [if_pos rfl, if_pos (by omega), if_pos rfl]; rfl
      · rw [if_neg e, if_neg (fun h => e h.symm)]
    refine wpAnyIn_readsA fs w w1 j V m ds mm hjm hB hchk hstep hfin k (l.set i true) _ (by simpa using hl) ?_ ?_ ?_
    · unfold closedB at hc ⊢
      rw [List.all_eq_true] at hc ⊢
      intro j hj
      have hcj := hc j hj
      have hset : ∀ x, l.getD x false = true → (l.set i true).getD x false = true := fun x hx => by
        rw [List.getD_eq_getElem?_getD, List.getElem?_set]
        by_cases e : i = x
        · subst e; rw [if_pos rfl, if_pos (by omega)]; rfl
        · rw [if_neg e]; rw [List.getD_eq_getElem?_getD] at hx; exact hx
      by_cases e : j = i
      · subst e
        rw [ho]
        simp only [Bool.or_eq_true, List.all_eq_true]
        refine .inr (fun ed he => ?_)
        cases hbd : Region.binds .any ed with
        | false => simp
        | true =>
          have h5 := hall' ed (Array.mem_toList_iff.1 he) hbd
          rw [lst_getD hl] at h5
          exact .inr (hset _ h5)
      · have hji : (l.set i true).getD j false = l.getD j false := by
          rw [List.getD_eq_getElem?_getD, List.getD_eq_getElem?_getD, List.getElem?_set, if_neg (fun h => e h.symm)]
        rw [hji]
        rw [Bool.or_eq_true] at hcj ⊢
        rcases hcj with h | h
        · exact .inl h
        · refine .inr ?_
          cases hoj : ops[j]? with
          | none => rfl
          | some oj =>
            rw [hoj] at h
            simp only [List.all_eq_true, Bool.or_eq_true] at h ⊢
            intro ed he
            rcases h ed he with h6 | h6
            · exact .inl h6
            · exact .inr (hset _ h6)
    · have hcs : List.count false (l.set i true) + 1 = List.count false l := by
        have hlt2 : i < l.length := by omega
        rw [List.count_set hlt2]
        have hv : l[i] = false := by rw [List.getD_eq_getElem?_getD, List.getElem?_eq_getElem hlt2] at hli; exact hli
        have hp : 0 < l.count false := by omega
        simp [hv]
        omega
      omega
    · cases hd : o.dst with
      | none =>
        refine ⟨hI.sz, hI.df, trivial, fun j oj d hj hl2 hjd => ?_, hI.fix, fun j oj hj hl2 => ⟨_, rfl⟩⟩
        rw [hget] at hl2
        by_cases e : j = i
        · subst e
          rw [ho] at hj
          cases hj
          rw [hd] at hjd
          cases hjd
        · rw [if_neg e] at hl2
          exact hI.vals j oj d hj hl2 hjd
      | some d0 =>
        have hf := (rchkB_at hB ho).2 d0 hd
        have hd0 : d0 < a.tmps.size := by rw [hI.sz]; exact hf.1
        refine ⟨by simp [Act.put, hI.sz], by simpa [Act.put] using hI.df, trivial, fun j oj d hj hl2 hjd => ?_, fun t u htu => ?_, fun j oj hj hl2 => ⟨_, rfl⟩⟩
        · rw [hget] at hl2
          rw [getD_put hd0]
          by_cases e : j = i
          · subst e
            rw [ho] at hj
            cases hj
            rw [hd] at hjd
            cases hjd
            rw [if_pos rfl]
          · rw [if_neg e] at hl2
            have hne2 : d ≠ d0 := fun h => by
              subst h
              rcases Nat.lt_trichotomy j i with h | h | h
              · exact ((rchkB_at hB ho).2 d hd).2.2 j oj h hj hjd
              · exact e h
              · exact ((rchkB_at hB hj).2 d hjd).2.2 i o h ho hd
            rw [if_neg hne2]
            exact hI.vals j oj d hj hl2 hjd
        · rw [getD_put hd0, if_neg (fun h : t = d0 => hf.2.1 (List.mem_map.2 ⟨(t, u), htu, h⟩))]
          exact hI.fix t u htu
/-- From the beginning. -/
theorem wpAnyIn_readsAB {F : Fence} {n : Nat} {P : Program} {ops : Array Oper} {Q : Exit → Act → World → Prop} (fs : List (Nat × Value)) (w w1 : World) (j : Nat) (V : Nat → Value) (m : Nat) (ds : List Deferred) (mm : Nat) (hjm : j < mm)
    (hB : rchkB ops m (fs.map (·.1)) = true) (hchk : readsB ops mm = true)
    (hstep : ∀ (i : Nat) (o : Oper) (listed : Array Bool) (a : Act), i < mm → ops[i]? = some o → (∀ e ∈ o.after, Region.binds .any e = true → listed.getD e.on false = true) → ∀ wx, (wx = w ∨ wx = w1) → (i = j → wx = w) → RInv ops fs (fun _ => True) (fun i v _ => v = V i) m ds listed a wx →
      Region.wanted o (yielded ops a.tmps) = true ∧ (∀ c, o.op ≠ .call c) ∧ (∀ c, o.op ≠ .defer c) ∧ (execOp a.eval o).run P wx = .ok (.value (V i)) (if i = j then w1 else wx))
    (hfin : ∀ a, RInv ops fs (fun _ => True) (fun i v _ => v = V i) m ds (lstB ops.size mm (List.replicate mm true)) a w1 → wpAnyIn F n P .any ops Q (ops.size - mm) (lstB ops.size mm (List.replicate mm true)) a w1)
    (a : Act) (hsz : a.tmps.size = m) (hdf : a.defers = ds) (hf : ∀ t v, (t, v) ∈ fs → a.tmps.getD t undef = v) : wpAnyIn F n P .any ops Q ops.size (Array.replicate ops.size false) a w := by
  have hmm : mm ≤ ops.size := by
    unfold readsB at hchk
    rw [Bool.and_eq_true] at hchk
    exact of_decide_eq_true hchk.1
  have e : Array.replicate ops.size false = lstB ops.size mm (List.replicate mm false) := by
    unfold lstB
    rw [List.replicate_append_replicate, show mm + (ops.size - mm) = ops.size by omega]
    simp
  have h := wpAnyIn_readsA (F := F) (n := n) (P := P) (Q := Q) fs w w1 j V m ds mm hjm hB hchk hstep hfin mm (List.replicate mm false) a (by simp) ?_ (by simp) ⟨hsz, hdf, trivial, fun i o d _ hl _ => ?_, hf, fun i o _ hl => ⟨_, rfl⟩⟩
  · rw [show mm + (ops.size - mm) = ops.size by omega] at h
    rw [e]
    have ew : wlA w w1 j (List.replicate mm false) = w := by
      unfold wlA
      rw [if_neg (by rw [List.getD_eq_getElem?_getD, List.getElem?_replicate]; split <;> simp)]
    rw [ew] at h
    exact h
  · unfold closedB
    rw [List.all_eq_true]
    intro j hj
    have : (List.replicate mm false).getD j false = false := by rw [List.getD_eq_getElem?_getD, List.getElem?_replicate]; split <;> rfl
    rw [this]
    rfl
  · rw [lst_getD (by simp)] at hl
    have : (List.replicate mm false).getD i false = false := by rw [List.getD_eq_getElem?_getD, List.getElem?_replicate]; split <;> rfl
    rw [this] at hl
    cases hl
end Go.Proofs.YtnbfpmmpmblmmaaGreatDoor
