/- The model's passes: mathematics. The model's l03Same and l04Block. -/
import Derived.Test.YtlimollpocagiaaGreatDoorZr04
import Derived.Test.YtlimollpocagiaaGreatDoorZr19
namespace Go.Proofs.YtlimollpocagiaaGreatDoor
set_option linter.unusedVariables false
set_option linter.unusedSimpArgs false
open Go.RowKit

/-- The first k places of a pass. -/
def stepTo (m : Nat) (bf ol : List Int) (s : FD) (k : Nat) : FD × Bool := (List.range k).foldl (stepF m bf ol) (s, true)
theorem stepTo_succ (m : Nat) (bf ol : List Int) (s : FD) (k : Nat) : stepTo m bf ol s (k + 1) = stepF m bf ol (stepTo m bf ol s k) k := by simp [stepTo, List.range_succ]
theorem far_succ (k : Nat) (pl : List Int) : farF (k + 1) pl = (farF k pl || (decide (12 ≤ k) && decide (pl.getD k 0 ≠ 0))) := by
  unfold farF
  rw [List.range_succ, List.any_append]
  simp
theorem move_pl (ol : List Int) (s : FD) (k b j : Nat) (h : j ≠ k) : (moveF ol s k b).pl.getD j 0 = s.pl.getD j 0 := by
  show (s.pl.set k _).getD j 0 = _
  simp only [List.getD, List.getElem?_set]
  rw [if_neg (fun e => h e.symm)]
theorem give_pl (bf ol : List Int) (s : FD) (k j : Nat) (h : j ≠ k) : (giveF bf ol s k).1.pl.getD j 0 = s.pl.getD j 0 := by
  unfold giveF
  split
  · exact move_pl ol s k _ j h
  · rfl
theorem step_pl (m : Nat) (bf ol : List Int) (s : FD × Bool) (k j : Nat) (h : j ≠ k) : (stepF m bf ol s k).1.pl.getD j 0 = s.1.pl.getD j 0 := by
  unfold stepF
  split
  · exact give_pl bf ol s.1 k j h
  · rfl
theorem far_ext (k : Nat) (p q : List Int) (h : ∀ j, j < k → p.getD j 0 = q.getD j 0) : farF k p = farF k q := by
  induction k with
  | zero => rfl
  | succ k ih => rw [far_succ, far_succ, ih (fun j hj => h j (by omega)), h k (by omega)]
theorem far_step (m : Nat) (bf ol : List Int) (s : FD × Bool) (k : Nat) : farF k (stepF m bf ol s k).1.pl = farF k s.1.pl := far_ext _ _ _ (fun j hj => step_pl m bf ol s k j (by omega))
theorem pass_small (m : Nat) (bf ol : List Int) (s : FD) (h : ¬ 12 < m) : passF m bf ol s = stepTo m bf ol s m := by
  unfold passF posL stepTo
  rw [if_neg h, List.append_nil]
theorem pass_big (m : Nat) (bf ol : List Int) (s : FD) (h : 12 < m) : passF m bf ol s = stepF m bf ol (stepTo m bf ol s m) m := by
  unfold passF posL stepTo
  rw [if_pos h, List.foldl_append]
  rfl
theorem WfD.stepTo {m n : Nat} {s : FD} (h : WfD m n s) (hn : n ≤ 2048) (bf ol : List Int) (k : Nat) (hk : k ≤ m + 1) : WfD m n (stepTo m bf ol s k).1 ∧ s.od.length ≤ (Go.Proofs.YtlimollpocagiaaGreatDoor.stepTo m bf ol s k).1.od.length :=
  WfD.fold hn bf ol (List.range k) (s, true) h (fun j hj => by have := List.mem_range.1 hj; omega)
/-- A flag that fell stays down. -/
theorem step_flag {m : Nat} {bf ol : List Int} {s : FD × Bool} {k : Nat} (h : (stepF m bf ol s k).2 = true) : s.2 = true := by
  cases hs : s.2 with
  | true => rfl
  | false =>
    exfalso
    unfold stepF at h
    rw [hs] at h
    simp [hs] at h
theorem pick_two {ws bf : List Int} {c b : Nat} (h : pickB ws bf c = some b) (h2 : 2 ≤ c) (hc : c < ws.length) : (b : Int) ≠ 0 := by
  have := pick_some h2 hc h
  omega
theorem step_has {m n : Nat} {bf ol : List Int} {s : FD × Bool} {k : Nat} (hw : WfD m n s.1) (hk : k < m) (h : (stepF m bf ol s k).2 = true) : (stepF m bf ol s k).1.pl.getD k 0 ≠ 0 ∨ ol.getD k 0 ≠ 0 := by
  have hs := step_flag h
  unfold stepF at h ⊢
  by_cases hst : staleF m bf ol s.1 k = true
  · rw [hs, hst, Bool.and_true, if_pos rfl] at h ⊢
    unfold giveF at h ⊢
    split at h
    · rename_i b hb
      left
      show (s.1.pl.set k (b : Int)).getD k 0 ≠ 0
      rw [getD_set _ _ _ _ (by rw [hw.pn]; omega), if_pos rfl]
      exact pick_two hb hw.cu.1 (by rw [hw.wl]; exact hw.cu.2)
    · exact absurd h (by simp)
  · rw [hs] at h ⊢
    have hst' : staleF m bf ol s.1 k = false := by simpa using hst
    rw [hst', Bool.and_false, if_neg (by decide)]
    unfold staleF at hst'
    simp only [Bool.and_eq_false_iff, Bool.or_eq_false_iff, decide_eq_false_iff_not] at hst'
    rcases hst' with h1 | h1
    · exact .inl h1
    · exact .inr h1.1
theorem stepTo_has {m n : Nat} {bf ol : List Int} {s : FD} (hw : WfD m n s) (hn : n ≤ 2048) : ∀ k, k ≤ m → (stepTo m bf ol s k).2 = true → ∀ j, j < k → (stepTo m bf ol s k).1.pl.getD j 0 ≠ 0 ∨ ol.getD j 0 ≠ 0
  | 0, _, _, j, hj => absurd hj (by omega)
  | k + 1, hk, h, j, hj => by
    rw [stepTo_succ] at h ⊢
    by_cases e : j = k
    · subst e
      exact step_has (hw.stepTo hn bf ol j (by omega)).1 (by omega) h
    · rw [step_pl _ _ _ _ _ _ e]
      exact stepTo_has hw hn k (by omega) (step_flag h) j (by omega)
theorem pass_has {m n : Nat} {bf ol : List Int} {s : FD} (hw : WfD m n s) (hn : n ≤ 2048) (h : (passF m bf ol s).2 = true) : ∀ j, j < m → (passF m bf ol s).1.pl.getD j 0 ≠ 0 ∨ ol.getD j 0 ≠ 0 := by
  by_cases h12 : 12 < m
  · rw [pass_big _ _ _ _ h12] at h ⊢
    intro j hj
    rw [step_pl _ _ _ _ _ _ (by omega)]
    exact stepTo_has hw hn m (Nat.le_refl _) (step_flag h) j hj
  · rw [pass_small _ _ _ _ h12] at h ⊢
    exact stepTo_has hw hn m (Nat.le_refl _) h
theorem run_has {m n : Nat} {bf ol : List Int} (hn : n ≤ 2048) : ∀ (f : Nat) (s : FD), WfD m n s → m + 2 ≤ f + s.od.length → (runF m bf ol f s).2 = true → ∀ j, j < m → (runF m bf ol f s).1.pl.getD j 0 ≠ 0 ∨ ol.getD j 0 ≠ 0
  | 0, s, hw, hf, _ => by have := hw.odlen; omega
  | f + 1, s, hw, hf, h => by
    rw [runF] at h ⊢
    split at h
    · rename_i hc
      rw [if_pos hc]
      simp only [Bool.and_eq_true, decide_eq_true_eq] at hc
      have h1 := hw.pass hn bf ol
      exact run_has hn f _ h1.1 (by omega) h
    · rename_i hc
      rw [if_neg hc]
      exact pass_has hw hn h
/-- What is given are places that a pass names. -/
theorem step_od {m : Nat} {bf ol : List Int} {s : FD × Bool} {k : Nat} (hk : k ∈ posL m) (h : ∀ j ∈ s.1.od, j ∈ posL m) : ∀ j ∈ (stepF m bf ol s k).1.od, j ∈ posL m := by
  unfold stepF
  split
  · unfold giveF
    split
    · intro j hj
      rcases List.mem_append.1 (show j ∈ s.1.od ++ [k] from hj) with hj | hj
      · exact h j hj
      · rw [List.mem_singleton] at hj; rw [hj]; exact hk
    · exact h
  · exact h
theorem fold_od {m : Nat} {bf ol : List Int} : ∀ (ks : List Nat) (s : FD × Bool), (∀ k ∈ ks, k ∈ posL m) → (∀ j ∈ s.1.od, j ∈ posL m) → ∀ j ∈ (ks.foldl (stepF m bf ol) s).1.od, j ∈ posL m
  | [], s, _, h => h
  | k :: ks, s, hk, h => fold_od ks _ (fun j hj => hk j (List.mem_cons_of_mem _ hj)) (step_od (hk k (List.mem_cons_self ..)) h)
theorem run_od {m : Nat} {bf ol : List Int} : ∀ (f : Nat) (s : FD), (∀ j ∈ s.od, j ∈ posL m) → ∀ j ∈ (runF m bf ol f s).1.od, j ∈ posL m
  | 0, s, h => h
  | f + 1, s, h => by
    have h1 := fold_od (bf := bf) (ol := ol) (posL m) (s, true) (fun k hk => hk) h
    unfold runF
    split
    · exact run_od f _ h1
    · exact h1
end Go.Proofs.YtlimollpocagiaaGreatDoor

namespace Go.Proofs.YtlimollpocagiaaGreatDoor
set_option linter.unusedVariables false
set_option linter.unusedSimpArgs false
open Go.RowKit

theorem below_dN {B : Nat} {a w : World} (h : Below B a w) (n : Nat) : Below B a (w.drewN n) := h.trans ⟨rfl, rfl, rfl, Nat.le_refl _, fun _ _ => rfl⟩
set_option maxHeartbeats 400000 in
theorem same_any (v1 v2 : Value) (xs ys : List Int) (w : World) (h1 : Rd .i64 w v1 xs) (h2 : Rd .i64 w v2 ys) :
    Calls Tryz.prog 82 #[v1, v2] w fun e w' => e = .returned (.bool (decide (xs = ys))) ∧ Below w.heap.size w w' := by
  have hm := h1.len
  have hm2 := h2.len
  unfold maxLen at hm hm2
  by_cases hlen : xs.length = ys.length
  · have p1 : At .i64 w v1 xs.length xs := h1.parts
    have p2 : At .i64 w v2 ys.length ys := h2.parts
    rw [← hlen] at p2
    have HL : Hid (xs.length = ys.length) := hlen
    clear hlen h1 h2 hm2
    generalize hn : xs.length = n at *
    have HN : Hid (xs.length = n) := hn
    clear hn
    rcases p1 with ⟨a1, cap1, rfl, hlow⟩ | ⟨b1, off1, cap1, rfl, hbw1, hcell1⟩ <;> rcases p2 with ⟨a2, cap2, rfl, hlow2⟩ | ⟨b2, off2, cap2, rfl, hbw2, hcell2⟩
    all_goals
      go_enter Tryz.func82, Tryz.ntmps82
      go_wp2
      go_loopw [13] (fun i wr => ∃ k nq : Nat, k ≤ n ∧ i = .int .i64 k ∧ wr = w.drewN nq ∧ xs.take k = ys.take k) (fun i _ => n - (intOf i).toNat)
      case atStart => exact ⟨0, 0, Nat.zero_le _, rfl, rfl, rfl⟩
      case round =>
        obtain ⟨k, nq, hk, rfl, rfl, ht⟩ := hrel
        have HT : Hid (xs.take k = ys.take k) := ht
        clear ht
        by_cases hlt : k < n
        · first
          | omega
          | (have c1 := hcell1 k hlt
             have c2 := hcell2 k hlt
             have HX : Hid (xs.getD k 0 = ys.getD k 0 → xs.take (k + 1) = ys.take (k + 1)) := fun he => take_eq_step xs ys k (by have := HN.out; omega) (by have := HL.out; omega) HT.out he
             have HY : Hid (xs.getD k 0 ≠ ys.getD k 0 → ¬ xs = ys) := fun he h => he (by rw [h])
             generalize xs.getD k 0 = x at c1 HX HY
             generalize ys.getD k 0 = y at c2 HX HY
             have hlt' : (k : Int) < (n : Int) := by omega
             clear hcell1 hcell2
             by_cases hxy : x = y
             · have hq : (x != y) = false := by simp [hxy]
               have HXY : Hid (x = y) := hxy
               clear hxy
               go_wp2
               go_quiet (fail)
               go_wp2
               go_roundw
               case rel => exact ⟨k + 1, _, by omega, by go_num, rfl, HX.out HXY.out⟩
               case measure => simp [intOf]; omega
             · have hq : (x != y) = true := by simpa using hxy
               have HXY : Hid (x ≠ y) := hxy
               clear hxy
               go_wp2
               go_quiet (fail)
               go_wp2
               go_ret
               exact ⟨ret_bool (by have := HY.out HXY.out; simp [this]), below_dN (below_dN (Below.refl _ _) _) _⟩)
        · go_wp2
          go_ret
          have : k = n := by omega
          subst this
          have e1 := HT.out
          rw [List.take_of_length_le (by have := HN.out; omega), List.take_of_length_le (by have := HL.out; omega)] at e1
          exact ⟨ret_bool (by simp [e1]), below_dN (Below.refl _ _) _⟩
  · obtain ⟨a1, cap1, rfl, _, _⟩ := h1
    obtain ⟨a2, cap2, rfl, _, _⟩ := h2
    have hq : ((xs.length : Int) == (ys.length : Int)) = false := by simp; omega
    have HF : Hid (¬ xs = ys) := fun h => hlen (by rw [h])
    clear hlen
    go_enter Tryz.func82, Tryz.ntmps82
    go_wp2
    go_ret
    exact ⟨ret_bool (by simp [HF.out]), Below.refl _ _⟩
end Go.Proofs.YtlimollpocagiaaGreatDoor
