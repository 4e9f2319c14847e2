/- Mathematics of numbers in scripts: a numeral is written in one way only. -/
import Derived.Test.YtnljpaohkkdjjaaGreatDoorTaM
namespace Go.Proofs.YtnljpaohkkdjjaaGreatDoor
set_option linter.unusedVariables false
set_option linter.unusedSimpArgs false

theorem snocInd {P : List UInt8 → Prop} (h0 : P []) (h1 : ∀ l c, P l → P (l ++ [c])) (l : List UInt8) : P l := by
  have h : ∀ m : List UInt8, P m.reverse := by
    intro m
    induction m with
    | nil => exact h0
    | cons c m ih => rw [List.reverse_cons]; exact h1 _ c ih
  have := h l.reverse
  rwa [List.reverse_reverse] at this
theorem head_app {p : List UInt8} (q : List UInt8) (h : p ≠ []) : (p ++ q).head? = p.head? := by
  cases p with
  | nil => exact absurd rfl h
  | cons a p => rfl
theorem dec_zero : Lib.decDigits 0 = [48] := by rw [Lib.decDigits]; rfl
/-- What the model reckons of a row of bytes. -/
def valI (l : List UInt8) : Int := l.foldl (fun v c => v * 10 + (c.toNat : Int) - 48) 0
def isDg (c : UInt8) : Bool := decide (48 ≤ c.toNat ∧ c.toNat ≤ 57)
theorem valI_snoc (l : List UInt8) (c : UInt8) : valI (l ++ [c]) = valI l * 10 + (c.toNat : Int) - 48 := by
  unfold valI
  rw [List.foldl_append]
  rfl
theorem isDg_iff (c : UInt8) : isDg c = true ↔ 48 ≤ c.toNat ∧ c.toNat ≤ 57 := by simp [isDg]
theorem valI_digits : ∀ (l : List UInt8), l.all isDg = true → 0 ≤ valI l := by
  refine snocInd (fun _ => by simp [valI]) (fun l c ih h => ?_)
  · rw [List.all_append] at h
    simp only [List.all_cons, List.all_nil, Bool.and_true, Bool.and_eq_true] at h
    have h1 := ih h.1
    have h2 := (isDg_iff c).1 h.2
    rw [valI_snoc]
    omega
theorem valI_bound (l : List UInt8) (h : l.length ≤ 15) : -99999999999999999 ≤ valI l ∧ valI l ≤ 99999999999999999 := by
  have hg : ∀ (m : List UInt8), -48 * (((10 ^ m.length : Nat) : Int) - 1) ≤ 9 * valI m ∧ 9 * valI m ≤ 207 * (((10 ^ m.length : Nat) : Int) - 1) := by
    refine snocInd (by simp [valI]) (fun m c ih => ?_)
    · have hc := UInt8.toNat_lt c
      rw [valI_snoc, List.length_append, List.length_singleton, Nat.pow_succ]
      omega
  have h1 := hg l
  have h2 : 10 ^ l.length ≤ 10 ^ 15 := Nat.pow_le_pow_right (by decide) h
  have h3 : 10 ^ 15 = 1000000000000000 := by decide
  omega
theorem dgt_isDg (q : Nat) : isDg (dgt q) = true := by
  rw [isDg_iff]
  unfold dgt
  have h : q % 10 < 10 := Nat.mod_lt _ (by omega)
  simp
  omega
theorem dgt_val (q : Nat) : ((dgt q).toNat : Int) - 48 = q % 10 := by
  unfold dgt
  simp
  omega
theorem dec_facts : ∀ n : Nat, (Lib.decDigits n).all isDg = true ∧ valI (Lib.decDigits n) = n ∧ Lib.decDigits n ≠ [] ∧ (10 ≤ n ∨ (Lib.decDigits n).length = 1) ∧ (0 < n → (Lib.decDigits n).head? ≠ some 48) := by
  intro n
  induction n using Nat.strongRecOn with
  | _ n ih =>
    by_cases h : n < 10
    · rw [dec_pre, pre_small h, List.nil_append]
      have h1 := dgt_isDg n
      have h2 := dgt_val n
      refine ⟨by simp [h1], ?_, by simp, .inr rfl, fun hp => ?_⟩
      · have := valI_snoc [] (dgt n)
        simp only [List.nil_append] at this
        rw [this]
        simp [valI]
        omega
      · intro e
        have e2 : dgt n = 48 := by simpa using e
        rw [e2] at h2
        have : ((48 : UInt8).toNat : Int) = 48 := by decide
        omega
    · have ihn := ih (n / 10) (by omega)
      have e : Lib.decDigits n = Lib.decDigits (n / 10) ++ [dgt n] := by rw [dec_pre n]; unfold preD; rw [if_neg h]
      have h1 := dgt_isDg n
      have h2 := dgt_val n
      rw [e]
      refine ⟨by rw [List.all_append, ihn.1]; simp [h1], ?_, by simp, .inl (by omega), fun hp => ?_⟩
      · rw [valI_snoc, ihn.2.1]
        omega
      · rw [head_app _ ihn.2.2.1]
        exact ihn.2.2.2.2 (by omega)
theorem dec_back : ∀ (l : List UInt8) (hd : l.all isDg = true) (hne : l ≠ []) (hc : l = [48] ∨ l.head? ≠ some 48), Lib.decDigits (valI l).toNat = l := by
  refine snocInd (fun _ h => absurd rfl h) (fun p c ih hd hne hc => ?_)
  · rw [List.all_append] at hd
    simp only [List.all_cons, List.all_nil, Bool.and_true, Bool.and_eq_true] at hd
    have hv := valI_digits p hd.1
    have hcd := (isDg_iff c).1 hd.2
    have hs := valI_snoc p c
    by_cases hp : p = []
    · subst hp
      simp only [List.nil_append] at hs ⊢
      have h0 : valI [] = 0 := rfl
      have hq : (valI [c]).toNat = c.toNat - 48 := by rw [hs, h0]; omega
      rw [hq, dec_pre, pre_small (by omega), List.nil_append]
      congr 1
      apply UInt8.toNat_inj.1
      unfold dgt
      simp
      omega
    · have hh : p.head? ≠ some 48 := by
        rcases hc with hc | hc
        · exfalso
          have := congrArg List.length hc
          simp at this
          exact hp this
        · rwa [head_app _ hp] at hc
      have ihp := ih hd.1 hp (.inr hh)
      have hpos : 1 ≤ valI p := by
        rcases Int.lt_or_le (valI p) 1 with h | h
        · exfalso
          have h0 : valI p = 0 := by omega
          rw [h0] at ihp
          apply hh
          rw [← ihp]
          exact congrArg List.head? dec_zero
        · exact h
      have hq : (valI (p ++ [c])).toNat = (valI p).toNat * 10 + (c.toNat - 48) := by rw [hs]; omega
      rw [hq, dec_pre]
      unfold preD
      rw [if_neg (by omega), show ((valI p).toNat * 10 + (c.toNat - 48)) / 10 = (valI p).toNat from by omega, ihp]
      congr 2
      apply UInt8.toNat_inj.1
      unfold dgt
      simp
      omega
/-- A word is a number just if it is one written in its only way. -/
def numOk (w : List UInt8) : Bool :=
  let d := if w.head? = some 45 then w.drop 1 else w
  decide (1 ≤ d.length) && decide (d.length ≤ 15) && d.all isDg && (decide (w = [48]) || decide (d.head? ≠ some 48))
/-- What it counts. -/
def numV (w : List UInt8) : Int := if w.head? = some 45 then -valI (w.drop 1) else valI w
theorem num_pos (w : List UInt8) (h : w.head? ≠ some 45) (hl : w ≠ []) : Lib.itoa (valI w) = w ↔ (w.all isDg = true ∧ (w = [48] ∨ w.head? ≠ some 48)) := by
  constructor
  · intro e
    by_cases hn : valI w < 0
    · rw [itoa_negI _ hn] at e
      rw [← e] at h
      simp at h
    · rw [itoa_pos _ (by omega)] at e
      have hf := dec_facts (valI w).natAbs
      rw [e] at hf
      refine ⟨hf.1, ?_⟩
      by_cases h0 : valI w = 0
      · left
        rw [h0] at e
        exact e.symm.trans dec_zero
      · exact .inr (hf.2.2.2.2 (by omega))
  · rintro ⟨hd, hc⟩
    have hv := valI_digits w hd
    rw [itoa_pos _ hv, show (valI w).natAbs = (valI w).toNat from by omega]
    exact dec_back w hd hl hc
theorem num_neg (d : List UInt8) (hl : d ≠ []) : Lib.itoa (-valI d) = 45 :: d ↔ (d.all isDg = true ∧ d.head? ≠ some 48) := by
  constructor
  · intro e
    by_cases hn : -valI d < 0
    · rw [itoa_negI _ hn] at e
      have e2 : Lib.decDigits (-valI d).natAbs = d := by simpa using e
      have hf := dec_facts (-valI d).natAbs
      rw [e2] at hf
      exact ⟨hf.1, hf.2.2.2.2 (by omega)⟩
    · rw [itoa_pos _ (by omega)] at e
      have hf := (dec_facts (-valI d).natAbs).1
      rw [e] at hf
      simp [isDg] at hf
  · rintro ⟨hd, hc⟩
    have hv := valI_digits d hd
    have hb := dec_back d hd hl (.inr hc)
    have hpos : valI d ≠ 0 := fun h0 => by
      rw [h0] at hb
      apply hc
      rw [← hb]
      exact congrArg List.head? dec_zero
    rw [itoa_negI _ (by omega), show (-valI d).natAbs = (valI d).toNat from by omega, hb]
end Go.Proofs.YtnljpaohkkdjjaaGreatDoor
