/- An image's size: rightInSize of the program, L01Blocks of the model. A run of operations on a device, as a plain thing. -/
import Derived.Test.YthghibopnnjboaaZi12
import Derived.Test.YthghibopnnjboaaZi01
import Derived.Test.YthghibopnnjboaaZi25
import Derived.Test.YthghibopnnjboaaZi29
namespace Go.Proofs.Ythghibopnnjboaa
set_option linter.unusedVariables false
set_option linter.unusedSimpArgs false
open Go.RowKit

/-- An image of so many bytes is right in size. -/
def szOk (n : Nat) : Bool := decide (n % 512 = 0) && (decide (64 ≤ n / 512) && decide (n / 512 ≤ 2048))
theorem rightInSize_any (v : Value) (zs : List Int) (w : World) (h : Rd .u8 w v zs) (hz : zs.length ≤ 140737488355328) :
    Calls Try.prog 25 #[v] w fun e w' => e = .returned (.bool (szOk zs.length)) ∧ w = w' := by
  obtain ⟨a, cap, rfl⟩ : ∃ a cap, v = .slice a zs.length cap := by obtain ⟨a, cap, h1, _⟩ := h; exact ⟨a, cap, h1⟩
  clear h
  generalize zs.length = n at hz ⊢
  by_cases h1 : n % 512 = 0
  · have hq1 : ((n : Int) % 512 == 0) = true := by simp; omega
    by_cases h2 : 64 ≤ n / 512
    · have hq2 : decide ((64 : Int) ≤ (n : Int) / 512) = true := by simp; omega
      have HR := hide (show szOk n = decide ((n : Int) / 512 ≤ 2048) from by unfold szOk; rw [decide_eq_true h1, decide_eq_true h2, Bool.true_and, Bool.true_and, decide_eq_decide]; omega)
      clear h1 h2
      go_enter Try.func25, Try.ntmps25
      go_wp2
      go_ret
      exact ⟨ret_bool (by rw [HR.out]), rfl⟩
    · have hq2 : decide ((64 : Int) ≤ (n : Int) / 512) = false := by simp; omega
      have HR := hide (show szOk n = false from by unfold szOk; rw [decide_eq_false h2, Bool.false_and, Bool.and_false])
      clear h1 h2
      go_enter Try.func25, Try.ntmps25
      go_wp2
      go_ret
      exact ⟨ret_bool (by first | rfl | rw [HR.out]), rfl⟩
  · have hq1 : ((n : Int) % 512 == 0) = false := by simp; omega
    have HR := hide (show szOk n = false from by unfold szOk; rw [decide_eq_false h1, Bool.false_and])
    clear h1
    go_enter Try.func25, Try.ntmps25
    go_wp2
    go_ret
    exact ⟨ret_bool (by first | rfl | rw [HR.out]), rfl⟩
theorem blocks_any (v : Value) (zs : List Int) (w : World) (h : Rd .u8 w v zs) (hz : zs.length ≤ 140737488355328) :
    Calls Try.prog 30 #[v] w fun e w' => e = .returned (.int .i64 (if szOk zs.length = true then ((zs.length / 512 : Nat) : Int) else 0)) ∧ w = w' := by
  obtain ⟨a, cap, rfl⟩ : ∃ a cap, v = .slice a zs.length cap := by obtain ⟨a, cap, h1, _⟩ := h; exact ⟨a, cap, h1⟩
  clear h
  generalize zs.length = n at hz ⊢
  obtain ⟨m, hm⟩ : ∃ m, m = n / 512 := ⟨_, rfl⟩
  have e1 : (n : Int) / 512 = (m : Int) := by omega
  rw [← hm]
  by_cases h1 : n % 512 = 0
  · have hq1 : (((m : Int) * 512) != (n : Int)) = false := by simp; omega
    by_cases h2 : 64 ≤ n / 512
    · have hq2 : decide ((m : Int) < 64) = false := by simp; omega
      by_cases h3 : n / 512 ≤ 2048
      · have hq3 : decide ((2048 : Int) < (m : Int)) = false := by simp; omega
        have HR := hide (show (if szOk n = true then ((m : Nat) : Int) else 0) = (m : Int) from by unfold szOk; rw [decide_eq_true h1, decide_eq_true h2, decide_eq_true h3]; rfl)
        rw [HR.out]
        have hm9 : m ≤ 2048 := by omega
        clear h1 h2 h3 hm
        go_enter Try.func30, Try.ntmps30
        go_wp2
        go_ret
        exact ⟨rfl, rfl⟩
      · have hq3 : decide ((2048 : Int) < (m : Int)) = true := by simp; omega
        have HR := hide (show (if szOk n = true then ((m : Nat) : Int) else 0) = 0 from by unfold szOk; rw [decide_eq_false h3, Bool.and_false, Bool.and_false]; rfl)
        rw [HR.out]
        have hm9 : m ≤ 300000000000 := by omega
        clear h1 h2 h3 hm
        go_enter Try.func30, Try.ntmps30
        go_wp2
        go_ret
        exact ⟨rfl, rfl⟩
    · have hq2 : decide ((m : Int) < 64) = true := by simp; omega
      have HR := hide (show (if szOk n = true then ((m : Nat) : Int) else 0) = 0 from by unfold szOk; rw [decide_eq_false h2, Bool.false_and, Bool.and_false]; rfl)
      rw [HR.out]
      have hm9 : m ≤ 2048 := by omega
      clear h1 h2 hm
      go_enter Try.func30, Try.ntmps30
      go_wp2
      go_ret
      exact ⟨rfl, rfl⟩
  · have hq1 : (((m : Int) * 512) != (n : Int)) = true := by simp; omega
    have HR := hide (show (if szOk n = true then ((m : Nat) : Int) else 0) = 0 from by unfold szOk; rw [decide_eq_false h1, Bool.false_and]; rfl)
    rw [HR.out]
    have hm9 : m ≤ 300000000000 := by omega
    clear h1 hm
    go_enter Try.func30, Try.ntmps30
    go_wp2
    go_ret
    exact ⟨rfl, rfl⟩
end Go.Proofs.Ythghibopnnjboaa

namespace Go.Proofs.Ythghibopnnjboaa
set_option linter.unusedVariables false
set_option linter.unusedSimpArgs false
open Go.RowKit

abbrev DO := Int × Int × List Int
/-- The device behind operations; their answers. -/
def stS (m : Nat) (L : List DO) (s : DS) : DS := L.foldl (fun s o => (doS m o.1 o.2.1 o.2.2 s).1) s
def anS (m : Nat) : List DO → DS → List (Int × List Int)
  | [], _ => []
  | o :: L, s => (doS m o.1 o.2.1 o.2.2 s).2 :: anS m L (doS m o.1 o.2.1 o.2.2 s).1
theorem stS_snoc (m : Nat) (L : List DO) (o : DO) (s : DS) : stS m (L ++ [o]) s = (doS m o.1 o.2.1 o.2.2 (stS m L s)).1 := by
  unfold stS
  rw [List.foldl_append]
  rfl
theorem anS_snoc (m : Nat) : ∀ (L : List DO) (o : DO) (s : DS), anS m (L ++ [o]) s = anS m L s ++ [(doS m o.1 o.2.1 o.2.2 (stS m L s)).2]
  | [], o, s => rfl
  | x :: L, o, s => by
    show _ :: anS m (L ++ [o]) _ = _ :: (anS m L _ ++ _)
    rw [anS_snoc m L o]
    rfl
theorem anS_len (m : Nat) : ∀ (L : List DO) (s : DS), (anS m L s).length = L.length
  | [], _ => rfl
  | x :: L, s => by show (anS m L _).length + 1 = _; rw [anS_len m L]; rfl
theorem maJ_le (f : Int) : maJ f ≤ 4 := by unfold maJ; split <;> omega
/-- What stays right of a device. -/
structure OkS (n : Nat) (c : Nat) (s : DS) : Prop where
  len : s.F.length = n
  ok : ∀ x ∈ s.C, x.1 + x.2.length ≤ n
  cl : s.C.length ≤ c
  fu : s.fu < 9223372036854775808
theorem fuJ_le (f : Int) (j : Nat) : fuJ f j ≤ f := by unfold fuJ; split <;> omega
theorem doS_ok {m n c : Nat} {s : DS} (h : OkS n c s) (hm : n = m * 512) (k A : Int) (D : List Int) (hA : A < 9223372036854775808) : OkS n (c + 4) (doS m k A D s).1 := by
  have hmk : ∀ C' : List (Nat × List Int), (∀ x ∈ C', x ∈ s.C) → (mkW s.F C').length = n := fun C' hC => by
    rw [mkW_len _ _ (fun x hx => by rw [h.len]; exact h.ok x (hC x hx)), h.len]
  have hself : OkS n (c + 4) s := ⟨h.len, h.ok, Nat.le_trans h.cl (by omega), h.fu⟩
  unfold doS
  split
  · exact ⟨h.len, h.ok, Nat.le_trans h.cl (by omega), hA⟩
  · split
    · exact ⟨hmk _ (keptTo_mem D s.C _), fun x hx => (by cases hx), by simp, by show (-1 : Int) < _; omega⟩
    · split
      · exact hself
      · split
        · split <;> exact hself
        · split
          · split
            · rename_i hA2
              split
              · rename_i hD
                refine ⟨h.len, ?_, ?_, ?_⟩
                · have hAm : A.toNat < m := by omega
                  have := wrC_ok (C := s.C) (B := A.toNat) (D := D) (I := s.F) (j := maJ s.fu) (fun x hx => by rw [h.len]; exact h.ok x hx) hD (by rw [h.len, hm]; omega) (maJ_le _)
                  rw [h.len] at this
                  exact this
                · show (wrC s.C A.toNat D (maJ s.fu)).length ≤ _
                  rw [wrC_len]
                  have := maJ_le s.fu
                  have := h.cl
                  omega
                · exact Int.lt_of_le_of_lt (fuJ_le _ _) h.fu
              · exact hself
            · exact hself
          · split
            · exact ⟨hmk _ (fun x hx => hx), fun x hx => (by cases hx), by simp, h.fu⟩
            · exact hself
theorem stS_ok {m n c : Nat} {s : DS} (h : OkS n c s) (hm : n = m * 512) : ∀ (L : List DO), (∀ o ∈ L, o.2.1 < 9223372036854775808) → OkS n (c + 4 * L.length) (stS m L s) := by
  intro L
  induction L generalizing s c with
  | nil => intro _; exact h
  | cons o L ih =>
    intro hL
    have h1 := doS_ok h hm o.1 o.2.1 o.2.2 (hL o (by simp))
    have h2 := ih h1 (fun x hx => hL x (by simp [hx]))
    rw [show c + 4 * (o :: L).length = c + 4 + 4 * L.length by simp; omega]
    exact h2
/-- A new device. -/
def newS (zs : List Int) : DS := ⟨zs, [], -1, false⟩
theorem newS_ok (zs : List Int) : OkS zs.length 0 (newS zs) := ⟨rfl, fun x hx => (by cases hx), Nat.le_refl _, by show (-1 : Int) < _; omega⟩
/-- An answer as an element. -/
def neA (a : Int × List Int) : NE := ([.int .i64 a.1], a.2)
/-- What DiskRun answers: the code, the answers, the image, what is seen, how much is cached. -/
def runD (zs : List Int) (P : List DO) : Int × List (Int × List Int) × List Int × List Int × Int :=
  if szOk zs.length = true then
    if 4000 < P.length then (23, [], [], [], 0)
    else (0, anS (zs.length / 512) P (newS zs), (stS (zs.length / 512) P (newS zs)).F, mkW (stS (zs.length / 512) P (newS zs)).F (stS (zs.length / 512) P (newS zs)).C, ((stS (zs.length / 512) P (newS zs)).C.length : Nat))
  else (7, [], [], [], 0)
theorem szOk_iff {n : Nat} (h : szOk n = true) : n = n / 512 * 512 ∧ 64 ≤ n / 512 ∧ n / 512 ≤ 2048 := by
  unfold szOk at h
  simp only [Bool.and_eq_true, decide_eq_true_eq] at h
  omega
/-- A DiskOut that is the call's own. -/
structure OwnO (W : World) (base : Nat) (va v2 v3 : Value) (r : Int × List (Int × List Int) × List Int × List Int × Int) (vs : List Value) : Prop where
  ans : OwnN W base 55 1 va (r.2.1.map neA) vs
  img : W.ownsRow base 5 1 v2 r.2.2.1.length (r.2.2.1.map (Value.int .u8))
  see : W.ownsRow base 5 1 v3 r.2.2.2.1.length (r.2.2.2.1.map (Value.int .u8))
theorem infoA2z : (Try.prog.info? 55).map (fun i => (i.zero, i.size, i.bytes)) = some (some (.agg #[.int .i64 0, .slice none 0 0]), 2, 32) := by kernel_rfl
theorem infoO5 : (Try.prog.info? 33).map (·.size) = some 5 := by kernel_rfl
end Go.Proofs.Ythghibopnnjboaa
