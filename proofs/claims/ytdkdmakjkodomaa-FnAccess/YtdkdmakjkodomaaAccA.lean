/- MayAccess of the program and of the model: the three bits of the mode that count. -/
import Derived.Test.YtdkdmakjkodomaaBase
import Derived.Test.YtdkdmakjkodomaaCells
import Derived.Test.YtdkdmakjkodomaaPure
namespace Go.Proofs.Ytdkdmakjkodomaa
set_option linter.unusedVariables false
set_option linter.unusedSimpArgs false
open Go.RowKit

/-- A node's value: nine integers and its bytes. -/
abbrev nodeV (k l m u g p e t c : Int) (v : Value) : Value := .agg #[.int .i64 k, .int .i64 l, .int .i64 m, .int .i64 u, .int .i64 g, .int .i64 p, .int .i64 e, .int .i64 t, .int .i64 c, v]

/-- All bits of want (0 to 7) are in the lowest three of m. -/
def accB (m want : Int) : Bool := (want.toNat &&& (7 - (m % 8).toNat)) == 0
def mayB (m u g uid gid want : Int) : Bool :=
  if want < 0 ∨ 7 < want then false else if uid = 0 then true else accB (if uid = u then m / 64 else if gid = g then m / 8 else m) want

theorem natB (n : Nat) : ((n : Int) == 0) = (n == 0) := by cases n <;> rfl
theorem low3 : ∀ (c x : Nat), c < 8 → c &&& x = c &&& (x % 8) := by
  intro c x hc
  have h1 : c = c &&& 7 := by
    have : c % 8 = c := Nat.mod_eq_of_lt hc
    rw [show (7 : Nat) = 2 ^ 3 - 1 from rfl, Nat.and_two_pow_sub_one_eq_mod]; omega
  have h2 : x % 8 = 7 &&& x := by
    rw [Nat.and_comm, show (7 : Nat) = 2 ^ 3 - 1 from rfl, Nat.and_two_pow_sub_one_eq_mod]
  rw [h2, ← Nat.and_assoc, ← h1]
theorem andNot_low (c : Nat) (hc : c < 8) (m : Int) : bits .andNot .i64 (c : Int) m = ((c &&& (7 - (m % 8).toNat) : Nat) : Int) := by
  have hx : ∀ y : Nat, c &&& y < 8 := fun y => by
    have := Nat.and_le_left (n := c) (m := y); omega
  show IntKind.i64.wrap ((BitVec.ofInt 64 (c : Int) &&& ~~~BitVec.ofInt 64 m).toNat : Int) = _
  have e1 : (BitVec.ofInt 64 (c : Int)).toNat = c := by simp [BitVec.toNat_ofInt]; omega
  have e2 : (BitVec.ofInt 64 m).toNat = (m % 18446744073709551616).toNat := by simp [BitVec.toNat_ofInt]
  rw [BitVec.toNat_and, BitVec.toNat_not, e1, e2]
  have e3 : (2 ^ 64 - 1 - (m % 18446744073709551616).toNat) % 8 = 7 - (m % 8).toNat := by omega
  rw [low3 _ _ hc, e3]
  have := hx (7 - (m % 8).toNat)
  generalize c &&& (7 - (m % 8).toNat) = y at this
  simp [IntKind.wrap, IntKind.bits, IntKind.signed]
  omega
theorem and1 (x : Int) : bits .and .i64 x 1 = x % 2 := by
  show IntKind.i64.wrap ((BitVec.ofInt 64 x &&& BitVec.ofInt 64 1).toNat : Int) = _
  have e2 : (BitVec.ofInt 64 x).toNat = (x % 18446744073709551616).toNat := by simp [BitVec.toNat_ofInt]
  have e1 : (BitVec.ofInt 64 1).toNat = 1 := by decide
  rw [BitVec.toNat_and, e1, e2, Nat.and_one_is_mod]
  have h1 : ((x % 18446744073709551616).toNat % 2 : Nat) = (x % 2).toNat := by omega
  rw [h1]
  have h2 : 0 ≤ x % 2 := by omega
  have h3 : x % 2 < 2 := by omega
  generalize x % 2 = y at h2 h3
  simp [IntKind.wrap, IntKind.bits, IntKind.signed]
  omega

theorem implMay_any (k l m u g p e t c : Int) (v : Value) (uid gid want : Int) (w : World) :
    Calls Try.prog 9 #[nodeV k l m u g p e t c v, .int .i64 uid, .int .i64 gid, .int .i64 want] w fun e w' => e = .returned (.bool (mayB m u g uid gid want)) ∧ Below w.heap.size w w' := by
  unfold mayB nodeV
  by_cases h0 : want < 0
  · rw [if_pos (Or.inl h0)]
    go_enter Try.func9, Try.ntmps9
    go_wp2
    go_ret
    exact ⟨rfl, (Below.refl _ _).alloc (Nat.le_refl _) _⟩
  by_cases h7 : 7 < want
  · rw [if_pos (Or.inr h7)]
    go_enter Try.func9, Try.ntmps9
    go_wp2
    go_ret
    exact ⟨rfl, (Below.refl _ _).alloc (Nat.le_refl _) _⟩
  rw [if_neg (by omega)]
  by_cases hu0 : uid = 0
  · subst hu0
    rw [if_pos rfl]
    go_enter Try.func9, Try.ntmps9
    go_wp2
    go_ret
    exact ⟨rfl, (Below.refl _ _).alloc (Nat.le_refl _) _⟩
  rw [if_neg hu0]
  obtain ⟨c0, rfl⟩ := Int.eq_ofNat_of_zero_le (by omega : 0 ≤ want)
  have hc : c0 < 8 := by omega
  by_cases hu : uid = u
  · subst hu
    rw [if_pos rfl]
    have hb := andNot_low c0 hc (m / 64)
    go_enter Try.func9, Try.ntmps9
    go_wp2
    go_ret
    exact ⟨ret_bool (natB _), (Below.refl _ _).alloc (Nat.le_refl _) _⟩
  rw [if_neg hu]
  by_cases hg : gid = g
  · subst hg
    rw [if_pos rfl]
    have hb := andNot_low c0 hc (m / 8)
    go_enter Try.func9, Try.ntmps9
    go_wp2
    go_ret
    exact ⟨ret_bool (natB _), (Below.refl _ _).alloc (Nat.le_refl _) _⟩
  · rw [if_neg hg]
    have hb := andNot_low c0 hc m
    go_enter Try.func9, Try.ntmps9
    go_wp2
    go_ret
    exact ⟨ret_bool (natB _), (Below.refl _ _).alloc (Nat.le_refl _) _⟩
theorem bit_ok : ∀ (c y : Nat), c < 8 → y < 8 → (c &&& (7 - y) == 0) = (!(c % 2 == 1 && y % 2 == 0) && !(c / 2 % 2 == 1 && y / 2 % 2 == 0) && !(c / 4 % 2 == 1 && y / 4 % 2 == 0)) := by
  intro c y hc hy
  have h : ∀ c : Fin 8, ∀ y : Fin 8, (c.1 &&& (7 - y.1) == 0) = (!(c.1 % 2 == 1 && y.1 % 2 == 0) && !(c.1 / 2 % 2 == 1 && y.1 / 2 % 2 == 0) && !(c.1 / 4 % 2 == 1 && y.1 / 4 % 2 == 0)) := by decide
  exact h ⟨c, hc⟩ ⟨y, hy⟩
/-- Bit p of want isn't asked, or is in m. -/
def bitOk (m want : Int) (p : Nat) : Bool := !(want / 2 ^ p % 2 == 1 && m / 2 ^ p % 2 == 0)
theorem acc_bits (m want : Int) (h0 : 0 ≤ want) (h7 : want ≤ 7) : accB m want = (bitOk m want 0 && bitOk m want 1 && bitOk m want 2) := by
  unfold accB
  rw [bit_ok _ _ (by omega) (by omega)]
  unfold bitOk
  have e : ∀ a b : Int, ∀ x y : Nat, (a = (x : Int)) → (b = (y : Int)) → (!(x == 1 && y == 0)) = (!(a == 1 && b == 0)) := by
    intro a b x y h1 h2
    subst h1; subst h2
    cases x with
    | zero => simp
    | succ n => cases n with
      | zero => simp [natB]
      | succ k => simp; omega
  rw [e (want / 2 ^ 0 % 2) (m / 2 ^ 0 % 2) _ _ (by omega) (by omega), e (want / 2 ^ 1 % 2) (m / 2 ^ 1 % 2) _ _ (by omega) (by omega), e (want / 2 ^ 2 % 2) (m / 2 ^ 2 % 2) _ _ (by omega) (by omega)]

theorem bits_any (m want : Int) (w : World) (h0 : 0 ≤ want) (h7 : want ≤ 7) :
    Calls Try.prog 25 #[.int .i64 m, .int .i64 want] w fun e w' => e = .returned (.bool (accB m want)) ∧ w' = w := by
  rw [acc_bits m want h0 h7]
  have a0 := and1 want
  have a1 := and1 (want / 2)
  have a2 := and1 (want / 4)
  have b0 := and1 m
  have b1 := and1 (m / 2)
  have b2 := and1 (m / 4)
  go_enter Try.func25, Try.ntmps25
  go_wp2
  go_loop [5] (fun i => ∃ k : Nat, k ≤ 3 ∧ i = .int .i64 k ∧ ∀ p < k, bitOk m want p = true) (fun i => 3 - (intOf i).toNat)
  case atStart => exact ⟨0, by omega, rfl, fun p hp => by omega⟩
  case round =>
    obtain ⟨k, hk, rfl, hall⟩ := hrel
    have HA := hide hall
    clear hall
    rcases (by omega : k = 0 ∨ k = 1 ∨ k = 2 ∨ k = 3) with rfl | rfl | rfl | rfl
    · -- bit 0
      by_cases hw : want / 1 % 2 = 1
      · by_cases hm : m / 1 % 2 = 0
        · have hf : bitOk m want 0 = false := by unfold bitOk; simp; exact ⟨by omega, by omega⟩
          go_wp2
          go_ret
          exact ⟨ret_bool (by simp [hf]), rfl⟩
        · have hf : bitOk m want 0 = true := by unfold bitOk; simp; omega
          go_wp2
          go_round
          case rel => exact ⟨1, by omega, by go_num, fun p hp => by rcases Nat.lt_succ_iff_lt_or_eq.1 hp with h | h; exact HA.out p h; subst h; exact hf⟩
          case measure => simp [intOf]
      · have hf : bitOk m want 0 = true := by unfold bitOk; simp; omega
        go_wp2
        go_round
        case rel => exact ⟨1, by omega, by go_num, fun p hp => by rcases Nat.lt_succ_iff_lt_or_eq.1 hp with h | h; exact HA.out p h; subst h; exact hf⟩
        case measure => simp [intOf]
    · -- bit 1
      by_cases hw : want / 2 % 2 = 1
      · by_cases hm : m / 2 % 2 = 0
        · have hf : bitOk m want 1 = false := by unfold bitOk; simp; exact ⟨by omega, by omega⟩
          go_wp2
          go_ret
          exact ⟨ret_bool (by simp [hf]), rfl⟩
        · have hf : bitOk m want 1 = true := by unfold bitOk; simp; omega
          go_wp2
          go_round
          case rel => exact ⟨2, by omega, by go_num, fun p hp => by rcases Nat.lt_succ_iff_lt_or_eq.1 hp with h | h; exact HA.out p h; subst h; exact hf⟩
          case measure => simp [intOf]
      · have hf : bitOk m want 1 = true := by unfold bitOk; simp; omega
        go_wp2
        go_round
        case rel => exact ⟨2, by omega, by go_num, fun p hp => by rcases Nat.lt_succ_iff_lt_or_eq.1 hp with h | h; exact HA.out p h; subst h; exact hf⟩
        case measure => simp [intOf]
    · -- bit 2
      by_cases hw : want / 4 % 2 = 1
      · by_cases hm : m / 4 % 2 = 0
        · have hf : bitOk m want 2 = false := by unfold bitOk; simp; exact ⟨by omega, by omega⟩
          go_wp2
          go_ret
          exact ⟨ret_bool (by simp [hf]), rfl⟩
        · have hf : bitOk m want 2 = true := by unfold bitOk; simp; omega
          go_wp2
          go_round
          case rel => exact ⟨3, by omega, by go_num, fun p hp => by rcases Nat.lt_succ_iff_lt_or_eq.1 hp with h | h; exact HA.out p h; subst h; exact hf⟩
          case measure => simp [intOf]
      · have hf : bitOk m want 2 = true := by unfold bitOk; simp; omega
        go_wp2
        go_round
        case rel => exact ⟨3, by omega, by go_num, fun p hp => by rcases Nat.lt_succ_iff_lt_or_eq.1 hp with h | h; exact HA.out p h; subst h; exact hf⟩
        case measure => simp [intOf]
    · have e0 := HA.out 0 (by omega)
      have e1 := HA.out 1 (by omega)
      have e2 := HA.out 2 (by omega)
      go_wp2
      go_ret
      exact ⟨ret_bool (by simp [e0, e1, e2]), rfl⟩

theorem specMay_any (k l m u g p e t c : Int) (v : Value) (uid gid want : Int) (w : World) :
    Calls Try.prog 11 #[nodeV k l m u g p e t c v, .int .i64 uid, .int .i64 gid, .int .i64 want] w fun e w' => e = .returned (.bool (mayB m u g uid gid want)) ∧ Below w.heap.size w w' := by
  unfold mayB nodeV
  by_cases h0 : want < 0
  · rw [if_pos (Or.inl h0)]
    go_enter Try.func11, Try.ntmps11
    go_wp2
    go_ret
    exact ⟨rfl, (Below.refl _ _).alloc (Nat.le_refl _) _⟩
  by_cases h7 : 7 < want
  · rw [if_pos (Or.inr h7)]
    go_enter Try.func11, Try.ntmps11
    go_wp2
    go_ret
    exact ⟨rfl, (Below.refl _ _).alloc (Nat.le_refl _) _⟩
  rw [if_neg (by omega)]
  by_cases hu0 : uid = 0
  · subst hu0
    rw [if_pos rfl]
    go_enter Try.func11, Try.ntmps11
    go_wp2
    go_ret
    exact ⟨rfl, (Below.refl _ _).alloc (Nat.le_refl _) _⟩
  rw [if_neg hu0]
  by_cases hu : uid = u
  · subst hu
    rw [if_pos rfl]
    go_enter Try.func11, Try.ntmps11
    go_wp2_with (go_at_call 25; refine (bits_any (m / 64) want _ (by omega) (by omega)).mono ?_; rintro e w1 ⟨rfl, rfl⟩)
    go_ret
    exact ⟨rfl, (Below.refl _ _).alloc (Nat.le_refl _) _⟩
  rw [if_neg hu]
  by_cases hg : gid = g
  · subst hg
    rw [if_pos rfl]
    go_enter Try.func11, Try.ntmps11
    go_wp2_with (go_at_call 25; refine (bits_any (m / 8) want _ (by omega) (by omega)).mono ?_; rintro e w1 ⟨rfl, rfl⟩)
    go_ret
    exact ⟨rfl, (Below.refl _ _).alloc (Nat.le_refl _) _⟩
  · rw [if_neg hg]
    go_enter Try.func11, Try.ntmps11
    go_wp2_with (go_at_call 25; refine (bits_any m want _ (by omega) (by omega)).mono ?_; rintro e w1 ⟨rfl, rfl⟩)
    go_ret
    exact ⟨rfl, (Below.refl _ _).alloc (Nat.le_refl _) _⟩
end Go.Proofs.Ytdkdmakjkodomaa
