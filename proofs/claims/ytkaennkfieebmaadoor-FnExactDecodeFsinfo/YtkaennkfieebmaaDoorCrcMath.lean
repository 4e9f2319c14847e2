/- The sum by eight steps a byte and by a table of a byte's part are one: plain arithmetic. -/
import Derived.WalkKit
namespace Go.Proofs.YtkaennkfieebmaaDoor.Crc

/-- One of the eight steps of a byte. -/
def stp (n : Nat) : Nat := if n % 2 = 1 then (n / 2) ^^^ 3988292384 else n / 2
def rep : Nat → Nat → Nat
  | 0, n => n
  | k + 1, n => rep k (stp n)

theorem stp_xor (a b : Nat) : stp (a ^^^ b) = stp a ^^^ stp b := by
  unfold stp
  have hm : (a ^^^ b) % 2 = (a + b) % 2 := by
    have h := Nat.xor_mod_two_eq_one (a := a) (b := b)
    omega
  rw [Nat.xor_div_two, hm]
  rcases Nat.mod_two_eq_zero_or_one a with ha | ha <;> rcases Nat.mod_two_eq_zero_or_one b with hb | hb
  · rw [if_neg (by omega), if_neg (by omega), if_neg (by omega)]
  · rw [if_pos (by omega), if_neg (by omega), if_pos (by omega), Nat.xor_assoc]
  · rw [if_pos (by omega), if_pos (by omega), if_neg (by omega), Nat.xor_assoc, Nat.xor_assoc, Nat.xor_comm (b / 2)]
  · rw [if_neg (by omega), if_pos (by omega), if_pos (by omega)]
    rw [Nat.xor_assoc, Nat.xor_comm (b / 2), ← Nat.xor_assoc 3988292384, Nat.xor_self, Nat.zero_xor]

theorem rep_xor : ∀ (k a b : Nat), rep k (a ^^^ b) = rep k a ^^^ rep k b
  | 0, _, _ => rfl
  | k + 1, a, b => by simp only [rep]; rw [stp_xor, rep_xor k]

theorem rep_shift : ∀ (k q : Nat), rep k (2 ^ k * q) = q
  | 0, q => by simp [rep]
  | k + 1, q => by
    have : stp (2 ^ (k + 1) * q) = 2 ^ k * q := by
      have e : 2 ^ (k + 1) * q = 2 * (2 ^ k * q) := by rw [Nat.pow_succ, Nat.mul_comm (2 ^ k) 2, Nat.mul_assoc]
      unfold stp
      rw [e, if_neg (by omega)]
      omega
    simp only [rep]
    rw [this, rep_shift k]

theorem rep_snoc : ∀ (k n : Nat), rep (k + 1) n = stp (rep k n)
  | 0, _ => rfl
  | k + 1, n => by
    show rep (k + 1) (stp n) = stp (rep k (stp n))
    exact rep_snoc k (stp n)

theorem split256 (x : Nat) : x = (2 ^ 8 * (x / 256)) ^^^ (x % 256) := by
  have h : (2 ^ 8 * (x / 256)) ^^^ (x % 256) = 2 ^ 8 * (x / 256) + x % 256 := by
    apply Nat.eq_of_testBit_eq
    intro i
    rw [Nat.testBit_xor, Nat.testBit_two_pow_mul_add _ (by omega), Nat.testBit_two_pow_mul]
    by_cases hi : i < 8
    · rw [if_pos hi]
      have : ¬ (8 ≤ i) := by omega
      simp [this]
    · rw [if_neg hi]
      have : (x % 256).testBit i = false := Nat.testBit_lt_two_pow (Nat.lt_of_lt_of_le (Nat.mod_lt _ (by decide)) (Nat.pow_le_pow_right (n := 2) (by decide) (by omega : 8 ≤ i)))
      rw [this]; simp; omega
  rw [h]; omega

theorem rep8_split (x : Nat) : rep 8 x = (x / 256) ^^^ rep 8 (x % 256) := by
  conv => lhs; rw [split256 x]
  rw [rep_xor, rep_shift]

theorem xor_div256 (r c : Nat) (hc : c < 256) : (r ^^^ c) / 256 = r / 256 := by
  have := Nat.xor_div_two_pow (a := r) (b := c) (n := 8)
  rw [show (2 : Nat) ^ 8 = 256 from rfl] at this
  rw [this, Nat.div_eq_of_lt hc, Nat.xor_zero]

/-- The table's way and the eight steps are one. -/
theorem byte_eq (r c : Nat) (hc : c < 256) : (r / 256) ^^^ rep 8 ((r ^^^ c) % 256) = rep 8 (r ^^^ c) := by
  rw [rep8_split (r ^^^ c), xor_div256 r c hc]

theorem stp_lt (n : Nat) (h : n < 4294967296) : stp n < 4294967296 := by
  unfold stp
  split
  · exact Nat.xor_lt_two_pow (n := 32) (by omega) (by decide)
  · omega
theorem rep_lt : ∀ (k n : Nat), n < 4294967296 → rep k n < 4294967296
  | 0, _, h => h
  | k + 1, n, h => rep_lt k _ (stp_lt n h)
theorem xor_lt (a b : Nat) (ha : a < 4294967296) (hb : b < 4294967296) : a ^^^ b < 4294967296 := Nat.xor_lt_two_pow (n := 32) ha hb

def crcStep (r : Nat) (c : Int) : Nat := rep 8 (r ^^^ c.toNat)
def crcFold (zs : List Int) : Nat := zs.foldl crcStep 4294967295
def crc (zs : List Int) : Nat := crcFold zs ^^^ 4294967295

theorem fold_lt (zs : List Int) (hz : ∀ z ∈ zs, 0 ≤ z ∧ z < 256) : crcFold zs < 4294967296 := by
  unfold crcFold
  suffices ∀ (r : Nat), r < 4294967296 → zs.foldl crcStep r < 4294967296 from this _ (by decide)
  induction zs with
  | nil => intro r h; exact h
  | cons z zs ih =>
    intro r h
    rw [List.foldl_cons]
    have := hz z (by simp)
    exact ih (fun y hy => hz y (by simp [hy])) _ (rep_lt _ _ (xor_lt _ _ h (by omega)))

theorem fold_snoc (zs : List Int) (z : Int) : crcFold (zs ++ [z]) = crcStep (crcFold zs) z := by simp [crcFold]
theorem fold_take (zs : List Int) (k : Nat) (h : k < zs.length) : crcFold (zs.take (k + 1)) = crcStep (crcFold (zs.take k)) (zs.getD k 0) := by
  rw [List.take_succ_eq_append_getElem h, fold_snoc]
  simp [List.getD, h]
end Go.Proofs.YtkaennkfieebmaaDoor.Crc
