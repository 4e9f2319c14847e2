/- A number read at its width: number at its four widths. -/
import Derived.Test.YtlegmaadcemgnaaDoorReader
namespace Go.Proofs.YtlegmaadcemgnaaDoor
open Go.RowKit

/-- The number that bytes are, the lowest first. -/
def unle : List Int → Nat
  | [] => 0
  | z :: zs => z.toNat + 256 * unle zs
theorem unle_snoc (zs : List Int) (z : Int) : unle (zs ++ [z]) = unle zs + z.toNat * 256 ^ zs.length := by
  induction zs with
  | nil => simp [unle]
  | cons y ys ih =>
    rw [List.cons_append, unle, ih, unle, List.length_cons, Nat.pow_succ]
    have : z.toNat * (256 ^ ys.length * 256) = 256 * (z.toNat * 256 ^ ys.length) := by rw [← Nat.mul_assoc, Nat.mul_comm]
    omega
theorem unle_lt (zs : List Int) (h : ∀ z ∈ zs, 0 ≤ z ∧ z < 256) : unle zs < 256 ^ zs.length := by
  induction zs with
  | nil => simp [unle]
  | cons y ys ih =>
    have h1 := h y (by simp)
    have h2 := ih (fun z hz => h z (by simp [hz]))
    rw [unle, List.length_cons, Nat.pow_succ]
    have : y.toNat < 256 := by omega
    have h3 : unle ys + 1 ≤ 256 ^ ys.length := h2
    have := Nat.mul_le_mul_left 256 h3
    omega
theorem unle_take (zs : List Int) (k : Nat) (h : k < zs.length) : unle (zs.take (k + 1)) = unle (zs.take k) + (zs.getD k 0).toNat * 256 ^ k := by
  rw [List.take_succ_eq_append_getElem h, unle_snoc, List.length_take, Nat.min_eq_left (by omega)]
  simp [List.getD, h]

theorem or_step (q c k : Nat) (hq : q < 256 ^ k) (hc : c < 256) (hk : k < 8) : bits .or .u64 (q : Int) (IntKind.u64.wrap (IntKind.u64.wrap (c : Int) * 2 ^ (8 * k))) = ((q + c * 256 ^ k : Nat) : Int) := by
  have hp : (256 : Nat) ^ k = 2 ^ (8 * k) := by rw [Nat.pow_mul]
  have hle : (256 : Nat) ^ (k + 1) ≤ 256 ^ 8 := Nat.pow_le_pow_right (by decide) (by omega)
  have hmul : c * 256 ^ k + 256 ^ k ≤ 256 ^ (k + 1) := by
    rw [Nat.pow_succ, Nat.mul_comm (256 ^ k)]
    have := Nat.mul_le_mul_right (256 ^ k) (show c + 1 ≤ 256 by omega)
    rw [Nat.add_mul, Nat.one_mul] at this
    exact this
  have h64 : (256 : Nat) ^ 8 = 18446744073709551616 := by decide
  have w1 : ∀ n : Nat, n < 18446744073709551616 → IntKind.u64.wrap (n : Int) = n := by
    intro n hn
    simp only [IntKind.wrap, IntKind.bits, IntKind.signed]
    simp
    omega
  rw [w1 c (by omega)]
  have e : (c : Int) * 2 ^ (8 * k) = ((c * 256 ^ k : Nat) : Int) := by rw [hp]; simp
  rw [e, w1 _ (by omega), u64_or_nat q (c * 256 ^ k) (by omega) (by omega), Nat.or_comm]
  rw [nat_join (8 * k) (c * 256 ^ k) q (by rw [hp, Nat.mul_mod_left]) (by rw [← hp]; exact hq), Nat.add_comm]
theorem or_step' (q c k : Nat) (hq : q < 256 ^ k) (hc : c < 256) (hk : k < 8) : bits .or .u64 (q : Int) (IntKind.u64.wrap ((c : Int) * 2 ^ (8 * k))) = ((q + c * 256 ^ k : Nat) : Int) := by
  have h := or_step q c k hq hc hk
  have w1 : IntKind.u64.wrap (c : Int) = c := by
    simp only [IntKind.wrap, IntKind.bits, IntKind.signed]
    simp
    omega
  rw [w1] at h
  exact h
/-- What number leaves, of m bytes: their number and a reader that much further; or 0 and a fault. -/
def Numd (w0 w w' : World) (b lo : Nat) (ok : Bool) (dv : Value) (zs : List Int) (pos m x : Nat) : Prop :=
  w.grownBy w' (some b) ∧ ((ok = true ∧ pos + m ≤ zs.length ∧ x = unle ((zs.drop pos).take m) ∧ Rdr w0 w' b lo true dv zs (pos + m)) ∨ (¬ (ok = true ∧ pos + m ≤ zs.length) ∧ x = 0 ∧ Rdr w0 w' b lo false dv zs pos))

end Go.Proofs.YtlegmaadcemgnaaDoor
