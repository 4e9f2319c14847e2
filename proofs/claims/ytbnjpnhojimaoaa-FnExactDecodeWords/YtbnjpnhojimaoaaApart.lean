/- Two owned rows that lie apart. -/
import Derived.Test.YtbnjpnhojimaoaaBase
namespace Go.Proofs.Ytbnjpnhojimaoaa
open Go.RowKit

/-- Two owned rows, one below block m, one from m on. -/
theorem apart {v x : Value} (m : Nat) (h1 : ∀ k, v.ownBlock = some k → m ≤ k) (h2 : ∀ k, x.ownBlock = some k → k < m) : v.ownBlock = none ∨ v.ownBlock ≠ x.ownBlock := by
  cases hv : v.ownBlock with
  | none => exact .inl rfl
  | some k =>
    refine .inr fun h => ?_
    have a := h1 k hv
    have b := h2 k h.symm
    omega
theorem apart' {v x : Value} (m : Nat) (h1 : ∀ k, v.ownBlock = some k → k < m) (h2 : ∀ k, x.ownBlock = some k → m ≤ k) : v.ownBlock = none ∨ v.ownBlock ≠ x.ownBlock := by
  cases hv : v.ownBlock with
  | none => exact .inl rfl
  | some k =>
    refine .inr fun h => ?_
    have a := h1 k hv
    have b := h2 k h.symm
    omega
end Go.Proofs.Ytbnjpnhojimaoaa
