/- What follows a region is walked once, whatever way the region took. -/
import Derived.WalkKit
namespace Go.Proofs.Ytdkdmakjkodomaa

/-- What is to hold behind a region, alone. -/
def Mid (M : Act → World → Prop) : Exit → Act → World → Prop
  | .normal, a, w => M a w
  | _, _, _ => False
theorem region_mid {P : Program} {id : Nat} {ops : Array Oper} {b : Bool} {Q : Exit → Act → World → Prop} {a : Act} {w : World} (M : Act → World → Prop) (h1 : (Code.region id ops b).wp P (Mid M) a w) (h2 : ∀ a w, M a w → Q .normal a w) : (Code.region id ops b).wp P Q a w :=
  Code.wp_mono (fun e a w h => by cases e <;> first | exact h2 _ _ h | exact (h : False).elim) h1
end Go.Proofs.Ytdkdmakjkodomaa
