/- What an operation's kind names: l12Named, L15Named. -/
import Derived.Test.YtohmjfagbhnieaaGreatDoorZl05
namespace Go.Proofs.YtohmjfagbhnieaaGreatDoor
set_option linter.unusedVariables false
set_option linter.unusedSimpArgs false
open Go.RowKit

theorem kind17 {K : Int} (h0 : 1 ≤ K) (h1 : K ≤ 17) : K = 1 ∨ K = 2 ∨ K = 3 ∨ K = 4 ∨ K = 5 ∨ K = 6 ∨ K = 7 ∨ K = 8 ∨ K = 9 ∨ K = 10 ∨ K = 11 ∨ K = 12 ∨ K = 13 ∨ K = 14 ∨ K = 15 ∨ K = 16 ∨ K = 17 := by omega
/-- What is kept of an operation's fields: each, or nothing. -/
def Kept (A B : Int) (q : ByteArray) (v : Value) (A' B' : Int) (q' : ByteArray) (v' : Value) : Prop := (A' = A ∨ A' = 0) ∧ (B' = B ∨ B' = 0) ∧ (q' = q ∨ q' = ⟨#[]⟩) ∧ (v' = v ∨ v' = .slice none 0 0)

set_option maxRecDepth 100000 in
set_option maxHeartbeats 8000000 in
theorem named12 (K A B U G : Int) (p q : ByteArray) (va : Option Addr) (vn vc : Nat) (w : World) (h0 : 1 ≤ K) (h1 : K ≤ 17) :
    Calls Tryz.prog 18 #[.agg (opC K A B U G p q (.slice va vn vc))] w fun e w' => ∃ (A' B' : Int) (q' : ByteArray) (v' : Value), e = .returned (.agg (opC K A' B' U G p q' v')) ∧ Kept A B q (.slice va vn vc) A' B' q' v' ∧ Below w.heap.size w w' := by
  have HF := hide (show ∀ o1 o2 o3 : Obj, Below w.heap.size w (((w.alloc o1).alloc o2).alloc o3) from fun o1 o2 o3 => (((Below.refl _ _).alloc (Nat.le_refl _) o1).alloc (by simp) o2).alloc (by simp; omega) o3)
  have HM := hide (show ∀ (o1 o3 : Obj) (X : Array Value), (((w.alloc o1).alloc (.cells X 30)).alloc o3).heap[w.heap.size + 1]? = some (.cells X 30) from fun o1 o3 X => by
    have h : Blk _ _ _ _ := (Blk.new (w.alloc o1) X 30).alloc o3
    rw [show (w.alloc o1).heap.size = w.heap.size + 1 by simp] at h
    exact h)
  rcases kind17 h0 h1 with rfl | rfl | rfl | rfl | rfl | rfl | rfl | rfl | rfl | rfl | rfl | rfl | rfl | rfl | rfl | rfl | rfl
  all_goals
    clear h0 h1
    unfold opC
    go_enter Tryz.func18, Tryz.ntmps18
    go_wp2
    refine bodyPost_ret (results_cell_row rfl _ _ (w.heap.size + 1) 30 _ (0, 0) _ rfl (HM.out _ _ _) Tryz.underlying30 rfl (by kernel_rfl)) rfl ⟨_, _, _, _, rfl, ⟨?_, ?_, ?_, ?_⟩, HF.out _ _ _⟩
    all_goals first | exact .inl rfl | exact .inr rfl
end Go.Proofs.YtohmjfagbhnieaaGreatDoor
