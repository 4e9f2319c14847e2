/- The free blocks of a map from a cursor on: the mathematics; the block behind one. -/
import Derived.Test.YtbgiccgfgljkbaaDoorPlaneB
namespace Go.Proofs.YtbgiccgfgljkbaaDoor
set_option linter.unusedVariables false
set_option linter.unusedSimpArgs false
open Go.RowKit

/-- The block at place i from cursor c on, round the end of n blocks. -/
def ordAt (n c i : Nat) : Nat := if c + i < n then c + i else c + i - n + 2
/-- The block behind b. -/
def behI (n : Nat) (x : Int) : Int := if x = (n : Int) - 1 then 2 else wrap64 (x + 1)
theorem ord_in (n c i : Nat) (h2 : 2 ≤ c) (hc : c < n) (hi : i < n - 2) : 2 ≤ ordAt n c i ∧ ordAt n c i < n := by
  unfold ordAt; split <;> omega
theorem ord_zero (n c : Nat) (hc : c < n) : ordAt n c 0 = c := by unfold ordAt; rw [if_pos (by omega)]; rfl
theorem ord_succ (n c i : Nat) (h2 : 2 ≤ c) (hc : c < n) (hn : n ≤ 2048) (hi : i < n - 2) : ((ordAt n c (i + 1) : Nat) : Int) = behI n (ordAt n c i : Nat) := by
  unfold behI ordAt wrap64
  split <;> split <;> split <;> omega
def isFree (ws : List Int) (b : Nat) : Bool := decide (ws.getD b 0 = 0)
def freesTo (ws : List Int) (c k : Nat) : List Int := (((List.range k).map (ordAt ws.length c)).filter (isFree ws)).map fun b : Nat => (b : Int)
theorem frees_yes (ws : List Int) (c k : Nat) (h : ws.getD (ordAt ws.length c k) 0 = 0) : freesTo ws c (k + 1) = freesTo ws c k ++ [((ordAt ws.length c k : Nat) : Int)] := by
  have e : isFree ws (ordAt ws.length c k) = true := by unfold isFree; rw [h]; rfl
  simp [freesTo, List.range_succ, List.filter_cons, e]
theorem frees_no (ws : List Int) (c k : Nat) (h : ¬ ws.getD (ordAt ws.length c k) 0 = 0) : freesTo ws c (k + 1) = freesTo ws c k := by
  have e : isFree ws (ordAt ws.length c k) = false := by unfold isFree; exact decide_eq_false h
  simp [freesTo, List.range_succ, List.filter_cons, e]
theorem frees_pre (ws : List Int) (c k : Nat) : ∀ m, k ≤ m → freesTo ws c k <+: freesTo ws c m
  | 0, h => by have : k = 0 := by omega
               subst this; exact List.prefix_refl _
  | m + 1, h => by
    by_cases e : k = m + 1
    · subst e; exact List.prefix_refl _
    · have h1 := frees_pre ws c k m (by omega)
      by_cases hz : ws.getD (ordAt ws.length c m) 0 = 0
      · rw [frees_yes ws c m hz]; exact h1.trans (List.prefix_append _ _)
      · rw [frees_no ws c m hz]; exact h1
theorem frees_len (ws : List Int) (c k : Nat) : (freesTo ws c k).length ≤ k := by
  have := List.length_filter_le (isFree ws) ((List.range k).map (ordAt ws.length c))
  simp [freesTo] at this ⊢
  exact this
def freesM (ws : List Int) (c : Nat) : List Int := freesTo ws c (ws.length - 2)
theorem frees_mem (ws : List Int) (c : Nat) (h2 : 2 ≤ c) (hc : c < ws.length) (x : Int) (hx : x ∈ freesM ws c) : 2 ≤ x ∧ x < ws.length := by
  simp [freesM, freesTo] at hx
  obtain ⟨b, ⟨⟨i, hi, hb⟩, _⟩, rfl⟩ := hx
  have := ord_in ws.length c i h2 hc hi
  rw [hb] at this
  omega

theorem behind_any (x : Int) (n : Nat) (w : World) (hn : 2 ≤ n) (hn2 : n ≤ 1048576) :
    Calls Tryd.prog 34 #[.int .i64 x, .int .i64 (n : Int)] w fun e w' => e = .returned (.int .i64 (behI n x)) ∧ w' = w := by
  by_cases h : x = (n : Int) - 1
  · have HB := hide (show behI n x = 2 from by unfold behI; rw [if_pos h])
    subst h
    go_enter Tryd.func34, Tryd.ntmps34
    go_wp2
    go_ret
    exact ⟨ret_int (by rw [HB.out]), rfl⟩
  · have HB := hide (show behI n x = wrap64 (x + 1) from by unfold behI; rw [if_neg h])
    have hq : (x == (n : Int) - 1) = false := by simpa using h
    go_enter Tryd.func34, Tryd.ntmps34
    go_wp2
    go_ret
    exact ⟨ret_int (by rw [HB.out]), rfl⟩
theorem specBehind_any (x : Int) (n : Nat) (w : World) (hn : 2 ≤ n) (hn2 : n ≤ 1048576) :
    Calls Tryd.prog 36 #[.int .i64 (n : Int), .int .i64 x] w fun e w' => e = .returned (.int .i64 (behI n x)) ∧ w' = w := by
  by_cases h : x = (n : Int) - 1
  · have HB := hide (show behI n x = 2 from by unfold behI; rw [if_pos h])
    subst h
    go_enter Tryd.func36, Tryd.ntmps36
    go_wp2
    go_ret
    exact ⟨ret_int (by rw [HB.out]), rfl⟩
  · have HB := hide (show behI n x = wrap64 (x + 1) from by unfold behI; rw [if_neg h])
    have hq : (x == (n : Int) - 1) = false := by simpa using h
    go_enter Tryd.func36, Tryd.ntmps36
    go_wp2
    go_ret
    exact ⟨ret_int (by rw [HB.out]), rfl⟩
end Go.Proofs.YtbgiccgfgljkbaaDoor
