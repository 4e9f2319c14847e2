/- The bytes of a tree, mathematics: data blocks copied into zeros, and the model's blocks in a row, cut. -/
import Derived.Test.YtlegmaadcemgnaaDoorTrB
namespace Go.Proofs.YtlegmaadcemgnaaDoor
set_option linter.unusedVariables false
set_option linter.unusedSimpArgs false
/-- Bytes copied into others from place o on, as far as there is room. -/
def cpB (out : List Int) (o : Nat) (B : List Int) : List Int := out.take o ++ B.take (out.length - o) ++ out.drop (o + min B.length (out.length - o))
theorem cpB_len (out : List Int) (o : Nat) (B : List Int) (h : o ≤ out.length) : (cpB out o B).length = out.length := by
  unfold cpB
  simp only [List.length_append, List.length_take, List.length_drop]
  omega
/-- What one told block does to the bytes. -/
def contF (blk : Int → List Int) (out : List Int) (h : HG) : List Int := if h.1 = 0 then cpB out (h.2.1 * 512) (blk h.2.2) else out
section
variable {cnt : Nat} {W : Int → Nat → Int} {D : Nat → Int} {S X : Int} {blk : Int → List Int}
theorem cont_filter (L : List HG) (out : List Int) : L.foldl (contF blk) out = (L.filter (fun h => h.1 == 0)).foldl (contF blk) out := by
  induction L generalizing out with
  | nil => rfl
  | cons a L ih =>
    rw [List.filter_cons]
    by_cases h : a.1 = 0
    · rw [if_pos (by simp [h]), List.foldl_cons, List.foldl_cons]; exact ih _
    · rw [if_neg (by simp [h]), List.foldl_cons, ← ih]
      congr 1
      unfold contF
      rw [if_neg h]
/-- The bytes of data block i. -/
def bytP (blk : Int → List Int) (W : Int → Nat → Int) (D : Nat → Int) (S X : Int) (i : Nat) : List Int := if datP W D S X i = 0 then List.replicate 512 0 else blk (datP W D S X i)
theorem flat_len {g : Nat → List Int} (h : ∀ i, (g i).length = 512) : ∀ r : Nat, ((List.range r).flatMap g).length = r * 512
  | 0 => rfl
  | r + 1 => by rw [flat_add r 1, List.length_append, flat_len h r, show List.range 1 = [0] from rfl, List.flatMap_cons, List.flatMap_nil, List.append_nil, h]; omega
theorem flat_succ (g : Nat → List Int) (r : Nat) : (List.range (r + 1)).flatMap g = (List.range r).flatMap g ++ g r := by rw [flat_add r 1, show List.range 1 = [0] from rfl, List.flatMap_cons, List.flatMap_nil, List.append_nil]; rfl
theorem cont_upto (hb : ∀ p, (blk p).length = 512) (size : Nat) : ∀ r : Nat, (r = 0 ∨ (r - 1) * 512 < size) →
    ((List.range r).flatMap fun r => if datP W D S X r = 0 then [] else [((0 : Nat), r, datP W D S X r)]).foldl (contF blk) (List.replicate size 0) = (((List.range r).flatMap (bytP blk W D S X)).take size) ++ List.replicate (size - r * 512) 0
  | 0, _ => by simp
  | r + 1, h => by
    have hr : r * 512 < size := by rcases h with h | h; · cases h
                                   · simpa using h
    have hl : ∀ i, (bytP blk W D S X i).length = 512 := fun i => by unfold bytP; split; · exact List.length_replicate ..
                                                                    · exact hb _
    rw [flat_add r 1, show List.range 1 = [0] from rfl, List.flatMap_cons, List.flatMap_nil, List.append_nil, List.foldl_append, cont_upto hb size r (by omega), flat_succ]
    have hM := flat_len hl r
    obtain ⟨M, hMe⟩ : ∃ M, M = (List.range r).flatMap (bytP blk W D S X) := ⟨_, rfl⟩
    rw [← hMe] at hM ⊢
    rw [List.take_of_length_le (by omega), List.take_append, List.take_of_length_le (l := M) (by omega), hM, Nat.add_zero]
    by_cases h0 : datP W D S X r = 0
    · rw [if_pos h0, List.foldl_nil]
      have e : bytP blk W D S X r = List.replicate 512 0 := by unfold bytP; rw [if_pos h0]
      rw [e, List.take_replicate, List.append_assoc, List.replicate_append_replicate]
      refine congrArg (M ++ ·) (congrArg (List.replicate · 0) (by omega))
    · rw [if_neg h0, List.foldl_cons, List.foldl_nil]
      have e : bytP blk W D S X r = blk (datP W D S X r) := by unfold bytP; rw [if_neg h0]
      rw [e]
      unfold contF
      rw [if_pos rfl]
      unfold cpB
      simp only [List.length_append, hM, List.length_replicate, hb]
      rw [show r * 512 + (size - r * 512) - r * 512 = size - r * 512 by omega, List.take_left' hM]
      congr 1
      rw [List.drop_append, hM, List.drop_eq_nil_of_le (by omega), List.nil_append, List.drop_replicate]
      exact congrArg (List.replicate · 0) (by omega)
/-- What the walk's blocks leave is what the model lays in a row and cuts. -/
theorem cont_all (hb : ∀ p, (blk p).length = 512) (hc : cnt ≤ 512) (size : Nat) (h1 : size ≤ cnt * 512) (h2 : cnt = 0 ∨ (cnt - 1) * 512 < size) : (listR cnt W D S X).foldl (contF blk) (List.replicate size 0) = ((List.range cnt).flatMap (bytP blk W D S X)).take size := by
  rw [cont_filter, listR_data hc]
  unfold datL
  rw [cont_upto hb size cnt h2, show size - cnt * 512 = 0 by omega]
  simp
end
end Go.Proofs.YtlegmaadcemgnaaDoor
