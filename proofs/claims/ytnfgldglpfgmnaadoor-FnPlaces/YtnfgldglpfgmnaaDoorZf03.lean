/- The blocks of a tree, mathematics: the data blocks in their order, the numbers in their order. The bytes of a tree, mathematics: data blocks copied into zeros, and the model's blocks in a row, cut. A range over a function that has memory of its own, writes into it between two rounds, and hands over what it made there. -/
import Derived.Test.YtnfgldglpfgmnaaDoorZf02
import Derived.RangeFuncNested
import Derived.RangeFuncBound
import Derived.RangeFuncCalls
import Derived.RangeFuncLeaves
import Derived.Test.YtnfgldglpfgmnaaDoorZf01
namespace Go.Proofs.YtnfgldglpfgmnaaDoor
set_option linter.unusedVariables false
set_option linter.unusedSimpArgs false
section
variable {α : Type}
theorem flat_nil (L : List Nat) (g : Nat → List α) (h : ∀ k ∈ L, g k = []) : L.flatMap g = [] := List.flatMap_eq_nil_iff.2 h
theorem flat_cut (m c : Nat) (g : Nat → List α) (h : ∀ k, c ≤ k → g k = []) : (List.range m).flatMap g = (List.range (min m c)).flatMap g := by
  rcases Nat.le_total m c with hm | hm
  · rw [Nat.min_eq_left hm]
  · rw [Nat.min_eq_right hm]
    obtain ⟨d, rfl⟩ : ∃ d, m = c + d := ⟨m - c, by omega⟩
    rw [List.range_add, List.flatMap_append, List.flatMap_map, flat_nil (List.range d) _ (fun k _ => h _ (by omega)), List.append_nil]
theorem flat_add (a b : Nat) (g : Nat → List α) : (List.range (a + b)).flatMap g = (List.range a).flatMap g ++ (List.range b).flatMap (fun k => g (a + k)) := by
  rw [List.range_add, List.flatMap_append, List.flatMap_map]
theorem flat_nest (c : Nat) (g : Nat → List α) : ∀ K : Nat, (List.range K).flatMap (fun k => (List.range 128).flatMap fun j => g (c + 128 * k + j)) = (List.range (128 * K)).flatMap (fun i => g (c + i))
  | 0 => rfl
  | K + 1 => by
    rw [flat_add K 1, flat_nest c g K, Nat.mul_succ, flat_add (128 * K) 128]
    refine congrArg (_ ++ ·) ?_
    rw [show List.range 1 = [0] from rfl, List.flatMap_cons, List.flatMap_nil, List.append_nil]
    exact flat_same _ _ _ (fun j _ => congrArg g (by omega))
end
section
variable {cnt n : Nat} {W : Int → Nat → Int} {D : Nat → Int} {S X : Int}
theorem dat_lo {i : Nat} (h : i < 12) : datP W D S X i = D i := by unfold datP; rw [if_pos h]
theorem dat_mid {k : Nat} (h : k < 128) : datP W D S X (12 + k) = hwP W S k := by unfold datP; rw [if_neg (by omega), if_pos (by omega), Nat.add_sub_cancel_left]
theorem dat_hi {k j : Nat} (h : j < 128) : datP W D S X (140 + 128 * k + j) = hwP W (hwP W X k) j := by
  unfold datP
  rw [if_neg (by omega), if_neg (by omega), show (140 + 128 * k + j - 140) / 128 = k by omega, show (140 + 128 * k + j - 140) % 128 = j by omega]
/-- Data block r, told if it is one. -/
def gP (cnt : Nat) (W : Int → Nat → Int) (D : Nat → Int) (S X : Int) (r : Nat) : List HG := if cnt ≤ r ∨ datP W D S X r = 0 then [] else [(0, r, datP W D S X r)]
theorem seg_g (b m : Nat) (f : Nat → Int) (h : ∀ k, k < m → datP W D S X (b + k) = f k) : segP cnt b m f = (List.range m).flatMap (fun k => gP cnt W D S X (b + k)) := by
  unfold segP gP
  exact flat_same _ _ _ (fun k hk => by rw [h k (List.mem_range.1 hk)])
theorem seg_level (b m : Nat) (f : Nat → Int) : (segP cnt b m f).filter (fun h => h.1 == 0) = segP cnt b m f := by
  rw [List.filter_eq_self]
  intro x hx
  unfold segP at hx
  obtain ⟨k, _, hk⟩ := List.mem_flatMap.1 hx
  by_cases hc : cnt ≤ b + k ∨ f k = 0
  · rw [if_pos hc] at hk; cases hk
  · rw [if_neg hc, List.mem_singleton] at hk
    rw [hk]; rfl
theorem hd1_level (r : Nat) (p : Int) : (hd1P cnt r p).filter (fun h => h.1 == 0) = [] := by unfold hd1P; split <;> rfl
theorem hd2_level (p : Int) : (hd2P cnt p).filter (fun h => h.1 == 0) = [] := by unfold hd2P; split <;> rfl
theorem filter_flat {α β : Type} (q : β → Bool) (g : α → List β) : ∀ L : List α, (L.flatMap g).filter q = L.flatMap (fun x => (g x).filter q)
  | [] => rfl
  | a :: L => by rw [List.flatMap_cons, List.flatMap_cons, List.filter_append, filter_flat q g L]
/-- The data blocks other than holes, by their index. -/
def datL (cnt : Nat) (W : Int → Nat → Int) (D : Nat → Int) (S X : Int) : List HG := (List.range cnt).flatMap fun r => if datP W D S X r = 0 then [] else [(0, r, datP W D S X r)]
theorem listR_data (hc : cnt ≤ 512) : (listR cnt W D S X).filter (fun h => h.1 == 0) = datL cnt W D S X := by
  unfold listR
  rw [List.filter_append, List.filter_append, List.filter_append, List.filter_append, seg_level, hd1_level, seg_level, hd2_level, List.nil_append, List.nil_append, filter_flat]
  have e0 : (List.range 128).flatMap (fun k => (hd1P cnt (1 + k) (hwP W X k) ++ segP cnt (12 + (1 + k) * 128) 128 (hwP W (hwP W X k))).filter (fun h => h.1 == 0)) = (List.range (128 * 128)).flatMap (fun i => gP cnt W D S X (140 + i)) := by
    rw [← flat_nest 140 (gP cnt W D S X) 128]
    refine flat_same _ _ _ (fun k _ => ?_)
    rw [List.filter_append, hd1_level, List.nil_append, seg_level, seg_g (W := W) (D := D) (S := S) (X := X) _ _ _ (fun j hj => by rw [show 12 + (1 + k) * 128 + j = 140 + 128 * k + j by omega]; exact dat_hi hj)]
    exact flat_same _ _ _ (fun j _ => by rw [show 12 + (1 + k) * 128 + j = 140 + 128 * k + j by omega])
  rw [e0, seg_g (W := W) (D := D) (S := S) (X := X) 0 12 D (fun k hk => by rw [Nat.zero_add]; exact dat_lo hk), seg_g (W := W) (D := D) (S := S) (X := X) 12 128 _ (fun k hk => dat_mid hk)]
  have e1 : (List.range 12).flatMap (fun k => gP cnt W D S X (0 + k)) ++ ((List.range 128).flatMap (fun k => gP cnt W D S X (12 + k)) ++ (List.range (128 * 128)).flatMap (fun i => gP cnt W D S X (140 + i))) = (List.range (12 + 128 + 128 * 128)).flatMap (gP cnt W D S X) := by
    have e9 : (List.range 12).flatMap (fun k => gP cnt W D S X (0 + k)) = (List.range 12).flatMap (gP cnt W D S X) := flat_same _ _ _ (fun k _ => by rw [Nat.zero_add])
    rw [flat_add (12 + 128), flat_add 12 128, List.append_assoc, e9]
  rw [e1, flat_cut _ cnt _ (fun k hk => by unfold gP; rw [if_pos (.inl hk)]), Nat.min_eq_right (by omega)]
  unfold datL gP
  refine flat_same _ _ _ (fun k hk => ?_)
  have := List.mem_range.1 hk
  by_cases h0 : datP W D S X k = 0
  · rw [if_pos h0, if_pos (.inr h0)]
  · rw [if_neg h0, if_neg (by omega)]
/-- A part of the model's list. -/
def cutM (L : List Int) (lo hi : Nat) : List Int := (L.drop lo).take (hi - lo)
theorem cut_range (f : Nat → Int) (c lo m : Nat) : cutM ((List.range c).map f) lo (lo + m) = (List.range (min m (c - lo))).map (fun k => f (lo + k)) := by
  unfold cutM
  refine List.ext_getElem? (fun i => ?_)
  rw [Nat.add_sub_cancel_left, List.getElem?_take, List.getElem?_drop, List.getElem?_map, List.getElem?_map]
  by_cases h1 : i < m
  · rw [if_pos h1]
    by_cases h2 : lo + i < c
    · rw [List.getElem?_range h2, List.getElem?_range (by omega)]; rfl
    · rw [List.getElem?_eq_none (by rw [List.length_range]; omega), List.getElem?_eq_none (by rw [List.length_range]; omega)]; rfl
  · rw [if_neg h1, List.getElem?_eq_none (by rw [List.length_range]; omega)]; rfl
/-- The numbers that aren't holes. -/
def someM (L : List Int) : List Int := L.filter (fun p => p != 0)
theorem some_flat (f : Nat → Int) : ∀ L : List Nat, someM (L.map f) = L.flatMap (fun k => if f k = 0 then [] else [f k])
  | [] => rfl
  | a :: L => by
    have ih := some_flat f L
    unfold someM at ih ⊢
    rw [List.map_cons, List.flatMap_cons, List.filter_cons, ih]
    by_cases h : f a = 0
    · rw [if_pos h, if_neg (by simp [h])]; rfl
    · rw [if_neg h, if_pos (by simp [h])]; rfl
theorem seg_nums (b m : Nat) (f : Nat → Int) (h : ∀ k, k < m → datP W D S X (b + k) = f k) : (segP cnt b m f).map (fun h => h.2.2) = someM (cutM ((List.range cnt).map (datP W D S X)) b (b + m)) := by
  rw [cut_range, some_flat]
  unfold segP
  rw [List.map_flatMap, flat_cut m (cnt - b) _ (fun k hk => by rw [if_pos (.inl (by omega))]; rfl)]
  refine flat_same _ _ _ (fun k hk => ?_)
  have hk2 := List.mem_range.1 hk
  rw [h k (by omega)]
  by_cases h0 : f k = 0
  · rw [if_pos h0, if_pos (.inr h0)]; rfl
  · rw [if_neg h0, if_neg (by omega)]; rfl
theorem some_append (A B : List Int) : someM (A ++ B) = someM A ++ someM B := List.filter_append ..
theorem some_one (p : Int) : someM [p] = if p = 0 then [] else [p] := by
  unfold someM
  by_cases h : p = 0
  · rw [if_pos h, h]; rfl
  · rw [if_neg h]; simp [h]
/-- How many of Double's words the model looks at. -/
def secN (cnt : Nat) : Nat := min 128 ((cnt - 140 + 127) / 128)
theorem sec_lt {k : Nat} (h : k < secN cnt) : 140 + 128 * k < cnt := by unfold secN at h; omega
theorem sec_ge {k : Nat} (hc : cnt ≤ 512) (h : secN cnt ≤ k) : cnt ≤ 140 + 128 * k := by unfold secN at h; omega
/-- The model's list of all blocks. -/
def allM (cnt : Nat) (W : Int → Nat → Int) (D : Nat → Int) (S X : Int) : List Int :=
  let L := (List.range cnt).map (datP W D S X)
  cutM L 0 12 ++ [S] ++ cutM L 12 140 ++ [X] ++ (List.range (secN cnt)).flatMap (fun k => hwP W X k :: cutM L (140 + 128 * k) (268 + 128 * k))
theorem listR_nums (hR : RootP cnt D S X) : (listR cnt W D S X).map (fun h => h.2.2) = someM (allM cnt W D S X) := by
  have hc := hR.c
  unfold listR allM
  simp only [List.map_append, some_append]
  rw [seg_nums (W := W) (D := D) (S := S) (X := X) 0 12 D (fun k hk => by rw [Nat.zero_add]; exact dat_lo hk), seg_nums (W := W) (D := D) (S := S) (X := X) 12 128 _ (fun k hk => dat_mid hk)]
  have h1 : (hd1P cnt 0 S).map (fun h => h.2.2) = someM [S] := by
    rw [some_one]
    unfold hd1P
    by_cases h0 : S = 0
    · rw [if_pos (.inr h0), if_pos h0]; rfl
    · rw [if_neg (fun e => e.elim (fun e => h0 (hR.s (by omega))) h0), if_neg h0]; rfl
  have h2 : (hd2P cnt X).map (fun h => h.2.2) = someM [X] := by
    rw [some_one]
    unfold hd2P
    by_cases h0 : X = 0
    · rw [if_pos (.inr h0), if_pos h0]; rfl
    · rw [if_neg (fun e => e.elim (fun e => h0 (hR.x e)) h0), if_neg h0]; rfl
  have h3 : ((List.range 128).flatMap (fun k => hd1P cnt (1 + k) (hwP W X k) ++ segP cnt (12 + (1 + k) * 128) 128 (hwP W (hwP W X k)))).map (fun h => h.2.2) = someM ((List.range (secN cnt)).flatMap (fun k => hwP W X k :: cutM ((List.range cnt).map (datP W D S X)) (140 + 128 * k) (268 + 128 * k))) := by
    unfold someM
    rw [filter_flat, List.map_flatMap]
    have hs : secN cnt ≤ 128 := by unfold secN; omega
    rw [flat_cut 128 (secN cnt) _ (fun k hk => by
      have := sec_ge hc hk
      rw [show hd1P cnt (1 + k) (hwP W X k) = [] by unfold hd1P; rw [if_pos (.inl (by omega))], seg_none (.inl (by omega))]
      rfl), Nat.min_eq_right hs]
    refine flat_same _ _ _ (fun k hk => ?_)
    have hk2 := sec_lt (List.mem_range.1 hk)
    rw [List.map_append, seg_nums (W := W) (D := D) (S := S) (X := X) _ _ _ (fun j hj => by rw [show 12 + (1 + k) * 128 + j = 140 + 128 * k + j by omega]; exact dat_hi hj), show 12 + (1 + k) * 128 = 140 + 128 * k by omega, show 140 + 128 * k + 128 = 268 + 128 * k by omega]
    show _ = someM ([hwP W X k] ++ _)
    rw [some_append, some_one]
    refine congrArg (· ++ _) ?_
    unfold hd1P
    by_cases h0 : hwP W X k = 0
    · rw [if_pos (.inr h0), if_pos h0]; rfl
    · rw [if_neg (by omega), if_neg h0]; rfl
  rw [h1, h2, h3]
  simp only [List.append_assoc]
end
end Go.Proofs.YtnfgldglpfgmnaaDoor

namespace Go.Proofs.YtnfgldglpfgmnaaDoor
set_option linter.unusedVariables false
set_option linter.unusedSimpArgs false
/-- Bytes copied into others from place o on, as far as there is room. -/
def cpB (out : List Int) (o : Nat) (B : List Int) : List Int := out.take o ++ B.take (out.length - o) ++ out.drop (o + min B.length (out.length - o))
theorem cpB_len (out : List Int) (o : Nat) (B : List Int) (h : o ≤ out.length) : (cpB out o B).length = out.length := by
  unfold cpB
  simp only [List.length_append, List.length_take, List.length_drop]
  omega
/-- What one told block does to the bytes. -/
def contF (blk : Int → List Int) (out : List Int) (h : HG) : List Int := if h.1 = 0 then cpB out (h.2.1 * 512) (blk h.2.2) else out
section
variable {cnt : Nat} {W : Int → Nat → Int} {D : Nat → Int} {S X : Int} {blk : Int → List Int}
theorem cont_filter (L : List HG) (out : List Int) : L.foldl (contF blk) out = (L.filter (fun h => h.1 == 0)).foldl (contF blk) out := by
  induction L generalizing out with
  | nil => rfl
  | cons a L ih =>
    rw [List.filter_cons]
    by_cases h : a.1 = 0
    · rw [if_pos (by simp [h]), List.foldl_cons, List.foldl_cons]; exact ih _
    · rw [if_neg (by simp [h]), List.foldl_cons, ← ih]
      congr 1
      unfold contF
      rw [if_neg h]
/-- The bytes of data block i. -/
def bytP (blk : Int → List Int) (W : Int → Nat → Int) (D : Nat → Int) (S X : Int) (i : Nat) : List Int := if datP W D S X i = 0 then List.replicate 512 0 else blk (datP W D S X i)
theorem flat_len {g : Nat → List Int} (h : ∀ i, (g i).length = 512) : ∀ r : Nat, ((List.range r).flatMap g).length = r * 512
  | 0 => rfl
  | r + 1 => by rw [flat_add r 1, List.length_append, flat_len h r, show List.range 1 = [0] from rfl, List.flatMap_cons, List.flatMap_nil, List.append_nil, h]; omega
theorem flat_succ (g : Nat → List Int) (r : Nat) : (List.range (r + 1)).flatMap g = (List.range r).flatMap g ++ g r := by rw [flat_add r 1, show List.range 1 = [0] from rfl, List.flatMap_cons, List.flatMap_nil, List.append_nil]; rfl
theorem cont_upto (hb : ∀ p, (blk p).length = 512) (size : Nat) : ∀ r : Nat, (r = 0 ∨ (r - 1) * 512 < size) →
    ((List.range r).flatMap fun r => if datP W D S X r = 0 then [] else [((0 : Nat), r, datP W D S X r)]).foldl (contF blk) (List.replicate size 0) = (((List.range r).flatMap (bytP blk W D S X)).take size) ++ List.replicate (size - r * 512) 0
  | 0, _ => by simp
  | r + 1, h => by
    have hr : r * 512 < size := by rcases h with h | h; · cases h
                                   · simpa using h
    have hl : ∀ i, (bytP blk W D S X i).length = 512 := fun i => by unfold bytP; split; · exact List.length_replicate ..
                                                                    · exact hb _
    rw [flat_add r 1, show List.range 1 = [0] from rfl, List.flatMap_cons, List.flatMap_nil, List.append_nil, List.foldl_append, cont_upto hb size r (by omega), flat_succ]
    have hM := flat_len hl r
    obtain ⟨M, hMe⟩ : ∃ M, M = (List.range r).flatMap (bytP blk W D S X) := ⟨_, rfl⟩
    rw [← hMe] at hM ⊢
    rw [List.take_of_length_le (by omega), List.take_append, List.take_of_length_le (l := M) (by omega), hM, Nat.add_zero]
    by_cases h0 : datP W D S X r = 0
    · rw [if_pos h0, List.foldl_nil]
      have e : bytP blk W D S X r = List.replicate 512 0 := by unfold bytP; rw [if_pos h0]
      rw [e, List.take_replicate, List.append_assoc, List.replicate_append_replicate]
      refine congrArg (M ++ ·) (congrArg (List.replicate · 0) (by omega))
    · rw [if_neg h0, List.foldl_cons, List.foldl_nil]
      have e : bytP blk W D S X r = blk (datP W D S X r) := by unfold bytP; rw [if_neg h0]
      rw [e]
      unfold contF
      rw [if_pos rfl]
      unfold cpB
      simp only [List.length_append, hM, List.length_replicate, hb]
      rw [show r * 512 + (size - r * 512) - r * 512 = size - r * 512 by omega, List.take_left' hM]
      congr 1
      rw [List.drop_append, hM, List.drop_eq_nil_of_le (by omega), List.nil_append, List.drop_replicate]
      exact congrArg (List.replicate · 0) (by omega)
/-- What the walk's blocks leave is what the model lays in a row and cuts. -/
theorem cont_all (hb : ∀ p, (blk p).length = 512) (hc : cnt ≤ 512) (size : Nat) (h1 : size ≤ cnt * 512) (h2 : cnt = 0 ∨ (cnt - 1) * 512 < size) : (listR cnt W D S X).foldl (contF blk) (List.replicate size 0) = ((List.range cnt).flatMap (bytP blk W D S X)).take size := by
  rw [cont_filter, listR_data hc]
  unfold datL
  rw [cont_upto hb size cnt h2, show size - cnt * 512 = 0 by omega]
  simp
end
end Go.Proofs.YtnfgldglpfgmnaaDoor

namespace Go.Proofs.YtnfgldglpfgmnaaDoor
set_option linter.unusedVariables false
set_option linter.unusedSimpArgs false
open Go.RowKit

/-- What abides the turn of blocks that T names. -/
def AbidesOf {β : Type} (T : Nat → Prop) (J : β → World → Prop) : Prop := ∀ s A B row, J s A → A.grownBy B row → (∀ r, row = some r → T r) → J s B
/-- What a round must keep: all below n₀, and the blocks that T names. -/
def KpT (n₀ : Nat) (T : Nat → Prop) (A B : World) : Prop := Below n₀ A B ∧ ∀ r, T r → B.heap[r]? = A.heap[r]?
theorem KpT.trans {n₀ : Nat} {T : Nat → Prop} {A B C : World} (h : KpT n₀ T A B) (k : KpT n₀ T B C) : KpT n₀ T A C := ⟨h.1.trans k.1, fun r hr => (k.2 r hr).trans (h.2 r hr)⟩
/-- The contract of such a function, called in W: T names the blocks that are its own; Ok: what is known of an element when it is told, beside the world in which the round before was over. -/
def Goes {α : Type} (F : Fence) (n : Nat) (P : Program) (g : Nat) (lb : Array Value) (encs : α → Array Value) (n₀ : Nat) (Ok : (Nat → Prop) → List α → α → World → World → Prop) (S Sp : List α → Prop) (W : World) : Prop :=
  ∀ (l : Nat) (J Jx : (Nat → Prop) → List α → World → Prop), (∀ T, AbidesOf T (J T)) → (∀ T, AbidesOf T (Jx T)) →
    (∀ T pre x W0 W1, J T pre W0 → J T pre W1 → Ok T pre x W0 W1 → YieldAt F (n - 1) P l (encs x) W1 fun e W' => (e = .returned (.bool true) ∧ J T (pre ++ [x]) W' ∧ KpT n₀ T W1 W') ∨ (e = .returned (.bool false) ∧ Jx T (pre ++ [x]) W')) →
    (∀ T W', Below W.heap.size W W' → (∀ r, T r → W.heap.size ≤ r ∧ r < W'.heap.size) → J T [] W') →
    CallsIn F n P g (#[.func (.yield l) #[] #[]] ++ lb) W fun e W' => (∃ v, e = .returned v) ∧ ((∃ T xs, S xs ∧ J T xs W') ∨ (∃ T pre, Sp pre ∧ Jx T pre W'))
/-- A loop over it. -/
theorem wpIn_rangeGoes {α : Type} {F : Fence} {n : Nat} {P : Program} {g : Operand} {ps : Array Tmp} {assign body : Code} {Q : Exit → Act → World → Prop} {a : Act} {w : World}
    (hro : F.round = none) (h1 : 1 ≤ n) {gf : Nat} {lb : Array Value} (hg : a.eval g = .func (.func gf) #[] lb) (hFg : F.fn gf) (eg : ∀ args w, (callFunc gf args).run P w = .ok (.enter gf args) w)
    {encs : α → Array Value} {n₀ : Nat} {Ok : (Nat → Prop) → List α → α → World → World → Prop} {S Sp : List α → Prop} (hn₀ : n₀ ≤ w.heap.size)
    (hseq : ∀ W1, Below w.heap.size w W1 → W1.heap.size = w.heap.size + 2 → Goes F (n - 1) P gf lb encs n₀ Ok S Sp W1)
    (hps : ∀ x, (encs x).size = ps.size)
    (I : (Nat → Prop) → List α → World → Prop) (Ix : (Nat → Prop) → Code → List α → World → Prop) (hI : ∀ T, AbidesOf (fun r => T r ∨ r = w.heap.size + 1) (I T)) (hIx : ∀ T c, AbidesOf (fun r => T r ∨ r = w.heap.size + 1) (Ix T c))
    (h0 : ∀ T W', Below w.heap.size w W' → w.heap.size + 2 ≤ W'.heap.size → (∀ r, T r → w.heap.size + 2 ≤ r ∧ r < W'.heap.size) → I T [] W')
    (Ax : (Nat → Prop) → List α → α → World → Act → World → Prop) (hAx : ∀ T pre x W0 a' A B, Ax T pre x W0 a' A → A.grownBy B (some (w.heap.size + 1)) → (∃ o, A.heap[w.heap.size + 1]? = some o ∧ o.isCells = false) → Ax T pre x W0 a' B)
    (hassign : ∀ (l : Nat) (T : Nat → Prop) (pre : List α) (x : α) (W0 W : World) (K : Act → World → Prop), (∀ r, T r → w.heap.size + 2 ≤ r) → I T pre W0 → I T pre W → Ok T pre x W0 W → (∀ a' W', KeepsFrom w.heap.size W W' → KpT n₀ T W W' → Ax T pre x W0 a' W' → K a' W') → assign.wpIn (F.inRound l) (n - 1 - 1) P (Exit.then K (fun _ _ _ => False)) { tmps := (ps.zip (encs x)).foldl (fun t (p, v) => t.setIfInBounds p v) a.tmps, defers := [] } W)
    (hbody : ∀ (l : Nat) (T : Nat → Prop) (pre : List α) (x : α) (W0 : World) (a' : Act) (W : World), (∀ r, T r → w.heap.size + 2 ≤ r) → Ax T pre x W0 a' W → body.wpIn (F.inRound l) (n - 1 - 1) P (ownPostG w.heap.size (KpT n₀ T) (I T) (Ix T) (pre ++ [x]) W) a' W)
    (hdone : ∀ (T : Nat → Prop) (xs : List α) (W : World), S xs → I T xs W → W.heap[w.heap.size]? = some (.deferred (some [])) → Q .normal { a with defers := { target := .collected w.heap.size, args := #[] } :: a.defers } W)
    (hstop : ∀ (T : Nat → Prop) (c : Code) (pre : List α) (W : World), Sp pre → Ix T c pre W → W.heap[w.heap.size]? = some (.deferred (some [])) → c.wpIn F n P Q { a with defers := { target := .collected w.heap.size, args := #[] } :: a.defers } W) :
    (Code.rangeFunc g ps assign body).wpIn F n P Q a w := by
  refine wpIn_rangeFunc fun fn hfn => ?_
  rw [hro]
  obtain ⟨R, hR⟩ : ∃ R : LoopState → Option Code → Loop, R = fun st pe => { state := st, pending := pe, fn, tmps := a.tmps, params := ps, assign, body, defers := w.heap.size } := ⟨_, rfl⟩
  obtain ⟨W1, hW1⟩ : ∃ W1, W1 = (w.alloc (.deferred (some []))).alloc (.loop (R .ready none)) := ⟨_, rfl⟩
  have hs1 : W1.heap.size = w.heap.size + 2 := by rw [hW1]; simp
  have hb1 : Below w.heap.size w W1 := by rw [hW1]; exact ((Below.refl _ w).alloc (Nat.le_refl _) _).alloc (by simp) _
  have hl1 : W1.heap[w.heap.size + 1]? = some (.loop (R .ready none)) := by
    rw [hW1]
    have := World.alloc_heap_new (w.alloc (.deferred (some []))) (.loop (R .ready none))
    rwa [World.size_alloc] at this
  have hd1 : W1.heap[w.heap.size]? = some (.deferred (some [])) := by
    rw [hW1]
    exact (Below.heap_alloc _ _ _ (by simp)).trans (World.alloc_heap_new w _)
  have put : ∀ {T : Nat → Prop} {J : List α → World → Prop}, AbidesOf (fun r => T r ∨ r = w.heap.size + 1) J → ∀ s A o, J s A → J s (A.putObj (w.heap.size + 1) o) := fun hJ s A o h => hJ s A _ (some (w.heap.size + 1)) h (grownBy_putObj' _ _ _) (fun r e => by cases e; exact .inr rfl)
  have kept : ∀ {T : Nat → Prop} {A B : World} {row : Option Nat} {k : Nat} {o : Obj}, (∀ r, T r → w.heap.size + 2 ≤ r) → A.grownBy B row → (∀ r, row = some r → T r) → k < w.heap.size + 2 → A.heap[k]? = some o → B.heap[k]? = some o := fun {T A B row k o} hT hgr hr hk ho =>
    (hgr.block k (Array.getElem?_eq_some_iff.1 ho).1 (fun e => by have := hT k (hr k e.symm); omega)).trans ho
  have kp : ∀ (T : Nat → Prop) (A : World) (o o' : Obj), (∀ r, T r → w.heap.size + 2 ≤ r) → A.heap[w.heap.size + 1]? = some o → KpT n₀ T A (A.putObj (w.heap.size + 1) o') := fun T A o o' hT ho => by
    have hlt : w.heap.size + 1 < A.heap.size := (Array.getElem?_eq_some_iff.1 ho).1
    exact ⟨(Below.refl n₀ A).grown (grownBy_putObj' A _ o') (by omega) (fun k e => by cases e; omega), fun r hr => World.putObj_heap_other (by have := hT r hr; omega)⟩
  refine ⟨w.heap.size + 1, [{ target := .collected w.heap.size, args := #[] }], W1, { target := .fn (.func gf) lb, args := #[.func (.yield (w.heap.size + 1)) #[] #[]] }, W1, gf, #[.func (.yield (w.heap.size + 1)) #[] #[]] ++ lb, W1, ?_, ?_, ?_, ?_, fun _ => h1, ?_⟩
  · rw [hW1, hR]; exact run_enterLoop_outer _ _ _ _ _
  · simp only [resolve, hg]
    simp [go_sem]
  · intro f' hf'
    simp [Target.leads] at hf'
    subst hf'
    exact hFg
  · simp [invoke, go_sem, eg]
  refine (hseq W1 hb1 hs1 (w.heap.size + 1) (fun T pre W => (∀ r, T r → w.heap.size + 2 ≤ r) ∧ I T pre W ∧ W.heap[w.heap.size + 1]? = some (.loop (R .ready none)) ∧ W.heap[w.heap.size]? = some (.deferred (some [])))
    (fun T pre W => (∀ r, T r → w.heap.size + 2 ≤ r) ∧ ∃ c, Ix T c pre W ∧ W.heap[w.heap.size + 1]? = some (.loop (R .done (some c))) ∧ W.heap[w.heap.size]? = some (.deferred (some []))) ?_ ?_ ?_ ?_).mono ?_
  · rintro T s A B row ⟨hT, x1, x2, x3⟩ hgr hr
    exact ⟨hT, hI T s A B row x1 hgr (fun r e => .inl (hr r e)), kept hT hgr hr (by omega) x2, kept hT hgr hr (by omega) x3⟩
  · rintro T s A B row ⟨hT, c, x1, x2, x3⟩ hgr hr
    exact ⟨hT, c, hIx T c s A B row x1 hgr (fun r e => .inl (hr r e)), kept hT hgr hr (by omega) x2, kept hT hgr hr (by omega) x3⟩
  · rintro T pre x W0 W ⟨_, i0, _⟩ ⟨hT, i1, l1, d1⟩ hok
    have hy := run_yield (P := P) (args := encs x) l1 (by rw [hR]; exact hps x)
    rw [hR] at hy
    refine ⟨fn, _, assign, body, hy, roundIn_of_wpIn hfn (hassign _ T pre x W0 W _ hT i0 i1 hok ?_)⟩
    clear hy
    intro a' Wa ka kpa ax
    have la := ka.same _ _ (by omega) l1 rfl
    have da := ka.same _ _ (Nat.le_refl _) d1 rfl
    have hlt : w.heap.size + 1 < Wa.heap.size := (Array.getElem?_eq_some_iff.1 la).1
    refine ⟨_, run_beginRound la (by rw [hR]), ?_⟩
    have l2 : (Wa.putObj (w.heap.size + 1) (.loop { R .ready none with state := .busy })).heap[w.heap.size + 1]? = some (.loop { R .ready none with state := .busy }) := World.putObj_heap_same hlt
    have d2 : (Wa.putObj (w.heap.size + 1) (.loop { R .ready none with state := .busy })).heap[w.heap.size]? = some (.deferred (some [])) := (World.putObj_heap_other (by omega)).trans da
    refine wpIn_mono (hbody _ T pre x W0 a' _ hT (hAx _ _ _ _ _ _ _ ax (grownBy_putObj' _ _ _) ⟨_, la, rfl⟩)) ?_
    have fin : ∀ (jump : Option Code) (W3 : World), KeepsFrom w.heap.size (Wa.putObj (w.heap.size + 1) (.loop { R .ready none with state := .busy })) W3 →
        (Instr.endRound (w.heap.size + 1) jump).run P W3 = .ok (.bool jump.isNone) (W3.putObj (w.heap.size + 1) (.loop (R (if jump.isNone then .ready else .done) jump))) ∧
        (W3.putObj (w.heap.size + 1) (.loop (R (if jump.isNone then .ready else .done) jump))).heap[w.heap.size + 1]? = some (.loop (R (if jump.isNone then .ready else .done) jump)) ∧
        (W3.putObj (w.heap.size + 1) (.loop (R (if jump.isNone then .ready else .done) jump))).heap[w.heap.size]? = some (.deferred (some [])) ∧ W3.heap[w.heap.size + 1]? = some (.loop { R .ready none with state := .busy }) := fun jump W3 hk => by
      have l3 := hk.same _ _ (by omega) l2 rfl
      have he := run_endRound (P := P) jump l3
      refine ⟨?_, World.putObj_heap_same (Array.getElem?_eq_some_iff.1 l3).1, (World.putObj_heap_other (by omega)).trans (hk.same _ _ (Nat.le_refl _) d2 rfl), l3⟩
      rw [hR] at he ⊢
      exact he
    have leave : ∀ (c : Code) (W3 : World), KeepsFrom w.heap.size (Wa.putObj (w.heap.size + 1) (.loop { R .ready none with state := .busy })) W3 → Ix T c (pre ++ [x]) W3 → ∃ v w', (Instr.endRound (w.heap.size + 1) (some c)).run P W3 = .ok v w' ∧
        (((Ending.returned v) = .returned (.bool true) ∧ ((∀ r, T r → w.heap.size + 2 ≤ r) ∧ I T (pre ++ [x]) w' ∧ w'.heap[w.heap.size + 1]? = some (.loop (R .ready none)) ∧ w'.heap[w.heap.size]? = some (.deferred (some []))) ∧ KpT n₀ T W w') ∨ ((Ending.returned v) = .returned (.bool false) ∧ (∀ r, T r → w.heap.size + 2 ≤ r) ∧ ∃ c, Ix T c (pre ++ [x]) w' ∧ w'.heap[w.heap.size + 1]? = some (.loop (R .done (some c))) ∧ w'.heap[w.heap.size]? = some (.deferred (some [])))) := fun c W3 hk hx => by
      obtain ⟨r1, r2, r3, _⟩ := fin (some c) W3 hk
      exact ⟨_, _, r1, .inr ⟨rfl, hT, c, put (hIx T c) _ _ _ hx, r2, r3⟩⟩
    rintro e a3 W3 hp
    cases e with
    | normal =>
      obtain ⟨k3, kp3, i3⟩ := hp
      obtain ⟨r1, r2, r3, r4⟩ := fin none W3 k3
      exact ⟨_, _, r1, .inl ⟨rfl, ⟨hT, put (hI T) _ _ _ i3, r2, r3⟩, ((kpa.trans (kp T Wa _ _ hT la)).trans kp3).trans (kp T W3 _ _ hT r4)⟩⟩
    | ret => exact leave _ W3 hp.1 hp.2
    | exit id => exact leave _ W3 hp.1 hp.2
    | goto t => exact leave _ W3 hp.1 hp.2
    | panic ch => exact hp.elim
    | outgrown => exact hp.elim
  · rintro T W' hb hT
    rw [hs1] at hb hT
    exact ⟨fun r hr => (hT r hr).1, h0 T W' (hb1.trans (hb.mono (by omega))) (by have := hb.size; omega) hT, (hb.block _ (by omega)).trans hl1, (hb.block _ (by omega)).trans hd1⟩
  · rintro e W2 ⟨⟨v, rfl⟩, (⟨T, xs, hS, hT, hi, hl, hk⟩ | ⟨T, pre, hSp, hT, c, hi, hl, hk⟩)⟩
    · have he := run_endLoop (P := P) hl (by rw [hR]; simp)
      rw [hR] at he
      exact ⟨none, _, he, hdone T xs _ hS (put (hI T) _ _ _ hi) ((World.putObj_heap_other (by omega)).trans hk)⟩
    · have he := run_endLoop (P := P) hl (by rw [hR]; simp)
      rw [hR] at he
      exact ⟨some c, _, he, hstop T c pre _ hSp (put (hIx T c) _ _ _ hi) ((World.putObj_heap_other (by omega)).trans hk)⟩
end Go.Proofs.YtnfgldglpfgmnaaDoor
