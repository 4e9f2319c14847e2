/- The blocks of a tree, mathematics: the data blocks in their order, the numbers in their order. -/
import Derived.Test.YtlegmaadcemgnaaDoorTrA
namespace Go.Proofs.YtlegmaadcemgnaaDoor
set_option linter.unusedVariables false
set_option linter.unusedSimpArgs false
section
variable {α : Type}
theorem flat_nil (L : List Nat) (g : Nat → List α) (h : ∀ k ∈ L, g k = []) : L.flatMap g = [] := List.flatMap_eq_nil_iff.2 h
theorem flat_cut (m c : Nat) (g : Nat → List α) (h : ∀ k, c ≤ k → g k = []) : (List.range m).flatMap g = (List.range (min m c)).flatMap g := by
  rcases Nat.le_total m c with hm | hm
  · rw [Nat.min_eq_left hm]
  · rw [Nat.min_eq_right hm]
    obtain ⟨d, rfl⟩ : ∃ d, m = c + d := ⟨m - c, by omega⟩
    rw [List.range_add, List.flatMap_append, List.flatMap_map, flat_nil (List.range d) _ (fun k _ => h _ (by omega)), List.append_nil]
theorem flat_add (a b : Nat) (g : Nat → List α) : (List.range (a + b)).flatMap g = (List.range a).flatMap g ++ (List.range b).flatMap (fun k => g (a + k)) := by
  rw [List.range_add, List.flatMap_append, List.flatMap_map]
theorem flat_nest (c : Nat) (g : Nat → List α) : ∀ K : Nat, (List.range K).flatMap (fun k => (List.range 128).flatMap fun j => g (c + 128 * k + j)) = (List.range (128 * K)).flatMap (fun i => g (c + i))
  | 0 => rfl
  | K + 1 => by
    rw [flat_add K 1, flat_nest c g K, Nat.mul_succ, flat_add (128 * K) 128]
    refine congrArg (_ ++ ·) ?_
    rw [show List.range 1 = [0] from rfl, List.flatMap_cons, List.flatMap_nil, List.append_nil]
    exact flat_same _ _ _ (fun j _ => congrArg g (by omega))
end
section
variable {cnt n : Nat} {W : Int → Nat → Int} {D : Nat → Int} {S X : Int}
theorem dat_lo {i : Nat} (h : i < 12) : datP W D S X i = D i := by unfold datP; rw [if_pos h]
theorem dat_mid {k : Nat} (h : k < 128) : datP W D S X (12 + k) = hwP W S k := by unfold datP; rw [if_neg (by omega), if_pos (by omega), Nat.add_sub_cancel_left]
theorem dat_hi {k j : Nat} (h : j < 128) : datP W D S X (140 + 128 * k + j) = hwP W (hwP W X k) j := by
  unfold datP
  rw [if_neg (by omega), if_neg (by omega), show (140 + 128 * k + j - 140) / 128 = k by omega, show (140 + 128 * k + j - 140) % 128 = j by omega]
/-- Data block r, told if it is one. -/
def gP (cnt : Nat) (W : Int → Nat → Int) (D : Nat → Int) (S X : Int) (r : Nat) : List HG := if cnt ≤ r ∨ datP W D S X r = 0 then [] else [(0, r, datP W D S X r)]
theorem seg_g (b m : Nat) (f : Nat → Int) (h : ∀ k, k < m → datP W D S X (b + k) = f k) : segP cnt b m f = (List.range m).flatMap (fun k => gP cnt W D S X (b + k)) := by
  unfold segP gP
  exact flat_same _ _ _ (fun k hk => by rw [h k (List.mem_range.1 hk)])
theorem seg_level (b m : Nat) (f : Nat → Int) : (segP cnt b m f).filter (fun h => h.1 == 0) = segP cnt b m f := by
  rw [List.filter_eq_self]
  intro x hx
  unfold segP at hx
  obtain ⟨k, _, hk⟩ := List.mem_flatMap.1 hx
  by_cases hc : cnt ≤ b + k ∨ f k = 0
  · rw [if_pos hc] at hk; cases hk
  · rw [if_neg hc, List.mem_singleton] at hk
    rw [hk]; rfl
theorem hd1_level (r : Nat) (p : Int) : (hd1P cnt r p).filter (fun h => h.1 == 0) = [] := by unfold hd1P; split <;> rfl
theorem hd2_level (p : Int) : (hd2P cnt p).filter (fun h => h.1 == 0) = [] := by unfold hd2P; split <;> rfl
theorem filter_flat {α β : Type} (q : β → Bool) (g : α → List β) : ∀ L : List α, (L.flatMap g).filter q = L.flatMap (fun x => (g x).filter q)
  | [] => rfl
  | a :: L => by rw [List.flatMap_cons, List.flatMap_cons, List.filter_append, filter_flat q g L]
/-- The data blocks other than holes, by their index. -/
def datL (cnt : Nat) (W : Int → Nat → Int) (D : Nat → Int) (S X : Int) : List HG := (List.range cnt).flatMap fun r => if datP W D S X r = 0 then [] else [(0, r, datP W D S X r)]
theorem listR_data (hc : cnt ≤ 512) : (listR cnt W D S X).filter (fun h => h.1 == 0) = datL cnt W D S X := by
  unfold listR
  rw [List.filter_append, List.filter_append, List.filter_append, List.filter_append, seg_level, hd1_level, seg_level, hd2_level, List.nil_append, List.nil_append, filter_flat]
  have e0 : (List.range 128).flatMap (fun k => (hd1P cnt (1 + k) (hwP W X k) ++ segP cnt (12 + (1 + k) * 128) 128 (hwP W (hwP W X k))).filter (fun h => h.1 == 0)) = (List.range (128 * 128)).flatMap (fun i => gP cnt W D S X (140 + i)) := by
    rw [← flat_nest 140 (gP cnt W D S X) 128]
    refine flat_same _ _ _ (fun k _ => ?_)
    rw [List.filter_append, hd1_level, List.nil_append, seg_level, seg_g (W := W) (D := D) (S := S) (X := X) _ _ _ (fun j hj => by rw [show 12 + (1 + k) * 128 + j = 140 + 128 * k + j by omega]; exact dat_hi hj)]
    exact flat_same _ _ _ (fun j _ => by rw [show 12 + (1 + k) * 128 + j = 140 + 128 * k + j by omega])
  rw [e0, seg_g (W := W) (D := D) (S := S) (X := X) 0 12 D (fun k hk => by rw [Nat.zero_add]; exact dat_lo hk), seg_g (W := W) (D := D) (S := S) (X := X) 12 128 _ (fun k hk => dat_mid hk)]
  have e1 : (List.range 12).flatMap (fun k => gP cnt W D S X (0 + k)) ++ ((List.range 128).flatMap (fun k => gP cnt W D S X (12 + k)) ++ (List.range (128 * 128)).flatMap (fun i => gP cnt W D S X (140 + i))) = (List.range (12 + 128 + 128 * 128)).flatMap (gP cnt W D S X) := by
    have e9 : (List.range 12).flatMap (fun k => gP cnt W D S X (0 + k)) = (List.range 12).flatMap (gP cnt W D S X) := flat_same _ _ _ (fun k _ => by rw [Nat.zero_add])
    rw [flat_add (12 + 128), flat_add 12 128, List.append_assoc, e9]
  rw [e1, flat_cut _ cnt _ (fun k hk => by unfold gP; rw [if_pos (.inl hk)]), Nat.min_eq_right (by omega)]
  unfold datL gP
  refine flat_same _ _ _ (fun k hk => ?_)
  have := List.mem_range.1 hk
  by_cases h0 : datP W D S X k = 0
  · rw [if_pos h0, if_pos (.inr h0)]
  · rw [if_neg h0, if_neg (by omega)]
/-- A part of the model's list. -/
def cutM (L : List Int) (lo hi : Nat) : List Int := (L.drop lo).take (hi - lo)
theorem cut_range (f : Nat → Int) (c lo m : Nat) : cutM ((List.range c).map f) lo (lo + m) = (List.range (min m (c - lo))).map (fun k => f (lo + k)) := by
  unfold cutM
  refine List.ext_getElem? (fun i => ?_)
  rw [Nat.add_sub_cancel_left, List.getElem?_take, List.getElem?_drop, List.getElem?_map, List.getElem?_map]
  by_cases h1 : i < m
  · rw [if_pos h1]
    by_cases h2 : lo + i < c
    · rw [List.getElem?_range h2, List.getElem?_range (by omega)]; rfl
    · rw [List.getElem?_eq_none (by rw [List.length_range]; omega), List.getElem?_eq_none (by rw [List.length_range]; omega)]; rfl
  · rw [if_neg h1, List.getElem?_eq_none (by rw [List.length_range]; omega)]; rfl
/-- The numbers that aren't holes. -/
def someM (L : List Int) : List Int := L.filter (fun p => p != 0)
theorem some_flat (f : Nat → Int) : ∀ L : List Nat, someM (L.map f) = L.flatMap (fun k => if f k = 0 then [] else [f k])
  | [] => rfl
  | a :: L => by
    have ih := some_flat f L
    unfold someM at ih ⊢
    rw [List.map_cons, List.flatMap_cons, List.filter_cons, ih]
    by_cases h : f a = 0
    · rw [if_pos h, if_neg (by simp [h])]; rfl
    · rw [if_neg h, if_pos (by simp [h])]; rfl
theorem seg_nums (b m : Nat) (f : Nat → Int) (h : ∀ k, k < m → datP W D S X (b + k) = f k) : (segP cnt b m f).map (fun h => h.2.2) = someM (cutM ((List.range cnt).map (datP W D S X)) b (b + m)) := by
  rw [cut_range, some_flat]
  unfold segP
  rw [List.map_flatMap, flat_cut m (cnt - b) _ (fun k hk => by rw [if_pos (.inl (by omega))]; rfl)]
  refine flat_same _ _ _ (fun k hk => ?_)
  have hk2 := List.mem_range.1 hk
  rw [h k (by omega)]
  by_cases h0 : f k = 0
  · rw [if_pos h0, if_pos (.inr h0)]; rfl
  · rw [if_neg h0, if_neg (by omega)]; rfl
theorem some_append (A B : List Int) : someM (A ++ B) = someM A ++ someM B := List.filter_append ..
theorem some_one (p : Int) : someM [p] = if p = 0 then [] else [p] := by
  unfold someM
  by_cases h : p = 0
  · rw [if_pos h, h]; rfl
  · rw [if_neg h]; simp [h]
/-- How many of Double's words the model looks at. -/
def secN (cnt : Nat) : Nat := min 128 ((cnt - 140 + 127) / 128)
theorem sec_lt {k : Nat} (h : k < secN cnt) : 140 + 128 * k < cnt := by unfold secN at h; omega
theorem sec_ge {k : Nat} (hc : cnt ≤ 512) (h : secN cnt ≤ k) : cnt ≤ 140 + 128 * k := by unfold secN at h; omega
/-- The model's list of all blocks. -/
def allM (cnt : Nat) (W : Int → Nat → Int) (D : Nat → Int) (S X : Int) : List Int :=
  let L := (List.range cnt).map (datP W D S X)
  cutM L 0 12 ++ [S] ++ cutM L 12 140 ++ [X] ++ (List.range (secN cnt)).flatMap (fun k => hwP W X k :: cutM L (140 + 128 * k) (268 + 128 * k))
theorem listR_nums (hR : RootP cnt D S X) : (listR cnt W D S X).map (fun h => h.2.2) = someM (allM cnt W D S X) := by
  have hc := hR.c
  unfold listR allM
  simp only [List.map_append, some_append]
  rw [seg_nums (W := W) (D := D) (S := S) (X := X) 0 12 D (fun k hk => by rw [Nat.zero_add]; exact dat_lo hk), seg_nums (W := W) (D := D) (S := S) (X := X) 12 128 _ (fun k hk => dat_mid hk)]
  have h1 : (hd1P cnt 0 S).map (fun h => h.2.2) = someM [S] := by
    rw [some_one]
    unfold hd1P
    by_cases h0 : S = 0
    · rw [if_pos (.inr h0), if_pos h0]; rfl
    · rw [if_neg (fun e => e.elim (fun e => h0 (hR.s (by omega))) h0), if_neg h0]; rfl
  have h2 : (hd2P cnt X).map (fun h => h.2.2) = someM [X] := by
    rw [some_one]
    unfold hd2P
    by_cases h0 : X = 0
    · rw [if_pos (.inr h0), if_pos h0]; rfl
    · rw [if_neg (fun e => e.elim (fun e => h0 (hR.x e)) h0), if_neg h0]; rfl
  have h3 : ((List.range 128).flatMap (fun k => hd1P cnt (1 + k) (hwP W X k) ++ segP cnt (12 + (1 + k) * 128) 128 (hwP W (hwP W X k)))).map (fun h => h.2.2) = someM ((List.range (secN cnt)).flatMap (fun k => hwP W X k :: cutM ((List.range cnt).map (datP W D S X)) (140 + 128 * k) (268 + 128 * k))) := by
    unfold someM
    rw [filter_flat, List.map_flatMap]
    have hs : secN cnt ≤ 128 := by unfold secN; omega
    rw [flat_cut 128 (secN cnt) _ (fun k hk => by
      have := sec_ge hc hk
      rw [show hd1P cnt (1 + k) (hwP W X k) = [] by unfold hd1P; rw [if_pos (.inl (by omega))], seg_none (.inl (by omega))]
      rfl), Nat.min_eq_right hs]
    refine flat_same _ _ _ (fun k hk => ?_)
    have hk2 := sec_lt (List.mem_range.1 hk)
    rw [List.map_append, seg_nums (W := W) (D := D) (S := S) (X := X) _ _ _ (fun j hj => by rw [show 12 + (1 + k) * 128 + j = 140 + 128 * k + j by omega]; exact dat_hi hj), show 12 + (1 + k) * 128 = 140 + 128 * k by omega, show 140 + 128 * k + 128 = 268 + 128 * k by omega]
    show _ = someM ([hwP W X k] ++ _)
    rw [some_append, some_one]
    refine congrArg (· ++ _) ?_
    unfold hd1P
    by_cases h0 : hwP W X k = 0
    · rw [if_pos (.inr h0), if_pos h0]; rfl
    · rw [if_neg (by omega), if_neg h0]; rfl
  rw [h1, h2, h3]
  simp only [List.append_assoc]
end
end Go.Proofs.YtlegmaadcemgnaaDoor
