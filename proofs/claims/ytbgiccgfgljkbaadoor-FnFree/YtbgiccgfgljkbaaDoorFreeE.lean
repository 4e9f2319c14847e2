/- What the law on free blocks and planes needs of maps: mathematics alone. -/
import Derived.Test.YtbgiccgfgljkbaaDoorFreeC
namespace Go.Proofs.YtbgiccgfgljkbaaDoor
set_option linter.unusedVariables false
set_option linter.unusedSimpArgs false
open Go.RowKit

theorem freeN_succ (ws : List Int) (k : Nat) : freeN ws (k + 1) = freeN ws k + if ws.getD k 0 = 0 then 1 else 0 := rfl
theorem free_used (ws : List Int) : ∀ k, freeN ws k + usedN ws k = k
  | 0 => rfl
  | k + 1 => by
    have h := free_used ws k
    show (freeN ws k + if ws.getD k 0 = 0 then 1 else 0) + (usedN ws k + if ws.getD k 0 = 0 then 0 else 1) = k + 1
    split <;> omega
theorem right_head (ws : List Int) (hr : rightM ws = true) : ws.getD 0 0 = 1 ∧ ws.getD 1 0 = 1 := by
  have hl := right_len ws hr
  unfold rightM at hr
  rw [Bool.and_eq_true] at hr
  have h1 := okTo_mono ws ws.length 1 (by omega) hr.2
  have h2 := okTo_mono ws ws.length 2 (by omega) hr.2
  have h1' : (okTo ws 0 && (wordB (ws.getD 0 0) && headB 0 (ws.getD 0 0))) = true := h1
  have h2' : (okTo ws 1 && (wordB (ws.getD 1 0) && headB 1 (ws.getD 1 0))) = true := h2
  simp only [Bool.and_eq_true, headB, Bool.or_eq_true, decide_eq_true_eq] at h1' h2'
  constructor
  · rcases h1'.2.2 with h | h
    · omega
    · exact h
  · rcases h2'.2.2 with h | h
    · omega
    · exact h
theorem free_two (ws : List Int) (hr : rightM ws = true) : freeN ws 2 = 0 := by
  obtain ⟨h0, h1⟩ := right_head ws hr
  show (0 + if ws.getD 0 0 = 0 then 1 else 0) + (if ws.getD 1 0 = 0 then 1 else 0) = 0
  rw [h0, h1]; rfl
theorem frees_cnt (ws : List Int) (c : Nat) (h2 : 2 ≤ c) (hc : c < ws.length) : ∀ k, k ≤ ws.length - 2 →
    (c + k ≤ ws.length → (freesTo ws c k).length + freeN ws c = freeN ws (c + k)) ∧ (ws.length ≤ c + k → (freesTo ws c k).length + freeN ws c + freeN ws 2 = freeN ws ws.length + freeN ws (c + k - ws.length + 2))
  | 0, _ => ⟨fun _ => by simp [freesTo], fun h => by omega⟩
  | k + 1, hk => by
    obtain ⟨i1, i2⟩ := frees_cnt ws c h2 hc k (by omega)
    have hlen : (freesTo ws c (k + 1)).length = (freesTo ws c k).length + if ws.getD (ordAt ws.length c k) 0 = 0 then 1 else 0 := by
      by_cases hz : ws.getD (ordAt ws.length c k) 0 = 0
      · rw [frees_yes ws c k hz, if_pos hz]; simp
      · rw [frees_no ws c k hz, if_neg hz]; rfl
    rw [hlen]
    by_cases hcase : c + k < ws.length
    · have ho : ordAt ws.length c k = c + k := by unfold ordAt; rw [if_pos hcase]
      rw [ho]
      have e := i1 (by omega)
      have f := freeN_succ ws (c + k)
      refine ⟨fun _ => ?_, fun h => ?_⟩
      · rw [← Nat.add_assoc, f]; omega
      · have : c + k + 1 = ws.length := by omega
        rw [show c + (k + 1) - ws.length + 2 = 2 from by omega, ← this, f]; omega
    · have ho : ordAt ws.length c k = c + k - ws.length + 2 := by unfold ordAt; rw [if_neg hcase]
      rw [ho]
      have e := i2 (by omega)
      have f := freeN_succ ws (c + k - ws.length + 2)
      refine ⟨fun h => by omega, fun h => ?_⟩
      rw [show c + (k + 1) - ws.length + 2 = c + k - ws.length + 2 + 1 from by omega, f]; omega
theorem frees_all (ws : List Int) (c : Nat) (hr : rightM ws = true) (h2 : 2 ≤ c) (hc : c < ws.length) : (freesM ws c).length = freeN ws ws.length := by
  have hl := right_len ws hr
  have hz := free_two ws hr
  have h := frees_cnt ws c h2 hc (ws.length - 2) (Nat.le_refl _)
  have := h.2 (by omega)
  rw [show c + (ws.length - 2) - ws.length + 2 = c from by omega] at this
  unfold freesM
  omega

/-- How far a block lies behind the cursor, round the end. -/
def posI (n c b : Int) : Int := (b - c + n) % n
theorem pos_ord (n c i : Nat) (h2 : 2 ≤ c) (hc : c < n) (hi : i < n - 2) : posI n c ((ordAt n c i : Nat) : Int) = if c + i < n then (i : Int) else (i : Int) + 2 := by
  unfold posI ordAt
  split
  · rw [show ((c + i : Nat) : Int) - c + n = i + n from by omega, Int.add_emod_right]
    exact Int.emod_eq_of_lt (by omega) (by omega)
  · rw [show ((c + i - n + 2 : Nat) : Int) - c + n = i + 2 from by omega]
    exact Int.emod_eq_of_lt (by omega) (by omega)
theorem pos_mono (n c i j : Nat) (h2 : 2 ≤ c) (hc : c < n) (hij : i < j) (hj : j < n - 2) : posI n c ((ordAt n c i : Nat) : Int) < posI n c ((ordAt n c j : Nat) : Int) := by
  rw [pos_ord n c i h2 hc (by omega), pos_ord n c j h2 hc hj]
  split <;> split <;> omega
theorem frees_mem_to (ws : List Int) (c k : Nat) (x : Int) (hx : x ∈ freesTo ws c k) : ∃ i, i < k ∧ x = ((ordAt ws.length c i : Nat) : Int) ∧ ws.getD (ordAt ws.length c i) 0 = 0 := by
  simp [freesTo] at hx
  obtain ⟨b, ⟨⟨i, hi, hb⟩, hf⟩, rfl⟩ := hx
  refine ⟨i, hi, by rw [hb], ?_⟩
  rw [hb]
  unfold isFree at hf
  exact of_decide_eq_true hf
theorem frees_pair (ws : List Int) (c : Nat) (h2 : 2 ≤ c) (hc : c < ws.length) : ∀ k, k ≤ ws.length - 2 → (freesTo ws c k).Pairwise (fun a b => posI ws.length c a < posI ws.length c b)
  | 0, _ => by simp [freesTo]
  | k + 1, hk => by
    have ih := frees_pair ws c h2 hc k (by omega)
    by_cases hz : ws.getD (ordAt ws.length c k) 0 = 0
    · rw [frees_yes ws c k hz, List.pairwise_append]
      refine ⟨ih, by simp, ?_⟩
      intro a ha b hb
      rw [List.mem_singleton] at hb
      subst hb
      obtain ⟨i, hi, rfl, _⟩ := frees_mem_to ws c k a ha
      exact pos_mono ws.length c i k h2 hc hi (by omega)
    · rw [frees_no ws c k hz]; exact ih
/-- A free block of the list, and the one ahead of it. -/
theorem frees_at (ws : List Int) (c k : Nat) (h2 : 2 ≤ c) (hc : c < ws.length) (hk : k < (freesM ws c).length) :
    ∃ b : Nat, (freesM ws c).getD k 0 = (b : Int) ∧ 2 ≤ b ∧ b < ws.length ∧ ws.getD b 0 = 0 ∧ (0 < k → posI ws.length c ((freesM ws c).getD (k - 1) 0) < posI ws.length c (b : Int)) := by
  have hm : (freesM ws c).getD k 0 ∈ freesM ws c := by
    rw [List.getD_eq_getElem?_getD, List.getElem?_eq_getElem hk, Option.getD_some]; exact List.getElem_mem _
  obtain ⟨i, hi, he, hz⟩ := frees_mem_to ws c _ _ hm
  have ho := ord_in ws.length c i h2 hc hi
  refine ⟨ordAt ws.length c i, he, ho.1, ho.2, hz, fun h0 => ?_⟩
  have hp := frees_pair ws c h2 hc (ws.length - 2) (Nat.le_refl _)
  have hp' : (freesM ws c).Pairwise (fun a b => posI ws.length c a < posI ws.length c b) := hp
  rw [List.pairwise_iff_getElem] at hp'
  have := hp' (k - 1) k (by omega) hk (by omega)
  rw [← he, List.getD_eq_getElem?_getD, List.getElem?_eq_getElem (show k - 1 < (freesM ws c).length by omega), Option.getD_some, List.getD_eq_getElem?_getD, List.getElem?_eq_getElem hk, Option.getD_some]
  exact this
theorem last_in (ws : List Int) (c : Nat) (h2 : 2 ≤ c) (hc : c < ws.length) (hn : ws.length ≤ 2048) : 2 ≤ lastOf ws.length c (freesM ws c) ∧ lastOf ws.length c (freesM ws c) < ws.length := by
  unfold lastOf
  cases e : (freesM ws c).getLast? with
  | none => simp; omega
  | some x =>
    have hx := frees_mem ws c h2 hc x (List.mem_of_getLast? e)
    simp only [behI]
    split
    · omega
    · unfold wrap64; omega

/-- The blocks from 2 to k - 1 whose word has bit p. -/
def bsTo (ws : List Int) (p : Nat) : Nat → List Int
  | 0 => []
  | k + 1 => bsTo ws p k ++ if 2 ≤ k ∧ bitN (natW ws k) p = 1 then [(k : Int)] else []
theorem bs_mem (ws : List Int) (p : Nat) (x : Int) : ∀ k, x ∈ bsTo ws p k ↔ ∃ b : Nat, x = (b : Int) ∧ 2 ≤ b ∧ b < k ∧ bitN (natW ws b) p = 1
  | 0 => by simp [bsTo]
  | k + 1 => by
    have ih := bs_mem ws p x k
    unfold bsTo
    rw [List.mem_append, ih]
    constructor
    · rintro (⟨b, h1, h2, h3, h4⟩ | h)
      · exact ⟨b, h1, h2, by omega, h4⟩
      · split at h
        · rename_i hc
          rw [List.mem_singleton] at h
          exact ⟨k, h, hc.1, by omega, hc.2⟩
        · simp at h
    · rintro ⟨b, h1, h2, h3, h4⟩
      by_cases e : b = k
      · subst e
        right
        rw [if_pos ⟨h2, h4⟩, h1]; simp
      · left; exact ⟨b, h1, h2, by omega, h4⟩
theorem bs_len (ws : List Int) (p : Nat) : ∀ k, (bsTo ws p k).length ≤ k
  | 0 => by simp [bsTo]
  | k + 1 => by
    have := bs_len ws p k
    unfold bsTo
    split <;> simp <;> omega
theorem has_iff (ss : List Int) (b : Nat) : ∀ k, k ≤ ss.length → (hasTo ss b k = true ↔ ∃ j, j < k ∧ ss.getD j 0 = (b : Int))
  | 0, _ => by simp [hasTo]
  | k + 1, hk => by
    have ih := has_iff ss b k (by omega)
    show ((hasTo ss b k || decide (ss.getD k 0 = (b : Int))) = true) ↔ _
    rw [Bool.or_eq_true, ih, decide_eq_true_eq]
    constructor
    · rintro (⟨j, h1, h2⟩ | h)
      · exact ⟨j, by omega, h2⟩
      · exact ⟨k, by omega, h⟩
    · rintro ⟨j, h1, h2⟩
      by_cases e : j = k
      · subst e; exact .inr h2
      · exact .inl ⟨j, by omega, h2⟩
theorem has_mem (ss : List Int) (b : Nat) : hasTo ss b ss.length = true ↔ (b : Int) ∈ ss := by
  rw [has_iff ss b ss.length (Nat.le_refl _), List.mem_iff_getElem]
  constructor
  · rintro ⟨j, h1, h2⟩
    refine ⟨j, h1, ?_⟩
    rw [List.getD_eq_getElem?_getD, List.getElem?_eq_getElem h1, Option.getD_some] at h2
    exact h2
  · rintro ⟨j, h1, h2⟩
    refine ⟨j, h1, ?_⟩
    rw [List.getD_eq_getElem?_getD, List.getElem?_eq_getElem h1, Option.getD_some]
    exact h2
theorem all_of (n : Nat) (ss : List Int) (h : ∀ x ∈ ss, 2 ≤ x ∧ x < (n : Int)) : ∀ k, k ≤ ss.length → allIn n ss k = true
  | 0, _ => rfl
  | k + 1, hk => by
    show (allIn n ss k && insB n (ss.getD k 0)) = true
    rw [all_of n ss h k (by omega)]
    have hm : ss.getD k 0 ∈ ss := by
      rw [List.getD_eq_getElem?_getD, List.getElem?_eq_getElem (by omega), Option.getD_some]; exact List.getElem_mem _
    have h3 := h _ hm
    unfold insB
    generalize ss.getD k 0 = z at h3
    simp; omega
theorem bs_all (ws : List Int) (p n : Nat) : allIn n (bsTo ws p n) (bsTo ws p n).length = true := by
  apply all_of n (bsTo ws p n) ?_ _ (Nat.le_refl _)
  intro x hx
  obtain ⟨b, rfl, h1, h2, _⟩ := (bs_mem ws p x n).1 hx
  omega
/-- The map without plane p. -/
def bare (ws : List Int) (p : Nat) : List Int := setTo ws [] p 0
theorem bare_len (ws : List Int) (p : Nat) : (bare ws p).length = ws.length := setTo_len _ _ _ _
theorem bare_get (ws : List Int) (p b : Nat) (hb : b < ws.length) : (bare ws p).getD b 0 = if 2 ≤ b then (clrN (natW ws b) p : Int) else ws.getD b 0 := by
  unfold bare setTo
  rw [List.getD_eq_getElem?_getD, List.getElem?_map, List.getElem?_range hb]
  simp only [Option.map_some, Option.getD_some]
  rfl
theorem bare_right (ws : List Int) (p : Nat) (hr : rightM ws = true) : rightM (bare ws p) = true := by
  have hl := right_len ws hr
  obtain ⟨h0, h1⟩ := right_head ws hr
  have hk : ∀ k, k ≤ ws.length → okTo (bare ws p) k = true := by
    intro k
    induction k with
    | zero => intro _; rfl
    | succ k ih =>
      intro hk
      show (okTo (bare ws p) k && (wordB ((bare ws p).getD k 0) && headB k ((bare ws p).getD k 0))) = true
      rw [ih (by omega), bare_get ws p k (by omega)]
      obtain ⟨y, hy, hy2⟩ := right_word ws hr k (by omega)
      by_cases h2 : 2 ≤ k
      · rw [if_pos h2]
        have := clr_le (natW ws k) p
        have hn : natW ws k = y := by unfold natW; rw [hy]; rfl
        rw [hn] at this ⊢
        simp [wordB, headB, h2]; omega
      · rw [if_neg h2]
        have : k = 0 ∨ k = 1 := by omega
        rcases this with rfl | rfl
        · rw [h0]; rfl
        · rw [h1]; rfl
  unfold rightM
  rw [bare_len, hk ws.length (Nat.le_refl _)]
  unfold sizeB; simp; omega
theorem bare_plane (ws : List Int) (p : Nat) (hr : rightM ws = true) (hp : p < 32) : planeM ws p [] = bare ws p ∧ codeP ws p [] = 0 := by
  have hb : planeB ws p = true := by simp [planeB, hr]; omega
  constructor
  · simp [planeM, hb, allIn, bare]
  · simp [codeP, hb, allIn]
theorem back_plane (ws : List Int) (p : Nat) (hr : rightM ws = true) (hp : p < 32) : planeM (bare ws p) p (bsTo ws p ws.length) = ws ∧ codeP (bare ws p) p (bsTo ws p ws.length) = 0 := by
  have hb : planeB (bare ws p) p = true := by simp [planeB, bare_right ws p hr]; omega
  have ha := bs_all ws p ws.length
  constructor
  · have e : planeM (bare ws p) p (bsTo ws p ws.length) = setTo (bare ws p) (bsTo ws p ws.length) p (bsTo ws p ws.length).length := by
      simp only [planeM, hb, bare_len, ha, Bool.and_self, if_true]
      rfl
    rw [e]
    apply List.ext_getElem?
    intro b
    by_cases hlt : b < ws.length
    · unfold setTo
      rw [List.getElem?_map, bare_len, List.getElem?_range hlt]
      simp only [Option.map_some]
      rw [List.getElem?_eq_getElem hlt]
      congr 1
      have hw : ws.getD b 0 = ws[b] := by rw [List.getD_eq_getElem?_getD, List.getElem?_eq_getElem hlt, Option.getD_some]
      obtain ⟨y, hy, hy2⟩ := right_word ws hr b hlt
      have hn : natW ws b = y := by unfold natW; rw [hy]; rfl
      by_cases h2 : 2 ≤ b
      · rw [if_pos h2]
        have hnb : natW (bare ws p) b = clrN y p := by unfold natW; rw [bare_get ws p b hlt, if_pos h2, hn]; rfl
        rw [hnb, ← hw, hy]
        have hs := split_bit y p
        have hcc : clrN (clrN y p) p = clrN y p := by
          have := (split_bit (clrN y p) p).2
          rw [hs.1] at this
          omega
        have hb2 := bitN_lt y p
        by_cases hbit : bitN y p = 1
        · have : hasTo (bsTo ws p ws.length) b (bsTo ws p ws.length).length = true := by
            rw [has_mem, bs_mem]; exact ⟨b, rfl, h2, hlt, by rw [hn]; exact hbit⟩
          rw [this]
          show ((putN (clrN y p) p : Nat) : Int) = _
          unfold putN
          rw [hcc]
          have := hs.2
          rw [hbit] at this
          omega
        · have : hasTo (bsTo ws p ws.length) b (bsTo ws p ws.length).length = false := by
            cases e : hasTo (bsTo ws p ws.length) b (bsTo ws p ws.length).length with
            | false => rfl
            | true =>
              rw [has_mem, bs_mem] at e
              obtain ⟨b', h1, _, _, h4⟩ := e
              have : b = b' := by omega
              subst this
              rw [hn] at h4
              exact absurd h4 hbit
          rw [this]
          show ((clrN (clrN y p) p : Nat) : Int) = _
          rw [hcc]
          have := hs.2
          rw [show bitN y p = 0 from by omega] at this
          omega
      · rw [if_neg h2, bare_get ws p b hlt, if_neg h2, hw]
    · rw [List.getElem?_eq_none (by rw [setTo_len, bare_len]; omega), List.getElem?_eq_none (by omega)]
  · simp only [codeP, hb, bare_len, ha, if_true]
def fixN (p : Nat) : Nat := if p = 0 then 2 else 0
theorem bit_one (p : Nat) : bitN 1 p = if p = 0 then 1 else 0 := by
  unfold bitN
  by_cases h : p = 0
  · subst h; rfl
  · rw [if_neg h, Nat.div_eq_of_lt (Nat.one_lt_two_pow h)]
theorem pl_two (ws : List Int) (p : Nat) (h0 : ws.getD 0 0 = 1) (h1 : ws.getD 1 0 = 1) : plN ws p 2 = fixN p := by
  show 0 + bitN (ws.getD 0 0).toNat p + bitN (ws.getD 1 0).toNat p = fixN p
  rw [h0, h1, show (1 : Int).toNat = 1 from rfl, bit_one]
  unfold fixN
  split <;> rfl
theorem pl_bs (ws : List Int) (p : Nat) (hr : rightM ws = true) : ∀ k, 2 ≤ k → plN ws p k = (bsTo ws p k).length + fixN p := by
  obtain ⟨h0, h1⟩ := right_head ws hr
  intro k
  induction k with
  | zero => intro h; omega
  | succ k ih =>
    intro hk
    by_cases e : k + 1 = 2
    · have : k = 1 := by omega
      subst this
      rw [pl_two ws p h0 h1]
      simp [bsTo]
    · have hk2 : 2 ≤ k := by omega
      show plN ws p k + bitN (ws.getD k 0).toNat p = (bsTo ws p k ++ if 2 ≤ k ∧ bitN (natW ws k) p = 1 then [(k : Int)] else []).length + fixN p
      rw [ih hk2]
      have hb := bitN_lt (natW ws k) p
      show _ + bitN (natW ws k) p = _
      by_cases hbit : bitN (natW ws k) p = 1
      · rw [if_pos ⟨hk2, hbit⟩, hbit]; simp; omega
      · rw [if_neg (fun h => hbit h.2)]; simp; omega
theorem pl_bare (ws : List Int) (p : Nat) (hr : rightM ws = true) : plN (bare ws p) p ws.length = fixN p := by
  have hl := right_len ws hr
  obtain ⟨h0, h1⟩ := right_head ws hr
  have hk : ∀ k, 2 ≤ k → k ≤ ws.length → plN (bare ws p) p k = fixN p := by
    intro k
    induction k with
    | zero => intro h; omega
    | succ k ih =>
      intro hk hk2
      by_cases e : k + 1 = 2
      · have : k = 1 := by omega
        subst this
        exact pl_two _ p (by rw [bare_get ws p 0 (by omega), if_neg (by omega)]; exact h0) (by rw [bare_get ws p 1 (by omega), if_neg (by omega)]; exact h1)
      · show plN (bare ws p) p k + bitN ((bare ws p).getD k 0).toNat p = fixN p
        rw [ih (by omega) (by omega), bare_get ws p k (by omega), if_pos (by omega)]
        show fixN p + bitN (clrN (natW ws k) p) p = fixN p
        rw [(split_bit (natW ws k) p).1]
        rfl
  exact hk ws.length (by omega) (Nat.le_refl _)
end Go.Proofs.YtbgiccgfgljkbaaDoor
