/- What one far block makes of an empty tree: the renewal's numbers and puts (mathematics). Where a data block hangs: the program's PlaceOf. What one far block makes of an empty tree: counts, bytes, the content (mathematics). -/
import Derived.Test.YtnfgldglpfgmnaaDoorZf45
import Derived.Test.YtnfgldglpfgmnaaDoorZf21
namespace Go.Proofs.YtnfgldglpfgmnaaDoor
set_option linter.unusedVariables false
set_option linter.unusedSimpArgs false
open Go.RowKit

theorem upd_upd {α : Type} (f : Nat → α) (i : Nat) (x y : α) : upd (upd f i x) i y = upd f i y := by funext k; unfold upd; split <;> rfl
theorem place_last (D : RD) (l R : Nat) (f : Nat → List Int) (ys : List Int) (hL : D.Ln = upd f l (List.replicate R 0)) (hs : supB D.st = true) : D.place l R false ys = { D with Ln := upd f l (List.replicate R 0 ++ [supN D.st]), P := D.P ++ [(supN D.st, ys)], st := supT D.st } := by
  have hN : setN (upd f l (List.replicate R 0) l) R (supN D.st) = List.replicate R 0 ++ [supN D.st] := by
    rw [upd_same]
    have := setN_end (List.replicate R 0) (supN D.st)
    rw [List.length_replicate] at this
    exact this
  unfold RD.place RD.setNow RD.fresh
  rw [if_neg (by simp), if_pos hs]
  simp only [hL, hN, upd_upd]
theorem foldD_all (cs : List Int) (D0 : RD) (a : Nat) (h0 : D0.Ln 0 = []) (hz : ∀ i, i < a → padB cs i = List.replicate 512 0) (hn : padB cs a ≠ List.replicate 512 0) (hs : supB D0.st = true) :
    (List.range (a + 1)).foldl (stepD cs) D0 = { D0 with Ln := upd D0.Ln 0 (List.replicate a 0 ++ [supN D0.st]), P := D0.P ++ [(supN D0.st, padB cs a)], st := supT D0.st } := by
  rw [List.range_succ, List.foldl_append, foldD cs D0 a h0 hz]
  simp only [List.foldl_cons, List.foldl_nil]
  unfold stepD
  rw [decide_eq_false hn]
  exact place_last { D0 with Ln := upd D0.Ln 0 (List.replicate a 0) } 0 a D0.Ln (padB cs a) rfl hs
theorem wordsN_upd (f : Nat → List Int) (l r : Nat) (x : List Int) : wordsN (upd f (l + 1) x) l r = wordsN f l r := by
  unfold wordsN
  rw [upd_other _ _ _ _ (by omega)]
theorem foldP (l : Nat) (D0 : RD) (R : Nat) (h0 : D0.Ln (l + 1) = []) (hz : ∀ r, r < R → wordsN D0.Ln l r = List.replicate 128 0) : (List.range R).foldl (stepP l) D0 = { D0 with Ln := upd D0.Ln (l + 1) (List.replicate R 0) } := by
  induction R with
  | zero =>
    simp only [List.range_zero, List.foldl_nil, List.replicate_zero]
    rw [← h0]
    have : upd D0.Ln (l + 1) (D0.Ln (l + 1)) = D0.Ln := by
      funext k
      unfold upd
      split
      · rename_i e
        rw [e]
      · rfl
    rw [this]
  | succ R ih =>
    rw [List.range_succ, List.foldl_append, ih (fun i hi => hz i (by omega))]
    simp only [List.foldl_cons, List.foldl_nil]
    unfold stepP RD.place RD.setNow
    rw [if_pos (by rw [wordsN_upd, hz R (by omega)]; exact decide_eq_true rfl)]
    simp only [upd_same]
    rw [setN_zeros, upd_upd]
theorem foldP_all (l : Nat) (D0 : RD) (R : Nat) (h0 : D0.Ln (l + 1) = []) (hz : ∀ r, r < R → wordsN D0.Ln l r = List.replicate 128 0) (hn : wordsN D0.Ln l R ≠ List.replicate 128 0) (hs : supB D0.st = true) :
    (List.range (R + 1)).foldl (stepP l) D0 = { D0 with Ln := upd D0.Ln (l + 1) (List.replicate R 0 ++ [supN D0.st]), P := D0.P ++ [(supN D0.st, encW (wordsN D0.Ln l R))], st := supT D0.st } := by
  rw [List.range_succ, List.foldl_append, foldP l D0 R h0 hz]
  simp only [List.foldl_cons, List.foldl_nil]
  unfold stepP
  rw [wordsN_upd, decide_eq_false hn]
  exact place_last { D0 with Ln := upd D0.Ln (l + 1) (List.replicate R 0) } (l + 1) R D0.Ln _ rfl hs
/-- A list of zeros with x at its end, at place i. -/
theorem end_getD (a i : Nat) (x : Int) : (List.replicate a 0 ++ [x]).getD i 0 = if i = a then x else 0 := by
  by_cases h : i < a
  · rw [if_neg (by omega)]
    simp [List.getD, List.getElem?_append_left, h]
  · by_cases e : i = a
    · subst e
      rw [if_pos rfl]
      simp [List.getD]
    · rw [if_neg e]
      simp [List.getD, List.getElem?_append_right (show (List.replicate a (0 : Int)).length ≤ i by simp; omega), List.getElem?_eq_none (show ([x] : List Int).length ≤ i - a by simp; omega)]
theorem zeros_map (n : Nat) (g : Nat → Int) (h : ∀ k, k < n → g k = 0) : (List.range n).map g = List.replicate n 0 := by
  apply List.ext_getElem (by simp)
  intro i h1 h2
  simp at h1
  simp [h i h1]
theorem rep_getD (n k : Nat) : (List.replicate n (0 : Int)).getD k 0 = 0 := by
  by_cases h : k < n
  · simp [List.getD, h]
  · simp [List.getD, h]
/-- The words of a pointer block below which one number stands. -/
theorem words_one (f : Nat → List Int) (l r a : Nat) (x : Int) (hf : f l = List.replicate a 0 ++ [x]) : wordsN f l r = (List.range 128).map (fun k => if belR l r k = a then x else 0) := by
  unfold wordsN
  rw [hf]
  congr 1
  funext k
  exact end_getD a _ x
theorem words_none (f : Nat → List Int) (l r a : Nat) (x : Int) (hf : f l = List.replicate a 0 ++ [x]) (h : ∀ k, k < 128 → belR l r k ≠ a) : wordsN f l r = List.replicate 128 0 := by
  rw [words_one f l r a x hf]
  exact zeros_map 128 _ (fun k hk => if_neg (h k hk))
theorem words_some (f : Nat → List Int) (l r a k0 : Nat) (x : Int) (hf : f l = List.replicate a 0 ++ [x]) (hk : k0 < 128) (hb : belR l r k0 = a) : (wordsN f l r).getD k0 0 = x := by
  rw [words_one f l r a x hf]
  simp [List.getD, hk, hb]
theorem words_ne (f : Nat → List Int) (l r a k0 : Nat) (x : Int) (hf : f l = List.replicate a 0 ++ [x]) (hk : k0 < 128) (hb : belR l r k0 = a) (hx : x ≠ 0) : wordsN f l r ≠ List.replicate 128 0 := by
  intro e
  have := words_some f l r a k0 x hf hk hb
  rw [e, rep_getD] at this
  exact hx this.symm
/-- The three levels of a renewal whose content has block a alone. -/
structure One (D : RD) (a : Nat) (x0 x1 x2 : Int) (Y0 : List Int) : Prop where
  sh : D.sh = false
  n0 : D.Ln 0 = List.replicate a 0 ++ [x0]
  c0 : a < 12 → D.Ln 1 = [] ∧ D.Ln 2 = [] ∧ D.P = [(x0, Y0)]
  c1 : 12 ≤ a → a < 140 → D.Ln 1 = [x1] ∧ D.Ln 2 = [] ∧ ∃ w1, D.P = [(x0, Y0), (x1, encW w1)] ∧ w1 = (List.range 128).map (fun k => if k = a - 12 then x0 else 0)
  c2 : 140 ≤ a → D.Ln 1 = List.replicate ((a - 12) / 128) 0 ++ [x1] ∧ D.Ln 2 = [x2] ∧ ∃ w1 w2, D.P = [(x0, Y0), (x1, encW w1), (x2, encW w2)] ∧ w1 = (List.range 128).map (fun k => if k = (a - 140) % 128 then x0 else 0) ∧ w2 = (List.range 128).map (fun k => if k = (a - 140) / 128 then x1 else 0)
theorem one_of (iv cv : Value) (st : Option (List Int)) (cs : List Int) (a : Nat) (ha : a < 512) (hz : ∀ i, i < a → padB cs i = List.replicate 512 0) (hn : padB cs a ≠ List.replicate 512 0)
    (s0 : supB st = true) (s1 : supB (supT st) = true) (s2 : supB (supT (supT st)) = true) (h0 : supN st ≠ 0) (h1 : supN (supT st) ≠ 0) :
    One (rD3 iv cv st cs (a + 1)) a (supN st) (supN (supT st)) (supN (supT (supT st))) (padB cs a) := by
  obtain ⟨e0, e1, e2⟩ := level_at (cnt := a + 1) (by omega)
  unfold rD3
  rw [e0, e1, e2, foldD_all cs (rD0 iv cv st) a rfl hz hn s0]
  by_cases c0 : a < 12
  · rw [show (a + 1 + 115) / 128 = 0 by omega, if_neg (by omega)]
    simp only [List.range_zero, List.foldl_nil]
    exact ⟨rfl, upd_same (rD0 iv cv st).Ln 0 (List.replicate a 0 ++ [supN st]), fun _ => ⟨rfl, rfl, rfl⟩, fun h => by omega, fun h => by omega⟩
  · obtain ⟨D1, hD1⟩ : ∃ D1 : RD, D1 = { rD0 iv cv st with Ln := upd (rD0 iv cv st).Ln 0 (List.replicate a 0 ++ [supN (rD0 iv cv st).st]), P := (rD0 iv cv st).P ++ [(supN (rD0 iv cv st).st, padB cs a)], st := supT (rD0 iv cv st).st } := ⟨_, rfl⟩
    rw [← hD1]
    have d0 : D1.Ln 0 = List.replicate a 0 ++ [supN st] := by rw [hD1]; exact upd_same (rD0 iv cv st).Ln 0 (List.replicate a 0 ++ [supN st])
    have d1 : D1.Ln 1 = [] := by rw [hD1]; rfl
    have d2 : D1.Ln 2 = [] := by rw [hD1]; rfl
    have dP : D1.P = [(supN st, padB cs a)] := by rw [hD1]; rfl
    have dS : D1.st = supT st := by rw [hD1]; rfl
    have dh : D1.sh = false := by rw [hD1]; rfl
    clear hD1
    have hR : (a + 1 + 115) / 128 = (a - 12) / 128 + 1 := by omega
    have hb : belR 0 ((a - 12) / 128) ((a - 12) % 128) = a := by simp [belR]; omega
    rw [hR, foldP_all 0 D1 ((a - 12) / 128) d1 (fun r hr => words_none D1.Ln 0 r a _ d0 (fun k hk => by simp [belR]; omega)) (words_ne D1.Ln 0 _ a ((a - 12) % 128) _ d0 (by omega) hb h0) (by rw [dS]; exact s1)]
    have hw : wordsN D1.Ln 0 ((a - 12) / 128) = (List.range 128).map (fun k => if k = (a - 12) % 128 then supN st else 0) := by
      rw [words_one D1.Ln 0 _ a _ d0]
      apply List.map_congr_left
      intro k hk
      simp at hk
      by_cases e : k = (a - 12) % 128
      · rw [if_pos e, if_pos (by rw [e]; exact hb)]
      · rw [if_neg e, if_neg (by simp [belR]; omega)]
    rw [hw, dS, dP]
    by_cases c1 : a < 140
    · rw [if_neg (by omega)]
      simp only [List.foldl_nil]
      refine ⟨dh, (upd_other D1.Ln (0 + 1) 0 (List.replicate ((a - 12) / 128) 0 ++ [supN (supT st)]) (by omega)).trans d0, fun h => by omega, fun _ _ => ⟨?_, (upd_other D1.Ln (0 + 1) 2 (List.replicate ((a - 12) / 128) 0 ++ [supN (supT st)]) (by omega)).trans d2, _, rfl, ?_⟩, fun h => by omega⟩
      · show upd D1.Ln (0 + 1) (List.replicate ((a - 12) / 128) 0 ++ [supN (supT st)]) 1 = _
        rw [show (a - 12) / 128 = 0 by omega]
        exact upd_same D1.Ln 1 [supN (supT st)]
      · rw [show (a - 12) % 128 = a - 12 by omega]
    · rw [if_pos (by omega)]
      obtain ⟨D2, hD2⟩ : ∃ D2 : RD, D2 = { D1 with Ln := upd D1.Ln (0 + 1) (List.replicate ((a - 12) / 128) 0 ++ [supN (supT st)]), P := [(supN st, padB cs a)] ++ [(supN (supT st), encW ((List.range 128).map (fun k => if k = (a - 12) % 128 then supN st else 0)))], st := supT (supT st) } := ⟨_, rfl⟩
      rw [← hD2]
      have f0 : D2.Ln 0 = List.replicate a 0 ++ [supN st] := by rw [hD2]; exact (upd_other D1.Ln (0 + 1) 0 (List.replicate ((a - 12) / 128) 0 ++ [supN (supT st)]) (by omega)).trans d0
      have f1 : D2.Ln 1 = List.replicate ((a - 12) / 128) 0 ++ [supN (supT st)] := by rw [hD2]; exact upd_same D1.Ln 1 (List.replicate ((a - 12) / 128) 0 ++ [supN (supT st)])
      have f2 : D2.Ln 2 = [] := by rw [hD2]; exact (upd_other D1.Ln (0 + 1) 2 (List.replicate ((a - 12) / 128) 0 ++ [supN (supT st)]) (by omega)).trans d2
      have fP : D2.P = [(supN st, padB cs a), (supN (supT st), encW ((List.range 128).map (fun k => if k = (a - 12) % 128 then supN st else 0)))] := by rw [hD2]; rfl
      have fS : D2.st = supT (supT st) := by rw [hD2]
      have fh : D2.sh = false := by rw [hD2]; exact dh
      clear hD2
      have hb2 : belR 1 0 ((a - 140) / 128) = (a - 12) / 128 := by simp [belR]; omega
      have h3 := foldP_all 1 D2 0 f2 (fun r hr => by omega) (words_ne D2.Ln 1 0 _ ((a - 140) / 128) _ f1 (by omega) hb2 h1) (by rw [fS]; exact s2)
      have hw2 : wordsN D2.Ln 1 0 = (List.range 128).map (fun k => if k = (a - 140) / 128 then supN (supT st) else 0) := by
        rw [words_one D2.Ln 1 0 _ _ f1]
        apply List.map_congr_left
        intro k hk
        simp at hk
        by_cases e : k = (a - 140) / 128
        · rw [if_pos e, if_pos (by rw [e]; exact hb2)]
        · rw [if_neg e, if_neg (by simp [belR]; omega)]
      rw [show List.range (0 + 1) = [0] from rfl] at h3
      rw [h3, hw2, fS, fP]
      refine ⟨fh, (upd_other D2.Ln (1 + 1) 0 (List.replicate 0 0 ++ [supN (supT (supT st))]) (by omega)).trans f0, fun h => by omega, fun h h' => by omega, fun _ => ⟨(upd_other D2.Ln (1 + 1) 1 (List.replicate 0 0 ++ [supN (supT (supT st))]) (by omega)).trans f1, upd_same D2.Ln 2 [supN (supT (supT st))], _, _, rfl, ?_, rfl⟩⟩
      rw [show (a - 140) % 128 = (a - 12) % 128 by omega]
end Go.Proofs.YtnfgldglpfgmnaaDoor

namespace Go.Proofs.YtnfgldglpfgmnaaDoor
set_option linter.unusedVariables false
set_option linter.unusedSimpArgs false
open Go.RowKit

set_option maxRecDepth 100000 in
set_option maxHeartbeats 400000 in
theorem implP_0 (x : Nat) (w : World) (h : x < 12) :
    Calls Tryd.prog 9 #[.int .i64 x] w fun e w' => e = .returned (placeV 0 0 x 0) ∧ Below w.heap.size w w' := by
  have HB := hide (show ∀ C, Below w.heap.size w (w.alloc C) from fun C => (Below.refl _ _).alloc (Nat.le_refl _) _)
  go_enter Tryd.func9, Tryd.ntmps9
  go_wp2
  refine bodyPost_ret (v := placeV 0 0 x 0) ?_ rfl ⟨rfl, HB.out _⟩
  exact results_row_tmp rfl _ _ w.heap.size 27 _ (0, 0) _ _ rfl rfl (heap_alloc_new w _) Tryd.underlying27 rfl infoP3
set_option maxRecDepth 100000 in
set_option maxHeartbeats 400000 in
theorem implP_1 (x : Nat) (w : World) (h : x < 128) :
    Calls Tryd.prog 9 #[.int .i64 ((x + 12 : Nat) : Int)] w fun e w' => e = .returned (placeV 1 0 x 0) ∧ Below w.heap.size w w' := by
  have HB := hide (show ∀ C, Below w.heap.size w (w.alloc C) from fun C => (Below.refl _ _).alloc (Nat.le_refl _) _)
  go_enter Tryd.func9, Tryd.ntmps9
  go_wp2
  refine bodyPost_ret (v := placeV 1 0 x 0) ?_ rfl ⟨rfl, HB.out _⟩
  exact results_row_tmp rfl _ _ w.heap.size 27 _ (0, 0) _ _ rfl rfl (heap_alloc_new w _) Tryd.underlying27 rfl infoP3
set_option maxRecDepth 100000 in
set_option maxHeartbeats 400000 in
theorem implP_2 (x : Nat) (w : World) (h : x < 372) :
    Calls Tryd.prog 9 #[.int .i64 ((x + 140 : Nat) : Int)] w fun e w' => e = .returned (placeV 2 ((x / 128 : Nat) : Int) ((x % 128 : Nat) : Int) 0) ∧ Below w.heap.size w w' := by
  have HB := hide (show ∀ C, Below w.heap.size w (w.alloc C) from fun C => (Below.refl _ _).alloc (Nat.le_refl _) _)
  go_enter Tryd.func9, Tryd.ntmps9
  go_wp2
  have e1 : ((x : Int) + 140 - 12 - 128) / 128 = ((x / 128 : Nat) : Int) := by omega
  have e2 : ((x : Int) + 140 - 12) % 128 = ((x % 128 : Nat) : Int) := by omega
  rw [e1, e2]
  refine bodyPost_ret (v := placeV 2 ((x / 128 : Nat) : Int) ((x % 128 : Nat) : Int) 0) ?_ rfl ⟨rfl, HB.out _⟩
  exact results_row_tmp rfl _ _ w.heap.size 27 _ (0, 0) _ _ rfl rfl (heap_alloc_new w _) Tryd.underlying27 rfl infoP3
/-- Level, outer and inner place of an index. -/
def plL (a : Nat) : Int := if a < 12 then 0 else if a < 140 then 1 else 2
def plO (a : Nat) : Int := if a < 140 then 0 else (((a - 140) / 128 : Nat) : Int)
def plI (a : Nat) : Int := if a < 12 then (a : Int) else if a < 140 then ((a - 12 : Nat) : Int) else (((a - 140) % 128 : Nat) : Int)
theorem implP_any (a : Nat) (w : World) (h : a < 512) : Calls Tryd.prog 9 #[.int .i64 (a : Int)] w fun e w' => e = .returned (placeV (plL a) (plO a) (plI a) 0) ∧ Below w.heap.size w w' := by
  unfold plL plO plI
  by_cases h1 : a < 12
  · rw [if_pos h1, if_pos (by omega), if_pos h1]
    exact implP_0 a w h1
  · rw [if_neg h1, if_neg h1]
    by_cases h2 : a < 140
    · rw [if_pos h2, if_pos h2, if_pos h2]
      have := implP_1 (a - 12) w (by omega)
      rw [show a - 12 + 12 = a by omega] at this
      exact this
    · rw [if_neg h2, if_neg h2, if_neg h2]
      have := implP_2 (a - 140) w (by omega)
      rw [show a - 140 + 140 = a by omega] at this
      exact this
theorem pl_inj (a b : Nat) (ha : a < 512) (hb : b < 512) : (plL a = plL b ∧ plO a = plO b ∧ plI a = plI b) ↔ a = b := by
  constructor
  · rintro ⟨h1, h2, h3⟩
    unfold plL at h1
    unfold plO at h2
    unfold plI at h3
    split at h1 <;> split at h2 <;> split at h3 <;> (try split at h1) <;> (try split at h2) <;> (try split at h3) <;> omega
  · rintro rfl
    exact ⟨rfl, rfl, rfl⟩
end Go.Proofs.YtnfgldglpfgmnaaDoor

namespace Go.Proofs.YtnfgldglpfgmnaaDoor
set_option linter.unusedVariables false
set_option linter.unusedSimpArgs false
open Go.RowKit

theorem some_end (a : Nat) (x : Int) (h : x ≠ 0) : (someM (List.replicate a 0 ++ [x])).length = 1 := by
  unfold someM
  rw [List.filter_append]
  simp [h]
theorem cnt3 (Ls : Nat → List Int) : cntN Ls 3 = (someM (Ls 0)).length + (someM (Ls 1)).length + (someM (Ls 2)).length := by rw [cntN_succ, cntN_succ, cntN_succ]; simp [cntN]
/-- So many blocks there are, fresh all of them. -/
theorem One.count {D : RD} {a : Nat} {x0 x1 x2 : Int} {Y0 : List Int} (h : One D a x0 x1 x2 Y0) (h0 : x0 ≠ 0) (h1 : x1 ≠ 0) (h2 : x2 ≠ 0) : (D.P.length : Int) = 1 + plL a ∧ (cntN D.Ln 3 : Int) = 1 + plL a := by
  rw [cnt3]
  have n0 : (someM (D.Ln 0)).length = 1 := by rw [h.n0]; exact some_end a x0 h0
  have e0 : (someM ([] : List Int)).length = 0 := rfl
  unfold plL
  by_cases c0 : a < 12
  · obtain ⟨e1, e2, eP⟩ := h.c0 c0
    rw [if_pos c0, n0, e1, e2, eP, e0]
    exact ⟨rfl, rfl⟩
  · rw [if_neg c0]
    by_cases c1 : a < 140
    · obtain ⟨e1, e2, w1, eP, _⟩ := h.c1 (by omega) c1
      have n1 : (someM (D.Ln 1)).length = 1 := by rw [e1]; exact some_end 0 x1 h1
      rw [if_pos c1, n0, n1, e2, eP, e0]
      exact ⟨rfl, rfl⟩
    · obtain ⟨e1, e2, w1, w2, eP, _⟩ := h.c2 (by omega)
      have n1 : (someM (D.Ln 1)).length = 1 := by rw [e1]; exact some_end _ x1 h1
      have n2 : (someM (D.Ln 2)).length = 1 := by rw [e2]; exact some_end 0 x2 h2
      rw [if_neg c1, n0, n1, n2, eP]
      exact ⟨rfl, rfl⟩
theorem One.len {D : RD} {a : Nat} {x0 x1 x2 : Int} {Y0 : List Int} (h : One D a x0 x1 x2 Y0) (ha : a < 512) : ∀ l, l < 3 → (D.Ln l).length ≤ 100001 := fun l hl => by
  have n0 : (D.Ln 0).length = a + 1 := by rw [h.n0]; simp
  have hc : a < 12 ∨ (12 ≤ a ∧ a < 140) ∨ 140 ≤ a := by omega
  rcases hc with c | ⟨c, c'⟩ | c
  · obtain ⟨e1, e2, _⟩ := h.c0 c
    match l, hl with
    | 0, _ => omega
    | 1, _ => rw [e1]; simp
    | 2, _ => rw [e2]; simp
  · obtain ⟨e1, e2, _⟩ := h.c1 c c'
    match l, hl with
    | 0, _ => omega
    | 1, _ => rw [e1]; simp
    | 2, _ => rw [e2]; simp
  · obtain ⟨e1, e2, _⟩ := h.c2 c
    match l, hl with
    | 0, _ => omega
    | 1, _ => rw [e1]; simp; omega
    | 2, _ => rw [e2]; simp
/-- The bytes of words of which one isn't zero. -/
theorem enc_one (k0 : Nat) (x : Nat) (hk : k0 < 128) (hx : x < 256) (ws : List Int) (hw : ws = (List.range 128).map (fun k => if k = k0 then (x : Int) else 0)) : (encW ws).length = 512 ∧ ((encW ws).drop (4 * k0)).take 4 = [(x : Int), 0, 0, 0] := by
  have hl : ws.length = 128 := by rw [hw]; simp
  have hg : goodW ws = true := by
    unfold goodW
    rw [hl]
    simp only [decide_true, Bool.true_and, List.all_eq_true]
    intro v hv
    rw [hw] at hv
    simp at hv
    obtain ⟨k, _, rfl⟩ := hv
    unfold okW
    split <;> simp
    omega
  have he : encW ws = bytesW ws := by unfold encW; rw [if_pos hg]
  have hv : ws.getD k0 0 = (x : Int) := by rw [hw]; simp [List.getD, hk]
  have h1 := bytesW_take ws k0 (by omega)
  have h2 : bytesW ws = bytesW (ws.take (k0 + 1)) ++ bytesW (ws.drop (k0 + 1)) := by
    conv => lhs; rw [← List.take_append_drop (k0 + 1) ws]
    unfold bytesW
    rw [List.flatMap_append]
  have h3 : (bytesW (ws.take k0)).length = 4 * k0 := by rw [bytesW_len, List.length_take]; omega
  refine ⟨by rw [he, bytesW_len, hl], ?_⟩
  rw [he, h2, h1, hv, List.append_assoc, List.drop_append, h3, List.drop_of_length_le (by omega), Nat.sub_self, List.drop_zero, List.nil_append]
  have h4 : le 4 ((x : Int)).toNat = [(x : Int), 0, 0, 0] := by
    rw [Int.toNat_natCast]
    simp only [le]
    have e1 : x % 256 = x := Nat.mod_eq_of_lt hx
    have e2 : x / 256 = 0 := Nat.div_eq_of_lt hx
    rw [e1, e2]
    rfl
  rw [h4]
  rfl
/-- A content with one byte that isn't zero, in its last block. -/
def farC (a m : Nat) : List Int := (List.replicate ((a + 1) * 512) (0 : Int)).set ((a + 1) * 512 - 1 - m) 7
theorem farC_len (a m : Nat) : (farC a m).length = (a + 1) * 512 := by unfold farC; simp
theorem padB_far (a m r : Nat) (hr : r ≤ a) : padB (farC a m) r = ((farC a m).drop (r * 512)).take 512 := by
  have h : (((farC a m).drop (r * 512)).take 512).length = 512 := by
    rw [List.length_take, List.length_drop, farC_len]
    have : (r + 1) * 512 ≤ (a + 1) * 512 := Nat.mul_le_mul_right _ (by omega)
    omega
  unfold padB
  rw [h, Nat.sub_self]
  simp
theorem far_zero (a m i : Nat) (hi : i < a) (hm : m < 512) : padB (farC a m) i = List.replicate 512 0 := by
  rw [padB_far a m i (by omega)]
  have h1 : (i + 1) * 512 ≤ a * 512 := Nat.mul_le_mul_right _ (by omega)
  apply List.ext_getElem (by rw [List.length_take, List.length_drop, farC_len, List.length_replicate]; omega)
  intro k k1 k2
  have hk : k < 512 := by rw [List.length_replicate] at k2; exact k2
  rw [List.getElem_replicate, List.getElem_take, List.getElem_drop]
  unfold farC
  rw [List.getElem_set_ne (by omega), List.getElem_replicate]
theorem far_some (a m : Nat) (hm : m < 512) : padB (farC a m) a ≠ List.replicate 512 0 := by
  intro e
  have h1 := padB_far a m a (Nat.le_refl _)
  rw [e] at h1
  have h2 := congrArg (fun L => L.getD (511 - m) 0) h1
  simp only [rep_getD] at h2
  have h3 : (((farC a m).drop (a * 512)).take 512).getD (511 - m) 0 = 7 := by
    rw [List.getD, List.getElem?_take, if_pos (by omega), List.getElem?_drop]
    unfold farC
    rw [show a * 512 + (511 - m) = (a + 1) * 512 - 1 - m by omega, List.getElem?_set_self (by simp; omega)]
    rfl
  rw [h3] at h2
  cases h2
end Go.Proofs.YtnfgldglpfgmnaaDoor
