/- A content with one block that isn't zeros, renewed over an empty tree: what is put and numbered (mathematics). The program's renewal: the three levels. The program's renew, over an empty tree. -/
import Derived.Test.YtnfgldglpfgmnaaDoorZf44
namespace Go.Proofs.YtnfgldglpfgmnaaDoor
set_option linter.unusedVariables false
set_option linter.unusedSimpArgs false
open Go.RowKit

def stepD (cs : List Int) (D : RD) (r : Nat) : RD := D.place 0 r (decide (padB cs r = List.replicate 512 0)) (padB cs r)
def stepP (l : Nat) (D : RD) (r : Nat) : RD := D.place (l + 1) r (decide (wordsN D.Ln l r = List.replicate 128 0)) (encW (wordsN D.Ln l r))
theorem rng_some (cnt s : Nat) (m : Nat) : (List.range m).flatMap (fun k => if cnt ≤ s + k then [] else [s + k]) = List.range' s (min m (cnt - s)) := by
  induction m with
  | zero => simp
  | succ m ih =>
    rw [List.range_succ, List.flatMap_append, ih]
    simp only [List.flatMap_cons, List.flatMap_nil, List.append_nil]
    by_cases h : cnt ≤ s + m
    · rw [if_pos h, List.append_nil, show min (m + 1) (cnt - s) = min m (cnt - s) by omega]
    · rw [if_neg h, show min (m + 1) (cnt - s) = m + 1 by omega, show min m (cnt - s) = m by omega, List.range'_concat]
      simp
theorem rng_many (cnt s : Nat) (m : Nat) : (List.range m).flatMap (fun k => List.range' (s + 128 * k) (min 128 (cnt - (s + 128 * k)))) = List.range' s (min (128 * m) (cnt - s)) := by
  induction m with
  | zero => simp
  | succ m ih =>
    rw [List.range_succ, List.flatMap_append, ih]
    simp only [List.flatMap_cons, List.flatMap_nil, List.append_nil]
    by_cases h : cnt ≤ s + 128 * m
    · rw [show min 128 (cnt - (s + 128 * m)) = 0 by omega, show min (128 * (m + 1)) (cnt - s) = min (128 * m) (cnt - s) by omega]
      simp
    · rw [show min (128 * m) (cnt - s) = 128 * m by omega, show min (128 * (m + 1)) (cnt - s) = 128 * m + min 128 (cnt - (s + 128 * m)) by omega, ← List.range'_append_1]
theorem rng_tops (cnt c s : Nat) (m : Nat) : (List.range m).flatMap (fun k => if cnt ≤ c + 128 * k then [] else [s + k]) = List.range' s (min m ((cnt - c + 127) / 128)) := by
  induction m with
  | zero => simp
  | succ m ih =>
    rw [List.range_succ, List.flatMap_append, ih]
    simp only [List.flatMap_cons, List.flatMap_nil, List.append_nil]
    by_cases h : cnt ≤ c + 128 * m
    · rw [if_pos h, List.append_nil, show min (m + 1) ((cnt - c + 127) / 128) = min m ((cnt - c + 127) / 128) by omega]
    · rw [if_neg h, show min (m + 1) ((cnt - c + 127) / 128) = m + 1 by omega, show min m ((cnt - c + 127) / 128) = m by omega, List.range'_concat]
      simp
theorem fir1 (r : Nat) : firI 1 r = 12 + r * 128 := by simp [firI, belR]
theorem fir2 : firI 2 0 = 140 := by simp [firI, belR]
theorem vis_00 (cnt r : Nat) : visit cnt 0 0 r = if cnt ≤ r then [] else [r] := by
  rw [visit]
  by_cases h : cnt ≤ r
  · rw [if_pos (.inr h), if_pos h]
  · rw [if_neg (fun h1 => h1.elim (fun h1 => by omega) h), if_neg h]
theorem vis_01 (cnt r : Nat) : visit cnt 0 1 r = List.range' (12 + r * 128) (min 128 (cnt - (12 + r * 128))) := by
  have h0 := fir1 r
  rw [visit]
  by_cases h : cnt ≤ 12 + r * 128
  · rw [if_pos (.inr (by rw [h0]; exact h)), show cnt - (12 + r * 128) = 0 by omega]
    simp
  · rw [if_neg (fun h1 => h1.elim (fun h1 => by omega) (fun h1 => h (by rw [h0] at h1; exact h1))), if_neg (by omega)]
    rw [← rng_some]
    congr 1
    funext k
    rw [vis_00]
    simp [belR]
theorem vis_02 (cnt : Nat) : visit cnt 0 2 0 = List.range' 140 (min (128 * 128) (cnt - 140)) := by
  have h0 := fir2
  rw [visit]
  by_cases h : cnt ≤ 140
  · rw [if_pos (.inr (by rw [h0]; exact h)), show cnt - 140 = 0 by omega]
    simp
  · rw [if_neg (fun h1 => h1.elim (fun h1 => by omega) (fun h1 => h (by rw [h0] at h1; exact h1))), if_neg (by omega)]
    rw [← rng_many cnt 140 128]
    congr 1
    funext k
    rw [vis_01, show 12 + belR 1 0 k * 128 = 140 + 128 * k by simp [belR]; omega]
theorem vis_11 (cnt r : Nat) : visit cnt 1 1 r = if cnt ≤ 12 + r * 128 then [] else [r] := by
  have h0 := fir1 r
  rw [visit]
  by_cases h : cnt ≤ 12 + r * 128
  · rw [if_pos (.inr (by rw [h0]; exact h)), if_pos h]
  · rw [if_neg (fun h1 => h1.elim (fun h1 => by omega) (fun h1 => h (by rw [h0] at h1; exact h1))), if_pos rfl, if_neg h]
theorem vis_12 (cnt : Nat) : visit cnt 1 2 0 = List.range' 1 (min 128 ((cnt - 140 + 127) / 128)) := by
  have h0 := fir2
  rw [visit]
  by_cases h : cnt ≤ 140
  · rw [if_pos (.inr (by rw [h0]; exact h)), show min 128 ((cnt - 140 + 127) / 128) = 0 by omega]
    simp
  · rw [if_neg (fun h1 => h1.elim (fun h1 => by omega) (fun h1 => h (by rw [h0] at h1; exact h1))), if_neg (by omega), ← rng_tops]
    congr 1
    funext k
    rw [vis_11, show 12 + belR 1 0 k * 128 = 140 + 128 * k by simp [belR]; omega]
    simp [belR]
theorem vis_22 (cnt : Nat) : visit cnt 2 2 0 = if 140 < cnt then [0] else [] := by
  have h0 := fir2
  rw [visit]
  by_cases h : cnt ≤ 140
  · rw [if_pos (.inr (by rw [h0]; exact h)), if_neg (by omega)]
  · rw [if_neg (fun h1 => h1.elim (fun h1 => by omega) (fun h1 => h (by rw [h0] at h1; exact h1))), if_pos rfl, if_pos (by omega)]
theorem vis_up (cnt lvl l r : Nat) (h : l < lvl) : visit cnt lvl l r = [] := by
  cases l with
  | zero => rw [visit, if_pos (.inl h)]
  | succ l => rw [visit, if_pos (.inl h)]
theorem level_parts (cnt lvl : Nat) : levelV cnt lvl 14 = (List.range 12).flatMap (fun j => visit cnt lvl 0 j) ++ (visit cnt lvl 1 0 ++ visit cnt lvl 2 0) := by
  unfold levelV
  rw [show List.range 14 = List.range 12 ++ [12, 13] from rfl, List.flatMap_append]
  congr 1
  show visit cnt lvl (topL 12) (topR 12) ++ (visit cnt lvl (topL 13) (topR 13) ++ []) = _
  rw [List.append_nil]
  rfl
theorem flat_none (n : Nat) (f : Nat → List Nat) (h : ∀ k, f k = []) : (List.range n).flatMap f = [] := by
  rw [show f = fun _ => [] from funext h]
  simp
theorem level_at {cnt : Nat} (h : cnt ≤ 512) : levelV cnt 0 14 = List.range cnt ∧ levelV cnt 1 14 = List.range ((cnt + 115) / 128) ∧ levelV cnt 2 14 = if 140 < cnt then [0] else [] := by
  refine ⟨?_, ?_, ?_⟩
  · rw [level_parts, vis_01, vis_02, show (fun j => visit cnt 0 0 j) = (fun k => if cnt ≤ 0 + k then [] else [0 + k]) from by funext k; rw [vis_00]; simp, rng_some, List.range_eq_range']
    by_cases h1 : cnt ≤ 12
    · rw [show min 12 (cnt - 0) = cnt by omega, show min 128 (cnt - (12 + 0 * 128)) = 0 by omega, show min (128 * 128) (cnt - 140) = 0 by omega]
      simp
    · by_cases h2 : cnt ≤ 140
      · rw [show min 12 (cnt - 0) = 12 by omega, show min 128 (cnt - (12 + 0 * 128)) = cnt - 12 by omega, show min (128 * 128) (cnt - 140) = 0 by omega]
        have := List.range'_append_1 (s := 0) (m := 12) (n := cnt - 12)
        rw [show 12 + (cnt - 12) = cnt by omega] at this
        simpa using this
      · rw [show min 12 (cnt - 0) = 12 by omega, show min 128 (cnt - (12 + 0 * 128)) = 128 by omega, show min (128 * 128) (cnt - 140) = cnt - 140 by omega]
        have h3 := List.range'_append_1 (s := 0) (m := 12) (n := 128)
        have h4 := List.range'_append_1 (s := 0) (m := 140) (n := cnt - 140)
        rw [show 140 + (cnt - 140) = cnt by omega] at h4
        rw [← h4, show 140 = 12 + 128 by rfl, ← h3]
        simp
  · rw [level_parts, vis_11, vis_12, flat_none 12 _ (fun k => vis_up cnt 1 0 k (by omega)), List.nil_append, List.range_eq_range']
    by_cases h1 : cnt ≤ 12
    · rw [if_pos (by omega), show min 128 ((cnt - 140 + 127) / 128) = 0 by omega, show (cnt + 115) / 128 = 0 by omega]
      simp
    · rw [if_neg (by omega), show min 128 ((cnt - 140 + 127) / 128) = (cnt - 140 + 127) / 128 by omega]
      have h3 := List.range'_append_1 (s := 0) (m := 1) (n := (cnt - 140 + 127) / 128)
      rw [show 1 + (cnt - 140 + 127) / 128 = (cnt + 115) / 128 by omega] at h3
      simpa using h3
  · rw [level_parts, vis_22, flat_none 12 _ (fun k => vis_up cnt 2 0 k (by omega)), vis_up cnt 2 1 0 (by omega)]
    simp
theorem setN_end (L : List Int) (x : Int) : setN L L.length x = L ++ [x] := by
  unfold setN
  rw [show L.length + 1 - L.length = 1 by omega]
  simp
theorem setN_zeros (n : Nat) : setN (List.replicate n 0) n 0 = List.replicate (n + 1) 0 := by
  have := setN_end (List.replicate n 0) 0
  rw [List.length_replicate] at this
  rw [this, List.replicate_succ']
/-- All blocks but the last are zeros. -/
theorem foldD (cs : List Int) (D0 : RD) (a : Nat) (h0 : D0.Ln 0 = []) (hz : ∀ i, i < a → padB cs i = List.replicate 512 0) : (List.range a).foldl (stepD cs) D0 = { D0 with Ln := upd D0.Ln 0 (List.replicate a 0) } := by
  induction a with
  | zero =>
    simp only [List.range_zero, List.foldl_nil, List.replicate_zero]
    rw [← h0]
    have : upd D0.Ln 0 (D0.Ln 0) = D0.Ln := by
      funext k
      unfold upd
      split
      · rename_i e
        rw [e]
      · rfl
    rw [this]
  | succ a ih =>
    rw [List.range_succ, List.foldl_append, ih (fun i hi => hz i (by omega))]
    simp only [List.foldl_cons, List.foldl_nil]
    unfold stepD RD.place RD.setNow
    rw [if_pos (by rw [hz a (by omega)]; exact decide_eq_true rfl)]
    simp only [upd_same]
    rw [setN_zeros]
    congr 1
    funext k
    unfold upd
    split <;> rfl
end Go.Proofs.YtnfgldglpfgmnaaDoor

namespace Go.Proofs.YtnfgldglpfgmnaaDoor
set_option linter.unusedVariables false
set_option linter.unusedSimpArgs false
open Go.RowKit Go.Shelf

theorem own_abideS {A B : World} {row : Option Nat} {base n z sz : Nat} {e : TypeId} {v : Value} {xs : List Value} (h : A.ownsRow base e sz v n xs) (hg : A.grownBy B row) (hr : ∀ r, row = some r → z ≤ r ∧ ∃ o, A.heap[r]? = some o ∧ o.isCells = false) : B.ownsRow base e sz v n xs := by
  refine h.kept hg ?_
  cases hb : v.ownBlock with
  | none => exact .inl rfl
  | some k =>
    refine .inr (fun e' => ?_)
    obtain ⟨_, o, ho, hc⟩ := hr k e'.symm
    rcases h.2 with ⟨rfl, _⟩ | ⟨g, cap, cur, rfl, _, hgg, _⟩
    · cases hb
    · have : g = k := Option.some.inj hb
      subst this
      rw [hgg] at ho
      cases ho
      cases hc
theorem RSt.abides {W0 : World} {b z : Nat} {D : RD} (hz : W0.heap.size ≤ z) {A B : World} {row : Option Nat} (h : RSt W0 A b D) (hg : A.grownBy B row) (hr : ∀ r, row = some r → z ≤ r ∧ ∃ o, A.heap[r]? = some o ∧ o.isCells = false) : RSt W0 B b D := by
  obtain ⟨C, so, sl, fv, pv, vs, h⟩ := h
  refine ⟨C, so, sl, fv, pv, vs, ⟨h.trs, h.size, h.tr, h.cv, h.old.abide hg hr, h.now.abide hg hr, h.apart, h.fn, ?_, h.ps, ⟨h.puts.len, h.puts.pre, own_abideS h.puts.row hg hr, fun i u l hu hl => own_abideS (h.puts.dat i u l hu hl) hg hr, h.puts.one⟩, h.sh, h.lo, below_abide h.low hz h.low.size hg hr⟩⟩
  have hs := h.sup
  cases hst : D.st with
  | none => rw [hst] at hs; exact hs
  | some L =>
    rw [hst] at hs
    obtain ⟨g, a, cap, e1, e2, e3, e4⟩ := hs
    exact ⟨g, a, cap, e1, e2, blk_abide e3 hg hr, e4⟩
/-- What a fold of places keeps. -/
structure RKp (D0 D : RD) (n : Nat) : Prop where
  tr : D.tr = D0.tr
  cv : D.cv = D0.cv
  Lo : D.Lo = D0.Lo
  P : D.P.length ≤ D0.P.length + n
  Ln : ∀ l, (D.Ln l).length ≤ max (D0.Ln l).length 513
theorem RKp.place {D0 D : RD} {n l r : Nat} {z : Bool} {ys : List Int} (h : RKp D0 D n) (hr : r < 513) : RKp D0 (D.place l r z ys) (n + 1) := by
  have hL : ∀ (x : Int) k, ((upd D.Ln l (setN (D.Ln l) r x)) k).length ≤ max (D0.Ln k).length 513 := fun x k => by
    by_cases e : k = l
    · subst e
      rw [upd_same, setN_len]
      have := h.Ln k
      omega
    · rw [upd_other _ _ _ _ e]
      exact h.Ln k
  unfold RD.place
  split
  · exact ⟨h.tr, h.cv, h.Lo, by have := h.P; show D.P.length ≤ _; omega, hL 0⟩
  · unfold RD.fresh
    split
    · exact ⟨h.tr, h.cv, h.Lo, by have := h.P; show (D.P ++ [_]).length ≤ _; rw [List.length_append]; simp; omega, hL _⟩
    · exact ⟨h.tr, h.cv, h.Lo, by have := h.P; show D.P.length ≤ _; omega, hL _⟩
/-- What is known between two leaves. -/
structure LfI (W0 : World) (b : Nat) (D0 : RD) (step : RD → Nat → RD) (pre : List Nat) (w : World) : Prop where
  st : RSt W0 w b (pre.foldl step D0)
  kp : RKp D0 (pre.foldl step D0) pre.length
theorem lvK_of (W0 : World) (b : Nat) (D0 : RD) (step : RD → Nat → RD) : LvK W0.heap.size b W0 (LfI W0 b D0 step) := by
  refine ⟨fun z hz pre A B row h hg hr => ⟨h.st.abides hz hg hr, h.kp⟩, fun pre w h => ?_, fun pre w h l hl v g hv hg => ?_, fun pre w h => ?_, Nat.le_refl _⟩
  · obtain ⟨C, so, sl, fv, pv, vs, hS⟩ := h.st
    exact ⟨C, hS.now.box⟩
  · obtain ⟨C, so, sl, fv, pv, vs, hS⟩ := h.st
    have h1 := (hS.now.box.cell (20 + l)).trans (hS.now.at_ l hl)
    rw [h1] at hv
    cases hv
    exact ((hS.now.row l hl).lt g hg).2
  · obtain ⟨C, so, sl, fv, pv, vs, hS⟩ := h.st
    exact hS.low
theorem pre_len {pre F : List Nat} {r : Nat} (h : pre ++ [r] <+: F) : pre.length < F.length := by have := h.length_le; simp at this; omega
theorem level0_any (W0 w : World) (b n cnt : Nat) (ca : Option Addr) (cc : Nat) (cs : List Int) (D0 : RD) (h : RSt W0 w b D0) (hcv : D0.cv = .slice ca n cc) (hn : n = cs.length) (hR : Rd .u8 W0 (.slice ca n cc) cs) (hcs : cs.length ≤ 262144) (hcnt : cnt = (n + 511) / 512) (hL : ∀ l, l < 3 → (D0.Ln l).length ≤ 513) (hP : D0.P.length ≤ 2000) (ho : ∀ l r, (D0.Lo l).getD r 0 = 0) :
    Calls Tryd.prog 46 #[.pointer (some ⟨b, 0, none⟩), .int .i64 0, .func (.func 47) #[.pointer (some ⟨b, 0, none⟩)] #[]] w fun e w' => e = .returned (.tuple #[]) ∧ RSt W0 w' b ((levelV cnt 0 14).foldl (stepD cs) D0) ∧ RKp D0 ((levelV cnt 0 14).foldl (stepD cs) D0) (levelV cnt 0 14).length := by
  have hc : cnt ≤ 512 := by omega
  have hlv : (levelV cnt 0 14).length ≤ 512 := by rw [(level_at hc).1, List.length_range]; omega
  have hk0 : RKp D0 D0 0 := ⟨rfl, rfl, rfl, by omega, fun l => by omega⟩
  refine (walkLevel_0 W0.heap.size cnt n b ca cc (LfI W0 b D0 (stepD cs)) W0 [] ⟨fun pre w1 h1 => ?_, fun pre w1 w2 h1 hb => ⟨h1.st.below hb, h1.kp⟩, fun pre rr w1 h1 hp hf => ?_, hcnt, by omega⟩ (lvK_of W0 b D0 _) w ⟨h, hk0⟩).mono ?_
  · obtain ⟨C, so, sl, fv, pv, vs, hS⟩ := h1.st
    refine ⟨(hS.now.box.cell 16).trans (hS.cv.trans ?_), hS.now.box.lt⟩
    rw [h1.kp.cv, hcv]
  · have hpl := pre_len hp
    rw [List.nil_append] at hpl
    have hr : rr < cnt := Nat.lt_of_le_of_lt (firI_le 0 rr) hf
    refine (renewData_any W0 w1 b rr n ca cc cs _ h1.st (by rw [h1.kp.cv, hcv]) hn hR hcs (by omega) (by have := h1.kp.Ln 0; have := hL 0 (by omega); omega) (by have := h1.kp.P; omega) (by rw [h1.kp.Lo]; exact ho _ _)).mono ?_
    rintro e w2 ⟨rfl, r2, y2, b2⟩
    refine ⟨rfl, ⟨by rw [List.foldl_append]; exact r2, ?_⟩, y2⟩
    rw [List.foldl_append, List.length_append]
    exact h1.kp.place (by omega)
  · rintro e w' ⟨rfl, h1⟩
    exact ⟨rfl, h1.st, h1.kp⟩
theorem levelP_any (l : Nat) (hl : l < 2) (W0 w : World) (b n cnt : Nat) (ca : Option Addr) (cc : Nat) (D0 : RD) (h : RSt W0 w b D0) (hcv : D0.cv = .slice ca n cc) (hn : n ≤ 262144) (hcnt : cnt = (n + 511) / 512) (hg : ErrT W0) (hL : ∀ l, l < 3 → (D0.Ln l).length ≤ 513) (hP : D0.P.length ≤ 2000) (ho : ∀ l r, (D0.Lo l).getD r 0 = 0) :
    Calls Tryd.prog 46 #[.pointer (some ⟨b, 0, none⟩), .int .i64 ((l : Int) + 1), .func (.func 48) #[.pointer (some ⟨b, 0, none⟩)] #[]] w fun e w' => e = .returned (.tuple #[]) ∧ RSt W0 w' b ((levelV cnt (l + 1) 14).foldl (stepP l) D0) ∧ RKp D0 ((levelV cnt (l + 1) 14).foldl (stepP l) D0) (levelV cnt (l + 1) 14).length := by
  have hc : cnt ≤ 512 := by omega
  have hlv : (levelV cnt (l + 1) 14).length ≤ 512 := by
    match l, hl with
    | 0, _ => rw [(level_at hc).2.1, List.length_range]; omega
    | 1, _ => rw [(level_at hc).2.2]; split <;> simp
  have hk0 : RKp D0 D0 0 := ⟨rfl, rfl, rfl, by omega, fun l => by omega⟩
  have hW : WkI 48 (l + 1) cnt n b ca cc ([] ++ levelV cnt (l + 1) 14) (LfI W0 b D0 (stepP l)) := by
    refine ⟨fun pre w1 h1 => ?_, fun pre w1 w2 h1 hb => ⟨h1.st.below hb, h1.kp⟩, fun pre rr w1 h1 hp hf => ?_, hcnt, hn⟩
    · obtain ⟨C, so, sl, fv, pv, vs, hS⟩ := h1.st
      refine ⟨(hS.now.box.cell 16).trans (hS.cv.trans ?_), hS.now.box.lt⟩
      rw [h1.kp.cv, hcv]
    · have hpl := pre_len hp
      rw [List.nil_append] at hpl
      have hr : rr < cnt := Nat.lt_of_le_of_lt (firI_le (l + 1) rr) hf
      have hgw : ErrT w1 := by
        obtain ⟨C, so, sl, fv, pv, vs, hS⟩ := h1.st
        exact hg.below hS.low
      refine (renewPtrs_any W0 w1 b l rr _ h1.st hl (by omega) (by have := h1.kp.Ln (l + 1); have := hL (l + 1) (by omega); omega) (by have := h1.kp.P; omega) (by rw [h1.kp.Lo]; exact ho _ _) hgw).mono ?_
      rintro e w2 ⟨rfl, r2, y2, b2⟩
      refine ⟨rfl, ⟨by rw [List.foldl_append]; exact r2, ?_⟩, y2⟩
      rw [List.foldl_append, List.length_append]
      exact h1.kp.place (by omega)
  match l, hl, hW with
  | 0, _, hW =>
    refine (walkLevel_1 W0.heap.size cnt n b ca cc (LfI W0 b D0 (stepP 0)) W0 [] hW (lvK_of W0 b D0 _) w ⟨h, hk0⟩).mono ?_
    rintro e w' ⟨rfl, h1⟩
    exact ⟨rfl, h1.st, h1.kp⟩
  | 1, _, hW =>
    refine (walkLevel_2 W0.heap.size cnt n b ca cc (LfI W0 b D0 (stepP 1)) W0 [] hW (lvK_of W0 b D0 _) w ⟨h, hk0⟩).mono ?_
    rintro e w' ⟨rfl, h1⟩
    exact ⟨rfl, h1.st, h1.kp⟩
end Go.Proofs.YtnfgldglpfgmnaaDoor

namespace Go.Proofs.YtnfgldglpfgmnaaDoor
set_option linter.unusedVariables false
set_option linter.unusedSimpArgs false
open Go.RowKit Go.Shelf

abbrev rootZ : Array Value := #[.int .i64 0, .int .i64 0, .int .i64 0, .int .i64 0, .int .i64 0, .int .i64 0, .int .i64 0, .int .i64 0, .int .i64 0, .int .i64 0, .int .i64 0, .int .i64 0, .int .i64 0, .int .i64 0, .int .i64 0]
abbrev treeZ (iv : Value) : Array Value := #[iv, .int .i64 0, .int .i64 0, .int .i64 0, .int .i64 0, .int .i64 0, .int .i64 0, .int .i64 0, .int .i64 0, .int .i64 0, .int .i64 0, .int .i64 0, .int .i64 0, .int .i64 0, .int .i64 0, .int .i64 0]
abbrev renZ (iv cv d0 d1 d2 fv : Value) : Array Value := #[iv, .int .i64 0, .int .i64 0, .int .i64 0, .int .i64 0, .int .i64 0, .int .i64 0, .int .i64 0, .int .i64 0, .int .i64 0, .int .i64 0, .int .i64 0, .int .i64 0, .int .i64 0, .int .i64 0, .int .i64 0, cv, d0, d1, d2, .slice none 0 0, .slice none 0 0, .slice none 0 0, fv, .slice none 0 0, .bool false]
theorem built_ren (ia : Option Addr) (il ic : Nat) (ca : Option Addr) (n cc : Nat) (a0 : Option Addr) (n0 q0 : Nat) (a1 : Option Addr) (n1 q1 : Nat) (a2 : Option Addr) (n2 q2 ff : Nat) (lb : Array Value) :
    Tryd.prog.built 72 [(0, .agg (treeZ (.slice ia il ic))), (1, .slice ca n cc), (2, .agg #[.slice a0 n0 q0, .slice a1 n1 q1, .slice a2 n2 q2]), (4, .func (.func ff) #[] lb)] = some (renZ (.slice ia il ic) (.slice ca n cc) (.slice a0 n0 q0) (.slice a1 n1 q1) (.slice a2 n2 q2) (.func (.func ff) #[] lb)) := by kernel_rfl
theorem tell_none (n : Nat) (W : Int → Nat → Int) (Pv : Nat → Int) : allT (topsT 0 n W Pv) = ([], false) := by
  have h : topT 0 n W Pv = fun _ => ([], false) := by
    funext j
    unfold topT
    cases topL j <;> (unfold tellG; rw [if_pos (.inl (Nat.zero_le _))])
  unfold topsT
  rw [h]
  rfl
/-- What a renewal over an empty tree knows at its beginning. -/
def rD0 (iv cv : Value) (st : Option (List Int)) : RD := { tr := treeZ iv, cv, Lo := fun _ => [], Ln := fun _ => [], P := [], sh := false, st }
/-- And at its end. -/
def rD3 (iv cv : Value) (st : Option (List Int)) (cs : List Int) (cnt : Nat) : RD := (levelV cnt 2 14).foldl (stepP 1) ((levelV cnt 1 14).foldl (stepP 0) ((levelV cnt 0 14).foldl (stepD cs) (rD0 iv cv st)))
theorem wpList_buildR {P : Program} {ops : Array Oper} {rest : List Oper} {o : Oper} {a : Act} {w : World} {Q : Exit → Act → World → Prop} (hgd : o.guard = none) (t : TypeId) (parts : Array (Nat × Operand)) (ho : o.op = .build t parts) (cells : Array Value) (hf : P.built t (parts.map fun (i, x) => (i, a.eval x)).toList = some cells)
    (h : wpList P ops Q rest (a.put o.dst (.agg cells)) w) : wpList P ops Q (o :: rest) a w := by
  refine wpList_plain hgd fun K hK => ?_
  unfold Oper.wp
  rw [run_buildT t parts ho cells hf, Oper.upon_value]
  exact hK _ _ h
theorem openZ_any (ia : Option Addr) (il ic : Nat) (zs : List Int) (w : World) (h : Rd .u8 w (.slice ia il ic) zs) (hz : zs.length ≤ 1048576) (hsz : szOk zs.length = true) :
    Calls Tryd.prog 41 #[.slice ia il ic, .agg rootZ] w fun e w' => e = .returned (.tuple #[.agg (treeZ (.slice ia il ic)), .nilIface]) ∧ Below w.heap.size w w' := by
  have := openTree_any (.slice ia il ic) zs 0 (List.replicate 12 0) 0 0 w h hz rfl
  refine Calls.mono (this : Calls Tryd.prog 41 #[.slice ia il ic, .agg rootZ] w _) ?_
  rintro e w' ⟨ev, rfl, hf, hb⟩
  rw [hsz] at hf
  have hr : rightR 0 (List.replicate 12 0) 0 0 = true := by decide
  rw [hr] at hf
  rcases hf with ⟨_, rfl⟩ | ⟨h1, _⟩
  · exact ⟨rfl, hb⟩
  · cases h1
theorem numZ_any (iv : Value) (zs : List Int) (w : World) (h : Rd .u8 w iv zs) (hz : zs.length ≤ 1048576) (hbd : ∀ z ∈ zs, 0 ≤ z ∧ z < 256) :
    Calls Tryd.prog 45 #[.agg (treeZ iv)] w fun e w' => ∃ a0 q0 a1 q1 a2 q2, e = .returned (.tuple #[.agg #[.slice a0 0 q0, .slice a1 0 q1, .slice a2 0 q2], .nilIface]) ∧ (w'.ownsRow w.heap.size 3 1 (.slice a0 0 q0) 0 [] ∧ w'.ownsRow w.heap.size 3 1 (.slice a1 0 q1) 0 [] ∧ w'.ownsRow w.heap.size 3 1 (.slice a2 0 q2) 0 []) ∧
      (∀ l m, l < 3 → m < 3 → l ≠ m → ((fun l => if l = 0 then Value.slice a0 0 q0 else if l = 1 then .slice a1 0 q1 else .slice a2 0 q2) l).ownBlock = none ∨ ((fun l => if l = 0 then Value.slice a0 0 q0 else if l = 1 then .slice a1 0 q1 else .slice a2 0 q2) l).ownBlock ≠ ((fun l => if l = 0 then Value.slice a0 0 q0 else if l = 1 then .slice a1 0 q1 else .slice a2 0 q2) m).ownBlock) ∧ Below w.heap.size w w' := by
  refine (numbered_any 0 0 zs (treeZ iv) (fun _ => 0) iv w ([], false) rfl rfl (fun j hj => ?_) rfl h hz hbd (by omega) (by omega) (tell_none _ _ _).symm).mono ?_
  · match j, hj with
    | 0, _ => rfl
    | 1, _ => rfl
    | 2, _ => rfl
    | 3, _ => rfl
    | 4, _ => rfl
    | 5, _ => rfl
    | 6, _ => rfl
    | 7, _ => rfl
    | 8, _ => rfl
    | 9, _ => rfl
    | 10, _ => rfl
    | 11, _ => rfl
    | 12, _ => rfl
    | 13, _ => rfl
  · rintro e w' ⟨D, ev, rfl, hD, (⟨_, rfl, b, sl, hN⟩ | ⟨h1, _⟩), hb⟩
    · have r0 := hN.row 0 (by omega)
      have r1 := hN.row 1 (by omega)
      have r2 := hN.row 2 (by omega)
      obtain ⟨a0, q0, e0⟩ := own_shape r0
      obtain ⟨a1, q1, e1⟩ := own_shape r1
      obtain ⟨a2, q2, e2⟩ := own_shape r2
      have hap := hN.apart
      obtain ⟨d0, d1, d2, rfl⟩ : ∃ d0 d1 d2, D = #[d0, d1, d2] := by
        match D, hD with
        | ⟨[d0, d1, d2]⟩, _ => exact ⟨d0, d1, d2, rfl⟩
      have f0 : d0 = sl 0 := by simpa using hN.at_ 0 (by omega)
      have f1 : d1 = sl 1 := by simpa using hN.at_ 1 (by omega)
      have f2 : d2 = sl 2 := by simpa using hN.at_ 2 (by omega)
      have hn : ∀ l, numL (upX []) l = [] := fun l => rfl
      rw [hn] at r0 r1 r2 e0 e1 e2
      refine ⟨a0, q0, a1, q1, a2, q2, by rw [f0, f1, f2, e0, e1, e2]; rfl, ⟨by rw [e0] at r0; exact r0, by rw [e1] at r1; exact r1, by rw [e2] at r2; exact r2⟩, fun l m hl hm hne => ?_, hb⟩
      have hs : ∀ l, l < 3 → (fun l => if l = 0 then Value.slice a0 0 q0 else if l = 1 then .slice a1 0 q1 else .slice a2 0 q2) l = sl l := fun l hl => by
        match l, hl with
        | 0, _ => exact e0.symm
        | 1, _ => exact e1.symm
        | 2, _ => exact e2.symm
      rw [hs l hl, hs m hm]
      exact hap l m hl hm hne
    · cases h1
end Go.Proofs.YtnfgldglpfgmnaaDoor
