/- What the device's law asks of a run, as plain facts. -/
import Derived.Test.YthghibopnnjboaaZi42
namespace Go.Proofs.Ythghibopnnjboaa
set_option linter.unusedVariables false
set_option linter.unusedSimpArgs false
open Go.RowKit

/-- Writes of whole blocks, from block lo on, below hi. -/
def WrOk (lo hi : Nat) (L : List DO) : Prop := ∀ p ∈ L, p.1 = 2 ∧ (∃ a : Nat, p.2.1 = (a : Int) ∧ lo ≤ a ∧ a < hi) ∧ p.2.2.length = 512
/-- A cached write that is a sector of one of these. -/
def FromW (L : List DO) (c : Nat × List Int) : Prop := ∃ p ∈ L, ∃ a j : Nat, p.2.1 = (a : Int) ∧ j < 4 ∧ c = secW a p.2.2 j
/-- How many sectors of n blocks are cached. -/
def cnt (s : DS) (n : Nat) : Nat := if s.off = true then 0 else if s.fu < 0 then 4 * n else min s.fu.toNat (4 * n)
theorem stS_writes {m lo hi : Nat} (hhi : hi ≤ m) : ∀ (L : List DO) (s : DS), WrOk lo hi L → ∃ X, (stS m L s).F = s.F ∧ (stS m L s).C = s.C ++ X ∧ (∀ c ∈ X, FromW L c) ∧ X.length = cnt s L.length ∧ (s.off = false → s.fu < 0 → (stS m L s).off = false)
  | [], s, _ => ⟨[], rfl, by simp [stS], fun c h => (by cases h), by unfold cnt; split; rfl; split <;> simp, fun h _ => h⟩
  | p :: L, s, h => by
    obtain ⟨hk, ⟨a, ha, h1, h2⟩, hl⟩ := h p (by simp)
    have hL : WrOk lo hi L := fun x hx => h x (by simp [hx])
    have hst : stS m (p :: L) s = stS m L (doS m p.1 p.2.1 p.2.2 s).1 := rfl
    rw [hst]
    cases ho : s.off with
    | true =>
      have hd : (doS m p.1 p.2.1 p.2.2 s).1 = s := by unfold doS; rw [hk, if_neg (by decide), if_neg (by decide), if_pos ho]
      rw [hd]
      obtain ⟨X, e1, e2, e3, e4, e5⟩ := stS_writes hhi L s hL
      refine ⟨X, e1, e2, fun c hc => ?_, ?_, fun h => by cases h⟩
      · obtain ⟨q, hq, r⟩ := e3 c hc
        exact ⟨q, by simp [hq], r⟩
      · rw [e4]; unfold cnt; rw [if_pos ho, if_pos ho]
    | false =>
      have hd : (doS m p.1 p.2.1 p.2.2 s).1 = ⟨s.F, wrC s.C a p.2.2 (maJ s.fu), fuJ s.fu (maJ s.fu), ofJ s.off s.fu⟩ := by
        unfold doS
        rw [hk, if_neg (by decide), if_neg (by decide), if_neg (by rw [ho]; decide), if_neg (by decide), if_pos rfl, ha, if_pos (by omega), if_pos hl, Int.toNat_natCast]
      rw [hd]
      obtain ⟨X, e1, e2, e3, e4, e5⟩ := stS_writes hhi L ⟨s.F, wrC s.C a p.2.2 (maJ s.fu), fuJ s.fu (maJ s.fu), ofJ s.off s.fu⟩ hL
      refine ⟨(List.range (maJ s.fu)).map (secW a p.2.2) ++ X, e1, ?_, fun c hc => ?_, ?_, fun _ hf => ?_⟩
      · rw [e2, ← List.append_assoc]
        rfl
      · rcases List.mem_append.1 hc with hc | hc
        · obtain ⟨j, hj, rfl⟩ := List.mem_map.1 hc
          have := maJ_le s.fu
          exact ⟨p, by simp, a, j, ha, by rw [List.mem_range] at hj; omega, rfl⟩
        · obtain ⟨q, hq, r⟩ := e3 c hc
          exact ⟨q, by simp [hq], r⟩
      · rw [List.length_append, List.length_map, List.length_range, e4]
        unfold cnt
        simp only [ho, Bool.false_eq_true, if_false]
        have hlen : (p :: L).length = L.length + 1 := rfl
        rw [hlen]
        by_cases hf : s.fu < 0
        · have hma : maJ s.fu = 4 := by unfold maJ; rw [if_pos hf]
          have hof : ofJ s.off s.fu = false := by unfold ofJ; rw [hma, ho]; rfl
          have hfu : fuJ s.fu (maJ s.fu) < 0 := by unfold fuJ; rw [if_pos hf]; exact hf
          rw [ho] at hof
          rw [if_neg (by rw [hof]; decide), if_pos hfu, if_pos hf, hma]
          omega
        · by_cases h4 : 4 ≤ s.fu
          · have hma : maJ s.fu = 4 := by unfold maJ; rw [if_neg hf]; omega
            have hof : ofJ s.off s.fu = false := by unfold ofJ; rw [hma, ho]; rfl
            have hfu : fuJ s.fu (maJ s.fu) = s.fu - 4 := by unfold fuJ; rw [if_neg hf, hma]; rfl
            rw [ho] at hof
            rw [if_neg (by rw [hof]; decide), hfu, if_neg (by omega), if_neg hf, hma]
            omega
          · have hma : maJ s.fu = s.fu.toNat := by unfold maJ; rw [if_neg hf]; omega
            have hof : ofJ s.off s.fu = true := by unfold ofJ; rw [hma, ho]; simp; omega
            rw [ho] at hof
            rw [if_pos hof, if_neg hf, hma]
            omega
      · have hma : maJ s.fu = 4 := by unfold maJ; rw [if_pos hf]
        refine e5 ?_ ?_
        · show ofJ s.off s.fu = false
          unfold ofJ
          rw [hma, ho]
          rfl
        · show fuJ s.fu (maJ s.fu) < 0
          unfold fuJ
          rw [if_pos hf]
          exact hf
theorem mk_out {lo hi : Nat} (i : Nat) (hi' : i < lo ∨ hi ≤ i) : ∀ (K : List (Nat × List Int)) (F : List Int), hi ≤ F.length → (∀ c ∈ K, lo ≤ c.1 ∧ c.1 + c.2.length ≤ hi) → (mkW F K)[i]? = F[i]?
  | [], F, _, _ => rfl
  | c :: K, F, hF, h => by
    have hc := h c (by simp)
    have h1 : (splice F c.1 c.2).length = F.length := length_splice _ _ _ (by omega)
    have h2 := mk_out i hi' K (splice F c.1 c.2) (by rw [h1]; exact hF) (fun x hx => h x (by simp [hx]))
    have h3 : mkW F (c :: K) = mkW (splice F c.1 c.2) K := rfl
    rw [h3, h2, splice_getG _ _ _ _ (by omega)]
    by_cases h0 : i < c.1
    · rw [if_pos h0]
    · rw [if_neg h0, if_neg (by omega)]
theorem sec_splice {n q q0 : Nat} {F P : List Int} (hF : F.length = n * 128) (h0 : q0 < n) (hq : q < n) (hP : P.length = 128) : secZ (splice F (q0 * 128) P) q = if q0 = q then P else secZ F q := by
  apply List.ext_getElem?
  intro i
  have hg : ∀ Z : List Int, (secZ Z q)[i]? = if i < 128 then Z[q * 128 + i]? else none := fun Z => by
    unfold secZ
    rw [List.getElem?_take]
    split
    · rw [List.getElem?_drop]
    · rfl
  by_cases hi : i < 128
  · rw [hg, if_pos hi, splice_getG _ _ _ _ (by rw [hP, hF]; omega), hP]
    by_cases e : q0 = q
    · subst e
      rw [if_pos rfl, if_neg (by omega), if_pos (by omega), show q0 * 128 + i - q0 * 128 = i by omega]
    · rw [if_neg e, hg, if_pos hi]
      by_cases h1 : q * 128 + i < q0 * 128
      · rw [if_pos h1]
      · rw [if_neg h1, if_neg (by omega)]
  · rw [hg, if_neg hi]
    split
    · rw [List.getElem?_eq_none (by omega)]
    · rw [hg, if_neg hi]
theorem mk_sec {n : Nat} : ∀ (K : List (Nat × List Int)) (F : List Int), F.length = n * 128 → (∀ c ∈ K, ∃ q, c.1 = q * 128 ∧ q < n ∧ c.2.length = 128) → ∀ q, q < n → secZ (mkW F K) q = secZ F q ∨ ∃ c ∈ K, c.1 = q * 128 ∧ secZ (mkW F K) q = c.2
  | [], F, _, _, q, _ => .inl rfl
  | c :: K, F, hF, h, q, hq => by
    obtain ⟨q0, e0, h0, hl⟩ := h c (by simp)
    have h1 : (splice F c.1 c.2).length = n * 128 := by rw [length_splice _ _ _ (by rw [e0, hl, hF]; omega), hF]
    have h3 : mkW F (c :: K) = mkW (splice F c.1 c.2) K := rfl
    rcases mk_sec K (splice F c.1 c.2) h1 (fun x hx => h x (by simp [hx])) q hq with h2 | ⟨x, hx, hx1, hx2⟩
    · rw [h3, h2, e0, sec_splice hF h0 hq hl]
      by_cases e : q0 = q
      · right
        exact ⟨c, by simp, by rw [e0, e], by rw [if_pos e]⟩
      · left
        rw [if_neg e]
    · right
      exact ⟨x, by simp [hx], hx1, by rw [h3]; exact hx2⟩
theorem fromW_at {lo hi : Nat} {L : List DO} (hL : WrOk lo hi L) {c : Nat × List Int} (h : FromW L c) : lo * 512 ≤ c.1 ∧ c.1 + c.2.length ≤ hi * 512 ∧ c.2.length = 128 ∧ ∃ p ∈ L, ∃ a j : Nat, p.2.1 = (a : Int) ∧ j < 4 ∧ c.1 = (a * 4 + j) * 128 ∧ c.2 = (p.2.2.drop (j * 128)).take 128 := by
  obtain ⟨p, hp, a, j, ha, hj, rfl⟩ := h
  obtain ⟨_, ⟨a', ha', h1, h2⟩, hl⟩ := hL p hp
  have e : a' = a := by omega
  subst e
  have hs := secW_len a' p.2.2 j hl hj
  refine ⟨?_, ?_, hs, p, hp, a', j, ha, hj, ?_, rfl⟩
  · show lo * 512 ≤ a' * 512 + j * 128; omega
  · rw [hs]; show a' * 512 + j * 128 + 128 ≤ _; omega
  · show a' * 512 + j * 128 = _; omega
theorem take_eq_get {A B : List Int} {n : Nat} (h : ∀ i, i < n → A[i]? = B[i]?) : A.take n = B.take n := by
  apply List.ext_getElem?
  intro i
  rw [List.getElem?_take, List.getElem?_take]
  by_cases hi : i < n
  · rw [if_pos hi, if_pos hi, h i hi]
  · rw [if_neg hi, if_neg hi]
theorem drop_eq_get {A B : List Int} {n : Nat} (h : ∀ i, n ≤ i → A[i]? = B[i]?) : A.drop n = B.drop n := by
  apply List.ext_getElem?
  intro i
  rw [List.getElem?_drop, List.getElem?_drop, h _ (by omega)]
/-- What the three runs of the law leave. -/
structure DmOk (zs : List Int) (L1 L2 : List DO) (f : Nat) (ch : List Int) (F1 F3 : List Int) : Prop where
  c1 : (runD zs (L1 ++ [(3, 0, [])])).1 = 0
  i1 : (runD zs (L1 ++ [(3, 0, [])])).2.2.1 = F1
  n2 : (runD zs (L1 ++ [(3, 0, [])] ++ [(4, (f : Int), [])] ++ L2)).2.2.2.2 = ((min f (4 * L2.length) : Nat) : Int)
  n3 : (runD zs (L1 ++ [(3, 0, [])] ++ [(4, (f : Int), [])] ++ L2 ++ [(5, 0, ch)])).2.2.2.2 = 0
  i3 : (runD zs (L1 ++ [(3, 0, [])] ++ [(4, (f : Int), [])] ++ L2 ++ [(5, 0, ch)])).2.2.1 = F3
  e3 : (runD zs (L1 ++ [(3, 0, [])] ++ [(4, (f : Int), [])] ++ L2 ++ [(5, 0, ch)])).2.2.2.1 = F3
  l1 : F1.length = zs.length
  l3 : F3.length = zs.length
  t : F3.take 2048 = F1.take 2048
  d : F3.drop 4096 = zs.drop 4096
  s : ∀ q, 16 ≤ q → q < 32 → secZ F3 q = secZ zs q ∨ ∃ p ∈ L2, ∃ a j : Nat, p.2.1 = (a : Int) ∧ j < 4 ∧ a * 4 + j = q ∧ secZ F3 q = (p.2.2.drop (j * 128)).take 128
theorem runD_ok {zs : List Int} {m : Nat} (hl : zs.length = m * 512) (h1 : 64 ≤ m) (h2 : m ≤ 68) {P : List DO} (hP : P.length ≤ 4000) : runD zs P = ((0 : Int), anS m P (newS zs), (stS m P (newS zs)).F, mkW (stS m P (newS zs)).F (stS m P (newS zs)).C, (((stS m P (newS zs)).C.length : Nat) : Int)) := by
  have hm : zs.length / 512 = m := by omega
  have hsz : szOk zs.length = true := by unfold szOk; simp only [Bool.and_eq_true, decide_eq_true_eq]; omega
  unfold runD
  rw [if_pos hsz, if_neg (by omega), hm]
theorem disk_math {zs : List Int} {m : Nat} (hl : zs.length = m * 512) (h1 : 64 ≤ m) (h2 : m ≤ 68) {L1 L2 : List DO} (hL1 : WrOk 0 4 L1) (hL2 : WrOk 4 8 L2) (n1 : L1.length ≤ 6) (n2 : L2.length ≤ 20) (f : Nat) (ch : List Int) : ∃ F1 F3, DmOk zs L1 L2 f ch F1 F3 := by
  obtain ⟨X1, a1, a2, a3, a4, a5⟩ := stS_writes (m := m) (by omega) L1 (newS zs) hL1
  have e1 : stS m (L1 ++ [(3, 0, [])]) (newS zs) = ⟨mkW zs X1, [], (stS m L1 (newS zs)).fu, false⟩ := by
    rw [stS_snoc]
    have ho := a5 rfl (by show (-1 : Int) < 0; omega)
    unfold doS
    rw [if_neg (by decide), if_neg (by decide), if_neg (by rw [ho]; decide), if_neg (by decide), if_neg (by decide), if_pos rfl, a1, a2, ho]
    rfl
  have e2 : stS m (L1 ++ [(3, 0, [])] ++ [(4, (f : Int), [])]) (newS zs) = ⟨mkW zs X1, [], (f : Int), false⟩ := by
    rw [stS_snoc, e1]
    rfl
  obtain ⟨X2, b1, b2, b3, b4, _⟩ := stS_writes (m := m) (by omega) L2 ⟨mkW zs X1, [], (f : Int), false⟩ hL2
  have e3 : stS m (L1 ++ [(3, 0, [])] ++ [(4, (f : Int), [])] ++ L2) (newS zs) = stS m L2 ⟨mkW zs X1, [], (f : Int), false⟩ := by
    rw [← e2]
    unfold stS
    rw [List.foldl_append (l := L1 ++ [(3, 0, [])] ++ [(4, (f : Int), [])])]
  have c3 : (stS m (L1 ++ [(3, 0, [])] ++ [(4, (f : Int), [])] ++ L2) (newS zs)).C = X2 := by rw [e3, b2]; rfl
  have f3 : (stS m (L1 ++ [(3, 0, [])] ++ [(4, (f : Int), [])] ++ L2) (newS zs)).F = mkW zs X1 := by rw [e3, b1]
  have e4 : stS m (L1 ++ [(3, 0, [])] ++ [(4, (f : Int), [])] ++ L2 ++ [(5, 0, ch)]) (newS zs) = ⟨mkW (mkW zs X1) (keptTo ch X2 X2.length), [], -1, false⟩ := by
    rw [stS_snoc]
    unfold doS
    rw [if_neg (show ¬ ((5 : Int) = 4) by decide), if_pos rfl, c3, f3]
  have w1 : ∀ c ∈ X1, 0 ≤ c.1 ∧ c.1 + c.2.length ≤ 2048 := fun c hc => by
    have := fromW_at hL1 (a3 c hc)
    omega
  have w2 : ∀ c ∈ X2, 2048 ≤ c.1 ∧ c.1 + c.2.length ≤ 4096 := fun c hc => by
    have := fromW_at hL2 (b3 c hc)
    omega
  have hlen1 : (mkW zs X1).length = zs.length := mkW_len _ _ (fun c hc => by have := (w1 c hc).2; omega)
  have w3 : ∀ c ∈ keptTo ch X2 X2.length, 2048 ≤ c.1 ∧ c.1 + c.2.length ≤ 4096 := fun c hc => w2 c (keptTo_mem ch X2 _ c hc)
  have hlen3 : (mkW (mkW zs X1) (keptTo ch X2 X2.length)).length = zs.length := by rw [mkW_len _ _ (fun c hc => by have := (w3 c hc).2; omega), hlen1]
  have p1 : (L1 ++ [((3 : Int), (0 : Int), ([] : List Int))]).length ≤ 4000 := by simp; omega
  have p2 : (L1 ++ [((3 : Int), (0 : Int), ([] : List Int))] ++ [(4, (f : Int), [])] ++ L2).length ≤ 4000 := by simp; omega
  have p3 : (L1 ++ [((3 : Int), (0 : Int), ([] : List Int))] ++ [(4, (f : Int), [])] ++ L2 ++ [(5, 0, ch)]).length ≤ 4000 := by simp; omega
  refine ⟨mkW zs X1, mkW (mkW zs X1) (keptTo ch X2 X2.length), ?_⟩
  refine ⟨by rw [runD_ok hl h1 h2 p1], by rw [runD_ok hl h1 h2 p1, e1], ?_, by rw [runD_ok hl h1 h2 p3, e4]; rfl, by rw [runD_ok hl h1 h2 p3, e4], by rw [runD_ok hl h1 h2 p3, e4]; rfl, hlen1, hlen3, ?_, ?_, ?_⟩
  · rw [runD_ok hl h1 h2 p2]
    show (((stS m (L1 ++ [(3, 0, [])] ++ [(4, (f : Int), [])] ++ L2) (newS zs)).C.length : Nat) : Int) = _
    rw [c3, b4]
    unfold cnt
    simp only [Bool.false_eq_true, if_false]
    rw [if_neg (by omega), Int.toNat_natCast]
  · exact take_eq_get (fun i hi => mk_out i (.inl hi) _ _ (by rw [hlen1]; omega) w3)
  · refine drop_eq_get (fun i hi => ?_)
    rw [mk_out i (.inr hi) _ _ (by rw [hlen1]; omega) w3, mk_out (lo := 0) (hi := 2048) i (.inr (by omega)) _ _ (by omega) w1]
  · intro q hq1 hq2
    have hF1 : (mkW zs X1).length = (m * 4) * 128 := by rw [hlen1, hl]; omega
    rcases mk_sec (n := m * 4) (keptTo ch X2 X2.length) (mkW zs X1) hF1 (fun c hc => by
      obtain ⟨r1, r2, r3, p, hp, a, j, r4, r5, r6, r7⟩ := fromW_at hL2 (b3 c (keptTo_mem ch X2 _ c hc))
      exact ⟨a * 4 + j, r6, by omega, r3⟩) q (by omega) with h | ⟨c, hc, hc1, hc2⟩
    · left
      rw [h]
      apply List.ext_getElem?
      intro i
      unfold secZ
      rw [List.getElem?_take, List.getElem?_take]
      split
      · rw [List.getElem?_drop, List.getElem?_drop, mk_out (lo := 0) (hi := 2048) _ (.inr (by omega)) _ _ (by omega) w1]
      · rfl
    · right
      obtain ⟨r1, r2, r3, p, hp, a, j, r4, r5, r6, r7⟩ := fromW_at hL2 (b3 c (keptTo_mem ch X2 _ c hc))
      exact ⟨p, hp, a, j, r4, r5, by omega, by rw [hc2, r7]⟩
end Go.Proofs.Ythghibopnnjboaa
