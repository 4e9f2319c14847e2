/- What openDirectory finds, against the model's entries (mathematics). A right state, as the program asks: mathematics. -/
import Derived.Test.YtplieplmhdfndaaGreatDoorZg24
import Derived.Maps.Views
import Derived.Test.YtplieplmhdfndaaGreatDoorZg21
import Derived.Test.YtplieplmhdfndaaGreatDoorZg07
namespace Go.Proofs.YtplieplmhdfndaaGreatDoor
set_option linter.unusedVariables false
set_option linter.unusedSimpArgs false
open Go.RowKit

/-- The entry that slot k tells. -/
def slotE (zs : List Int) (k : Nat) : ByteArray × Int × Int := if sZero (slotK zs k) = true then (⟨#[]⟩, 0, 0) else (sName (slotK zs k), (sIno (slotK zs k) : Int), (sKind (slotK zs k) : Int))
def slotsL (zs : List Int) (k : Nat) : List (ByteArray × Int × Int) := (List.range k).map (slotE zs)
theorem slotsL_len (zs : List Int) (k : Nat) : (slotsL zs k).length = k := by simp [slotsL]
theorem entT_some {zs : List Int} {k : Nat} {fs : List (ByteArray × Nat × Nat)} (h : entT zs (k + 1) = some fs) : ∃ es, entT zs k = some es ∧ ((sZero (slotK zs k) = true ∧ fs = es) ∨ (sZero (slotK zs k) = false ∧ sRight (slotK zs k) = true ∧ (es.any fun e => e.1.toList == (sName (slotK zs k)).toList) = false ∧ fs = es ++ [(sName (slotK zs k), sIno (slotK zs k), sKind (slotK zs k))])) := by
  cases he : entT zs k with
  | none => rw [entT, he] at h; cases h
  | some es =>
    refine ⟨es, rfl, ?_⟩
    cases hz : sZero (slotK zs k) with
    | true => rw [entT_zero he hz] at h; exact .inl ⟨rfl, by cases h; rfl⟩
    | false =>
      cases hr : sRight (slotK zs k) with
      | false => rw [entT_bad he hz hr] at h; cases h
      | true =>
        cases ha : (es.any fun e => e.1.toList == (sName (slotK zs k)).toList) with
        | true => rw [entT_twice he hz ha] at h; cases h
        | false => rw [entT_more he hz hr ha] at h; exact .inr ⟨rfl, rfl, rfl, by cases h; rfl⟩
theorem right_name {ps : List Int} (h : sRight ps = true) : (sName ps).toList ≠ [] := by
  have h2 : (Chk.chkS (sName ps) == 0) = true := by
    simp only [sRight, Bool.and_eq_true] at h
    exact h.2.2.2
  intro e
  rw [Chk.spell1 _ e] at h2
  simp at h2
theorem zE_slot {zs : List Int} {k : Nat} (h : (sZero (slotK zs k) || sRight (slotK zs k)) = true) : zE (slotE zs k) = sZero (slotK zs k) := by
  unfold zE slotE
  cases hz : sZero (slotK zs k) with
  | true => rw [if_pos rfl]; exact (entEq_iff _ _ _).mpr ⟨by rw [ByteArray.toList_eq], rfl, rfl⟩
  | false =>
    rw [if_neg (by simp)]
    rw [hz, Bool.false_or] at h
    cases he : entEq (sName (slotK zs k)) (sIno (slotK zs k)) (sKind (slotK zs k)) ⟨#[]⟩ 0 0 with
    | false => rfl
    | true => exact absurd ((entEq_iff _ _ _).mp he).1 (right_name h)
theorem entT_ok {zs : List Int} : ∀ {k : Nat} {es : List (ByteArray × Nat × Nat)}, entT zs k = some es → ∀ j, j < k → (sZero (slotK zs j) || sRight (slotK zs j)) = true
  | 0, _, _, j, hj => by omega
  | k + 1, fs, h, j, hj => by
    obtain ⟨es, h1, h2⟩ := entT_some h
    rcases Nat.lt_or_ge j k with hlt | hge
    · exact entT_ok h1 j hlt
    · obtain rfl : j = k := by omega
      rcases h2 with ⟨hz, _⟩ | ⟨_, hr, _⟩
      · rw [hz]; rfl
      · rw [hr]; simp
theorem allZ_slots (zs : List Int) (N : Nat) (hl : zs.length = N * 32) : ∀ (d m : Nat), m + d = N → (allZ (zs.drop (m * 32)) = true ↔ ∀ j, m ≤ j → j < N → sZero (slotK zs j) = true)
  | 0, m, h => by
    have : zs.drop (m * 32) = [] := List.drop_eq_nil_of_le (by omega)
    rw [this]
    exact ⟨fun _ j h1 h2 => by omega, fun _ => rfl⟩
  | d + 1, m, h => by
    have ih := allZ_slots zs N hl d (m + 1) (by omega)
    have e : zs.drop (m * 32) = slotK zs m ++ zs.drop ((m + 1) * 32) := by
      unfold slotK
      rw [show (m + 1) * 32 = m * 32 + 32 by omega, ← List.drop_drop, List.take_append_drop]
    rw [e]
    unfold allZ at ih ⊢
    rw [List.all_append, Bool.and_eq_true, ih]
    constructor
    · rintro ⟨h1, h2⟩ j h3 h4
      rcases Nat.eq_or_lt_of_le h3 with rfl | h5
      · exact h1
      · exact h2 j h5 h4
    · intro h1
      exact ⟨h1 m (Nat.le_refl _) (by omega), fun j h3 h4 => h1 j (by omega) h4⟩
theorem ends_slots {zs : List Int} {N m : Nat} {es : List (ByteArray × Nat × Nat)} (h : entT zs N = some es) : (((slotsL zs N).drop m).all zE = true ↔ ∀ j, m ≤ j → j < N → sZero (slotK zs j) = true) := by
  rw [List.all_eq_true]
  constructor
  · intro h1 j h2 h3
    rw [← zE_slot (entT_ok h j h3)]
    refine h1 _ ?_
    rw [List.mem_iff_getElem?]
    refine ⟨j - m, ?_⟩
    rw [List.getElem?_drop, show m + (j - m) = j by omega, slotsL, List.getElem?_map, List.getElem?_range h3]
    rfl
  · intro h1 e he
    rw [List.mem_iff_getElem?] at he
    obtain ⟨i, hi⟩ := he
    rw [List.getElem?_drop, slotsL, List.getElem?_map] at hi
    have hlt : m + i < N := by
      rcases Nat.lt_or_ge (m + i) N with h2 | h2
      · exact h2
      · rw [List.getElem?_eq_none (by simpa using h2)] at hi; cases hi
    rw [List.getElem?_range hlt] at hi
    obtain rfl := Option.some.inj hi
    rw [zE_slot (entT_ok h _ hlt)]
    exact h1 _ (by omega) hlt
/-- The last block: what the program looks at is what the model looks at. -/
theorem ends_model {zs : List Int} {es : List (ByteArray × Nat × Nat)} (h512 : zs.length % 512 = 0) (h0 : 0 < zs.length) (h : entT zs (zs.length / 32) = some es) : ((slotsL zs (zs.length / 32)).drop (zs.length / 32 - 16)).all zE = allZ (zs.drop (zs.length - 512)) := by
  have h1 := ends_slots (m := zs.length / 32 - 16) h
  have h2 := allZ_slots zs (zs.length / 32) (by omega) 16 (zs.length / 32 - 16) (by omega)
  rw [show (zs.length / 32 - 16) * 32 = zs.length - 512 by omega] at h2
  rw [Bool.eq_iff_iff, h1, h2]
/-- Whether the bytes are a directory, as the program finds it. -/
theorem dirOk_eq {zs : List Int} (h512 : zs.length % 512 = 0) (hl : zs.length ≤ 262144) : dirOk zs = ((entT zs (zs.length / 32)).isSome && !(decide (16 ≤ zs.length / 32) && ((slotsL zs (zs.length / 32)).drop (zs.length / 32 - 16)).all zE)) := by
  unfold dirOk
  rw [decide_eq_true h512, decide_eq_true hl, Bool.true_and, Bool.true_and]
  cases he : entT zs (zs.length / 32) with
  | none => rfl
  | some es =>
    rcases Nat.eq_zero_or_pos zs.length with h0 | h0
    · have e0 : ¬ 0 < zs.length := by omega
      have e16 : ¬ 16 ≤ zs.length / 32 := by omega
      simp only [decide_eq_false e0, decide_eq_false e16, Bool.false_and]
    · have e16 : 16 ≤ zs.length / 32 := by omega
      rw [ends_model h512 h0 he]
      generalize allZ (zs.drop (zs.length - 512)) = q
      simp [h0, e16]
end Go.Proofs.YtplieplmhdfndaaGreatDoor

namespace Go.Proofs.YtplieplmhdfndaaGreatDoor
set_option linter.unusedVariables false
set_option linter.unusedSimpArgs false

def inB (x : Nd) : Bool := freeN x || (fieldsB x.k x.l x.m x.u x.g x.p x.e x.t x.c && decide (x.d.length ≤ 262144))
def tmB (x : Nd) (C : Int) : Bool := decide (x.e ≤ C) && decide (x.t ≤ C) && decide (x.c ≤ C)
/-- A node, looked at alone. -/
def nodeB (x : Nd) (C : Int) : Bool := inB x && tmB x C && (!decide (x.k = 3) || targB x.d)
/-- Whether an entry may stand in directory i. -/
def mayE (L : List Nd) (i : Nat) (e : ByteArray × Nat × Nat) : Bool := decide (e.2.1 ≠ 1) && decide (e.2.1 < L.length) && decide ((ndAt L e.2.1).k ≠ 0) && decide ((ndAt L e.2.1).k = (e.2.2 : Int)) && (!decide ((ndAt L e.2.1).k = 2) || decide ((ndAt L e.2.1).p = (i : Int)))
theorem mayE_iff (L : List Nd) (i : Nat) (e : ByteArray × Nat × Nat) : mayE L i e = true ↔ e.2.1 ≠ 1 ∧ e.2.1 < L.length ∧ (ndAt L e.2.1).k ≠ 0 ∧ (ndAt L e.2.1).k = (e.2.2 : Int) ∧ ((ndAt L e.2.1).k = 2 → (ndAt L e.2.1).p = (i : Int)) := by
  unfold mayE
  simp only [Bool.and_eq_true, decide_eq_true_eq, Bool.or_eq_true, Bool.not_eq_true', decide_eq_false_iff_not, and_assoc]
  constructor
  · rintro ⟨h1, h2, h3, h4, h5⟩
    exact ⟨h1, h2, h3, h4, fun h => h5.resolve_left (fun h6 => h6 h)⟩
  · rintro ⟨h1, h2, h3, h4, h5⟩
    refine ⟨h1, h2, h3, h4, ?_⟩
    by_cases h : (ndAt L e.2.1).k = 2
    · exact .inr (h5 h)
    · exact .inl h
/-- How many links node i must have. -/
def lnkN (L : List Nd) (i : Nat) : Int := if (ndAt L i).k = 2 then 2 + (dirsN L i : Int) else (namesE L.length (numE L) i : Int)
structure PrS (C : Int) (L : List Nd) : Prop where
  clock : 1 ≤ C ∧ C ≤ 1099511627776
  len : 2 ≤ L.length ∧ L.length ≤ 1001
  node : ∀ i, i < L.length → nodeB (ndAt L i) C = true
  tot : totN L ≤ 1048576
  dirs : ∀ i, i < L.length → (ndAt L i).k = 2 → dirOk (ndAt L i).d = true
  zero : (ndAt L 0).k = 0
  last : (ndAt L (L.length - 1)).k ≠ 0
  root : (ndAt L 1).k = 2 ∧ (ndAt L 1).p = 1
  snap : ∀ e ∈ entN (ndAt L 1), e.1 ≠ snapNm
  may : ∀ i, i < L.length → ∀ e ∈ entN (ndAt L i), mayE L i e = true
  links : ∀ i, i < L.length → (ndAt L i).k ≠ 0 → (ndAt L i).l = lnkN L i
  names : ∀ i, i < L.length → (ndAt L i).k = 2 → i ≠ 1 → namesE L.length (numE L) i = 1
  reach : (bfs (chE (numE L)) L.length [] [1]).length = ((List.range L.length).filter (kdN L · == 2)).length
theorem free_kind {x : Nd} (h : freeN x = true) : x.k = 0 := by rw [(freeN_iff _).1 h]; rfl
theorem node_free {x : Nd} {C : Int} (h : nodeB x C = true) (hk : x.k = 0) : freeN x = true := by
  unfold nodeB inB fieldsB at h
  simp only [Bool.and_eq_true, Bool.or_eq_true] at h
  rcases h.1.1 with h1 | h1
  · exact h1
  · have := wi_true h1.1.1.1.1.1.1.1.1.1
    omega
theorem node_fields {x : Nd} {C : Int} (h : nodeB x C = true) (hk : x.k ≠ 0) : plainN x C = true ∧ (1 ≤ x.l ∧ x.l ≤ 1000) := by
  unfold nodeB inB fieldsB tmB at h
  simp only [Bool.and_eq_true, Bool.or_eq_true, decide_eq_true_eq] at h
  rcases h.1.1 with h1 | h1
  · exact absurd (free_kind h1) hk
  obtain ⟨⟨⟨⟨⟨⟨⟨⟨⟨f0, f1⟩, f2⟩, f3⟩, f4⟩, f5⟩, f6⟩, f7⟩, f8⟩, hl⟩ := h1
  have g6 := wi_true f6
  have g7 := wi_true f7
  have g8 := wi_true f8
  refine ⟨?_, wi_true f1⟩
  unfold plainN
  simp only [Bool.and_eq_true, Bool.or_eq_true, decide_eq_true_eq]
  refine ⟨⟨⟨⟨⟨⟨f0, f2⟩, f3⟩, f4⟩, ⟨⟨?_, ?_⟩, ?_⟩, hl⟩, ?_⟩, by have := h.2; simpa using this⟩
  · simp [wi]; omega
  · simp [wi]; omega
  · simp [wi]; omega
  · unfold parB at f5
    by_cases h2 : x.k = 2
    · exact .inl h2
    · rw [if_neg h2] at f5
      exact .inr (by simpa using f5)
theorem nodeB_free {x : Nd} {C : Int} (h : freeN x = true) (hC : 0 ≤ C) : nodeB x C = true := by
  have e := (freeN_iff _).1 h
  unfold nodeB inB tmB
  rw [h, e]
  simp [nd0, hC]
theorem nodeB_plain {x : Nd} {C : Int} (h : plainN x C = true) (hC : C ≤ 1099511627776) (hl : 1 ≤ x.l ∧ x.l ≤ 1000) (hp : x.k = 2 → 1 ≤ x.p ∧ x.p ≤ 1000) : nodeB x C = true := by
  unfold plainN at h
  simp only [Bool.and_eq_true, Bool.or_eq_true, decide_eq_true_eq] at h
  obtain ⟨⟨⟨⟨⟨⟨f0, f2⟩, f3⟩, f4⟩, ⟨⟨f6, f7⟩, f8⟩, hd⟩, hpar⟩, ht⟩ := h
  have g6 := wi_true f6
  have g7 := wi_true f7
  have g8 := wi_true f8
  unfold nodeB inB fieldsB tmB
  simp only [Bool.and_eq_true, Bool.or_eq_true, decide_eq_true_eq]
  refine ⟨⟨.inr ⟨⟨⟨⟨⟨⟨⟨⟨⟨f0, ?_⟩, f2⟩, f3⟩, f4⟩, ?_⟩, ?_⟩, ?_⟩, ?_⟩, hd⟩, ⟨g6.2, g7.2⟩, g8.2⟩, ht⟩
  · simp [wi, hl.1, hl.2]
  · unfold parB
    by_cases h2 : x.k = 2
    · rw [if_pos h2]; have := hp h2; simp [wi, this.1, this.2]
    · rw [if_neg h2]
      rcases hpar with h3 | h3
      · exact absurd h3 h2
      · simpa using h3
  · simp [wi]; omega
  · simp [wi]; omega
  · simp [wi]; omega
theorem entN_dir {x : Nd} {e : ByteArray × Nat × Nat} (h : e ∈ entN x) : x.k = 2 := by
  unfold entN at h
  by_cases h2 : x.k = 2
  · exact h2
  · rw [if_neg h2] at h; cases h
theorem entT_kind {zs : List Int} : ∀ {k : Nat} {es : List (ByteArray × Nat × Nat)}, entT zs k = some es → ∀ e ∈ es, (1 ≤ e.2.1 ∧ e.2.1 ≤ 1000) ∧ (1 ≤ e.2.2 ∧ e.2.2 ≤ 3)
  | 0, es, h, e, he => by cases h; simp at he
  | k + 1, fs, h, e, he => by
    obtain ⟨es, h1, h2⟩ := entT_some h
    rcases h2 with ⟨_, rfl⟩ | ⟨_, hr, _, rfl⟩
    · exact entT_kind h1 e he
    · rcases List.mem_append.1 he with he | he
      · exact entT_kind h1 e he
      · obtain rfl := List.mem_singleton.1 he
        unfold sRight at hr
        simp only [Bool.and_eq_true] at hr
        have h3 := wi_true hr.2.2.1.1
        have h4 := wi_true hr.2.2.1.2
        dsimp only
        omega
theorem entN_kind {x : Nd} {e : ByteArray × Nat × Nat} (h : e ∈ entN x) : (1 ≤ e.2.1 ∧ e.2.1 ≤ 1000) ∧ (1 ≤ e.2.2 ∧ e.2.2 ≤ 3) := by
  have hk := entN_dir h
  unfold entN at h
  rw [if_pos hk] at h
  cases he : entT x.d (x.d.length / 32) with
  | none => rw [he] at h; cases h
  | some es => rw [he] at h; exact entT_kind he e h
theorem prS_right {C : Int} {L : List Nd} (h : PrS C L) : RightS C L := by
  have hfr : ∀ i, i < L.length → (ndAt L i).k = 0 → freeN (ndAt L i) = true := fun i hi hk => node_free (h.node i hi) hk
  have hm : ∀ i, i < L.length → ∀ e ∈ entN (ndAt L i), _ := fun i hi e he => (mayE_iff L i e).1 (h.may i hi e he)
  refine ⟨h.clock, h.len, hfr 0 (by have := h.len; omega) h.zero, h.root, h.last, fun i h1 hi => ?_, h.tot, h.dirs, fun i hi e he => ?_, fun i hi e he h2 => ?_, h.snap, fun i h1 hi hk => ?_, fun i h1 hi hk => ?_, fun i h2 hi hk => h.names i hi hk (by omega), h.reach⟩
  · by_cases hk : (ndAt L i).k = 0
    · exact .inl (hfr i hi hk)
    · exact .inr (node_fields (h.node i hi) hk).1
  · have := hm i hi e he
    exact ⟨this.1, this.2.1, this.2.2.2.1⟩
  · have := hm i hi e he
    exact this.2.2.2.2 (by rw [this.2.2.2.1, h2]; rfl)
  · have h3 := h.links i hi (by omega)
    unfold lnkN at h3
    rw [if_pos hk] at h3
    exact ⟨h3, (node_fields (h.node i hi) (by omega)).2.2⟩
  · have h0 : (ndAt L i).k ≠ 0 := by omega
    have h3 := h.links i hi h0
    unfold lnkN at h3
    rw [if_neg (by omega)] at h3
    exact ⟨h3, (node_fields (h.node i hi) h0).2⟩
theorem right_prS {C : Int} {L : List Nd} (h : RightS C L) : PrS C L := by
  have hz : (ndAt L 0).k = 0 := free_kind h.zero
  have hpos : ∀ i, (ndAt L i).k ≠ 0 → 1 ≤ i := fun i hi => by
    rcases Nat.eq_zero_or_pos i with h0 | h0
    · subst h0; exact absurd hz hi
    · exact h0
  have hkd : ∀ i, i < L.length → (ndAt L i).k ≠ 0 → plainN (ndAt L i) C = true := fun i hi hk => by
    rcases h.node i (hpos i hk) hi with h1 | h1
    · exact absurd (free_kind h1) hk
    · exact h1
  have hlink : ∀ i, i < L.length → (ndAt L i).k ≠ 0 → (ndAt L i).l = lnkN L i ∧ 1 ≤ (ndAt L i).l ∧ (ndAt L i).l ≤ 1000 := fun i hi hk => by
    have hb := plain_kind (hkd i hi hk)
    unfold lnkN
    by_cases h2 : (ndAt L i).k = 2
    · rw [if_pos h2]
      have := h.ldir i (hpos i hk) hi h2
      exact ⟨this.1, by omega, this.2⟩
    · rw [if_neg h2]
      have := h.lfile i (hpos i hk) hi (by omega)
      exact this
  have hpar : ∀ i, i < L.length → (ndAt L i).k = 2 → 1 ≤ (ndAt L i).p ∧ (ndAt L i).p ≤ 1000 := fun i hi hk => by
    have h1 := hpos i (by omega)
    rcases Nat.lt_or_ge 1 i with h2 | h2
    · have ho := h.one i h2 hi hk
      unfold namesE at ho
      obtain ⟨e, he, hp⟩ := countP_pos_mem (l := (List.range L.length).flatMap (numE L)) (p := fun e => e.1 == i) (by omega)
      obtain ⟨j, hj, hej⟩ := List.mem_flatMap.1 he
      have hj := List.mem_range.1 hj
      unfold numE at hej
      obtain ⟨x, hx, rfl⟩ := List.mem_map.1 hej
      have hxi : x.2.1 = i := by simpa using hp
      have hkx := (h.ents j hj x hx).2.2
      rw [hxi, hk] at hkx
      have := h.par j hj x hx (by omega)
      rw [hxi] at this
      have hj0 := hpos j (by rw [entN_dir hx]; omega)
      have := h.len
      omega
    · have : i = 1 := by omega
      subst this
      have := h.root.2
      omega
  refine ⟨h.clock, h.len, fun i hi => ?_, h.tot, h.dirs, hz, h.last, h.root, h.snap, fun i hi e he => ?_, fun i hi hk => (hlink i hi hk).1, fun i hi hk h1 => ?_, h.reach⟩
  · by_cases hk : (ndAt L i).k = 0
    · refine nodeB_free ?_ (by have := h.clock; omega)
      rcases Nat.eq_zero_or_pos i with h0 | h0
      · subst h0; exact h.zero
      · rcases h.node i h0 hi with h1 | h1
        · exact h1
        · have := plain_kind h1; omega
    · exact nodeB_plain (hkd i hi hk) h.clock.2 (hlink i hi hk).2 (hpar i hi)
  · have he1 := h.ents i hi e he
    rw [mayE_iff]
    have hdi := entN_dir he
    refine ⟨he1.1, he1.2.1, ?_, he1.2.2, fun h2 => h.par i hi e he (by omega)⟩
    intro h0
    have := entN_kind he
    omega
  · exact h.one i (by have := hpos i (by omega); omega) hi hk
theorem prS_iff (C : Int) (L : List Nd) : PrS C L ↔ RightS C L := ⟨prS_right, right_prS⟩
end Go.Proofs.YtplieplmhdfndaaGreatDoor
