/- A right state, as the model asks: mathematics. -/
import Derived.Test.YtplieplmhdfndaaGreatDoorZg19
namespace Go.Proofs.YtplieplmhdfndaaGreatDoor
set_option linter.unusedVariables false
set_option linter.unusedSimpArgs false

theorem snap_name (e : ByteArray) : (e.toList == [46, 115, 110, 97, 112, 115, 104, 111, 116]) = true ↔ e = snapNm := by
  rw [beq_iff_eq, ByteArray.toList_eq]
  constructor
  · intro h
    obtain ⟨d⟩ := e
    unfold snapNm
    congr 1
    exact Array.ext' h
  · intro h
    rw [h]
    rfl
theorem tot_le : ∀ (L : List Nd), (∀ x ∈ L, x.d.length ≤ 262144) → totN L ≤ L.length * 262144
  | [], _ => by simp [totN]
  | x :: L, h => by
    have ih := tot_le L (fun y hy => h y (by simp [hy]))
    have hx := h x (by simp)
    unfold totN at ih ⊢
    simp only [List.map_cons, List.sum_cons, List.length_cons]
    omega
theorem plain_len {x : Nd} {C : Int} (h : freeN x = true ∨ plainN x C = true) : x.d.length ≤ 262144 := by
  rcases h with h | h
  · rw [(freeN_iff _).1 h]; simp [nd0]
  · unfold plainN at h
    simp only [Bool.and_eq_true, decide_eq_true_eq] at h
    exact h.1.1.2.2
theorem tn_names (L : List Nd) (i : Nat) : ∀ n, tnQ (allQ L n) i = (namesE n (numE L) i : Nat)
  | 0 => by simp [tnQ, allQ, namesE]
  | n + 1 => by
    have ih := tn_names L i n
    unfold tnQ at ih ⊢
    unfold namesE at ih ⊢
    rw [allQ_succ, List.range_succ, List.flatMap_append, List.countP_append, List.countP_append]
    have h1 : ((entN (ndAt L n)).map (fun e => (n, e))).countP (fun x => x.2.2.1 == i) = ([n].flatMap (numE L)).countP (fun x => x.1 == i) := by
      rw [List.flatMap_cons, List.flatMap_nil, List.append_nil]
      unfold numE
      rw [List.countP_map, List.countP_map]
      rfl
    omega
theorem td_dirs (L : List Nd) (k : Nat) : ∀ n, tdQ (allQ L n) k = if k < n then (dirsN L k : Int) else 0
  | 0 => by simp [tdQ, allQ]
  | n + 1 => by
    have ih := td_dirs L k n
    unfold tdQ at ih ⊢
    rw [allQ_succ, List.countP_append, Int.natCast_add, ih, List.countP_map]
    by_cases h : k = n
    · subst h
      rw [if_neg (Nat.lt_irrefl k), if_pos (Nat.lt_succ_self k)]
      have : (entN (ndAt L k)).countP ((fun x : Nat × (ByteArray × Nat × Nat) => x.1 == k && x.2.2.2 == 2) ∘ fun e => (k, e)) = dirsN L k := by
        unfold dirsN
        apply List.countP_congr
        intro e _
        simp
      rw [this]
      omega
    · have h0 : (entN (ndAt L n)).countP ((fun x : Nat × (ByteArray × Nat × Nat) => x.1 == k && x.2.2.2 == 2) ∘ fun e => (n, e)) = 0 := by
        rw [List.countP_eq_zero]
        intro e _
        simp
        intro h2
        exact absurd h2.symm h
      rw [h0]
      by_cases h1 : k < n
      · rw [if_pos h1, if_pos (by omega)]; omega
      · rw [if_neg h1, if_neg (by omega)]; omega
theorem one_same {α : Type} {p : α → Bool} {Q : List α} (h : Q.countP p = 1) {x y : α} (hx : x ∈ Q) (hpx : p x = true) (hy : y ∈ Q) (hpy : p y = true) : x = y := by
  rw [List.countP_eq_length_filter] at h
  obtain ⟨z, hz⟩ := List.length_eq_one_iff.1 h
  have h1 : x ∈ Q.filter p := List.mem_filter.2 ⟨hx, hpx⟩
  have h2 : y ∈ Q.filter p := List.mem_filter.2 ⟨hy, hpy⟩
  rw [hz] at h1 h2
  simp at h1 h2
  rw [h1, h2]
theorem tf_one {Q : QE} {i j : Nat} {e : ByteArray × Nat × Nat} (h : tnQ Q i = 1) (hm : (j, e) ∈ Q) (he : e.2.1 = i) : tfQ Q i = (j : Int) := by
  unfold tnQ at h
  have h1 : Q.countP (fun x => x.2.2.1 == i) = 1 := by omega
  unfold tfQ
  cases hf : Q.reverse.find? (fun x => x.2.2.1 == i) with
  | none =>
    have := List.find?_eq_none.1 hf (j, e) (List.mem_reverse.2 hm)
    simp [he] at this
  | some y =>
    have hy := List.mem_reverse.1 (List.mem_of_find?_eq_some hf)
    have hp := List.find?_some hf
    have : y = (j, e) := one_same h1 hy hp hm (by simp [he])
    subst this
    rfl
theorem mem_allQ {L : List Nd} {n j : Nat} {e : ByteArray × Nat × Nat} : (j, e) ∈ allQ L n ↔ j < n ∧ e ∈ entN (ndAt L j) := by
  unfold allQ
  simp only [List.mem_flatMap, List.mem_range, List.mem_map, Prod.mk.injEq]
  constructor
  · rintro ⟨k, hk, e', he', rfl, rfl⟩
    exact ⟨hk, he'⟩
  · rintro ⟨h1, h2⟩
    exact ⟨j, h1, e, h2, rfl, rfl⟩
/-- The links of node k, as the model counts them. -/
def LnkP (L : List Nd) (k : Nat) : Prop :=
  ((ndAt L k).k = 2 → (ndAt L k).l = 2 + tdQ (allQ L L.length) k ∧ (ndAt L k).l ≤ 1000 ∧ (1 < k → tnQ (allQ L L.length) k = 1 ∧ tfQ (allQ L L.length) k = (ndAt L k).p)) ∧
  ((ndAt L k).k = 1 ∨ (ndAt L k).k = 3 → (ndAt L k).l = tnQ (allQ L L.length) k ∧ 1 ≤ (ndAt L k).l ∧ (ndAt L k).l ≤ 1000)
theorem entTo_iff {L : List Nd} (hn : ∀ e : ByteArray, (e.toList == [46, 115, 110, 97, 112, 115, 104, 111, 116]) = true ↔ e = snapNm) (h1 : 1 < L.length ∧ (ndAt L 1).k = 2) : EntTo L L.length ↔ (∀ i, i < L.length → (ndAt L i).k = 2 → dirOk (ndAt L i).d = true) ∧ (∀ i, i < L.length → ∀ e ∈ entN (ndAt L i), e.2.1 ≠ 1 ∧ e.2.1 < L.length ∧ (ndAt L e.2.1).k = (e.2.2 : Int)) ∧ (∀ e ∈ entN (ndAt L 1), e.1 ≠ snapNm) := by
  have hempty : ∀ i, (ndAt L i).k ≠ 2 → entN (ndAt L i) = [] := fun i h => by unfold entN; rw [if_neg h]
  have hok : ∀ i e, entOkB L i e = true ↔ (e.2.1 < L.length ∧ e.2.1 ≠ 1 ∧ (ndAt L e.2.1).k = (e.2.2 : Int)) ∧ ¬ (i = 1 ∧ e.1 = snapNm) := fun i e => by
    unfold entOkB
    rw [Bool.and_eq_true, Bool.and_eq_true, Bool.and_eq_true, decide_eq_true_eq, decide_eq_true_eq, decide_eq_true_eq, Bool.not_eq_true', ← Bool.not_eq_true, Bool.and_eq_true, decide_eq_true_eq, hn]
    simp only [and_assoc]
  constructor
  · intro h
    refine ⟨fun i hi hk => (h i hi hk).1, fun i hi e he => ?_, fun e he => ?_⟩
    · by_cases hk : (ndAt L i).k = 2
      · have := (hok i e).1 ((h i hi hk).2 e he)
        exact ⟨this.1.2.1, this.1.1, this.1.2.2⟩
      · rw [hempty i hk] at he; cases he
    · have := (hok 1 e).1 ((h 1 h1.1 h1.2).2 e he)
      exact fun hs => this.2 ⟨rfl, hs⟩
  · rintro ⟨ha, hb, hc⟩ i hi hk
    refine ⟨ha i hi hk, fun e he => (hok i e).2 ⟨⟨(hb i hi e he).2.1, (hb i hi e he).1, (hb i hi e he).2.2⟩, ?_⟩⟩
    rintro ⟨rfl, hs⟩
    exact hc e he hs
/-- What the model asks, in its order, is a right state. -/
theorem right_iff {C : Int} {L : List Nd} (hn : ∀ e : ByteArray, (e.toList == [46, 115, 110, 97, 112, 115, 104, 111, 116]) = true ↔ e = snapNm) (h1 : 1 ≤ C ∧ C ≤ 1099511627776) (h2 : 2 ≤ L.length ∧ L.length ≤ 1001) (h3 : freeN (ndAt L 0) = true) (h4 : (ndAt L 1).k = 2 ∧ (ndAt L 1).p = 1) (h5 : (ndAt L (L.length - 1)).k ≠ 0)
    (h6 : ∀ i, 1 ≤ i → i < L.length → freeN (ndAt L i) = true ∨ plainN (ndAt L i) C = true) (h7 : totN L ≤ 1048576) :
    RightS C L ↔ EntTo L L.length ∧ (∀ k, 1 ≤ k → k < L.length → LnkP L k) ∧ (bfs (chE (numE L)) L.length [] [1]).length = ((List.range L.length).filter (kdN L · == 2)).length := by
  have hz : (ndAt L 0).k = 0 := by rw [(freeN_iff _).1 h3]; rfl
  rw [entTo_iff hn ⟨by omega, h4.1⟩]
  constructor
  · intro h
    refine ⟨⟨h.dirs, h.ents, h.snap⟩, fun k hk1 hk => ⟨fun hd => ?_, fun hf => ?_⟩, h.reach⟩
    · have hl := h.ldir k hk1 hk hd
      rw [td_dirs, if_pos hk]
      refine ⟨hl.1, hl.2, fun h1k => ?_⟩
      have ho := h.one k h1k hk hd
      have htn : tnQ (allQ L L.length) k = 1 := by rw [tn_names, ho]; rfl
      refine ⟨htn, ?_⟩
      unfold tnQ at htn
      obtain ⟨⟨j, e⟩, hm, hp⟩ := countP_pos_mem (l := allQ L L.length) (p := fun x => x.2.2.1 == k) (by omega)
      have he : e.2.1 = k := by simpa using hp
      obtain ⟨hj, hej⟩ := mem_allQ.1 hm
      rw [tf_one (by unfold tnQ; exact htn) hm he]
      have h8 := (h.ents j hj e hej).2.2
      rw [he, hd] at h8
      have h9 := h.par j hj e hej (by omega)
      rw [he] at h9
      exact h9.symm
    · have hl := h.lfile k hk1 hk hf
      rw [tn_names]
      exact hl
  · rintro ⟨⟨ha, hb, hc⟩, hl, hr⟩
    have hone : ∀ i, 2 ≤ i → i < L.length → (ndAt L i).k = 2 → namesE L.length (numE L) i = 1 := fun i hi hil hd => by
      have := ((hl i (by omega) hil).1 hd).2.2 (by omega)
      rw [tn_names] at this
      omega
    refine ⟨h1, h2, h3, h4, h5, h6, h7, ha, hb, fun i hi e he he2 => ?_, hc, fun i hi hil hd => ?_, fun i hi hil hf => ?_, hone, hr⟩
    · obtain ⟨hne, hlt, hkd⟩ := hb i hi e he
      rw [he2] at hkd
      have h0 : e.2.1 ≠ 0 := fun h0 => by rw [h0, hz] at hkd; cases hkd
      have := ((hl e.2.1 (by omega) hlt).1 hkd).2.2 (by omega)
      rw [← this.2]
      exact tf_one this.1 (mem_allQ.2 ⟨hi, he⟩) rfl
    · have := (hl i hi hil).1 hd
      rw [td_dirs, if_pos hil] at this
      exact ⟨this.1, this.2.1⟩
    · have := (hl i hi hil).2 hf
      rw [tn_names] at this
      exact this
end Go.Proofs.YtplieplmhdfndaaGreatDoor
