/- A directory as a list of slots (mathematics): what its bytes are read as, when it is right, what addition and removal make of it. A directory as a list of slots: addition, removal, a name looked up (mathematics). What the law on directories keeps from round to round; its draws, copies and names. The model draws a name. What the law on directories meets: codes and bytes in terms of slots (mathematics). -/
import Derived.Test.YtcciaojdceejcaaDoorListN
import Derived.Test.YtcciaojdceejcaaDoorJdL
import Derived.Test.YtcciaojdceejcaaDoorDrawD
import Derived.Test.YtcciaojdceejcaaDoorListL
namespace Go.Proofs.YtcciaojdceejcaaDoor
set_option linter.unusedVariables false
set_option linter.unusedSimpArgs false
open Go.RowKit

theorem unle_le : ∀ (m n : Nat), n < 256 ^ m → unle (le m n) = n
  | 0, n, h => by
    have : n = 0 := by simpa using h
    subst this
    rfl
  | m + 1, n, h => by
    have ih := unle_le m (n / 256) (by rw [Nat.pow_succ] at h; omega)
    show (((n % 256 : Nat) : Int)).toNat + 256 * unle (le m (n / 256)) = n
    rw [ih]
    omega
section
variable {nm : ByteArray} {ino kd : Nat}
theorem sB_take4 : (slotB nm ino kd).take 4 = le 4 ino := by
  unfold slotB
  rw [List.take_left' (le_len 4 ino)]
theorem sB_drop4 : (slotB nm ino kd).drop 4 = le 1 kd ++ (le 1 nm.size ++ (strInts nm ++ List.replicate (26 - nm.size) 0)) := by
  unfold slotB
  rw [List.drop_left' (le_len 4 ino)]
theorem sB_drop5 : (slotB nm ino kd).drop 5 = le 1 nm.size ++ (strInts nm ++ List.replicate (26 - nm.size) 0) := by
  rw [show 5 = 4 + 1 from rfl, ← List.drop_drop, sB_drop4, List.drop_left' (le_len 1 kd)]
theorem sB_drop6 : (slotB nm ino kd).drop 6 = strInts nm ++ List.replicate (26 - nm.size) 0 := by
  rw [show 6 = 5 + 1 from rfl, ← List.drop_drop, sB_drop5, List.drop_left' (le_len 1 nm.size)]
theorem sB_ino (h : ino < 4294967296) : sIno (slotB nm ino kd) = ino := by
  unfold sIno
  rw [sB_take4, unle_le 4 ino (by simpa using h)]
theorem sB_kind (h : kd < 256) : sKind (slotB nm ino kd) = kd := by
  unfold sKind
  rw [sB_drop4, List.take_left' (le_len 1 kd), unle_le 1 kd (by simpa using h)]
theorem sB_lenN (h : nm.size ≤ 26) : sLen (slotB nm ino kd) = nm.size := by
  unfold sLen
  rw [sB_drop5, List.take_left' (le_len 1 nm.size), unle_le 1 nm.size (by simp; omega)]
theorem sB_name (h : nm.size ≤ 26) : sName (slotB nm ino kd) = nm := by
  unfold sName
  rw [sB_lenN h, sB_drop6, List.take_left' (strInts_len nm), strOf_strInts]
theorem sB_rest (h : nm.size ≤ 26) : sRest (slotB nm ino kd) = true := by
  unfold sRest
  rw [sB_lenN h, ← List.drop_drop, sB_drop6, List.drop_left' (strInts_len nm), List.all_eq_true]
  intro z hz
  exact decide_eq_true (List.eq_of_mem_replicate hz)
end
/-- A right entry; a slot. -/
def RightE (e : EI) : Prop := Chk.chkS e.1 = 0 ∧ (1 ≤ e.2.1 ∧ e.2.1 ≤ 1000) ∧ 1 ≤ e.2.2 ∧ e.2.2 ≤ 3
def zeroI : EI := (⟨#[]⟩, 0, 0)
def SlotOk (e : EI) : Prop := e = zeroI ∨ RightE e
theorem zE_zeroI : zE zeroI = true := (entEq_iff _ _ _).2 ⟨by simp [zeroI, ByteArray.toList_empty], rfl, rfl⟩
theorem RightE.ok {e : EI} (h : RightE e) : okE e := ⟨(chk_sizeA h.1).1, by have := h.2.1.1; omega, by have := h.2.1.2; omega, by have := h.2.2.1; omega, by have := h.2.2.2; omega⟩
theorem RightE.zE {e : EI} (h : RightE e) : zE e = false := by
  cases hz : Go.Proofs.YtcciaojdceejcaaDoor.zE e with
  | false => rfl
  | true =>
    have := ((entEq_iff _ _ _).1 hz).2.1
    have := h.2.1.1
    omega
theorem SlotOk.ok {e : EI} (h : SlotOk e) : okE e := by
  rcases h with rfl | h
  · exact good_zero.1
  · exact h.ok
theorem SlotOk.right {e : EI} (h : SlotOk e) (hz : zE e = false) : RightE e := by
  rcases h with rfl | h
  · rw [zE_zeroI] at hz; cases hz
  · exact h
theorem SlotOk.zero {e : EI} (h : SlotOk e) (hz : zE e = true) : e = zeroI := by
  rcases h with rfl | h
  · rfl
  · rw [h.zE] at hz; cases hz
theorem slotK_bytes {M : List EI} (h : ∀ e ∈ M, okE e) {k : Nat} (hk : k < M.length) : slotK (bytesE M) k = entB M[k] := by
  unfold slotK
  rw [← (bytesE_cut h k (by omega)).2, List.drop_eq_getElem_cons hk]
  show (entB M[k] ++ bytesE (M.drop (k + 1))).take 32 = _
  exact List.take_left' (slotB_len _ _ _ (h _ (List.getElem_mem hk)).1)
theorem slot_right {e : EI} (h : RightE e) : sRight (entB e) = true ∧ sName (entB e) = e.1 ∧ ((sIno (entB e) : Nat) : Int) = e.2.1 ∧ ((sKind (entB e) : Nat) : Int) = e.2.2 := by
  have hs := (chk_sizeA h.1).1
  obtain ⟨h1, ⟨h2, h3⟩, h4, h5⟩ := h
  have a1 : sName (entB e) = e.1 := sB_name hs
  have a2 : sIno (entB e) = e.2.1.toNat := sB_ino (by omega)
  have a3 : sKind (entB e) = e.2.2.toNat := sB_kind (by omega)
  have a4 : sLen (entB e) = e.1.size := sB_lenN hs
  have a5 : sRest (entB e) = true := sB_rest hs
  refine ⟨?_, a1, by rw [a2]; omega, by rw [a3]; omega⟩
  unfold sRight
  rw [a1, a2, a3, a4, a5, h1]
  simp [wi]
  omega
theorem slot_zero : sZero (entB zeroI) = true := by
  show sZero (slotB ⟨#[]⟩ 0 0) = true
  rw [slotB_zero]
  decide
theorem slotE_bytes {M : List EI} (h : ∀ e ∈ M, SlotOk e) {k : Nat} (hk : k < M.length) : slotE (bytesE M) k = M[k] ∧ sZero (slotK (bytesE M) k) = zE M[k] ∧ sRight (slotK (bytesE M) k) = !zE M[k] := by
  have hm := h _ (List.getElem_mem hk)
  have e := slotK_bytes (fun e he => (h e he).ok) hk
  unfold slotE
  rw [e]
  rcases hm with hz | hr
  · rw [hz, slot_zero, zE_zeroI, if_pos rfl]
    exact ⟨rfl, rfl, sZero_not_right (sZero_parts slot_zero).1⟩
  · obtain ⟨h1, h2, h3, h4⟩ := slot_right hr
    rw [right_notZero h1, hr.zE, if_neg (by decide), h1, h2, h3, h4]
    exact ⟨rfl, rfl, rfl⟩
theorem slotsL_bytes {M : List EI} (h : ∀ e ∈ M, SlotOk e) : slotsL (bytesE M) M.length = M := by
  unfold slotsL
  apply List.ext_getElem (by simp)
  intro i h1 h2
  rw [List.getElem_map, List.getElem_range, (slotE_bytes h h2).1]
/-- The entries among the slots. -/
def entsOf (M : List EI) : List EI := M.filter fun e => !zE e
def namesD (L : List EI) : Prop := L.Pairwise fun a b => a.1.data.toList ≠ b.1.data.toList
theorem entT_bytes {M : List EI} (h : ∀ e ∈ M, SlotOk e) (hn : namesD (entsOf M)) : ∀ n, n ≤ M.length → ∃ es, entT (bytesE M) n = some es ∧ es.map toI = entsOf (M.take n)
  | 0, _ => ⟨[], rfl, by simp [entsOf]⟩
  | n + 1, hle => by
    obtain ⟨es, h1, h2⟩ := entT_bytes h hn n (by omega)
    have hk : n < M.length := by omega
    obtain ⟨e1, e2, e3⟩ := slotE_bytes h hk
    have ht : M.take (n + 1) = M.take n ++ [M[n]] := by rw [List.take_add_one, List.getElem?_eq_getElem hk]; rfl
    cases hz : zE M[n] with
    | true =>
      refine ⟨es, entT_zero h1 (by rw [e2, hz]), ?_⟩
      rw [h2, ht]
      unfold entsOf
      rw [List.filter_append]
      simp [hz]
    | false =>
      have hr := (h _ (List.getElem_mem hk)).right hz
      obtain ⟨r1, r2, r3, r4⟩ := slot_right hr
      have hkb := slotK_bytes (fun e he => (h e he).ok) hk
      have hno : (es.any fun e => e.1.toList == (sName (slotK (bytesE M) n)).toList) = false := by
        rw [List.any_eq_false]
        intro c hc hq
        have hc2 : toI c ∈ entsOf (M.take n) := by rw [← h2]; exact List.mem_map_of_mem hc
        have hsp : entsOf M = entsOf (M.take n) ++ (M[n] :: entsOf (M.drop (n + 1))) := by
          unfold entsOf
          conv => lhs; rw [← List.take_append_drop n M]
          rw [List.filter_append, List.drop_eq_getElem_cons hk, List.filter_cons_of_pos (by rw [hz]; rfl)]
        unfold namesD at hn
        rw [hsp, List.pairwise_append] at hn
        have := hn.2.2 _ hc2 _ (List.mem_cons_self ..)
        apply this
        rw [hkb, r2, ByteArray.toList_eq, ByteArray.toList_eq] at hq
        exact beq_iff_eq.1 hq
      refine ⟨es ++ [(sName (slotK (bytesE M) n), sIno (slotK (bytesE M) n), sKind (slotK (bytesE M) n))], ?_, ?_⟩
      · rw [entT, h1]
        show (if _ then _ else if _ then _ else _) = _
        rw [if_neg (by rw [e2, hz]; decide), if_pos (by rw [e3, hz, hno]; rfl)]
      · rw [List.map_append, h2, ht]
        unfold entsOf
        rw [List.filter_append]
        congr 1
        rw [List.filter_cons_of_pos (by rw [hz]; rfl)]
        show [toI (sName (slotK (bytesE M) n), sIno (slotK (bytesE M) n), sKind (slotK (bytesE M) n))] = [M[n]]
        rw [hkb]
        unfold toI
        rw [r2, r3, r4]
/-- A right directory, as slots. -/
structure DirM (M : List EI) : Prop where
  ok : ∀ e ∈ M, SlotOk e
  nam : namesD (entsOf M)
  len : M.length % 16 = 0 ∧ M.length ≤ 8192
  last : ¬ (16 ≤ M.length ∧ (M.drop (M.length - 16)).all zE = true)
theorem DirM.bytes_len {M : List EI} (h : DirM M) : (bytesE M).length = M.length * 32 := bytesE_len _ (fun e he => (h.ok e he).ok)
theorem DirM.entT {M : List EI} (h : DirM M) : ∃ es, Go.Proofs.YtcciaojdceejcaaDoor.entT (bytesE M) ((bytesE M).length / 32) = some es ∧ es.map toI = entsOf M := by
  have hl := h.bytes_len
  rw [show (bytesE M).length / 32 = M.length by omega]
  obtain ⟨es, h1, h2⟩ := entT_bytes h.ok h.nam M.length (Nat.le_refl _)
  rw [List.take_length] at h2
  exact ⟨es, h1, h2⟩
theorem DirM.dirOk {M : List EI} (h : DirM M) : Go.Proofs.YtcciaojdceejcaaDoor.dirOk (bytesE M) = true := by
  have hl := h.bytes_len
  have hle := h.len
  obtain ⟨es, h1, h2⟩ := h.entT
  rw [dirOk_eq (by omega) (by omega), h1, show (bytesE M).length / 32 = M.length by omega, slotsL_bytes h.ok]
  have hlast := h.last
  cases hz : (M.drop (M.length - 16)).all zE with
  | false => simp [hz]
  | true =>
    have : ¬ 16 ≤ M.length := fun h16 => hlast ⟨h16, hz⟩
    simp [this]
end Go.Proofs.YtcciaojdceejcaaDoor

namespace Go.Proofs.YtcciaojdceejcaaDoor
set_option linter.unusedVariables false
set_option linter.unusedSimpArgs false
open Go.RowKit

theorem namesD_perm {A B : List EI} (h : A.Perm B) (hA : namesD A) : namesD B := h.pairwise hA (fun hab => hab.symm)
theorem entsOf_append (A B : List EI) : entsOf (A ++ B) = entsOf A ++ entsOf B := List.filter_append ..
theorem entsOf_pos {e : EI} (h : zE e = false) (A : List EI) : entsOf (e :: A) = e :: entsOf A := List.filter_cons_of_pos (by rw [h]; rfl)
theorem entsOf_zero {e : EI} (h : zE e = true) (A : List EI) : entsOf (e :: A) = entsOf A := List.filter_cons_of_neg (by rw [h]; decide)
theorem mem_entsOf {M : List EI} {x : EI} : x ∈ entsOf M ↔ x ∈ M ∧ zE x = false := by
  unfold entsOf
  rw [List.mem_filter]
  simp
theorem split_at {M : List EI} {k : Nat} (hk : k < M.length) : M = M.take k ++ M[k] :: M.drop (k + 1) := by
  conv => lhs; rw [← List.take_append_drop k M]
  rw [List.drop_eq_getElem_cons hk]
theorem set_at {M : List EI} {k : Nat} (hk : k < M.length) (e : EI) : M.set k e = M.take k ++ e :: M.drop (k + 1) := by
  rw [List.set_eq_take_append_cons_drop, if_pos hk]
theorem entsOf_setPos {M : List EI} {k : Nat} (hk : k < M.length) (hz : zE M[k] = true) {e : EI} (he : zE e = false) : (entsOf (M.set k e)).Perm (e :: entsOf M) := by
  have h1 : entsOf M = entsOf (M.take k) ++ entsOf (M.drop (k + 1)) := by
    conv => lhs; rw [split_at hk]
    rw [entsOf_append, entsOf_zero hz]
  rw [set_at hk, entsOf_append, entsOf_pos he, h1]
  exact List.perm_middle
theorem entsOf_setZero {M : List EI} {k : Nat} (hk : k < M.length) (hz : zE M[k] = false) : (M[k] :: entsOf (M.set k zeroI)).Perm (entsOf M) := by
  have h1 : entsOf M = entsOf (M.take k) ++ M[k] :: entsOf (M.drop (k + 1)) := by
    conv => lhs; rw [split_at hk]
    rw [entsOf_append, entsOf_pos hz]
  rw [set_at hk, entsOf_append, entsOf_zero zE_zeroI, h1]
  exact List.perm_middle.symm
theorem set_ok {M : List EI} (h : ∀ e ∈ M, SlotOk e) {k : Nat} {e : EI} (he : SlotOk e) : ∀ x ∈ M.set k e, SlotOk x := by
  intro x hx
  rcases List.mem_or_eq_of_mem_set hx with h1 | h1
  · exact h x h1
  · rw [h1]; exact he
theorem set_last {M : List EI} {k : Nat} {e : EI} (hk : k < M.length) (he : zE e = false) (h : M.length - 16 ≤ k ∨ ¬ (16 ≤ M.length ∧ (M.drop (M.length - 16)).all zE = true)) : ¬ (16 ≤ (M.set k e).length ∧ ((M.set k e).drop ((M.set k e).length - 16)).all zE = true) := by
  rintro ⟨h1, h2⟩
  rw [List.length_set] at h1 h2
  by_cases hc : M.length - 16 ≤ k
  · have hm : e ∈ (M.set k e).drop (M.length - 16) := by
      rw [List.mem_drop_iff_getElem]
      refine ⟨k - (M.length - 16), by rw [List.length_set]; omega, ?_⟩
      have e1 : M.length - 16 + (k - (M.length - 16)) = k := by omega
      simp [e1]
    have := List.all_eq_true.1 h2 e hm
    rw [he] at this
    cases this
  · rw [List.drop_set_of_lt (by omega)] at h2
    rcases h with h | h
    · exact hc h
    · exact h ⟨h1, h2⟩
theorem zeroes_all : ∀ n, ∀ x ∈ zeroes n, x = zeroI
  | 0, x, h => by cases h
  | n + 1, x, h => by
    unfold zeroes at h
    rcases List.mem_cons.1 h with h1 | h1
    · exact h1
    · exact zeroes_all n x h1
theorem entsOf_zeroes (n : Nat) : entsOf (zeroes n) = [] := by
  unfold entsOf
  rw [List.filter_eq_nil_iff]
  intro x hx
  rw [zeroes_all n x hx, zE_zeroI]
  decide
theorem DirM.add {M : List EI} (h : DirM M) {e : EI} (he : RightE e) (hnew : ∀ x ∈ entsOf M, x.1.data.toList ≠ e.1.data.toList) (hroom : roomE M = true) : DirM (addE M e) ∧ (entsOf (addE M e)).Perm (e :: entsOf M) := by
  have hne : namesD (e :: entsOf M) := List.pairwise_cons.2 ⟨fun x hx => (hnew x hx).symm, h.nam⟩
  unfold roomE at hroom
  unfold addE
  cases hf : M.findIdx? zE with
  | some k =>
    obtain ⟨hk, hz, _⟩ := List.findIdx?_eq_some_iff_getElem.1 hf
    have hp := entsOf_setPos hk hz he.zE
    refine ⟨⟨set_ok h.ok (.inr he), namesD_perm hp.symm hne, by rw [List.length_set]; exact h.len, set_last hk he.zE (.inr h.last)⟩, hp⟩
  | none =>
    rw [hf] at hroom
    have hr : M.length * 32 < 262144 := by simpa using hroom
    have hl := h.len
    have hM1 : (M ++ zeroes 16).length = M.length + 16 := by rw [List.length_append, zeroes_len]
    have hk : M.length < (M ++ zeroes 16).length := by omega
    have hz : zE (M ++ zeroes 16)[M.length] = true := by
      rw [List.getElem_append_right (Nat.le_refl _), zeroes_all 16 _ (List.getElem_mem _)]
      exact zE_zeroI
    have hent : entsOf (M ++ zeroes 16) = entsOf M := by rw [entsOf_append, entsOf_zeroes, List.append_nil]
    have hp := entsOf_setPos hk hz he.zE
    rw [hent] at hp
    have hok : ∀ x ∈ M ++ zeroes 16, SlotOk x := fun x hx => by
      rcases List.mem_append.1 hx with h1 | h1
      · exact h.ok x h1
      · exact .inl (zeroes_all 16 x h1)
    exact ⟨⟨set_ok hok (.inr he), namesD_perm hp.symm hne, by rw [List.length_set]; omega, set_last hk he.zE (.inl (by omega))⟩, hp⟩
theorem trimE_ents : ∀ (n : Nat) (L : List EI), L.length = n → entsOf (trimE L) = entsOf L ∧ (L.length % 16 = 0 → (trimE L).length % 16 = 0) ∧ (trimE L).length ≤ L.length ∧ (∀ x ∈ trimE L, x ∈ L) ∧ ¬ (16 ≤ (trimE L).length ∧ ((trimE L).drop ((trimE L).length - 16)).all zE = true) := by
  intro n
  induction n using Nat.strongRecOn with
  | ind n ih =>
    intro L hL
    by_cases hc : 16 ≤ L.length ∧ (L.drop (L.length - 16)).all zE = true
    · have hlt : (L.take (L.length - 16)).length = L.length - 16 := by rw [List.length_take]; omega
      obtain ⟨h1, h2, h3, h4, h5⟩ := ih (L.take (L.length - 16)).length (by omega) _ rfl
      rw [trimE_step hc.1 hc.2]
      refine ⟨?_, fun h => h2 (by omega), by omega, fun x hx => List.mem_of_mem_take (h4 x hx), h5⟩
      rw [h1]
      conv => rhs; rw [← List.take_append_drop (L.length - 16) L]
      rw [entsOf_append]
      have : entsOf (L.drop (L.length - 16)) = [] := by
        unfold entsOf
        rw [List.filter_eq_nil_iff]
        intro x hx
        rw [List.all_eq_true.1 hc.2 x hx]
        decide
      rw [this, List.append_nil]
    · rw [trimE_stop hc]
      exact ⟨rfl, fun h => h, Nat.le_refl _, fun x hx => hx, hc⟩
theorem DirM.del {M : List EI} (h : DirM M) {k : Nat} (hk : k < M.length) (hz : zE M[k] = false) : DirM (trimE (M.set k zeroI)) ∧ (M[k] :: entsOf (trimE (M.set k zeroI))).Perm (entsOf M) := by
  obtain ⟨h1, h2, h3, h4, h5⟩ := trimE_ents _ (M.set k zeroI) rfl
  have hp := entsOf_setZero hk hz
  have hl := h.len
  rw [List.length_set] at h2 h3
  refine ⟨⟨fun x hx => set_ok h.ok (.inl rfl) x (h4 x hx), ?_, ⟨h2 hl.1, by omega⟩, h5⟩, by rw [h1]; exact hp⟩
  rw [h1]
  exact (List.pairwise_cons.1 (namesD_perm hp.symm h.nam)).2
/-- A name is looked up. -/
theorem DirM.find {M : List EI} (h : DirM M) (nm : ByteArray) :
    (firstK (bytesE M) nm ((bytesE M).length / 32) = none ∧ ∀ x ∈ entsOf M, x.1.data.toList ≠ nm.data.toList) ∨
    ∃ k, ∃ hk : k < M.length, firstK (bytesE M) nm ((bytesE M).length / 32) = some k ∧ zE M[k] = false ∧ M[k].1.data.toList = nm.data.toList ∧ slotE (bytesE M) k = M[k] := by
  obtain ⟨es, h1, h2⟩ := h.entT
  have hl := h.bytes_len
  have hn : (bytesE M).length / 32 = M.length := by omega
  have hmf := map_first Unit nm h1
  cases hf : firstK (bytesE M) nm ((bytesE M).length / 32) with
  | none =>
    left
    refine ⟨rfl, fun x hx e => ?_⟩
    rw [← h2] at hx
    have hh := ent_has Unit h1 hx
    rw [e, hmf.1, hf] at hh
    cases hh
  | some k =>
    right
    obtain ⟨hkn, hat⟩ := firstK_lt hf
    rw [hn] at hkn
    obtain ⟨e1, e2, e3⟩ := slotE_bytes h.ok hkn
    unfold atK at hat
    rw [Bool.and_eq_true, e3] at hat
    have hz : zE M[k] = false := by
      cases hq : zE M[k] with
      | false => rfl
      | true => rw [hq] at hat; exact absurd hat.1 (by decide)
    refine ⟨k, hkn, rfl, hz, ?_, e1⟩
    have hr := (slot_right ((h.ok _ (List.getElem_mem hkn)).right hz)).2.1
    have h3 := hat.2
    rw [slotK_bytes (fun e he => (h.ok e he).ok) hkn, hr, ByteArray.toList_eq, ByteArray.toList_eq] at h3
    exact beq_iff_eq.1 h3
theorem DirM.room {M : List EI} (h : DirM M) (hc : (entsOf M).length ≤ 1000) : roomE M = true := by
  unfold roomE
  cases hf : M.findIdx? zE with
  | some k => rfl
  | none =>
    have hall : entsOf M = M := by
      unfold entsOf
      rw [List.filter_eq_self]
      intro x hx
      have := List.findIdx?_eq_none_iff.1 hf x hx
      rw [this]
      rfl
    rw [hall] at hc
    simp
    omega
theorem DirM.none : DirM [] := ⟨fun _ h => (by cases h), List.Pairwise.nil, ⟨rfl, by decide⟩, (by simp)⟩
/-- Without an entry it has no bytes. -/
theorem DirM.empty {M : List EI} (h : DirM M) (he : entsOf M = []) : M = [] := by
  have hl := h.len
  by_cases h0 : M.length = 0
  · exact List.eq_nil_of_length_eq_zero h0
  · exfalso
    apply h.last
    refine ⟨by omega, List.all_eq_true.2 fun x hx => ?_⟩
    cases hz : zE x with
    | true => rfl
    | false =>
      have : x ∈ entsOf M := mem_entsOf.2 ⟨List.mem_of_mem_drop hx, hz⟩
      rw [he] at this
      cases this
end Go.Proofs.YtcciaojdceejcaaDoor

namespace Go.Proofs.YtcciaojdceejcaaDoor
set_option linter.unusedVariables false
set_option linter.unusedSimpArgs false
open Go.RowKit

theorem own_ne_src {W : World} {base : Nat} {e : TypeId} {size : Nat} {v : Value} {n : Nat} {xs : List Value} {b m : Nat} {cv : Value} (h : W.ownsRow base e size v n xs) (hs : Src W b cv m) (he : e ≠ 61) : v.ownBlock ≠ some b := by
  intro hq
  rcases h.2 with ⟨rfl, _⟩ | ⟨g, cap, cur, rfl, _, hg, _⟩
  · cases hq
  · obtain rfl : g = b := Option.some.inj hq
    obtain ⟨i, x, _, _, _, hB⟩ := hs
    unfold Blk at hB
    rw [hg] at hB
    injection hB with hB
    injection hB with _ h2
    exact he h2
theorem own_ne_own {W : World} {base base' : Nat} {e e' : TypeId} {size size' : Nat} {v v' : Value} {n n' : Nat} {xs xs' : List Value} (h : W.ownsRow base e size v n xs) (h' : W.ownsRow base' e' size' v' n' xs') (he : e ≠ e') : v.ownBlock = none ∨ v.ownBlock ≠ v'.ownBlock := by
  rcases h.2 with ⟨rfl, _⟩ | ⟨g, cap, cur, rfl, _, hg, _⟩
  · exact .inl rfl
  · right
    intro hq
    rcases h'.2 with ⟨rfl, _⟩ | ⟨g', cap', cur', rfl, _, hg', _⟩
    · cases hq
    · obtain rfl : g = g' := Option.some.inj hq
      rw [hg] at hg'
      injection hg' with hg'
      injection hg' with _ h2
      exact he h2
structure FD (w0 W : World) (b : Nat) (cv : Value) (cs : List Int) (vc vl : Value) (M L : List EI) : Prop where
  src : Src W b cv cs.length
  hb : w0.heap.size ≤ b
  con : W.ownsRow w0.heap.size 5 1 vc (bytesE M).length ((bytesE M).map (Value.int .u8))
  lst : W.ownsRow w0.heap.size 34 3 vl L.length (entsI L)
  dir : DirM M
  per : L.Perm (entsOf M)
  low : Below w0.heap.size w0 W
theorem FD.below {w0 W W' : World} {b : Nat} {cv : Value} {cs : List Int} {vc vl : Value} {M L : List EI} (h : FD w0 W b cv cs vc vl M L) (hb : Below W.heap.size W W') : FD w0 W' b cv cs vc vl M L :=
  ⟨h.src.below hb h.src.lt, h.hb, own_below h.con hb, own_below h.lst hb, h.dir, h.per, h.low.trans (hb.mono h.low.size)⟩
theorem FD.drawn {w0 W W' : World} {b : Nat} {cv : Value} {cs : List Int} {vc vl : Value} {M L : List EI} (h : FD w0 W b cv cs vc vl M L) (hd : Dw b W W') (hs : Src W' b cv cs.length) : FD w0 W' b cv cs vc vl M L :=
  ⟨hs, h.hb, h.con.kept hd.1 (.inr (own_ne_src h.con h.src (by decide))), h.lst.kept hd.1 (.inr (own_ne_src h.lst h.src (by decide))), h.dir, h.per, hd.under h.low h.hb⟩
theorem FD.N {w0 W : World} {b : Nat} {cv : Value} {cs : List Int} {vc vl : Value} {M L : List EI} (h : FD w0 W b cv cs vc vl M L) (hr : Rd .u8 w0 cv cs) (hbd : ∀ z ∈ cs, 0 ≤ z ∧ z < 256) (hn : cs.length ≤ 1048576) (k : Nat) (hk0 : 1 ≤ k) (hk : k ≤ 1000000) :
    Calls Tryd.prog 14 #[.pointer (some ⟨b, 0, none⟩), .int .i64 (k : Int)] W fun e w' => ∃ r : Nat, e = .returned (.int .i64 (r : Int)) ∧ r < k ∧ FD w0 w' b cv cs vc vl M L ∧ Dw b W w' := by
  have hlow := hr
  refine (N_any b k cv cs W h.src (hr.below h.low) hbd hn hk0 hk (fun h0 c hc => ?_)).mono ?_
  · obtain ⟨a, cap, rfl, _, hcell, _⟩ := hlow
    obtain ⟨b', off, ea, hlt, _⟩ := hcell (by intro e; rw [e] at h0; simp at h0)
    subst ea
    have : b' = c := Option.some.inj hc
    have := h.hb
    omega
  · rintro e w' ⟨r, rfl, hr2, hs, hd⟩
    exact ⟨r, rfl, hr2, h.drawn hd hs, hd⟩
theorem FD.One {w0 W : World} {b : Nat} {cv : Value} {cs : List Int} {vc vl : Value} {M L : List EI} (h : FD w0 W b cv cs vc vl M L) (hr : Rd .u8 w0 cv cs) (hbd : ∀ z ∈ cs, 0 ≤ z ∧ z < 256) (hn : cs.length ≤ 1048576) (k : Nat) (hk0 : 1 ≤ k) (hk : k ≤ 1000000) :
    Calls Tryd.prog 38 #[.pointer (some ⟨b, 0, none⟩), .int .i64 (k : Int)] W fun e w' => ∃ t : Bool, e = .returned (.bool t) ∧ FD w0 w' b cv cs vc vl M L ∧ Dw b W w' := by
  have hlow := hr
  refine (One_any b k cv cs W h.src (hr.below h.low) hbd hn hk0 hk (fun h0 c hc => ?_)).mono ?_
  · obtain ⟨a, cap, rfl, _, hcell, _⟩ := hlow
    obtain ⟨b', off, ea, hlt, _⟩ := hcell (by intro e; rw [e] at h0; simp at h0)
    subst ea
    have : b' = c := Option.some.inj hc
    have := h.hb
    omega
  · rintro e w' ⟨t, rfl, hs, hd⟩
    exact ⟨t, rfl, h.drawn hd hs, hd⟩
theorem size_any (v : Value) (zs : List Int) (most : Nat) (w : World) (h : Rd .u8 w v zs) (hn : zs.length ≤ 1048576) (hm : most ≤ 1000) (hm2 : 2 ≤ most) :
    Calls Tryd.prog 15 #[v, .int .i64 (most : Int)] w fun e w' => ∃ r : Nat, e = .returned (.int .i64 (r : Int)) ∧ 2 ≤ r ∧ r ≤ most ∧ w' = w := by
  obtain ⟨a, cap, rfl, _⟩ := h
  by_cases hb : (most : Int) < 2 + (zs.length : Int) / 2
  · go_enter Tryd.func15, Tryd.ntmps15
    go_wp2
    go_ret
    exact ⟨most, rfl, hm2, Nat.le_refl _, rfl⟩
  · go_enter Tryd.func15, Tryd.ntmps15
    go_wp2
    go_ret
    exact ⟨2 + zs.length / 2, by simp, by omega, by omega, rfl⟩
theorem cp_any (v : Value) (zs : List Int) (w : World) (h : Rd .u8 w v zs) (hn : zs.length ≤ 262144) :
    Calls Tryd.prog 18 #[v] w fun e w' => ∃ v', e = .returned v' ∧ w'.ownsRow w.heap.size 5 1 v' zs.length (zs.map (Value.int .u8)) ∧ Below w.heap.size w w' := by
  obtain ⟨i0, hi, hz0, hz1, hz2⟩ := info_parts infoU8
  have HO := hide (own_empty1 w 5)
  have HB := hide (show Below w.heap.size w (w.alloc (.cells #[] 5)) from (Below.refl _ _).alloc (Nat.le_refl _) _)
  have HR := hide (h.below HB.out)
  clear h
  go_enter Tryd.func18, Tryd.ntmps18
  go_wp2_with (first
    | (at_builtin; refine wpList_append_rd _ rfl (.tmp 3) (.tmp 4) 22 rfl w.heap.size 5 i0 Tryd.underlying22 hi hz0 hz1 hz2 w.heap.size 0 0 [] rfl HO.out _ zs rfl HR.out (by omega) (by simp) ?_; intro g c w1 o1 g1; rw [Nat.zero_add, List.nil_append] at o1; rw [Nat.zero_add]; have O1 := hide o1; have B1 := hide (HB.out.grown g1 HB.out.size (fun j hj => by cases hj; exact Nat.le_refl _)); clear o1 g1))
  go_ret
  exact ⟨_, rfl, O1.out, B1.out⟩
end Go.Proofs.YtcciaojdceejcaaDoor

namespace Go.Proofs.YtcciaojdceejcaaDoor
set_option linter.unusedVariables false
set_option linter.unusedSimpArgs false
open Go.RowKit

def nmsA : Array Value := #[.string ⟨#[]⟩, .string ⟨#[46]⟩, .string ⟨#[46, 46]⟩, .string ⟨#[97, 47, 98]⟩, .string ⟨#[120, 0, 121]⟩, .string ⟨#[97, 98, 99, 100, 101, 102, 103, 104, 105, 106, 107, 108, 109, 110, 111, 112, 113, 114, 115, 116, 117, 118, 119, 120, 121, 122]⟩, .string ⟨#[97, 98, 99, 100, 101, 102, 103, 104, 105, 106, 107, 108, 109, 110, 111, 112, 113, 114, 115, 116, 117, 118, 119, 120, 121, 122, 49]⟩, .string ⟨#[97, 32, 98]⟩]
def nmsB : Array Value := #[.string ⟨#[97]⟩, .string ⟨#[98]⟩, .string ⟨#[99]⟩, .string ⟨#[100]⟩, .string ⟨#[108, 105, 98]⟩, .string ⟨#[117, 115, 114]⟩, .string ⟨#[120, 49]⟩, .string ⟨#[120, 50]⟩, .string ⟨#[120, 51]⟩, .string ⟨#[255]⟩, .string ⟨#[46, 104, 105, 100]⟩, .string ⟨#[108, 111, 103]⟩]
theorem nmsA_at : ∀ r, r < 8 → ∃ nm : ByteArray, nmsA[r]? = some (.string nm) ∧ nm.size ≤ 100 := by
  intro r hr
  match r, hr with
  | 0, _ => exact ⟨_, rfl, by decide⟩
  | 1, _ => exact ⟨_, rfl, by decide⟩
  | 2, _ => exact ⟨_, rfl, by decide⟩
  | 3, _ => exact ⟨_, rfl, by decide⟩
  | 4, _ => exact ⟨_, rfl, by decide⟩
  | 5, _ => exact ⟨_, rfl, by decide⟩
  | 6, _ => exact ⟨_, rfl, by decide⟩
  | 7, _ => exact ⟨_, rfl, by decide⟩
theorem nmsB_at : ∀ r, r < 12 → ∃ nm : ByteArray, nmsB[r]? = some (.string nm) ∧ nm.size ≤ 100 := by
  intro r hr
  match r, hr with
  | 0, _ => exact ⟨_, rfl, by decide⟩
  | 1, _ => exact ⟨_, rfl, by decide⟩
  | 2, _ => exact ⟨_, rfl, by decide⟩
  | 3, _ => exact ⟨_, rfl, by decide⟩
  | 4, _ => exact ⟨_, rfl, by decide⟩
  | 5, _ => exact ⟨_, rfl, by decide⟩
  | 6, _ => exact ⟨_, rfl, by decide⟩
  | 7, _ => exact ⟨_, rfl, by decide⟩
  | 8, _ => exact ⟨_, rfl, by decide⟩
  | 9, _ => exact ⟨_, rfl, by decide⟩
  | 10, _ => exact ⟨_, rfl, by decide⟩
  | 11, _ => exact ⟨_, rfl, by decide⟩
set_option maxRecDepth 100000 in
set_option maxHeartbeats 1000000 in
theorem name_any {w0 W : World} {b : Nat} {cv : Value} {cs : List Int} {vc vl : Value} {M L : List EI} (h : FD w0 W b cv cs vc vl M L) (hr : Rd .u8 w0 cv cs) (hbd : ∀ z ∈ cs, 0 ≤ z ∧ z < 256) (hn : cs.length ≤ 1048576) :
    Calls Tryd.prog 16 #[.pointer (some ⟨b, 0, none⟩)] W fun e w' => ∃ nm : ByteArray, e = .returned (.string nm) ∧ nm.size ≤ 100 ∧ FD w0 w' b cv cs vc vl M L := by
  have HH := hide (And.intro hr hbd)
  have HF := hide h
  clear h hr hbd
  go_enter Tryd.func16, Tryd.ntmps16
  go_wp2_with (go_at_call 38; fail)
  refine (HF.out.One HH.out.1 HH.out.2 hn 40 (by omega) (by omega)).mono ?_
  rintro e w1 ⟨t, rfl, f1, d1⟩
  have F1 := hide f1
  have hb1 := f1.src.lt
  clear f1 d1 HF
  cases t with
  | true =>
    have F2 := hide (F1.out.below (show Below w1.heap.size w1 (w1.alloc (.cells nmsA 9)) from (Below.refl _ _).alloc (Nat.le_refl _) _))
    have K2 := hide (Blk.new w1 nmsA 9)
    go_wp2_with (go_at_call 14; fail)
    refine (F2.out.N HH.out.1 HH.out.2 hn 8 (by omega) (by omega)).mono ?_
    rintro e w3 ⟨r, rfl, hr8, f3, d3⟩
    obtain ⟨nm, hnm, hsz⟩ := nmsA_at r hr8
    have F3 := hide f3
    have cN : w3.cell? ⟨w1.heap.size, r, none⟩ = some (.string nm) := ((show Blk w3 w1.heap.size nmsA 9 from (d3.1.block _ (by simp) (fun e => by have := Option.some.inj e; omega)).trans K2.out).cell r).trans hnm
    have hrI : (r : Int) < 8 := by omega
    clear f3 d3 hnm
    go_wp2
    go_ret
    exact ⟨nm, rfl, hsz, F3.out⟩
  | false =>
    have F2 := hide (F1.out.below (show Below w1.heap.size w1 (w1.alloc (.cells nmsB 9)) from (Below.refl _ _).alloc (Nat.le_refl _) _))
    have K2 := hide (Blk.new w1 nmsB 9)
    go_wp2_with (go_at_call 14; fail)
    refine (F2.out.N HH.out.1 HH.out.2 hn 12 (by omega) (by omega)).mono ?_
    rintro e w3 ⟨r, rfl, hr8, f3, d3⟩
    obtain ⟨nm, hnm, hsz⟩ := nmsB_at r hr8
    have F3 := hide f3
    have cN : w3.cell? ⟨w1.heap.size, r, none⟩ = some (.string nm) := ((show Blk w3 w1.heap.size nmsB 9 from (d3.1.block _ (by simp) (fun e => by have := Option.some.inj e; omega)).trans K2.out).cell r).trans hnm
    have hrI : (r : Int) < 12 := by omega
    clear f3 d3 hnm
    go_wp2
    go_ret
    exact ⟨nm, rfl, hsz, F3.out⟩
end Go.Proofs.YtcciaojdceejcaaDoor

namespace Go.Proofs.YtcciaojdceejcaaDoor
set_option linter.unusedVariables false
set_option linter.unusedSimpArgs false
open Go.RowKit

theorem le_bdF : ∀ (m n : Nat), ∀ z ∈ le m n, 0 ≤ z ∧ z < 256
  | 0, n, z, h => by cases h
  | m + 1, n, z, h => by
    rcases List.mem_cons.1 h with h | h
    · subst h; omega
    · exact le_bdF m _ z h
theorem strInts_bdF (nm : ByteArray) : ∀ z ∈ strInts nm, 0 ≤ z ∧ z < 256 := by
  intro z hz
  unfold strInts at hz
  obtain ⟨u, _, rfl⟩ := List.mem_map.1 hz
  have := u.toNat_lt
  omega
theorem slotB_bdF (nm : ByteArray) (ino kd : Nat) : ∀ z ∈ slotB nm ino kd, 0 ≤ z ∧ z < 256 := by
  intro z hz
  unfold slotB at hz
  simp only [List.mem_append] at hz
  rcases hz with h | h | h | h | h
  · exact le_bdF _ _ z h
  · exact le_bdF _ _ z h
  · exact le_bdF _ _ z h
  · exact strInts_bdF _ z h
  · have := List.eq_of_mem_replicate h
    omega
theorem bytesE_bdF (M : List EI) : ∀ z ∈ bytesE M, 0 ≤ z ∧ z < 256 := by
  intro z hz
  unfold bytesE at hz
  obtain ⟨l, hl, hz⟩ := List.mem_flatten.1 hz
  obtain ⟨e, _, rfl⟩ := List.mem_map.1 hl
  exact slotB_bdF _ _ _ z hz
theorem DirM.slots {M : List EI} (h : DirM M) : slotsL (bytesE M) ((bytesE M).length / 32) = M := by
  have hl := h.bytes_len
  rw [show (bytesE M).length / 32 = M.length by omega]
  exact slotsL_bytes h.ok
theorem DirM.small {M : List EI} (h : DirM M) : (bytesE M).length ≤ 262144 := by have := h.bytes_len; have := h.len.2; omega
theorem DirM.code {M : List EI} (h : DirM M) : codeDC (bytesE M) = 0 := by simp [codeDC, h.dirOk]
/-- The search in the plain list. -/
def AtR (L : List EI) (nm : ByteArray) (j : Nat) (v : Value) : Prop :=
  (v = .int .i64 (-1) ∧ ∀ t x, t < j → L[t]? = some x → x.1.data.toList ≠ nm.data.toList) ∨ ∃ t x, t < j ∧ L[t]? = some x ∧ x.1.data.toList = nm.data.toList ∧ v = .int .i64 (t : Int)
theorem AtR.start (L : List EI) (nm : ByteArray) : AtR L nm 0 (.int .i64 (-1)) := .inl ⟨rfl, fun t x h => absurd h (by omega)⟩
theorem AtR.keep {L : List EI} {nm : ByteArray} {j : Nat} {v : Value} (h : AtR L nm j v) {x : EI} (hx : L[j]? = some x) (hne : x.1.data.toList ≠ nm.data.toList) : AtR L nm (j + 1) v := by
  rcases h with ⟨h1, h2⟩ | ⟨t, y, h1, h2, h3, h4⟩
  · refine .inl ⟨h1, fun t y ht hy => ?_⟩
    rcases Nat.lt_or_ge t j with h3 | h3
    · exact h2 t y h3 hy
    · obtain rfl : t = j := by omega
      rw [hx] at hy
      obtain rfl := Option.some.inj hy
      exact hne
  · exact .inr ⟨t, y, by omega, h2, h3, h4⟩
theorem AtR.hit {L : List EI} {nm : ByteArray} {j : Nat} {x : EI} (hx : L[j]? = some x) (he : x.1.data.toList = nm.data.toList) : AtR L nm (j + 1) (.int .i64 (j : Int)) := .inr ⟨j, x, by omega, hx, he, rfl⟩
/-- The list and the directory agree on a name. -/
theorem find_both {M L : List EI} (h : DirM M) (hp : L.Perm (entsOf M)) {nm : ByteArray} {v : Value} (ha : AtR L nm L.length v) :
    (v = .int .i64 (-1) ∧ firstK (bytesE M) nm ((bytesE M).length / 32) = none ∧ ∀ x ∈ entsOf M, x.1.data.toList ≠ nm.data.toList) ∨
    ∃ t k x, t < L.length ∧ v = .int .i64 (t : Int) ∧ L[t]? = some x ∧ firstK (bytesE M) nm ((bytesE M).length / 32) = some k ∧ k < M.length ∧ M[k]? = some x ∧ zE x = false ∧ slotE (bytesE M) k = x ∧ x.1.data.toList = nm.data.toList := by
  rcases h.find nm with ⟨h1, h2⟩ | ⟨k, hk, h1, h2, h3, h4⟩
  · left
    rcases ha with ⟨h5, _⟩ | ⟨t, x, ht, hx, he, _⟩
    · exact ⟨h5, h1, h2⟩
    · exact absurd he (h2 x (hp.mem_iff.1 (List.mem_of_getElem? hx)))
  · right
    have hmem : M[k] ∈ entsOf M := mem_entsOf.2 ⟨List.getElem_mem hk, h2⟩
    rcases ha with ⟨_, h5⟩ | ⟨t, x, ht, hx, he, hv⟩
    · obtain ⟨t, ht, e⟩ := List.mem_iff_getElem.1 (hp.mem_iff.2 hmem)
      exact absurd h3 (h5 t M[k] ht (by rw [List.getElem?_eq_getElem ht, e]))
    · have hxm : x ∈ entsOf M := hp.mem_iff.1 (List.mem_of_getElem? hx)
      have e : x = M[k] := names_one h.nam hxm hmem (he.trans h3.symm)
      subst e
      exact ⟨t, k, M[k], ht, hv, hx, h1, hk, List.getElem?_eq_getElem hk, h2, h4, h3⟩
theorem wi_pos {i : Nat} (h : i < 500) : wi (1 + (i : Int)) 1 1000 = true := by unfold wi; simp; omega
theorem wi_pos3 {i : Nat} (h : i < 3) : wi (1 + (i : Int)) 1 3 = true := by unfold wi; simp; omega
theorem da_chk {M : List EI} (h : DirM M) {nm : ByteArray} {ino kd : Int} (hc : Chk.chkS nm ≠ 0) : daC (bytesE M) nm ino kd = Chk.chkS nm := by
  unfold daC
  rw [if_neg (by rw [h.dirOk]; decide), if_pos hc]
theorem da_exist {M : List EI} (h : DirM M) {nm : ByteArray} {ino kd : Int} (hc : Chk.chkS nm = 0) (hw : (wi ino 1 1000 && wi kd 1 3) = true) {k : Nat} (hf : firstK (bytesE M) nm ((bytesE M).length / 32) = some k) : daC (bytesE M) nm ino kd = 4 := by
  unfold daC
  rw [if_neg (by rw [h.dirOk]; decide), if_neg (by rw [hc]; decide), if_neg (by rw [hw]; decide), if_pos (by rw [hf]; rfl)]
theorem da_ok {M : List EI} (h : DirM M) {nm : ByteArray} {ino kd : Int} (hc : Chk.chkS nm = 0) (hw : (wi ino 1 1000 && wi kd 1 3) = true) (hf : firstK (bytesE M) nm ((bytesE M).length / 32) = none) (hn : ∀ x ∈ entsOf M, x.1.data.toList ≠ nm.data.toList) (hl : (entsOf M).length ≤ 1000) :
    daC (bytesE M) nm ino kd = 0 ∧ daB (bytesE M) nm ino kd = bytesE (addE M (nm, ino, kd)) ∧ DirM (addE M (nm, ino, kd)) ∧ (entsOf (addE M (nm, ino, kd))).Perm ((nm, ino, kd) :: entsOf M) := by
  have hr := h.room hl
  have e0 : daC (bytesE M) nm ino kd = 0 := by
    unfold daC
    rw [if_neg (by rw [h.dirOk]; decide), if_neg (by rw [hc]; decide), if_neg (by rw [hw]; decide), if_neg (by rw [hf]; decide), h.slots, if_pos hr]
  have hb := wi_both hw
  refine ⟨e0, ?_, h.add ⟨hc, hb.1, hb.2.1, hb.2.2⟩ hn hr⟩
  unfold daB
  rw [if_pos e0, h.slots]
theorem dr_ok {M : List EI} (h : DirM M) {nm : ByteArray} {k : Nat} (hf : firstK (bytesE M) nm ((bytesE M).length / 32) = some k) {x : EI} (hk : M[k]? = some x) (hz : zE x = false) :
    dfC (bytesE M) nm = 0 ∧ drB (bytesE M) nm = bytesE (trimE (M.set k zeroI)) ∧ DirM (trimE (M.set k zeroI)) ∧ (x :: entsOf (trimE (M.set k zeroI))).Perm (entsOf M) := by
  obtain ⟨hkl, hke⟩ := List.getElem?_eq_some_iff.1 hk
  subst hke
  have hd := h.del hkl hz
  refine ⟨(df_some h.dirOk hf).2.2, ?_, hd.1, hd.2⟩
  have hl := h.bytes_len
  obtain ⟨es, h1, _⟩ := h.entT
  have h2 := removed_same (bytesE_bdF M) (n := M.length) (k := k) hl hkl (entT_ok (by rw [show (bytesE M).length / 32 = M.length by omega] at h1; exact h1))
  rw [drB_some h.dirOk hf, ← h2.2.2, slotsL_bytes h.ok]
  rfl
/-- The list without the t-th. -/
theorem cut_perm {L E : List EI} {t : Nat} {x : EI} (hx : L[t]? = some x) (hp : (x :: E).Perm L) : (L.take t ++ L.drop (t + 1)).Perm E := by
  obtain ⟨ht, e⟩ := List.getElem?_eq_some_iff.1 hx
  have h1 : L.Perm (x :: (L.take t ++ L.drop (t + 1))) := by
    conv => lhs; rw [split_at ht]
    rw [e]
    exact List.perm_middle
  exact (List.Perm.cons_inv (hp.trans h1)).symm
theorem ents_nil {M L : List EI} (h : DirM M) (hp : L.Perm (entsOf M)) (hl : L.length = 0) : (bytesE M).length = 0 := by
  have e : entsOf M = [] := by
    have := hp.length_eq
    exact List.eq_nil_of_length_eq_zero (by omega)
  rw [h.empty e]
  rfl
end Go.Proofs.YtcciaojdceejcaaDoor
