/- Every path of a right state (mathematics): what is told below a directory, that there is an end to it, and how much it is at most. The law on DirFind: its walk. -/
import Derived.Test.YtplieplmhdfndaaGreatDoorZg42
import Derived.Test.YtplieplmhdfndaaGreatDoorZg21
import Derived.Test.YtplieplmhdfndaaGreatDoorZg32
namespace Go.Proofs.YtplieplmhdfndaaGreatDoor
set_option linter.unusedVariables false
set_option linter.unusedSimpArgs false
open Go.RowKit

/-- A path, a slash, a name. -/
def slN (p nm : ByteArray) : ByteArray := p ++ ⟨#[47]⟩ ++ nm
/-- What is told below directory d, whose path is p. -/
def liF (L : List Nd) : Nat → Nat → ByteArray → List (ByteArray × Int)
  | 0, _, _ => []
  | f + 1, d, p => (dlL (ndAt L d).d).flatMap fun e => (slN p e.1, e.2.1) :: if e.2.2 = 2 then liF L f e.2.1.toNat (slN p e.1) else []
/-- There is an end to it. -/
def Dp (L : List Nd) : Nat → Nat → Prop
  | 0, _ => False
  | f + 1, d => 1 ≤ d ∧ d < L.length ∧ (ndAt L d).k = 2 ∧ ∀ e ∈ dlL (ndAt L d).d, e.2.2 = 2 → Dp L f e.2.1.toNat
/-- From a directory up to the root. -/
def Ch (L : List Nd) : List Nat → Prop
  | [] => False
  | [x] => x = 1
  | x :: y :: r => x ≠ 1 ∧ (ndAt L x).p = (y : Int) ∧ Ch L (y :: r)
theorem Ch.one {L : List Nd} : ∀ {P Q : List Nat}, Ch L P → Ch L Q → P.head? = Q.head? → P = Q
  | [], _, h, _, _ => h.elim
  | _ :: _, [], _, h, _ => h.elim
  | [x], [y], h1, h2, h3 => by cases h1; cases h2; rfl
  | [x], y :: z :: r, h1, h2, h3 => by
    have : x = y := by simpa using h3
    subst this
    exact absurd h1 h2.1
  | x :: z :: r, [y], h1, h2, h3 => by
    have : x = y := by simpa using h3
    subst this
    exact absurd h2 h1.1
  | x :: z :: r, y :: z' :: r', h1, h2, h3 => by
    have : x = y := by simpa using h3
    subst this
    have e : z = z' := by have := h1.2.1.symm.trans h2.2.1; omega
    subst e
    rw [Ch.one h1.2.2 h2.2.2 rfl]
/-- The parent of one on the way is the next on the way. -/
theorem Ch.next {L : List Nd} : ∀ {P : List Nat}, Ch L P → ∀ i x, P[i]? = some x → x ≠ 1 → ∃ y : Nat, P[i + 1]? = some y ∧ (ndAt L x).p = (y : Int)
  | [], h, _, _, _, _ => h.elim
  | [z], h, 0, x, hx, h1 => by
    have : z = x := by simpa using hx
    exact absurd (this.symm.trans h) h1
  | [z], h, i + 1, x, hx, h1 => by simp at hx
  | z :: y :: r, h, 0, x, hx, h1 => by
    have : z = x := by simpa using hx
    subst this
    exact ⟨y, rfl, h.2.1⟩
  | z :: y :: r, h, i + 1, x, hx, h1 => by
    obtain ⟨y', h2, h3⟩ := Ch.next h.2.2 i x (by simpa using hx) h1
    exact ⟨y', by simpa using h2, h3⟩
theorem dl_in {C : Int} {L : List Nd} (hR : RightS C L) {d : Nat} (hd : d < L.length) (hk : (ndAt L d).k = 2) {e : EI} (he : e ∈ dlL (ndAt L d).d) : ∃ x ∈ entN (ndAt L d), e = toI x := by
  have hok := hR.dirs d hd hk
  have h := hok
  unfold dirOk at h
  simp only [Bool.and_eq_true] at h
  obtain ⟨es, hes⟩ := Option.isSome_iff_exists.1 h.2.2.1
  rw [(dl_ok hok hes).2] at he
  unfold sortE at he
  rcases sortE_mem.1 he with h1 | h1
  · cases h1
  · obtain ⟨x, hx, rfl⟩ := List.mem_map.1 h1
    exact ⟨x, by unfold entN; rw [if_pos hk, hes]; exact hx, rfl⟩
theorem dl_name {C : Int} {L : List Nd} (hR : RightS C L) {d : Nat} (hd : d < L.length) (hk : (ndAt L d).k = 2) {e : EI} (he : e ∈ dlL (ndAt L d).d) : e.1.size ≤ 26 := by
  obtain ⟨x, hx, rfl⟩ := dl_in hR hd hk he
  have hok := hR.dirs d hd hk
  unfold dirOk at hok
  simp only [Bool.and_eq_true] at hok
  obtain ⟨es, hes⟩ := Option.isSome_iff_exists.1 hok.2.2.1
  have hm : x ∈ es := by unfold entN at hx; rw [if_pos hk, hes] at hx; exact hx
  obtain ⟨j, _, hr, rfl⟩ := (ent_mem hes x).1 hm
  unfold sRight at hr
  simp only [Bool.and_eq_true, decide_eq_true_eq] at hr
  show (sName (slotK (ndAt L d).d j)).size ≤ 26
  unfold sName
  rw [strOfNums_size, List.length_take]
  omega
theorem dl_sorted {C : Int} {L : List Nd} (hR : RightS C L) {d : Nat} (hd : d < L.length) (hk : (ndAt L d).k = 2) : (dlL (ndAt L d).d).Pairwise sLt := by
  have hok := hR.dirs d hd hk
  have h := hok
  unfold dirOk at h
  simp only [Bool.and_eq_true] at h
  obtain ⟨es, hes⟩ := Option.isSome_iff_exists.1 h.2.2.1
  rw [(dl_ok hok hes).2]
  unfold sortE
  exact sortE_sorted List.Pairwise.nil (fun d hd e he => by cases he) (ent_names hes)
/-- What a directory's entry of a directory leads to. -/
theorem dl_child {C : Int} {L : List Nd} (hR : RightS C L) {d : Nat} (hd : d < L.length) (hk : (ndAt L d).k = 2) {e : EI} (he : e ∈ dlL (ndAt L d).d) :
    ∃ c : Nat, e.2.1 = (c : Int) ∧ 1 ≤ c ∧ c ≠ 1 ∧ c < L.length ∧ (ndAt L c).k = e.2.2 ∧ (e.2.2 = 2 → (ndAt L c).p = (d : Int)) := by
  obtain ⟨x, hx, rfl⟩ := dl_in hR hd hk he
  have h := hR.ents d hd x hx
  exact ⟨x.2.1, rfl, (entN_kind hx).1.1, h.1, h.2.1, h.2.2, fun h2 => hR.par d hd x hx (by have : ((x.2.2 : Nat) : Int) = 2 := h2; omega)⟩
theorem sum_sub (g : Nat → Nat) : ∀ (V W : List Nat), V.Nodup → (∀ x ∈ V, x ∈ W) → (V.map g).sum ≤ (W.map g).sum
  | [], W, _, _ => by simp
  | v :: V, W, h1, h2 => by
    have hv := h2 v (by simp)
    have hp := List.perm_cons_erase hv
    have e : (W.map g).sum = g v + ((W.erase v).map g).sum := by
      have := (hp.map g).sum_nat
      rw [List.map_cons, List.sum_cons] at this
      exact this
    rw [List.map_cons, List.sum_cons, e]
    have ih := sum_sub g V (W.erase v) (List.nodup_cons.1 h1).2 (fun x hx => (List.mem_erase_of_ne (fun e => by subst e; exact (List.nodup_cons.1 h1).1 hx)).2 (h2 x (by simp [hx])))
    omega
theorem sum_ones : ∀ P : List Nat, (P.map fun _ => 1).sum = P.length
  | [] => rfl
  | x :: P => by rw [List.map_cons, List.sum_cons, sum_ones P, List.length_cons]; omega
theorem nodup_len (n : Nat) (P : List Nat) (h1 : P.Nodup) (h2 : ∀ x ∈ P, x < n) : P.length ≤ n := by
  have h := sum_sub (fun _ => 1) P (List.range n) h1 (fun x hx => List.mem_range.2 (h2 x hx))
  rw [sum_ones, sum_ones, List.length_range] at h
  exact h
/-- Somebody who stands on a way. -/
structure OnW (L : List Nd) (P : List Nat) (d : Nat) : Prop where
  ch : Ch L P
  hd : P.head? = some d
  nd : P.Nodup
  lt : ∀ x ∈ P, x < L.length
theorem OnW.step {C : Int} {L : List Nd} (hR : RightS C L) {P : List Nat} {d : Nat} (h : OnW L P d) (hk : (ndAt L d).k = 2) {e : EI} (he : e ∈ dlL (ndAt L d).d) (h2 : e.2.2 = 2) : OnW L (e.2.1.toNat :: P) e.2.1.toNat := by
  obtain ⟨P', rfl⟩ : ∃ P', P = d :: P' := by
    cases P with
    | nil => exact h.ch.elim
    | cons x r => have : x = d := by simpa using h.hd
                  exact ⟨r, by rw [this]⟩
  have hdl := h.lt d (by simp)
  obtain ⟨c, hc, h1, hc1, hcl, hck, hcp⟩ := dl_child hR hdl hk he
  have hp := hcp h2
  rw [hc, Int.toNat_natCast]
  have hn : c ∉ d :: P' := by
    intro hin
    obtain ⟨i, hi, hx⟩ := List.mem_iff_getElem.1 hin
    obtain ⟨y, hy, hpy⟩ := h.ch.next i c (by rw [List.getElem?_eq_getElem hi, hx]) hc1
    have e1 : y = d := by rw [hp] at hpy; omega
    rw [e1] at hy
    have e2 : (d :: P')[0]? = some d := rfl
    have hlt := (List.getElem?_eq_some_iff.1 hy).1
    have := (List.pairwise_iff_getElem.1 h.nd) 0 (i + 1) (by simp) hlt (by omega)
    exact this (by have := (List.getElem?_eq_some_iff.1 hy).2; rw [this]; rfl)
  refine ⟨⟨hc1, hp, h.ch⟩, rfl, List.nodup_cons.2 ⟨hn, h.nd⟩, fun x hx => ?_⟩
  rcases List.mem_cons.1 hx with rfl | hx
  · exact hcl
  · exact h.lt x hx
theorem OnW.root {C : Int} {L : List Nd} (hR : RightS C L) : OnW L [1] 1 := ⟨rfl, rfl, by simp, fun x hx => by have := hR.len.1; simp at hx; omega⟩
theorem OnW.dp {C : Int} {L : List Nd} (hR : RightS C L) : ∀ (f : Nat) (P : List Nat) (d : Nat), OnW L P d → 1 ≤ d → (ndAt L d).k = 2 → L.length + 1 ≤ P.length + f → Dp L f d
  | 0, P, d, h, h1, hk, hl => by
    have := nodup_len L.length P h.nd h.lt
    omega
  | f + 1, P, d, h, h1, hk, hl => by
    have hin : d ∈ P := List.mem_of_mem_head? h.hd
    refine ⟨h1, h.lt d hin, hk, fun e he h2 => ?_⟩
    obtain ⟨c, hc, c1, c2, c3, c4, _⟩ := dl_child hR (h.lt d hin) hk he
    have hs := h.step hR hk he h2
    rw [hc, Int.toNat_natCast] at hs ⊢
    exact OnW.dp hR f (c :: P) c hs c1 (by rw [c4, h2]) (by rw [List.length_cons]; omega)
theorem dp_root {C : Int} {L : List Nd} (hR : RightS C L) : Dp L L.length 1 := OnW.dp hR L.length [1] 1 (OnW.root hR) (Nat.le_refl _) hR.root.1 (by rw [List.length_singleton]; omega)
/-- The directories that are met below d, d first. -/
def vsF (L : List Nd) : Nat → Nat → List Nat
  | 0, _ => []
  | f + 1, d => d :: ((dlL (ndAt L d).d).filter (fun e => e.2.2 == 2)).flatMap fun e => vsF L f e.2.1.toNat
theorem sum_flat {α : Type} (g : Nat → Nat) : ∀ (l : List α) (h : α → List Nat), ((l.flatMap h).map g).sum = (l.map fun a => ((h a).map g).sum).sum
  | [], _ => rfl
  | a :: l, h => by rw [List.flatMap_cons, List.map_append, List.sum_append_nat, sum_flat g l h, List.map_cons, List.sum_cons]
theorem li_len (L : List Nd) : ∀ (f d : Nat) (p : ByteArray), (liF L f d p).length = ((vsF L f d).map fun i => (dlL (ndAt L i).d).length).sum
  | 0, _, _ => rfl
  | f + 1, d, p => by
    unfold liF vsF
    rw [List.map_cons, List.sum_cons, sum_flat]
    generalize dlL (ndAt L d).d = D
    induction D with
    | nil => rfl
    | cons e D ih =>
      rw [List.flatMap_cons, List.length_append, ih, List.length_cons, List.length_cons, List.filter_cons]
      by_cases h2 : e.2.2 = 2
      · rw [if_pos h2, if_pos (by simpa using h2), List.map_cons, List.sum_cons, li_len L f]
        omega
      · rw [if_neg h2, if_neg (by simpa using h2), List.length_nil]
        omega
theorem vs_nodup {C : Int} {L : List Nd} (hR : RightS C L) : ∀ (f : Nat) (P : List Nat) (d : Nat), OnW L P d → (ndAt L d).k = 2 → (vsF L f d).Nodup ∧ ∀ x ∈ vsF L f d, x < L.length ∧ ∃ Q, Ch L (Q ++ P) ∧ (Q ++ P).head? = some x
  | 0, P, d, h, hk => ⟨List.Pairwise.nil, fun x hx => by cases hx⟩
  | f + 1, P, d, h, hk => by
    have hdl : d < L.length := h.lt d (List.mem_of_mem_head? h.hd)
    have hc : ∀ e ∈ (dlL (ndAt L d).d).filter (fun e => e.2.2 == 2), e ∈ dlL (ndAt L d).d ∧ e.2.2 = 2 ∧ OnW L (e.2.1.toNat :: P) e.2.1.toNat ∧ (vsF L f e.2.1.toNat).Nodup ∧ ∀ x ∈ vsF L f e.2.1.toNat, x < L.length ∧ ∃ Q, Ch L (Q ++ e.2.1.toNat :: P) ∧ (Q ++ e.2.1.toNat :: P).head? = some x := by
      intro e he
      obtain ⟨h1, h2⟩ := List.mem_filter.1 he
      have h2' : e.2.2 = 2 := by simpa using h2
      have hs := h.step hR hk h1 h2'
      obtain ⟨c, hc, c1, c2, c3, c4, _⟩ := dl_child hR hdl hk h1
      exact ⟨h1, h2', hs, vs_nodup hR f _ _ hs (by rw [hc, Int.toNat_natCast, c4, h2'])⟩
    unfold vsF
    refine ⟨List.nodup_cons.2 ⟨fun hin => ?_, ?_⟩, fun x hx => ?_⟩
    · obtain ⟨e, he, hx⟩ := List.mem_flatMap.1 hin
      obtain ⟨_, _, _, _, hm⟩ := hc e he
      obtain ⟨_, Q, hQ, hh⟩ := hm d hx
      have := congrArg List.length (Ch.one hQ h.ch (hh.trans h.hd.symm))
      rw [List.length_append, List.length_cons] at this
      omega
    · refine List.pairwise_flatMap.2 ⟨fun e he => (hc e he).2.2.2.1, ?_⟩
      refine List.Pairwise.imp_of_mem (fun {a b} ha hb hab => ?_) ((dl_sorted hR hdl hk).filter _)
      intro x hx y hy hxy
      subst hxy
      obtain ⟨a1, a2, _, _, am⟩ := hc a ha
      obtain ⟨b1, b2, _, _, bm⟩ := hc b hb
      obtain ⟨_, Qa, hQa, hha⟩ := am x hx
      obtain ⟨_, Qb, hQb, hhb⟩ := bm x hy
      have heq := Ch.one hQa hQb (hha.trans hhb.symm)
      have hl := congrArg List.length heq
      rw [List.length_append, List.length_append, List.length_cons, List.length_cons] at hl
      have hcc := (List.append_inj heq (by omega)).2
      have hcc : a.2.1.toNat = b.2.1.toNat := by injection hcc
      obtain ⟨xa, hxa, rfl⟩ := dl_in hR hdl hk a1
      obtain ⟨xb, hxb, rfl⟩ := dl_in hR hdl hk b1
      have hcc : xa.2.1 = xb.2.1 := by
        have e1 : (toI xa).2.1.toNat = xa.2.1 := rfl
        have e2 : (toI xb).2.1.toNat = xb.2.1 := rfl
        rw [e1, e2] at hcc
        exact hcc
      have hx2 : xa.2.2 = 2 := by have : ((xa.2.2 : Nat) : Int) = 2 := a2; omega
      have he := hR.ents d hdl xa hxa
      have hone := hR.one xa.2.1 (by have := (entN_kind hxa).1.1; have := he.1; omega) he.2.1 (by rw [he.2.2, hx2]; rfl)
      have htn := tn_names L xa.2.1 L.length
      rw [hone] at htn
      have hct : (allQ L L.length).countP (fun x => x.2.2.1 == xa.2.1) = 1 := by unfold tnQ at htn; omega
      have := one_same hct (mem_allQ.2 ⟨hdl, hxa⟩) (by simp) (mem_allQ.2 ⟨hdl, hxb⟩) (by simpa using hcc.symm)
      have e9 : xa = xb := by injection this
      subst e9
      unfold sLt at hab
      rw [less_irrefl] at hab
      cases hab
    · rcases List.mem_cons.1 hx with rfl | hx
      · exact ⟨hdl, [], h.ch, h.hd⟩
      · obtain ⟨e, he, hx⟩ := List.mem_flatMap.1 hx
        obtain ⟨_, _, _, _, hm⟩ := hc e he
        obtain ⟨h1, Q, hQ, hh⟩ := hm x hx
        refine ⟨h1, Q ++ [e.2.1.toNat], ?_, ?_⟩
        · rw [List.append_assoc]; exact hQ
        · rw [List.append_assoc]; exact hh
theorem dl_32 (zs : List Int) : 32 * (dlL zs).length ≤ zs.length := by
  cases hok : dirOk zs with
  | false => rw [(dl_bad hok).2]; simp
  | true =>
    have h := hok
    unfold dirOk at h
    simp only [Bool.and_eq_true] at h
    obtain ⟨es, hes⟩ := Option.isSome_iff_exists.1 h.2.2.1
    rw [(dl_ok hok hes).2, sortE_length, List.length_map]
    have := ent_count hes
    omega
theorem tot_32 (L : List Nd) : ∀ k, k ≤ L.length → 32 * (((List.range k).map fun i => (dlL (ndAt L i).d).length).sum) ≤ totN (L.take k)
  | 0, _ => by simp
  | k + 1, hk => by
    have ih := tot_32 L k (by omega)
    rw [totN_succ L k (by omega), List.range_succ, List.map_append, List.sum_append_nat]
    have := dl_32 (ndAt L k).d
    simp only [List.map_cons, List.map_nil, List.sum_cons, List.sum_nil]
    omega
/-- So many paths at most. -/
theorem li_max {C : Int} {L : List Nd} (hR : RightS C L) (f : Nat) (p : ByteArray) : (liF L f 1 p).length ≤ 32768 := by
  obtain ⟨h1, h2⟩ := vs_nodup hR f [1] 1 (OnW.root hR) hR.root.1
  rw [li_len]
  have h3 := sum_sub (fun i => (dlL (ndAt L i).d).length) (vsF L f 1) (List.range L.length) h1 (fun x hx => List.mem_range.2 (h2 x hx).1)
  have h4 := tot_32 L L.length (Nat.le_refl _)
  rw [List.take_length] at h4
  have := hR.tot
  omega
end Go.Proofs.YtplieplmhdfndaaGreatDoor

namespace Go.Proofs.YtplieplmhdfndaaGreatDoor
set_option linter.unusedVariables false
set_option linter.unusedSimpArgs false
open Go.RowKit

theorem wpList_load_midD {P : Program} {ops : Array Oper} {rest : List Oper} {op : Oper} {a : Act} {w : World} {Q : Exit → Act → World → Prop} (hw : Region.wanted op (yielded ops a.tmps) = true) (ty : TypeId) (x : Operand) (ho : op.op = .load ty x)
    (b o : Nat) (hx : a.eval x = .pointer (some ⟨b, o, none⟩)) (cs : List Value) (d : TypeDesc) (hc : w.rangeAt b o cs)
    (hu : P.underlying ty = some d) (hd : d.isRow = true) (hi : (P.info? ty).map (·.size) = some cs.length)
    (h : wpList P ops Q rest (a.put op.dst (.agg cs.toArray)) w) : wpList P ops Q (op :: rest) a w :=
  Go.BigFrame.wpList_want hw fun _ hK => wp_load_mid ty x ho b o hx cs d hc hu hd hi (hK _ _ h)
end Go.Proofs.YtplieplmhdfndaaGreatDoor
