/- Slices of Put: copies (toPut, toPutS), two that are the same held against each other (eqPut, eqPutS). A copy of a slice of Put: toPutS. Marks of slices of structs; two slices of Put that are the same. eqNodeS. States measured, copied, compared. StateCheck: the model and the program. The law on StateCheck, walked. A node that came in, opened. -/
import Derived.Test.YtplieplmhdfndaaGreatDoorZg15
import Derived.Test.YtplieplmhdfndaaGreatDoorZg03
import Derived.Test.YtplieplmhdfndaaGreatDoorZg02
import Derived.Deep.MidRow
import Derived.Deep.RegionHeld3
import Derived.Test.YtplieplmhdfndaaGreatDoorZg40
import Derived.Test.YtplieplmhdfndaaGreatDoorZg22
import Derived.Test.YtplieplmhdfndaaGreatDoorZg39
import Derived.ProofKit
import Derived.OpenShut
namespace Go.Proofs.YtplieplmhdfndaaGreatDoor
set_option linter.unusedVariables false
set_option linter.unusedSimpArgs false
open Go.RowKit

/-- A Put as an element. -/
def neP (p : Int × List Int) : NE := ([.int .i64 p.1], p.2)
theorem neP_pre (P : List (Int × List Int)) : ∀ l ∈ P.map neP, l.1.length = 1 := by
  intro l hl
  rw [List.mem_map] at hl
  obtain ⟨p, _, rfl⟩ := hl
  rfl
end Go.Proofs.YtplieplmhdfndaaGreatDoor

namespace Go.Proofs.YtplieplmhdfndaaGreatDoor
set_option linter.unusedVariables false
set_option linter.unusedSimpArgs false
open Go.RowKit

end Go.Proofs.YtplieplmhdfndaaGreatDoor

namespace Go.Proofs.YtplieplmhdfndaaGreatDoor
set_option linter.unusedVariables false
set_option linter.unusedSimpArgs false
open Go.RowKit

/-- The marks of an element, from k on. -/
def mkE (m k : Nat) (l : NE) : NE := ((List.range m).map fun j => Value.int .i64 ((k + j : Nat) : Int), mk8 (k + m) l.2.length)
/-- The marks of a list, from k on, and what comes behind them. -/
def mkN (m : Nat) : Nat → List NE → List NE
  | _, [] => []
  | k, l :: L => mkE m k l :: mkN m (k + m + l.2.length) L
def endN (m : Nat) : Nat → List NE → Nat
  | k, [] => k
  | k, l :: L => endN m (k + m + l.2.length) L
theorem mkN_len (m : Nat) : ∀ (L : List NE) (k : Nat), (mkN m k L).length = L.length
  | [], _ => rfl
  | l :: L, k => by simp [mkN, mkN_len m L]
theorem endN_snoc (m : Nat) : ∀ (L : List NE) (k : Nat) (l : NE), endN m k (L ++ [l]) = endN m k L + m + l.2.length
  | [], _, _ => rfl
  | x :: L, k, l => by simp only [List.cons_append, endN]; rw [endN_snoc m L]
theorem mkN_snoc (m : Nat) : ∀ (L : List NE) (k : Nat) (l : NE), mkN m k (L ++ [l]) = mkN m k L ++ [mkE m (endN m k L) l]
  | [], _, _ => rfl
  | x :: L, k, l => by simp only [List.cons_append, mkN, endN]; rw [mkN_snoc m L]
theorem endN_le (m : Nat) : ∀ (L : List NE) (k : Nat), k ≤ endN m k L
  | [], _ => Nat.le_refl _
  | l :: L, k => Nat.le_trans (by omega) (endN_le m L (k + m + l.2.length))
theorem endN_take (m : Nat) (L : List NE) (k i : Nat) (l : NE) (hl : L[i]? = some l) : endN m k (L.take (i + 1)) = endN m k (L.take i) + m + l.2.length := by
  rw [List.take_add_one, hl]
  exact endN_snoc m _ k l
theorem endN_mono (m : Nat) (L : List NE) (k : Nat) : ∀ i, endN m k (L.take i) ≤ endN m k L := by
  intro i
  have e : endN m k L = endN m (endN m k (L.take i)) (L.drop i) := by
    have gen : ∀ (A B : List NE) (k : Nat), endN m k (A ++ B) = endN m (endN m k A) B := by
      intro A
      induction A with
      | nil => intro B k; rfl
      | cons x A ih => intro B k; simp only [List.cons_append, endN]; rw [ih]
    conv => lhs; rw [← List.take_append_drop i L]
    exact gen _ _ _
  rw [e]
  exact endN_le m _ _
theorem mk_step (m : Nat) (L : List NE) (k i : Nat) (l : NE) (hl : L[i]? = some l) : (mkN m k (L.take i) ++ L.drop i).set i (mkE m (endN m k (L.take i)) l) = mkN m k (L.take (i + 1)) ++ L.drop (i + 1) := by
  have hi : i < L.length := (List.getElem?_eq_some_iff.1 hl).1
  have e : L.take (i + 1) = L.take i ++ [l] := by rw [List.take_add_one, hl]; rfl
  have e2 : L.drop i = l :: L.drop (i + 1) := by
    rw [List.drop_eq_getElem_cons hi]
    rw [List.getElem?_eq_getElem hi] at hl
    rw [Option.some.inj hl]
  have hlen : (mkN m k (L.take i)).length = i := by rw [mkN_len]; simp; omega
  rw [e, mkN_snoc, e2, List.set_append_right _ _ (by omega), hlen, Nat.sub_self, List.set_cons_zero, List.append_assoc]
  rfl
theorem mk_at (m : Nat) (L : List NE) (k i : Nat) (l : NE) (hl : L[i]? = some l) : (mkN m k (L.take i) ++ L.drop i)[i]? = some l := by
  have hi : i < L.length := (List.getElem?_eq_some_iff.1 hl).1
  have hlen : (mkN m k (L.take i)).length = i := by rw [mkN_len]; simp; omega
  rw [List.getElem?_append_right (by omega), hlen, Nat.sub_self, List.getElem?_drop, Nat.add_zero]
  exact hl
/-- Nothing turned but the row and the bytes. -/
structure KpN (w w' : World) (v : Value) (vs : List Value) : Prop where
  os : w'.os = w.os
  tape : w'.tape = w.tape
  output : w'.output = w.output
  size : w.heap.size ≤ w'.heap.size
  block : ∀ b, b < w.heap.size → v.ownBlock ≠ some b → (∀ u ∈ vs, u.ownBlock ≠ some b) → w'.heap[b]? = w.heap[b]?
theorem KpN.refl (w : World) (v : Value) (vs : List Value) : KpN w w v vs := ⟨rfl, rfl, rfl, Nat.le_refl _, fun _ _ _ _ => rfl⟩
theorem KpN.row {w w' w2 : World} {v : Value} {vs : List Value} (h : KpN w w' v vs) (g : w'.grownBy w2 v.ownBlock) : KpN w w2 v vs :=
  ⟨g.os.trans h.os, g.tape.trans h.tape, g.output.trans h.output, Nat.le_trans h.size g.size, fun b hb h1 h2 => (g.block b (Nat.lt_of_lt_of_le hb h.size) (fun e => h1 e.symm)).trans (h.block b hb h1 h2)⟩
theorem KpN.dat {w w' w2 : World} {v : Value} {vs : List Value} (h : KpN w w' v vs) (u : Value) (hu : u ∈ vs) (g : w'.grownBy w2 u.ownBlock) : KpN w w2 v vs :=
  ⟨g.os.trans h.os, g.tape.trans h.tape, g.output.trans h.output, Nat.le_trans h.size g.size, fun b hb h1 h2 => (g.block b (Nat.lt_of_lt_of_le hb h.size) (fun e => h2 u hu e.symm)).trans (h.block b hb h1 h2)⟩
end Go.Proofs.YtplieplmhdfndaaGreatDoor

namespace Go.Proofs.YtplieplmhdfndaaGreatDoor
set_option linter.unusedVariables false
set_option linter.unusedSimpArgs false
open Go.RowKit

set_option maxRecDepth 100000 in
set_option maxHeartbeats 2000000 in
theorem eqNodeS_same (v1 v2 : Value) (P : List Nd) (us1 us2 : List Value) (w : World) (h1 : RdN w 9 v1 (P.map ndE) us1) (h2 : RdN w 9 v2 (P.map ndE) us2) :
    Calls Tryz.prog 37 #[v1, v2] w fun e w' => e = .returned (.bool true) ∧ Below w.heap.size w w' := by
  obtain ⟨a1, c1, rfl⟩ : ∃ a cap, v1 = .slice a P.length cap := by obtain ⟨a, cap, e, _⟩ := h1.row; exact ⟨a, cap, by simpa using e⟩
  obtain ⟨a2, c2, rfl⟩ : ∃ a cap, v2 = .slice a P.length cap := by obtain ⟨a, cap, e, _⟩ := h2.row; exact ⟨a, cap, by simpa using e⟩
  have hm : P.length ≤ 9223372036854775807 := by obtain ⟨a, cap, _, _, g1, g2⟩ := h1.row; unfold maxLen at g2; simp at g1; omega
  have H1 := hide (show RdN w 9 (.slice a1 (P.map ndE).length c1) (P.map ndE) us1 from by simpa using h1)
  have H2 := hide (show RdN w 9 (.slice a2 (P.map ndE).length c2) (P.map ndE) us2 from by simpa using h2)
  clear h1 h2
  have hcc : ((P.length : Int) != (P.length : Int)) = false := by simp
  go_enter Tryz.func37, Tryz.ntmps37
  go_wp2
  go_loopw [5] (fun i wr => ∃ k : Nat, k ≤ P.length ∧ i = .int .i64 k ∧ Below w.heap.size w wr) (fun i _ => P.length - (intOf i).toNat)
  case atStart => exact ⟨0, Nat.zero_le _, rfl, Below.refl _ _⟩
  case round =>
    obtain ⟨k, hk, rfl, hb1⟩ := hrel
    have HK := hide hb1
    clear hb1
    by_cases hlt : k < P.length
    · obtain ⟨x, hp⟩ : ∃ x, P[k]? = some x := ⟨_, List.getElem?_eq_getElem hlt⟩
      obtain ⟨b, off, u, e0, hb0, hu, hrd, hrg⟩ := (H1.out.below HK.out).at (i := k) (l := ndE x) (by rw [List.getElem?_map, hp]; rfl)
      obtain ⟨b', off', u', e0', hb0', hu', hrd', hrg'⟩ := (H2.out.below HK.out).at (i := k) (l := ndE x) (by rw [List.getElem?_map, hp]; rfl)
      subst e0
      subst e0'
      have HR := hide (show wr.rangeAt b (off + k * 10) [.int .i64 x.k, .int .i64 x.l, .int .i64 x.m, .int .i64 x.u, .int .i64 x.g, .int .i64 x.p, .int .i64 x.e, .int .i64 x.t, .int .i64 x.c, u] from hrg)
      have HR' := hide (show wr.rangeAt b' (off' + k * 10) [.int .i64 x.k, .int .i64 x.l, .int .i64 x.m, .int .i64 x.u, .int .i64 x.g, .int .i64 x.p, .int .i64 x.e, .int .i64 x.t, .int .i64 x.c, u'] from hrg')
      have HD := hide (And.intro (show Rd .u8 wr u x.d from hrd) (show Rd .u8 wr u' x.d from hrd'))
      clear hrg hrg' hrd hrd' hu hu' hp
      go_wp2_with fail
      refine wp_region_noPanic ?_
      refine wp_region_held_drew (S := fun w' => w'.rangeAt b (off + k * 10) [.int .i64 x.k, .int .i64 x.l, .int .i64 x.m, .int .i64 x.u, .int .i64 x.g, .int .i64 x.p, .int .i64 x.e, .int .i64 x.t, .int .i64 x.c, u] ∧ w'.rangeAt b' (off' + k * 10) [.int .i64 x.k, .int .i64 x.l, .int .i64 x.m, .int .i64 x.u, .int .i64 x.g, .int .i64 x.p, .int .i64 x.e, .int .i64 x.t, .int .i64 x.c, u']) (by kernel_rfl) ⟨HR.out, HR'.out⟩ (fun hH => ?_)
      refine wpAnyH_take (i := 0) (oi := _) (v := .slice (some ⟨b, off, none⟩) P.length c1) rfl (by kernel_rfl) (by kernel_rfl) (by kernel_rfl) (fun _ _ _ h => h) (Or.inl ⟨by rfl, fun w' hw' => by go_simp⟩) hH ?_
      try simp only [Act.put, List.getElem_toArray, List.getElem_cons_zero, List.getElem_cons_succ, List.setIfInBounds_toArray, List.set_cons_zero, List.set_cons_succ]
      refine wpAnyH_take (i := 1) (oi := _) (v := .int .i64 k) rfl (by kernel_rfl) (by kernel_rfl) (by kernel_rfl) (fun _ _ _ h => h) (Or.inl ⟨by rfl, fun w' hw' => by go_simp⟩) hH ?_
      try simp only [Act.put, List.getElem_toArray, List.getElem_cons_zero, List.getElem_cons_succ, List.setIfInBounds_toArray, List.set_cons_zero, List.set_cons_succ]
      refine wpAnyH_take (i := 2) (oi := _) (v := .pointer (some ⟨b, off + k * 10, none⟩)) rfl (by kernel_rfl) (by kernel_rfl) (by kernel_rfl) (fun _ _ _ h => h) (Or.inl ⟨by rfl, fun w' hw' => by go_simp⟩) hH ?_
      try simp only [Act.put, List.getElem_toArray, List.getElem_cons_zero, List.getElem_cons_succ, List.setIfInBounds_toArray, List.set_cons_zero, List.set_cons_succ]
      refine wpAnyH_take (i := 3) (oi := _) (v := .agg #[.int .i64 x.k, .int .i64 x.l, .int .i64 x.m, .int .i64 x.u, .int .i64 x.g, .int .i64 x.p, .int .i64 x.e, .int .i64 x.t, .int .i64 x.c, u]) rfl (by kernel_rfl) (by kernel_rfl) (by kernel_rfl) (fun _ _ _ h => h) (yieldsIf_load_mid (by rfl) 56 _ rfl b (off + k * 10) rfl [.int .i64 x.k, .int .i64 x.l, .int .i64 x.m, .int .i64 x.u, .int .i64 x.g, .int .i64 x.p, .int .i64 x.e, .int .i64 x.t, .int .i64 x.c, u] _ (fun w' h => h.1) Tryz.underlying56 rfl infoN10) hH ?_
      try simp only [Act.put, List.getElem_toArray, List.getElem_cons_zero, List.getElem_cons_succ, List.setIfInBounds_toArray, List.set_cons_zero, List.set_cons_succ]
      refine wpAnyH_take (i := 4) (oi := _) (v := .slice (some ⟨b', off', none⟩) P.length c2) rfl (by kernel_rfl) (by kernel_rfl) (by kernel_rfl) (fun _ _ _ h => h) (Or.inl ⟨by rfl, fun w' hw' => by go_simp⟩) hH ?_
      try simp only [Act.put, List.getElem_toArray, List.getElem_cons_zero, List.getElem_cons_succ, List.setIfInBounds_toArray, List.set_cons_zero, List.set_cons_succ]
      refine wpAnyH_take (i := 5) (oi := _) (v := .int .i64 k) rfl (by kernel_rfl) (by kernel_rfl) (by kernel_rfl) (fun _ _ _ h => h) (Or.inl ⟨by rfl, fun w' hw' => by go_simp⟩) hH ?_
      try simp only [Act.put, List.getElem_toArray, List.getElem_cons_zero, List.getElem_cons_succ, List.setIfInBounds_toArray, List.set_cons_zero, List.set_cons_succ]
      refine wpAnyH_take (i := 6) (oi := _) (v := .pointer (some ⟨b', off' + k * 10, none⟩)) rfl (by kernel_rfl) (by kernel_rfl) (by kernel_rfl) (fun _ _ _ h => h) (Or.inl ⟨by rfl, fun w' hw' => by go_simp⟩) hH ?_
      try simp only [Act.put, List.getElem_toArray, List.getElem_cons_zero, List.getElem_cons_succ, List.setIfInBounds_toArray, List.set_cons_zero, List.set_cons_succ]
      refine wpAnyH_take (i := 7) (oi := _) (v := .agg #[.int .i64 x.k, .int .i64 x.l, .int .i64 x.m, .int .i64 x.u, .int .i64 x.g, .int .i64 x.p, .int .i64 x.e, .int .i64 x.t, .int .i64 x.c, u']) rfl (by kernel_rfl) (by kernel_rfl) (by kernel_rfl) (fun _ _ _ h => h) (yieldsIf_load_mid (by rfl) 56 _ rfl b' (off' + k * 10) rfl [.int .i64 x.k, .int .i64 x.l, .int .i64 x.m, .int .i64 x.u, .int .i64 x.g, .int .i64 x.p, .int .i64 x.e, .int .i64 x.t, .int .i64 x.c, u'] _ (fun w' h => h.2) Tryz.underlying56 rfl infoN10) hH ?_
      try simp only [Act.put, List.getElem_toArray, List.getElem_cons_zero, List.getElem_cons_succ, List.setIfInBounds_toArray, List.set_cons_zero, List.set_cons_succ]
      refine wpAnyH_ready (rs := [8]) (by kernel_rfl) (by simp) ?_
      refine AllReadyH.cons (o := _) rfl (fun K hK => ?_) AllReadyH.nil
      go_simp
      refine (eqNode_same x.k x.l x.m x.u x.g x.p x.e x.t x.c _ _ x.d _ (HD.out.1.below ((Below.refl _ _).drew)) (HD.out.2.below ((Below.refl _ _).drew))).mono ?_
      rintro e w2 ⟨rfl, b2⟩
      have b3 := ((Below.refl _ _).drew).trans b2
      have B2 := hide (HK.out.trans (b3.mono HK.out.size))
      have s2 : w2.rangeAt b (off + k * 10) [.int .i64 x.k, .int .i64 x.l, .int .i64 x.m, .int .i64 x.u, .int .i64 x.g, .int .i64 x.p, .int .i64 x.e, .int .i64 x.t, .int .i64 x.c, u] ∧ w2.rangeAt b' (off' + k * 10) [.int .i64 x.k, .int .i64 x.l, .int .i64 x.m, .int .i64 x.u, .int .i64 x.g, .int .i64 x.p, .int .i64 x.e, .int .i64 x.t, .int .i64 x.c, u'] := ⟨fun j v hv => (b3.cell (p := ⟨b, off + k * 10 + j, none⟩) hb0).trans (HR.out j v hv), fun j v hv => (b3.cell (p := ⟨b', off' + k * 10 + j, none⟩) hb0').trans (HR'.out j v hv)⟩
      refine hK.out _ _ s2 (fun hH => ?_)
      clear hK K s2 b2 b3 HK
      try simp only [Act.put, List.getElem_toArray, List.getElem_cons_zero, List.getElem_cons_succ, List.setIfInBounds_toArray, List.set_cons_zero, List.set_cons_succ]
      refine wpAnyH_take (i := 9) (oi := _) (v := .bool false) rfl (by kernel_rfl) (by kernel_rfl) (by kernel_rfl) (fun _ _ _ h => h) (Or.inl ⟨by rfl, fun w' hw' => by go_simp⟩) hH ?_
      try simp only [Act.put, List.getElem_toArray, List.getElem_cons_zero, List.getElem_cons_succ, List.setIfInBounds_toArray, List.set_cons_zero, List.set_cons_succ]
      refine wpAnyH_done (by kernel_rfl) (NoPanic.normal ?_) _
      clear hH
      go_wp2
      go_roundw
      case rel => exact ⟨k + 1, by omega, by go_num, B2.out⟩
      case measure => simp [intOf]; omega
    · go_wp2
      go_ret
      exact ⟨rfl, HK.out⟩

end Go.Proofs.YtplieplmhdfndaaGreatDoor

namespace Go.Proofs.YtplieplmhdfndaaGreatDoor
set_option linter.unusedVariables false
set_option linter.unusedSimpArgs false
open Go.RowKit

theorem own_asideN {W : World} {base n sz : Nat} {e : TypeId} {v : Value} {xs : List Value} (h : W.ownsRow base e sz v n xs) (p : Addr) (x : Value) (hp : p.block < base) : (W.setCell p x).ownsRow base e sz v n xs :=
  h.kept (row := some p.block) ⟨rfl, rfl, rfl, by simp, fun q hq hne => Below.heap_setCell W p _ q (fun e => hne (by rw [e]))⟩ (by
    rcases h.2 with ⟨rfl, _⟩ | ⟨g, cap, cur, rfl, hb, _⟩
    · exact .inl rfl
    · right
      intro e
      have e' : g = p.block := Option.some.inj e
      omega)
theorem OwnN.aside {W : World} {base : Nat} {e : TypeId} {m : Nat} {v : Value} {L : List NE} {vs : List Value} (h : OwnN W base e m v L vs) (p : Addr) (x : Value) (hp : p.block < base) : OwnN (W.setCell p x) base e m v L vs :=
  ⟨h.len, h.pre, own_asideN h.row p x hp, fun i u l hu hl => own_asideN (h.dat i u l hu hl) p x hp, h.one⟩
theorem OwnN.shape {W : World} {base : Nat} {e : TypeId} {m : Nat} {v : Value} {L : List NE} {vs : List Value} (h : OwnN W base e m v L vs) : ∃ a cap, v = .slice a L.length cap := by
  obtain ⟨a, cap, e, _⟩ := h.rd.row
  exact ⟨a, cap, e⟩
set_option maxRecDepth 100000 in
theorem szState_any (C : Int) (v : Value) (L : List Nd) (us : List Value) (w : World) (h : RdN w 9 v (L.map ndE) us) :
    Calls Tryz.prog 8 #[.agg #[.int .i64 C, v], .int .i64 1048576] w fun e w' => ∃ r : Int, e = .returned (.int .i64 r) ∧ (0 ≤ r → L.length ≤ 1048576 ∧ totN L ≤ 1048576) ∧ Below w.heap.size w w' := by
  obtain ⟨a, cap, rfl⟩ : ∃ a cap, v = .slice a L.length cap := by obtain ⟨a, cap, e, _⟩ := h.row; exact ⟨a, cap, by simpa using e⟩
  have HR := hide h
  obtain ⟨N, hN⟩ : ∃ N, N = L.length := ⟨_, rfl⟩
  have HN := hide hN
  rw [← hN] at HR ⊢
  clear h hN
  go_enter Tryz.func8, Tryz.ntmps8
  go_wp2_with fail
  refine (szNodeS_any _ L us _ (HR.out.below ?_)).mono ?_
  · exact (Below.refl _ _).alloc (Nat.le_refl _) _
  rintro e w1 ⟨r, rfl, hr, b1⟩
  have B1 := hide (((Below.refl _ _).alloc (Nat.le_refl _) _).trans (b1.mono (by simp)))
  have HRR := hide hr
  clear b1 hr
  by_cases h0 : r < 0
  · go_wp2
    go_ret
    first
    | exact ⟨-1, rfl, fun h => by omega, B1.out⟩
    | exact ⟨_, rfl, fun h => by omega, B1.out⟩
  · go_wp2
    go_ret
    exact ⟨r, rfl, fun h => ⟨by rw [HN.out]; exact (HRR.out h).2.1, (HRR.out h).2.2⟩, B1.out⟩
set_option maxRecDepth 100000 in
set_option maxHeartbeats 1000000 in
theorem toState_any (C : Int) (v : Value) (L : List Nd) (us : List Value) (w : World) (h : RdN w 9 v (L.map ndE) us) (hn : L.length ≤ 1048576) (hb : ∀ i, i < L.length → (ndAt L i).d.length ≤ 1048576) :
    Calls Tryz.prog 10 #[.agg #[.int .i64 C, v]] w fun e w' => ∃ v' vs, e = .returned (.agg #[.int .i64 C, v']) ∧ OwnN w' w.heap.size 56 9 v' (L.map ndE) vs ∧ Below w.heap.size w w' := by
  obtain ⟨a, cap, rfl⟩ : ∃ a cap, v = .slice a L.length cap := by obtain ⟨a, cap, e, _⟩ := h.row; exact ⟨a, cap, by simpa using e⟩
  have HR := hide h
  have HB := hide (And.intro hn hb)
  obtain ⟨N, hN⟩ : ∃ N, N = L.length := ⟨_, rfl⟩
  have HN := hide hN
  rw [← hN] at HR ⊢
  clear h hN hn hb
  go_enter Tryz.func10, Tryz.ntmps10
  go_wp2_with fail
  refine (toNodeS_any _ L us _ (HR.out.below ?_) HB.out.1 HB.out.2).mono ?_
  · exact (((Below.refl _ _).alloc (Nat.le_refl _) _).alloc (by simp) _).alloc (by simp; omega) _
  rintro x w1 ⟨v1, vs1, rfl, o1, b1⟩
  obtain ⟨a1, cap1, rfl⟩ : ∃ a1 cap1, v1 = .slice a1 N cap1 := by obtain ⟨a, cap, e⟩ := o1.shape; exact ⟨a, cap, by rw [HN.out]; simpa using e⟩
  have hz1 := (Blk.new _ _ _).below b1 (by simp)
  simp only [World.size_alloc] at hz1
  have hz0 := ((Blk.new _ _ _).alloc _).below b1 (by simp)
  simp only [World.size_alloc] at hz0
  have hB : Below w.heap.size w w1 := ((((Below.refl _ _).alloc (Nat.le_refl _) _).alloc (by simp) _).alloc (by simp; omega) _).trans (b1.mono (by simp; omega))
  have f0 := hz0.frozen 0
  have d0 := (hz0.cell 0).trans (show _ = some (.int .i64 0) from rfl)
  have f1 := hz0.frozen 1
  have d1 := (hz0.cell 1).trans (show _ = some (.slice none 0 0) from rfl)
  have g1 := hz1.frozen 1
  have c0 := (hz1.cell 0).trans (show _ = some (.int .i64 C) from rfl)
  have c1 := (hz1.cell 1).trans (show _ = some (.slice none 0 0) from rfl)
  have ho := (o1.mono (base' := w.heap.size + 3) (by simp))
  have K := hide (And.intro hB ho)
  have KZ := hide hz0
  clear hz1 hz0 hB ho o1 b1
  go_wp2
  have q0 := KZ.out.other ⟨w.heap.size + 1 + 1, 1, none⟩ (.slice a1 N cap1) (by simp)
  have q1 : Blk _ _ #[.int .i64 C, .slice none 0 0] 29 := q0.set 0 (.int .i64 C)
  have q2 : Blk _ _ #[.int .i64 C, .slice a1 N cap1] 29 := q1.set 1 (.slice a1 N cap1)
  have KQ := hide q2
  clear q0 q1 q2 KZ
  refine bodyPost_ret (v := .agg #[.int .i64 C, .slice a1 N cap1]) ?_ rfl ⟨_, vs1, rfl, OwnN.mono ?_ (by omega : w.heap.size ≤ w.heap.size + 3), ?_⟩
  · exact results_cell_row rfl _ _ (w.heap.size + 1) 29 #[.int .i64 C, .slice a1 N cap1] (0, 0) _ rfl KQ.out Tryz.underlying29 rfl (by kernel_rfl)
  · repeat (refine OwnN.aside ?_ _ _ (by simp <;> omega))
    exact K.out.2
  · repeat (refine Below.setCell ?_ (by simp <;> omega) _)
    exact K.out.1
set_option maxRecDepth 100000 in
theorem eqState_same (C : Int) (v1 v2 : Value) (L : List Nd) (us1 us2 : List Value) (w : World) (h1 : RdN w 9 v1 (L.map ndE) us1) (h2 : RdN w 9 v2 (L.map ndE) us2) :
    Calls Tryz.prog 12 #[.agg #[.int .i64 C, v1], .agg #[.int .i64 C, v2]] w fun e w' => e = .returned (.bool true) ∧ Below w.heap.size w w' := by
  obtain ⟨a1, cap1, rfl⟩ : ∃ a cap, v1 = .slice a L.length cap := by obtain ⟨a, cap, e, _⟩ := h1.row; exact ⟨a, cap, by simpa using e⟩
  obtain ⟨a2, cap2, rfl⟩ : ∃ a cap, v2 = .slice a L.length cap := by obtain ⟨a, cap, e, _⟩ := h2.row; exact ⟨a, cap, by simpa using e⟩
  have HB := hide (And.intro h1 h2)
  have H0 := hide (show ∀ o o2, Below w.heap.size w ((w.alloc o).alloc o2) from fun o o2 => ((Below.refl _ _).alloc (Nat.le_refl _) o).alloc (by simp) o2)
  obtain ⟨N, hN⟩ : ∃ N, N = L.length := ⟨_, rfl⟩
  rw [← hN] at HB ⊢
  clear h1 h2 hN
  have qC : (C != C) = false := by simp
  go_enter Tryz.func12, Tryz.ntmps12
  go_wp2_with fail
  refine (eqNodeS_same _ _ L us1 us2 _ (HB.out.1.below (H0.out _ _)) (HB.out.2.below (H0.out _ _))).mono ?_
  rintro e w4 ⟨rfl, b4⟩
  have H4 := hide ((H0.out _ _).trans (b4.mono (H0.out _ _).size))
  clear b4
  go_wp2
  go_ret
  exact ⟨rfl, H4.out⟩
end Go.Proofs.YtplieplmhdfndaaGreatDoor

namespace Go.Proofs.YtplieplmhdfndaaGreatDoor
set_option linter.unusedVariables false
set_option linter.unusedSimpArgs false
open Go.RowKit

end Go.Proofs.YtplieplmhdfndaaGreatDoor

namespace Go.Proofs.YtplieplmhdfndaaGreatDoor
set_option linter.unusedVariables false
set_option linter.unusedSimpArgs false
open Go.RowKit

theorem infoStL : (Tryz.prog.info? 24).map (·.size) = some 2 := by kernel_rfl
theorem oneSt (C : Int) (a : Option Addr) (n c : Nat) : (#[.int .i64 C, Value.slice a n c] : Array Value).all (·.oneCell') = true := by kernel_rfl
theorem below_setRowS {B g : Nat} {w0 w : World} (h : Below B w0 w) (hg : B ≤ g) (cs : Array Value) : Below B w0 (w.setRow g cs) :=
  h.trans ⟨rfl, rfl, rfl, by simp [World.setRow], fun k hk => setRow_block w g cs k (by omega)⟩
theorem nd_tot (L : List Nd) (i : Nat) (hi : i < L.length) : (ndAt L i).d.length ≤ totN L := by
  have h1 := totN_succ L i hi
  have h2 := totN_le L (i + 1)
  omega
theorem OwnN.nilV {W : World} {base : Nat} {e : TypeId} {m : Nat} {v : Value} {L : List NE} {vs : List Value} (h : OwnN W base e m v L vs) : NilV vs := by
  intro i a n c hu ha
  have hi : i < vs.length := (List.getElem?_eq_some_iff.1 hu).1
  rcases (h.dat i _ _ hu (List.getElem?_eq_getElem (by rw [← h.len]; exact hi))).2 with ⟨e, _⟩ | ⟨g, cap, cur, e, _⟩
  · injection e
  · subst ha
    injection e with e
    cases e
theorem st_full {w : World} {b : Nat} {C : Int} {v : Value} {t : TypeId} (h : Blk w b #[.int .i64 C, v] t) : w.rangeAt b 0 [.int .i64 C, v] := by
  intro j u hu
  rw [Nat.zero_add, h.cell j]
  simpa using hu
end Go.Proofs.YtplieplmhdfndaaGreatDoor

namespace Go.Proofs.YtplieplmhdfndaaGreatDoor
set_option linter.unusedVariables false
set_option linter.unusedSimpArgs false
open Go.ChangeShapes Go.WideShapes Go.ChangeAt Go.RowKit

theorem cells1n : Tryz.prog.cellsOf 3 = 1 := by kernel_rfl
theorem cells1b : Tryz.prog.cellsOf 45 = 1 := by kernel_rfl
theorem cellsLN : Tryz.prog.cellsOf 118 = 10 := by kernel_rfl
theorem take_oneN {l : List Value} {o : Nat} {c : Value} (h : (l.drop o).take 1 = [c]) : l[o]? = some c := by
  have h2 : ((l.drop o).take 1)[0]? = some c := by rw [h]; rfl
  simpa using h2
theorem open_bytes {H : Type} {enc : TypeId × Value → H} {W : World} {base : Nat} {held : Bool} {fuel : Nat} {cs : List Value} {x : DataW H × List MemPlace} (hf : DataW.trod enc Tryz.prog W base (fun _ => true) held fuel 45 cs = some x) :
    ∃ v zs, cs = [v] ∧ Rd .u8 W v zs ∧ ∀ z ∈ zs, 0 ≤ z ∧ z < 256 := by
  rcases open_ints Tryz.underlying45 Tryz.underlying5 (by kernel_rfl) hf with ⟨hcs, _⟩ | ⟨x, l, c, zs, hcs, _, hl, hm, hz, _, hcell, hwz⟩
  · have w0 : IsRow .u8 W none 0 0 [] := .inl ⟨rfl, rfl, rfl, rfl⟩
    obtain ⟨hrd, hlen, hwf⟩ := Rd.of_row w0
    exact ⟨_, _, hcs, hrd, bytes_bd hwf⟩
  · have w0 : IsRow .u8 W (some x) l c zs := .inr ⟨_, rfl, hl, hm, by simpa using hz, hcell, hwz⟩
    obtain ⟨hrd, hlen, hwf⟩ := Rd.of_row w0
    exact ⟨_, _, hcs, hrd, bytes_bd hwf⟩
set_option maxRecDepth 100000 in
theorem open_node_cells {H : Type} {enc : TypeId × Value → H} {W : World} {base : Nat} {held : Bool} {fuel : Nat} {cs : List Value} {x : DataW H × List MemPlace} (hsz : cs.length = 10) (hf : DataW.trod enc Tryz.prog W base (fun _ => true) held fuel 118 cs = some x) :
    ∃ k l m u g p e t c v zs, cs = [.int .i64 k, .int .i64 l, .int .i64 m, .int .i64 u, .int .i64 g, .int .i64 p, .int .i64 e, .int .i64 t, .int .i64 c, v] ∧ Rd .u8 W v zs ∧ ∀ z ∈ zs, 0 ≤ z ∧ z < 256 := by
  obtain ⟨xs, n, _, _, _, hl, hfld⟩ := DataW.trod_struct Tryz.underlying118 hf
  have hl10 : xs.length = 10 := hl
  have h0 := hfld 0 _ rfl
  rw [List.getElem?_eq_getElem (show 0 < xs.length by omega)] at h0
  obtain ⟨x0, e0, _⟩ := DataW.trod_int Tryz.underlying3 h0
  change (cs.drop 0).take (Tryz.prog.cellsOf 3) = _ at e0
  have h1 := hfld 1 _ rfl
  rw [List.getElem?_eq_getElem (show 1 < xs.length by omega)] at h1
  obtain ⟨x1, e1, _⟩ := DataW.trod_int Tryz.underlying3 h1
  change (cs.drop 1).take (Tryz.prog.cellsOf 3) = _ at e1
  have h2 := hfld 2 _ rfl
  rw [List.getElem?_eq_getElem (show 2 < xs.length by omega)] at h2
  obtain ⟨x2, e2, _⟩ := DataW.trod_int Tryz.underlying3 h2
  change (cs.drop 2).take (Tryz.prog.cellsOf 3) = _ at e2
  have h3 := hfld 3 _ rfl
  rw [List.getElem?_eq_getElem (show 3 < xs.length by omega)] at h3
  obtain ⟨x3, e3, _⟩ := DataW.trod_int Tryz.underlying3 h3
  change (cs.drop 3).take (Tryz.prog.cellsOf 3) = _ at e3
  have h4 := hfld 4 _ rfl
  rw [List.getElem?_eq_getElem (show 4 < xs.length by omega)] at h4
  obtain ⟨x4, e4, _⟩ := DataW.trod_int Tryz.underlying3 h4
  change (cs.drop 4).take (Tryz.prog.cellsOf 3) = _ at e4
  have h5 := hfld 5 _ rfl
  rw [List.getElem?_eq_getElem (show 5 < xs.length by omega)] at h5
  obtain ⟨x5, e5, _⟩ := DataW.trod_int Tryz.underlying3 h5
  change (cs.drop 5).take (Tryz.prog.cellsOf 3) = _ at e5
  have h6 := hfld 6 _ rfl
  rw [List.getElem?_eq_getElem (show 6 < xs.length by omega)] at h6
  obtain ⟨x6, e6, _⟩ := DataW.trod_int Tryz.underlying3 h6
  change (cs.drop 6).take (Tryz.prog.cellsOf 3) = _ at e6
  have h7 := hfld 7 _ rfl
  rw [List.getElem?_eq_getElem (show 7 < xs.length by omega)] at h7
  obtain ⟨x7, e7, _⟩ := DataW.trod_int Tryz.underlying3 h7
  change (cs.drop 7).take (Tryz.prog.cellsOf 3) = _ at e7
  have h8 := hfld 8 _ rfl
  rw [List.getElem?_eq_getElem (show 8 < xs.length by omega)] at h8
  obtain ⟨x8, e8, _⟩ := DataW.trod_int Tryz.underlying3 h8
  change (cs.drop 8).take (Tryz.prog.cellsOf 3) = _ at e8
  have h9 := hfld 9 _ rfl
  rw [List.getElem?_eq_getElem (show 9 < xs.length by omega)] at h9
  obtain ⟨v, zs, e9, hrd, hbd⟩ := open_bytes h9
  change (cs.drop 9).take (Tryz.prog.cellsOf 45) = _ at e9
  rw [cells1b] at e9
  rw [cells1n] at e0 e1 e2 e3 e4 e5 e6 e7 e8
  have f0 := take_oneN e0
  have f1 := take_oneN e1
  have f2 := take_oneN e2
  have f3 := take_oneN e3
  have f4 := take_oneN e4
  have f5 := take_oneN e5
  have f6 := take_oneN e6
  have f7 := take_oneN e7
  have f8 := take_oneN e8
  have f9 := take_oneN e9
  refine ⟨x0, x1, x2, x3, x4, x5, x6, x7, x8, v, zs, ?_, hrd, hbd⟩
  apply List.ext_getElem?
  intro i
  rcases Nat.lt_or_ge i 10 with h | h
  · match i, h with
    | 0, _ => exact f0
    | 1, _ => exact f1
    | 2, _ => exact f2
    | 3, _ => exact f3
    | 4, _ => exact f4
    | 5, _ => exact f5
    | 6, _ => exact f6
    | 7, _ => exact f7
    | 8, _ => exact f8
    | 9, _ => exact f9
  · rw [List.getElem?_eq_none (by omega), List.getElem?_eq_none (by simp; omega)]
end Go.Proofs.YtplieplmhdfndaaGreatDoor
