/- Marks of slices of structs; two slices of Put that are the same. Two lists of log entries that are the same. -/
import Derived.Test.YthkoflpcinbgeaaZq45
import Derived.Deep.MidRow
import Derived.Deep.RegionHeld3
import Derived.Test.YthkoflpcinbgeaaZq43
namespace Go.Proofs.Ythkoflpcinbgeaa
set_option linter.unusedVariables false
set_option linter.unusedSimpArgs false
open Go.RowKit

/-- The marks of an element, from k on. -/
def mkE (m k : Nat) (l : NE) : NE := ((List.range m).map fun j => Value.int .i64 ((k + j : Nat) : Int), mk8 (k + m) l.2.length)
/-- The marks of a list, from k on, and what comes behind them. -/
def mkN (m : Nat) : Nat → List NE → List NE
  | _, [] => []
  | k, l :: L => mkE m k l :: mkN m (k + m + l.2.length) L
def endN (m : Nat) : Nat → List NE → Nat
  | k, [] => k
  | k, l :: L => endN m (k + m + l.2.length) L
theorem mkN_len (m : Nat) : ∀ (L : List NE) (k : Nat), (mkN m k L).length = L.length
  | [], _ => rfl
  | l :: L, k => by simp [mkN, mkN_len m L]
theorem endN_snoc (m : Nat) : ∀ (L : List NE) (k : Nat) (l : NE), endN m k (L ++ [l]) = endN m k L + m + l.2.length
  | [], _, _ => rfl
  | x :: L, k, l => by simp only [List.cons_append, endN]; rw [endN_snoc m L]
theorem mkN_snoc (m : Nat) : ∀ (L : List NE) (k : Nat) (l : NE), mkN m k (L ++ [l]) = mkN m k L ++ [mkE m (endN m k L) l]
  | [], _, _ => rfl
  | x :: L, k, l => by simp only [List.cons_append, mkN, endN]; rw [mkN_snoc m L]
theorem endN_le (m : Nat) : ∀ (L : List NE) (k : Nat), k ≤ endN m k L
  | [], _ => Nat.le_refl _
  | l :: L, k => Nat.le_trans (by omega) (endN_le m L (k + m + l.2.length))
theorem endN_take (m : Nat) (L : List NE) (k i : Nat) (l : NE) (hl : L[i]? = some l) : endN m k (L.take (i + 1)) = endN m k (L.take i) + m + l.2.length := by
  rw [List.take_add_one, hl]
  exact endN_snoc m _ k l
theorem endN_mono (m : Nat) (L : List NE) (k : Nat) : ∀ i, endN m k (L.take i) ≤ endN m k L := by
  intro i
  have e : endN m k L = endN m (endN m k (L.take i)) (L.drop i) := by
    have gen : ∀ (A B : List NE) (k : Nat), endN m k (A ++ B) = endN m (endN m k A) B := by
      intro A
      induction A with
      | nil => intro B k; rfl
      | cons x A ih => intro B k; simp only [List.cons_append, endN]; rw [ih]
    conv => lhs; rw [← List.take_append_drop i L]
    exact gen _ _ _
  rw [e]
  exact endN_le m _ _
theorem mk_step (m : Nat) (L : List NE) (k i : Nat) (l : NE) (hl : L[i]? = some l) : (mkN m k (L.take i) ++ L.drop i).set i (mkE m (endN m k (L.take i)) l) = mkN m k (L.take (i + 1)) ++ L.drop (i + 1) := by
  have hi : i < L.length := (List.getElem?_eq_some_iff.1 hl).1
  have e : L.take (i + 1) = L.take i ++ [l] := by rw [List.take_add_one, hl]; rfl
  have e2 : L.drop i = l :: L.drop (i + 1) := by
    rw [List.drop_eq_getElem_cons hi]
    rw [List.getElem?_eq_getElem hi] at hl
    rw [Option.some.inj hl]
  have hlen : (mkN m k (L.take i)).length = i := by rw [mkN_len]; simp; omega
  rw [e, mkN_snoc, e2, List.set_append_right _ _ (by omega), hlen, Nat.sub_self, List.set_cons_zero, List.append_assoc]
  rfl
theorem mk_at (m : Nat) (L : List NE) (k i : Nat) (l : NE) (hl : L[i]? = some l) : (mkN m k (L.take i) ++ L.drop i)[i]? = some l := by
  have hi : i < L.length := (List.getElem?_eq_some_iff.1 hl).1
  have hlen : (mkN m k (L.take i)).length = i := by rw [mkN_len]; simp; omega
  rw [List.getElem?_append_right (by omega), hlen, Nat.sub_self, List.getElem?_drop, Nat.add_zero]
  exact hl
theorem mkN_at (m : Nat) : ∀ (L : List NE) (k i : Nat) (l : NE), L[i]? = some l → (mkN m k L)[i]? = some (mkE m (endN m k (L.take i)) l)
  | [], _, _, _, h => by simp at h
  | x :: L, k, 0, l, h => by
    simp at h
    subst h
    rfl
  | x :: L, k, i + 1, l, h => by
    simp only [mkN, List.getElem?_cons_succ, List.take_succ_cons, endN]
    exact mkN_at m L _ i l (by simpa using h)
/-- Nothing turned but the row and the bytes. -/
structure KpN (w w' : World) (v : Value) (vs : List Value) : Prop where
  os : w'.os = w.os
  tape : w'.tape = w.tape
  output : w'.output = w.output
  size : w.heap.size ≤ w'.heap.size
  block : ∀ b, b < w.heap.size → v.ownBlock ≠ some b → (∀ u ∈ vs, u.ownBlock ≠ some b) → w'.heap[b]? = w.heap[b]?
theorem KpN.refl (w : World) (v : Value) (vs : List Value) : KpN w w v vs := ⟨rfl, rfl, rfl, Nat.le_refl _, fun _ _ _ _ => rfl⟩
theorem KpN.row {w w' w2 : World} {v : Value} {vs : List Value} (h : KpN w w' v vs) (g : w'.grownBy w2 v.ownBlock) : KpN w w2 v vs :=
  ⟨g.os.trans h.os, g.tape.trans h.tape, g.output.trans h.output, Nat.le_trans h.size g.size, fun b hb h1 h2 => (g.block b (Nat.lt_of_lt_of_le hb h.size) (fun e => h1 e.symm)).trans (h.block b hb h1 h2)⟩
theorem KpN.dat {w w' w2 : World} {v : Value} {vs : List Value} (h : KpN w w' v vs) (u : Value) (hu : u ∈ vs) (g : w'.grownBy w2 u.ownBlock) : KpN w w2 v vs :=
  ⟨g.os.trans h.os, g.tape.trans h.tape, g.output.trans h.output, Nat.le_trans h.size g.size, fun b hb h1 h2 => (g.block b (Nat.lt_of_lt_of_le hb h.size) (fun e => h2 u hu e.symm)).trans (h.block b hb h1 h2)⟩
theorem set_grown (w : World) (g o : Nat) (x : Value) : w.grownBy (w.setCell ⟨g, o, none⟩ x) (some g) :=
  ⟨rfl, rfl, rfl, by simp [World.setCell], fun k hk hne => Below.heap_setCell w ⟨g, o, none⟩ x k (fun e => hne (by rw [e]))⟩

end Go.Proofs.Ythkoflpcinbgeaa

namespace Go.Proofs.Ythkoflpcinbgeaa
set_option linter.unusedVariables false
set_option linter.unusedSimpArgs false
open Go.RowKit

theorem infoLEq : (Try.prog.info? 36).map (·.size) = some 9 := by kernel_rfl
set_option maxRecDepth 100000 in
set_option maxHeartbeats 1000000 in
theorem eqLE_same (en eK eA eB eU eG : Int) (ep eq : ByteArray) (u1 u2 : Value) (zs : List Int) (w : World) (h1 : Rd .u8 w u1 zs) (h2 : Rd .u8 w u2 zs) :
    Calls Try.prog 21 #[.agg #[.int .i64 en, .int .i64 eK, .int .i64 eA, .int .i64 eB, .int .i64 eU, .int .i64 eG, .string ep, .string eq, u1], .agg #[.int .i64 en, .int .i64 eK, .int .i64 eA, .int .i64 eB, .int .i64 eU, .int .i64 eG, .string ep, .string eq, u2]] w fun e w' => e = .returned (.bool true) ∧ Below w.heap.size w w' := by
  obtain ⟨a1, c1, rfl⟩ := rd_shape h1
  obtain ⟨a2, c2, rfl⟩ := rd_shape h2
  have HB := hide (show ∀ A B, Below w.heap.size w ((w.alloc A).alloc B) from fun A B => ((Below.refl _ _).alloc (Nat.le_refl _) _).alloc (by simp) _)
  have H1 := hide h1
  have H2 := hide h2
  clear h1 h2
  have qx0 : (en != en) = false := by simp
  go_enter Try.func21, Try.ntmps21
  go_wp2_with (go_at_call 34; fail)
  refine (eqOp_same eK eA eB eU eG ep eq _ _ zs _ (H1.out.below (HB.out _ _)) (H2.out.below (HB.out _ _))).mono ?_
  rintro e w1 ⟨rfl, b1⟩
  have B1 := hide ((HB.out _ _).trans (b1.mono (HB.out _ _).size))
  clear b1
  go_wp2
  go_ret
  exact ⟨rfl, B1.out⟩

set_option maxRecDepth 100000 in
set_option maxHeartbeats 2000000 in
theorem eqLES_same (v1 v2 : Value) (P : List EntL) (us1 us2 : List Value) (w : World) (h1 : RdN w 8 v1 (P.map neE) us1) (h2 : RdN w 8 v2 (P.map neE) us2) :
    Calls Try.prog 13 #[v1, v2] w fun e w' => e = .returned (.bool true) ∧ Below w.heap.size w w' := by
  obtain ⟨a1, c1, rfl⟩ : ∃ a cap, v1 = .slice a P.length cap := by obtain ⟨a, cap, e, _⟩ := h1.row; exact ⟨a, cap, by simpa using e⟩
  obtain ⟨a2, c2, rfl⟩ : ∃ a cap, v2 = .slice a P.length cap := by obtain ⟨a, cap, e, _⟩ := h2.row; exact ⟨a, cap, by simpa using e⟩
  have hm : P.length ≤ 9223372036854775807 := by obtain ⟨a, cap, _, _, g1, g2⟩ := h1.row; unfold maxLen at g2; simp at g1; omega
  have H1 := hide (show RdN w 8 (.slice a1 (P.map neE).length c1) (P.map neE) us1 from by simpa using h1)
  have H2 := hide (show RdN w 8 (.slice a2 (P.map neE).length c2) (P.map neE) us2 from by simpa using h2)
  clear h1 h2
  have hcc : ((P.length : Int) != (P.length : Int)) = false := by simp
  go_enter Try.func13, Try.ntmps13
  go_wp2
  go_loopw [5] (fun i wr => ∃ k : Nat, k ≤ P.length ∧ i = .int .i64 k ∧ Below w.heap.size w wr) (fun i _ => P.length - (intOf i).toNat)
  case atStart => exact ⟨0, Nat.zero_le _, rfl, Below.refl _ _⟩
  case round =>
    obtain ⟨k, hk, rfl, hb1⟩ := hrel
    have HK := hide hb1
    clear hb1
    by_cases hlt : k < P.length
    · obtain ⟨p, hp⟩ : ∃ p, P[k]? = some p := ⟨_, List.getElem?_eq_getElem hlt⟩
      obtain ⟨en, eK, eA, eB, eU, eG, ep, eq, es⟩ := p
      obtain ⟨b, off, u, e0, hb0, hu, hrd, hrg⟩ := (H1.out.below HK.out).at (i := k) (l := neE ⟨en, eK, eA, eB, eU, eG, ep, eq, es⟩) (by rw [List.getElem?_map, hp]; rfl)
      obtain ⟨b', off', u', e0', hb0', hu', hrd', hrg'⟩ := (H2.out.below HK.out).at (i := k) (l := neE ⟨en, eK, eA, eB, eU, eG, ep, eq, es⟩) (by rw [List.getElem?_map, hp]; rfl)
      subst e0
      subst e0'
      have HR := hide (show wr.rangeAt b (off + k * 9) [.int .i64 (en : Int), .int .i64 eK, .int .i64 eA, .int .i64 eB, .int .i64 eU, .int .i64 eG, .string ep, .string eq, u] from hrg)
      have HR' := hide (show wr.rangeAt b' (off' + k * 9) [.int .i64 (en : Int), .int .i64 eK, .int .i64 eA, .int .i64 eB, .int .i64 eU, .int .i64 eG, .string ep, .string eq, u'] from hrg')
      have HD := hide (And.intro (show Rd .u8 wr u es from hrd) (show Rd .u8 wr u' es from hrd'))
      clear hrg hrg' hrd hrd' hu hu' hp
      go_wp2_with fail
      refine wp_region_noPanic ?_
      refine wp_region_held_drew (S := fun w' => w'.rangeAt b (off + k * 9) [.int .i64 (en : Int), .int .i64 eK, .int .i64 eA, .int .i64 eB, .int .i64 eU, .int .i64 eG, .string ep, .string eq, u] ∧ w'.rangeAt b' (off' + k * 9) [.int .i64 (en : Int), .int .i64 eK, .int .i64 eA, .int .i64 eB, .int .i64 eU, .int .i64 eG, .string ep, .string eq, u']) (by kernel_rfl) ⟨HR.out, HR'.out⟩ (fun hH => ?_)
      refine wpAnyH_take (i := 0) (oi := _) (v := .slice (some ⟨b, off, none⟩) P.length c1) rfl (by kernel_rfl) (by kernel_rfl) (by kernel_rfl) (fun _ _ _ h => h) (Or.inl ⟨by rfl, fun w' hw' => by go_simp⟩) hH ?_
      try simp only [Act.put, List.getElem_toArray, List.getElem_cons_zero, List.getElem_cons_succ, List.setIfInBounds_toArray, List.set_cons_zero, List.set_cons_succ]
      refine wpAnyH_take (i := 1) (oi := _) (v := .int .i64 k) rfl (by kernel_rfl) (by kernel_rfl) (by kernel_rfl) (fun _ _ _ h => h) (Or.inl ⟨by rfl, fun w' hw' => by go_simp⟩) hH ?_
      try simp only [Act.put, List.getElem_toArray, List.getElem_cons_zero, List.getElem_cons_succ, List.setIfInBounds_toArray, List.set_cons_zero, List.set_cons_succ]
      refine wpAnyH_take (i := 2) (oi := _) (v := .pointer (some ⟨b, off + k * 9, none⟩)) rfl (by kernel_rfl) (by kernel_rfl) (by kernel_rfl) (fun _ _ _ h => h) (Or.inl ⟨by rfl, fun w' hw' => by go_simp⟩) hH ?_
      try simp only [Act.put, List.getElem_toArray, List.getElem_cons_zero, List.getElem_cons_succ, List.setIfInBounds_toArray, List.set_cons_zero, List.set_cons_succ]
      refine wpAnyH_take (i := 3) (oi := _) (v := .agg #[.int .i64 (en : Int), .int .i64 eK, .int .i64 eA, .int .i64 eB, .int .i64 eU, .int .i64 eG, .string ep, .string eq, u]) rfl (by kernel_rfl) (by kernel_rfl) (by kernel_rfl) (fun _ _ _ h => h) (yieldsIf_load_mid (by rfl) 36 _ rfl b (off + k * 9) rfl [.int .i64 (en : Int), .int .i64 eK, .int .i64 eA, .int .i64 eB, .int .i64 eU, .int .i64 eG, .string ep, .string eq, u] _ (fun w' h => h.1) Try.underlying36 rfl infoLEq) hH ?_
      try simp only [Act.put, List.getElem_toArray, List.getElem_cons_zero, List.getElem_cons_succ, List.setIfInBounds_toArray, List.set_cons_zero, List.set_cons_succ]
      refine wpAnyH_take (i := 4) (oi := _) (v := .slice (some ⟨b', off', none⟩) P.length c2) rfl (by kernel_rfl) (by kernel_rfl) (by kernel_rfl) (fun _ _ _ h => h) (Or.inl ⟨by rfl, fun w' hw' => by go_simp⟩) hH ?_
      try simp only [Act.put, List.getElem_toArray, List.getElem_cons_zero, List.getElem_cons_succ, List.setIfInBounds_toArray, List.set_cons_zero, List.set_cons_succ]
      refine wpAnyH_take (i := 5) (oi := _) (v := .int .i64 k) rfl (by kernel_rfl) (by kernel_rfl) (by kernel_rfl) (fun _ _ _ h => h) (Or.inl ⟨by rfl, fun w' hw' => by go_simp⟩) hH ?_
      try simp only [Act.put, List.getElem_toArray, List.getElem_cons_zero, List.getElem_cons_succ, List.setIfInBounds_toArray, List.set_cons_zero, List.set_cons_succ]
      refine wpAnyH_take (i := 6) (oi := _) (v := .pointer (some ⟨b', off' + k * 9, none⟩)) rfl (by kernel_rfl) (by kernel_rfl) (by kernel_rfl) (fun _ _ _ h => h) (Or.inl ⟨by rfl, fun w' hw' => by go_simp⟩) hH ?_
      try simp only [Act.put, List.getElem_toArray, List.getElem_cons_zero, List.getElem_cons_succ, List.setIfInBounds_toArray, List.set_cons_zero, List.set_cons_succ]
      refine wpAnyH_take (i := 7) (oi := _) (v := .agg #[.int .i64 (en : Int), .int .i64 eK, .int .i64 eA, .int .i64 eB, .int .i64 eU, .int .i64 eG, .string ep, .string eq, u']) rfl (by kernel_rfl) (by kernel_rfl) (by kernel_rfl) (fun _ _ _ h => h) (yieldsIf_load_mid (by rfl) 36 _ rfl b' (off' + k * 9) rfl [.int .i64 (en : Int), .int .i64 eK, .int .i64 eA, .int .i64 eB, .int .i64 eU, .int .i64 eG, .string ep, .string eq, u'] _ (fun w' h => h.2) Try.underlying36 rfl infoLEq) hH ?_
      try simp only [Act.put, List.getElem_toArray, List.getElem_cons_zero, List.getElem_cons_succ, List.setIfInBounds_toArray, List.set_cons_zero, List.set_cons_succ]
      refine wpAnyH_ready (rs := [8]) (by kernel_rfl) (by simp) ?_
      refine AllReadyH.cons (o := _) rfl (fun K hK => ?_) AllReadyH.nil
      go_simp
      refine (eqLE_same (en : Int) eK eA eB eU eG ep eq _ _ es _ (HD.out.1.below ((Below.refl _ _).drew)) (HD.out.2.below ((Below.refl _ _).drew))).mono ?_
      rintro e w2 ⟨rfl, b2⟩
      have b3 := ((Below.refl _ _).drew).trans b2
      have B2 := hide (HK.out.trans (b3.mono HK.out.size))
      have s2 : w2.rangeAt b (off + k * 9) [.int .i64 (en : Int), .int .i64 eK, .int .i64 eA, .int .i64 eB, .int .i64 eU, .int .i64 eG, .string ep, .string eq, u] ∧ w2.rangeAt b' (off' + k * 9) [.int .i64 (en : Int), .int .i64 eK, .int .i64 eA, .int .i64 eB, .int .i64 eU, .int .i64 eG, .string ep, .string eq, u'] := ⟨fun j v hv => (b3.cell (p := ⟨b, off + k * 9 + j, none⟩) hb0).trans (HR.out j v hv), fun j v hv => (b3.cell (p := ⟨b', off' + k * 9 + j, none⟩) hb0').trans (HR'.out j v hv)⟩
      refine hK.out _ _ s2 (fun hH => ?_)
      clear hK K s2 b2 b3 HK
      try simp only [Act.put, List.getElem_toArray, List.getElem_cons_zero, List.getElem_cons_succ, List.setIfInBounds_toArray, List.set_cons_zero, List.set_cons_succ]
      refine wpAnyH_take (i := 9) (oi := _) (v := .bool false) rfl (by kernel_rfl) (by kernel_rfl) (by kernel_rfl) (fun _ _ _ h => h) (Or.inl ⟨by rfl, fun w' hw' => by go_simp⟩) hH ?_
      try simp only [Act.put, List.getElem_toArray, List.getElem_cons_zero, List.getElem_cons_succ, List.setIfInBounds_toArray, List.set_cons_zero, List.set_cons_succ]
      refine wpAnyH_done (by kernel_rfl) (NoPanic.normal ?_) _
      clear hH
      go_wp2
      go_roundw
      case rel => exact ⟨k + 1, by omega, by go_num, B2.out⟩
      case measure => simp [intOf]; omega
    · go_wp2
      go_ret
      exact ⟨rfl, HK.out⟩
end Go.Proofs.Ythkoflpcinbgeaa
