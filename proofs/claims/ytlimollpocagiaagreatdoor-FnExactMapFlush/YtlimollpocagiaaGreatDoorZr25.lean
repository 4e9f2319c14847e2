/- Marks of slices of structs; two slices of Put that are the same. What a flush in memory becomes by each change. -/
import Derived.Test.YtlimollpocagiaaGreatDoorZr24
import Derived.Deep.MidRow
import Derived.Deep.RegionHeld3
import Derived.Laws.BitsLemmas
namespace Go.Proofs.YtlimollpocagiaaGreatDoor
open List (getElem_toArray getElem_cons_zero getElem_cons_succ setIfInBounds_toArray set_cons_zero set_cons_succ)
set_option linter.unusedVariables false
set_option linter.unusedSimpArgs false
open Go.RowKit

/-- The marks of an element, from k on. -/
def mkE (m k : Nat) (l : NE) : NE := ((List.range m).map fun j => Value.int .i64 ((k + j : Nat) : Int), mk8 (k + m) l.2.length)
/-- The marks of a list, from k on, and what comes behind them. -/
def mkN (m : Nat) : Nat → List NE → List NE
  | _, [] => []
  | k, l :: L => mkE m k l :: mkN m (k + m + l.2.length) L
def endN (m : Nat) : Nat → List NE → Nat
  | k, [] => k
  | k, l :: L => endN m (k + m + l.2.length) L
theorem mkN_len (m : Nat) : ∀ (L : List NE) (k : Nat), (mkN m k L).length = L.length
  | [], _ => rfl
  | l :: L, k => by simp [mkN, mkN_len m L]
theorem endN_snoc (m : Nat) : ∀ (L : List NE) (k : Nat) (l : NE), endN m k (L ++ [l]) = endN m k L + m + l.2.length
  | [], _, _ => rfl
  | x :: L, k, l => by simp only [List.cons_append, endN]; rw [endN_snoc m L]
theorem mkN_snoc (m : Nat) : ∀ (L : List NE) (k : Nat) (l : NE), mkN m k (L ++ [l]) = mkN m k L ++ [mkE m (endN m k L) l]
  | [], _, _ => rfl
  | x :: L, k, l => by simp only [List.cons_append, mkN, endN]; rw [mkN_snoc m L]
theorem endN_le (m : Nat) : ∀ (L : List NE) (k : Nat), k ≤ endN m k L
  | [], _ => Nat.le_refl _
  | l :: L, k => Nat.le_trans (by omega) (endN_le m L (k + m + l.2.length))
theorem endN_take (m : Nat) (L : List NE) (k i : Nat) (l : NE) (hl : L[i]? = some l) : endN m k (L.take (i + 1)) = endN m k (L.take i) + m + l.2.length := by
  rw [List.take_add_one, hl]
  exact endN_snoc m _ k l
theorem endN_mono (m : Nat) (L : List NE) (k : Nat) : ∀ i, endN m k (L.take i) ≤ endN m k L := by
  intro i
  have e : endN m k L = endN m (endN m k (L.take i)) (L.drop i) := by
    have gen : ∀ (A B : List NE) (k : Nat), endN m k (A ++ B) = endN m (endN m k A) B := by
      intro A
      induction A with
      | nil => intro B k; rfl
      | cons x A ih => intro B k; simp only [List.cons_append, endN]; rw [ih]
    conv => lhs; rw [← List.take_append_drop i L]
    exact gen _ _ _
  rw [e]
  exact endN_le m _ _
theorem mk_step (m : Nat) (L : List NE) (k i : Nat) (l : NE) (hl : L[i]? = some l) : (mkN m k (L.take i) ++ L.drop i).set i (mkE m (endN m k (L.take i)) l) = mkN m k (L.take (i + 1)) ++ L.drop (i + 1) := by
  have hi : i < L.length := (List.getElem?_eq_some_iff.1 hl).1
  have e : L.take (i + 1) = L.take i ++ [l] := by rw [List.take_add_one, hl]; rfl
  have e2 : L.drop i = l :: L.drop (i + 1) := by
    rw [List.drop_eq_getElem_cons hi]
    rw [List.getElem?_eq_getElem hi] at hl
    rw [Option.some.inj hl]
  have hlen : (mkN m k (L.take i)).length = i := by rw [mkN_len]; simp; omega
  rw [e, mkN_snoc, e2, List.set_append_right _ _ (by omega), hlen, Nat.sub_self, List.set_cons_zero, List.append_assoc]
  rfl
theorem mk_at (m : Nat) (L : List NE) (k i : Nat) (l : NE) (hl : L[i]? = some l) : (mkN m k (L.take i) ++ L.drop i)[i]? = some l := by
  have hi : i < L.length := (List.getElem?_eq_some_iff.1 hl).1
  have hlen : (mkN m k (L.take i)).length = i := by rw [mkN_len]; simp; omega
  rw [List.getElem?_append_right (by omega), hlen, Nat.sub_self, List.getElem?_drop, Nat.add_zero]
  exact hl
theorem mkN_at (m : Nat) : ∀ (L : List NE) (k i : Nat) (l : NE), L[i]? = some l → (mkN m k L)[i]? = some (mkE m (endN m k (L.take i)) l)
  | [], _, _, _, h => by simp at h
  | x :: L, k, 0, l, h => by
    simp at h
    subst h
    rfl
  | x :: L, k, i + 1, l, h => by
    simp only [mkN, List.getElem?_cons_succ, List.take_succ_cons, endN]
    exact mkN_at m L _ i l (by simpa using h)
/-- Nothing turned but the row and the bytes. -/
structure KpN (w w' : World) (v : Value) (vs : List Value) : Prop where
  os : w'.os = w.os
  tape : w'.tape = w.tape
  output : w'.output = w.output
  size : w.heap.size ≤ w'.heap.size
  block : ∀ b, b < w.heap.size → v.ownBlock ≠ some b → (∀ u ∈ vs, u.ownBlock ≠ some b) → w'.heap[b]? = w.heap[b]?
theorem KpN.refl (w : World) (v : Value) (vs : List Value) : KpN w w v vs := ⟨rfl, rfl, rfl, Nat.le_refl _, fun _ _ _ _ => rfl⟩
theorem KpN.row {w w' w2 : World} {v : Value} {vs : List Value} (h : KpN w w' v vs) (g : w'.grownBy w2 v.ownBlock) : KpN w w2 v vs :=
  ⟨g.os.trans h.os, g.tape.trans h.tape, g.output.trans h.output, Nat.le_trans h.size g.size, fun b hb h1 h2 => (g.block b (Nat.lt_of_lt_of_le hb h.size) (fun e => h1 e.symm)).trans (h.block b hb h1 h2)⟩
theorem KpN.dat {w w' w2 : World} {v : Value} {vs : List Value} (h : KpN w w' v vs) (u : Value) (hu : u ∈ vs) (g : w'.grownBy w2 u.ownBlock) : KpN w w2 v vs :=
  ⟨g.os.trans h.os, g.tape.trans h.tape, g.output.trans h.output, Nat.le_trans h.size g.size, fun b hb h1 h2 => (g.block b (Nat.lt_of_lt_of_le hb h.size) (fun e => h2 u hu e.symm)).trans (h.block b hb h1 h2)⟩
theorem set_grown (w : World) (g o : Nat) (x : Value) : w.grownBy (w.setCell ⟨g, o, none⟩ x) (some g) :=
  ⟨rfl, rfl, rfl, by simp [World.setCell], fun k hk hne => Below.heap_setCell w ⟨g, o, none⟩ x k (fun e => hne (by rw [e]))⟩

set_option maxRecDepth 100000 in
theorem eqPut_same (x0 : Int) (u1 u2 : Value) (zs : List Int) (w : World) (h1 : Rd .u8 w u1 zs) (h2 : Rd .u8 w u2 zs) :
    Calls Tryz.prog 89 #[.agg #[.int .i64 x0, u1], .agg #[.int .i64 x0, u2]] w fun e w' => e = .returned (.bool true) ∧ Below w.heap.size w w' := by
  obtain ⟨a1, c1, rfl⟩ := rd_shape h1
  obtain ⟨a2, c2, rfl⟩ := rd_shape h2
  have HB := hide (show ∀ A B, Below w.heap.size w ((w.alloc A).alloc B) from fun A B => ((Below.refl _ _).alloc (Nat.le_refl _) _).alloc (by simp) _)
  have H1 := hide h1
  have H2 := hide h2
  clear h1 h2
  have qx0 : (x0 != x0) = false := by simp
  go_enter Tryz.func89, Tryz.ntmps89
  go_wp2_with fail
  refine (eqByteS_same _ _ zs _ (H1.out.below (HB.out _ _)) (H2.out.below (HB.out _ _))).mono ?_
  rintro e w1 ⟨rfl, b1⟩
  have B1 := hide ((HB.out _ _).trans (b1.mono (HB.out _ _).size))
  clear b1
  go_wp2
  go_ret
  exact ⟨rfl, B1.out⟩

set_option maxRecDepth 100000 in
set_option maxHeartbeats 2000000 in
theorem eqPutS_same (v1 v2 : Value) (P : List (Int × List Int)) (us1 us2 : List Value) (w : World) (h1 : RdN w 1 v1 (P.map neP) us1) (h2 : RdN w 1 v2 (P.map neP) us2) :
    Calls Tryz.prog 52 #[v1, v2] w fun e w' => e = .returned (.bool true) ∧ Below w.heap.size w w' := by
  obtain ⟨a1, c1, rfl⟩ : ∃ a cap, v1 = .slice a P.length cap := by obtain ⟨a, cap, e, _⟩ := h1.row; exact ⟨a, cap, by simpa using e⟩
  obtain ⟨a2, c2, rfl⟩ : ∃ a cap, v2 = .slice a P.length cap := by obtain ⟨a, cap, e, _⟩ := h2.row; exact ⟨a, cap, by simpa using e⟩
  have hm : P.length ≤ 9223372036854775807 := by obtain ⟨a, cap, _, _, g1, g2⟩ := h1.row; unfold maxLen at g2; simp at g1; omega
  have H1 := hide (show RdN w 1 (.slice a1 (P.map neP).length c1) (P.map neP) us1 from by simpa using h1)
  have H2 := hide (show RdN w 1 (.slice a2 (P.map neP).length c2) (P.map neP) us2 from by simpa using h2)
  clear h1 h2
  have hcc : ((P.length : Int) != (P.length : Int)) = false := by simp
  go_enter Tryz.func52, Tryz.ntmps52
  go_wp2
  go_loopw [5] (fun i wr => ∃ k : Nat, k ≤ P.length ∧ i = .int .i64 k ∧ Below w.heap.size w wr) (fun i _ => P.length - (intOf i).toNat)
  case atStart => exact ⟨0, Nat.zero_le _, rfl, Below.refl _ _⟩
  case round =>
    obtain ⟨k, hk, rfl, hb1⟩ := hrel
    have HK := hide hb1
    clear hb1
    by_cases hlt : k < P.length
    · obtain ⟨p, hp⟩ : ∃ p, P[k]? = some p := ⟨_, List.getElem?_eq_getElem hlt⟩
      obtain ⟨x0, zs⟩ := p
      obtain ⟨b, off, u, e0, hb0, hu, hrd, hrg⟩ := (H1.out.below HK.out).at (i := k) (l := neP (x0, zs)) (by rw [List.getElem?_map, hp]; rfl)
      obtain ⟨b', off', u', e0', hb0', hu', hrd', hrg'⟩ := (H2.out.below HK.out).at (i := k) (l := neP (x0, zs)) (by rw [List.getElem?_map, hp]; rfl)
      subst e0
      subst e0'
      have HR := hide (show wr.rangeAt b (off + k * 2) [.int .i64 x0, u] from hrg)
      have HR' := hide (show wr.rangeAt b' (off' + k * 2) [.int .i64 x0, u'] from hrg')
      have HD := hide (And.intro (show Rd .u8 wr u zs from hrd) (show Rd .u8 wr u' zs from hrd'))
      clear hrg hrg' hrd hrd' hu hu' hp
      go_wp2_with fail
      refine wp_region_noPanic ?_
      refine wp_region_held_drew (S := fun w' => w'.rangeAt b (off + k * 2) [.int .i64 x0, u] ∧ w'.rangeAt b' (off' + k * 2) [.int .i64 x0, u']) (by kernel_rfl) ⟨HR.out, HR'.out⟩ (fun hH => ?_)
      refine wpAnyH_take (i := 0) (oi := _) (v := .slice (some ⟨b, off, none⟩) P.length c1) rfl (by kernel_rfl) (by kernel_rfl) (by kernel_rfl) (fun _ _ _ h => h) (Or.inl ⟨by rfl, fun w' hw' => by go_simp⟩) hH ?_
      try simp only [Act.put, getElem_toArray, getElem_cons_zero, getElem_cons_succ, setIfInBounds_toArray, set_cons_zero, set_cons_succ]
      refine wpAnyH_take (i := 1) (oi := _) (v := .int .i64 k) rfl (by kernel_rfl) (by kernel_rfl) (by kernel_rfl) (fun _ _ _ h => h) (Or.inl ⟨by rfl, fun w' hw' => by go_simp⟩) hH ?_
      try simp only [Act.put, getElem_toArray, getElem_cons_zero, getElem_cons_succ, setIfInBounds_toArray, set_cons_zero, set_cons_succ]
      refine wpAnyH_take (i := 2) (oi := _) (v := .pointer (some ⟨b, off + k * 2, none⟩)) rfl (by kernel_rfl) (by kernel_rfl) (by kernel_rfl) (fun _ _ _ h => h) (Or.inl ⟨by rfl, fun w' hw' => by go_simp⟩) hH ?_
      try simp only [Act.put, getElem_toArray, getElem_cons_zero, getElem_cons_succ, setIfInBounds_toArray, set_cons_zero, set_cons_succ]
      refine wpAnyH_take (i := 3) (oi := _) (v := .agg #[.int .i64 x0, u]) rfl (by kernel_rfl) (by kernel_rfl) (by kernel_rfl) (fun _ _ _ h => h) (yieldsIf_load_mid (by rfl) 44 _ rfl b (off + k * 2) rfl [.int .i64 x0, u] _ (fun w' h => h.1) Tryz.underlying44 rfl infoP2) hH ?_
      try simp only [Act.put, getElem_toArray, getElem_cons_zero, getElem_cons_succ, setIfInBounds_toArray, set_cons_zero, set_cons_succ]
      refine wpAnyH_take (i := 4) (oi := _) (v := .slice (some ⟨b', off', none⟩) P.length c2) rfl (by kernel_rfl) (by kernel_rfl) (by kernel_rfl) (fun _ _ _ h => h) (Or.inl ⟨by rfl, fun w' hw' => by go_simp⟩) hH ?_
      try simp only [Act.put, getElem_toArray, getElem_cons_zero, getElem_cons_succ, setIfInBounds_toArray, set_cons_zero, set_cons_succ]
      refine wpAnyH_take (i := 5) (oi := _) (v := .int .i64 k) rfl (by kernel_rfl) (by kernel_rfl) (by kernel_rfl) (fun _ _ _ h => h) (Or.inl ⟨by rfl, fun w' hw' => by go_simp⟩) hH ?_
      try simp only [Act.put, getElem_toArray, getElem_cons_zero, getElem_cons_succ, setIfInBounds_toArray, set_cons_zero, set_cons_succ]
      refine wpAnyH_take (i := 6) (oi := _) (v := .pointer (some ⟨b', off' + k * 2, none⟩)) rfl (by kernel_rfl) (by kernel_rfl) (by kernel_rfl) (fun _ _ _ h => h) (Or.inl ⟨by rfl, fun w' hw' => by go_simp⟩) hH ?_
      try simp only [Act.put, getElem_toArray, getElem_cons_zero, getElem_cons_succ, setIfInBounds_toArray, set_cons_zero, set_cons_succ]
      refine wpAnyH_take (i := 7) (oi := _) (v := .agg #[.int .i64 x0, u']) rfl (by kernel_rfl) (by kernel_rfl) (by kernel_rfl) (fun _ _ _ h => h) (yieldsIf_load_mid (by rfl) 44 _ rfl b' (off' + k * 2) rfl [.int .i64 x0, u'] _ (fun w' h => h.2) Tryz.underlying44 rfl infoP2) hH ?_
      try simp only [Act.put, getElem_toArray, getElem_cons_zero, getElem_cons_succ, setIfInBounds_toArray, set_cons_zero, set_cons_succ]
      refine wpAnyH_ready (rs := [8]) (by kernel_rfl) (by simp) ?_
      refine AllReadyH.cons (o := _) rfl (fun K hK => ?_) AllReadyH.nil
      go_simp
      refine (eqPut_same x0 _ _ zs _ (HD.out.1.below ((Below.refl _ _).drew)) (HD.out.2.below ((Below.refl _ _).drew))).mono ?_
      rintro e w2 ⟨rfl, b2⟩
      have b3 := ((Below.refl _ _).drew).trans b2
      have B2 := hide (HK.out.trans (b3.mono HK.out.size))
      have s2 : w2.rangeAt b (off + k * 2) [.int .i64 x0, u] ∧ w2.rangeAt b' (off' + k * 2) [.int .i64 x0, u'] := ⟨fun j v hv => (b3.cell (p := ⟨b, off + k * 2 + j, none⟩) hb0).trans (HR.out j v hv), fun j v hv => (b3.cell (p := ⟨b', off' + k * 2 + j, none⟩) hb0').trans (HR'.out j v hv)⟩
      refine hK.out _ _ s2 (fun hH => ?_)
      clear hK K s2 b2 b3 HK
      try simp only [Act.put, getElem_toArray, getElem_cons_zero, getElem_cons_succ, setIfInBounds_toArray, set_cons_zero, set_cons_succ]
      refine wpAnyH_take (i := 9) (oi := _) (v := .bool false) rfl (by kernel_rfl) (by kernel_rfl) (by kernel_rfl) (fun _ _ _ h => h) (Or.inl ⟨by rfl, fun w' hw' => by go_simp⟩) hH ?_
      try simp only [Act.put, getElem_toArray, getElem_cons_zero, getElem_cons_succ, setIfInBounds_toArray, set_cons_zero, set_cons_succ]
      refine wpAnyH_done (by kernel_rfl) (NoPanic.normal ?_) _
      clear hH
      go_wp2
      go_roundw
      case rel => exact ⟨k + 1, by omega, by go_num, B2.out⟩
      case measure => simp [intOf]; omega
    · go_wp2
      go_ret
      exact ⟨rfl, HK.out⟩

end Go.Proofs.YtlimollpocagiaaGreatDoor

namespace Go.Proofs.YtlimollpocagiaaGreatDoor
open List (getElem_toArray getElem_cons_zero getElem_cons_succ setIfInBounds_toArray set_cons_zero set_cons_succ)
set_option linter.unusedVariables false
set_option linter.unusedSimpArgs false
open Go.RowKit

/-- The blocks that a flush owns. -/
def ownF (b : Nat) (R : Nat → Value) (vo : Value) (k : Nat) : Prop := k = b ∨ (∃ j, j < 8 ∧ (R j).ownBlock = some k) ∨ vo.ownBlock = some k
/-- Nothing turned but what a flush owns. -/
structure KpF (w w' : World) (b : Nat) (R : Nat → Value) (vo : Value) (R' : Nat → Value) (vo' : Value) : Prop where
  os : w'.os = w.os
  tape : w'.tape = w.tape
  output : w'.output = w.output
  size : w.heap.size ≤ w'.heap.size
  block : ∀ k, k < w.heap.size → ¬ ownF b R vo k → w'.heap[k]? = w.heap[k]?
  own : ∀ k, ownF b R' vo' k → ownF b R vo k ∨ w.heap.size ≤ k
theorem KpF.of_below {w w' : World} (b : Nat) (R : Nat → Value) (vo : Value) (h : Below w.heap.size w w') : KpF w w' b R vo R vo := ⟨h.os, h.tape, h.output, h.size, fun k hk _ => h.block k hk, fun k hk => .inl hk⟩
theorem KpF.trans {w w1 w2 : World} {b : Nat} {R R1 R2 : Nat → Value} {vo vo1 vo2 : Value} (h : KpF w w1 b R vo R1 vo1) (h2 : KpF w1 w2 b R1 vo1 R2 vo2) : KpF w w2 b R vo R2 vo2 :=
  ⟨h2.os.trans h.os, h2.tape.trans h.tape, h2.output.trans h.output, Nat.le_trans h.size h2.size,
    fun k hk hn => (h2.block k (Nat.lt_of_lt_of_le hk h.size) (fun ho => (h.own k ho).elim hn (fun h3 => by omega))).trans (h.block k hk hn),
    fun k hk => (h2.own k hk).elim (h.own k) (fun h3 => .inr (Nat.le_trans h.size h3))⟩
theorem Fl.low {W : World} {base b : Nat} {C : Array Value} {R : Nat → Value} {LL : Nat → List Int} {vo : Value} {od : List (Nat × Nat)} {cu : Int} (h : Fl W base b C R LL vo od cu) (hb : base ≤ b) {k : Nat} (hk : ownF b R vo k) : base ≤ k ∧ k < W.heap.size := by
  rcases hk with rfl | ⟨j, hj, e⟩ | e
  · exact ⟨hb, h.box.lt⟩
  · exact (h.row j hj).lt k e
  · exact h.orow.lt k e
theorem KpF.below {w w' : World} {base b : Nat} {C : Array Value} {R R' : Nat → Value} {LL : Nat → List Int} {vo vo' : Value} {od : List (Nat × Nat)} {cu : Int} (h : KpF w w' b R vo R' vo') (hf : Fl w base b C R LL vo od cu) (hb : base ≤ b) (hs : base ≤ w.heap.size) : Below base w w' :=
  ⟨h.os, h.tape, h.output, h.size, fun k hk => h.block k (by omega) (fun ho => by have := (hf.low hb ho).1; omega)⟩
theorem own_kept {w w' : World} {base n sz : Nat} {e : TypeId} {v : Value} {xs : List Value} (h : w.ownsRow base e sz v n xs) (hk : ∀ k, v.ownBlock = some k → w'.heap[k]? = w.heap[k]?) : w'.ownsRow base e sz v n xs := by
  refine ⟨h.1, ?_⟩
  rcases h.2 with hn | ⟨g, cap, cur, rfl, hg, hgg, rest⟩
  · exact .inl hn
  · exact .inr ⟨g, cap, cur, rfl, hg, by rw [hk g rfl]; exact hgg, rest⟩
theorem own_offF {W : World} {base n b sz : Nat} {e t : TypeId} {v : Value} {xs : List Value} {C : Array Value} (h : W.ownsRow base e sz v n xs) (hb : Blk W b C t) (ht : t ≠ e) : v.ownBlock ≠ some b := fun hv => by
  rcases h.2 with ⟨rfl, _⟩ | ⟨g, cap, cur, rfl, _, hg, _⟩
  · cases hv
  · obtain rfl : g = b := by simpa [Value.ownBlock] using hv
    have h2 : W.heap[g]? = some (.cells C t (0, 0)) := hb
    rw [hg] at h2
    injection h2 with h2
    injection h2 with _ h2 _
    exact ht h2.symm
theorem Fl.ne_box {W : World} {base b : Nat} {C : Array Value} {R : Nat → Value} {LL : Nat → List Int} {vo : Value} {od : List (Nat × Nat)} {cu : Int} (h : Fl W base b C R LL vo od cu) (j : Nat) (hj : j < 8) : (R j).ownBlock ≠ some b := own_offF (h.row j hj) h.box (by decide)
theorem Fl.ne_ord {W : World} {base b : Nat} {C : Array Value} {R : Nat → Value} {LL : Nat → List Int} {vo : Value} {od : List (Nat × Nat)} {cu : Int} (h : Fl W base b C R LL vo od cu) : vo.ownBlock ≠ some b := own_offF h.orow h.box (by decide)
theorem Fl.ne_row {W : World} {base b : Nat} {C : Array Value} {R : Nat → Value} {LL : Nat → List Int} {vo : Value} {od : List (Nat × Nat)} {cu : Int} (h : Fl W base b C R LL vo od cu) (j : Nat) (hj : j < 8) (k : Nat) : vo.ownBlock = some k → (R j).ownBlock ≠ some k := fun e e' => by
  rcases own_apart h.orow (h.row j hj) (by decide) with h1 | h1
  · rw [e] at h1; cases h1
  · exact h1 (e.trans e'.symm)
theorem ownF_upd {b k l : Nat} {R : Nat → Value} {vo sw : Value} (h : ownF b (upd R l sw) vo k) : ownF b R vo k ∨ sw.ownBlock = some k := by
  rcases h with h | ⟨j, hj, e⟩ | h
  · exact .inl (.inl h)
  · by_cases hl : j = l
    · subst hl; rw [upd_same] at e; exact .inr e
    · rw [upd_other _ _ _ _ hl] at e; exact .inl (.inr (.inl ⟨j, hj, e⟩))
  · exact .inl (.inr (.inr h))
theorem get_set_ne {C : Array Value} {i j : Nat} {v : Value} (h : j ≠ i) : (C.setIfInBounds i v)[j]? = C[j]? := Array.getElem?_setIfInBounds_ne (by omega)
/-- A number of the places given is set. -/
theorem Fl.setG {w w' : World} {base b l r : Nat} {C : Array Value} {R : Nat → Value} {LL : Nat → List Int} {vo sw : Value} {od : List (Nat × Nat)} {cu x : Int} (h : Fl w base b C R LL vo od cu) (hl : l < 3)
    (h1 : NumS w' base b 5 (C.setIfInBounds (5 + l) sw) 113 (upd (fun l => R (5 + l)) l sw) (upd (fun l => LL (5 + l)) l (setN (LL (5 + l)) r x))) (h2 : NumF w w' b (R (5 + l))) (h3 : sw.ownBlock = (R (5 + l)).ownBlock ∨ ∃ g, sw.ownBlock = some g ∧ w.heap.size ≤ g) :
    Fl w' base b (C.setIfInBounds (5 + l) sw) (upd R (5 + l) sw) (upd LL (5 + l) (setN (LL (5 + l)) r x)) vo od cu ∧ KpF w w' b R vo (upd R (5 + l) sw) vo := by
  have hkeep : ∀ k, k < w.heap.size → k ≠ b → (R (5 + l)).ownBlock ≠ some k → w'.heap[k]? = w.heap[k]? := h2.block
  refine ⟨⟨h1.box, fun j hj => ?_, fun j hj => ?_, fun i j hi hj hne => ?_, ?_, ?_, ?_⟩, ⟨h2.os, h2.tape, h2.output, h2.size, fun k hk hn => hkeep k hk (fun e => hn (.inl e)) (fun e => hn (.inr (.inl ⟨5 + l, by omega, e⟩))), fun k hk => ?_⟩⟩
  · by_cases e : j = 5 + l
    · subst e; rw [upd_same]; have := h1.at_ l hl; rwa [upd_same] at this
    · rw [upd_other _ _ _ _ e, get_set_ne e]; exact h.at_ j hj
  · by_cases e : j = 5 + l
    · subst e; rw [upd_same, upd_same]; have := h1.row l hl; rwa [upd_same, upd_same] at this
    · rw [upd_other _ _ _ _ e, upd_other _ _ _ _ e]
      exact own_kept (h.row j hj) (fun k hk => hkeep k ((h.row j hj).lt k hk).2 (fun e' => h.ne_box j hj (by rw [hk, e'])) (fun e' => by
        rcases h.apart j (5 + l) hj (by omega) e with h5 | h5
        · rw [hk] at h5; cases h5
        · exact h5 (hk.trans e'.symm)))
  · have key : ∀ j, j < 8 → j ≠ 5 + l → sw.ownBlock = none ∨ sw.ownBlock ≠ (R j).ownBlock := fun j hj hj2 => by
      rcases h3 with h3 | ⟨g, h3, h4⟩
      · rw [h3]; exact h.apart (5 + l) j (by omega) hj (fun e => hj2 e.symm)
      · right
        rw [h3]
        intro e'
        have := ((h.row j hj).lt g e'.symm).2
        omega
    by_cases e : i = 5 + l
    · subst e
      rw [upd_same, upd_other _ _ _ _ (fun e => hne e.symm)]
      exact key j hj (fun e => hne e.symm)
    · by_cases e2 : j = 5 + l
      · subst e2
        rw [upd_same, upd_other _ _ _ _ e]
        cases hR : (R i).ownBlock with
        | none => exact .inl rfl
        | some k =>
          right
          intro e'
          rcases key i hi e with h5 | h5
          · rw [← e'] at h5; cases h5
          · exact h5 (e'.symm.trans hR.symm)
      · rw [upd_other _ _ _ _ e, upd_other _ _ _ _ e2]; exact h.apart i j hi hj hne
  · rw [get_set_ne (by omega)]; exact h.ord
  · exact own_kept h.orow (fun k hk => hkeep k (h.orow.lt k hk).2 (fun e' => h.ne_ord (by rw [hk, e'])) (fun e' => h.ne_row (5 + l) (by omega) k hk e'))
  · rw [get_set_ne (by omega)]; exact h.cur
  · rcases ownF_upd hk with h5 | h5
    · exact .inl h5
    · rcases h3 with h3 | ⟨g, h3, h4⟩
      · exact .inl (.inr (.inl ⟨5 + l, by omega, h3.symm.trans h5⟩))
      · rw [h3] at h5; injection h5 with h5; exact .inr (by omega)
theorem own_setCellF {w : World} {base : Nat} {e : TypeId} {size : Nat} {v : Value} {n : Nat} {xs : List Value} (h : w.ownsRow base e size v n xs) {g : Nat} (hg : v.ownBlock = some g) (o : Nat) (u : Value) : (w.setCell ⟨g, o, none⟩ u).ownsRow base e size v n (xs.set o u) := by
  rcases h.2 with ⟨rfl, _⟩ | ⟨g', cap, cur, rfl, hb, hc, hn, hm, hs, ht⟩
  · cases hg
  · obtain rfl : g' = g := by simpa [Value.ownBlock] using hg
    refine ⟨by simpa using h.1, .inr ⟨g', cap, cur.setIfInBounds o u, rfl, hb, heap_setCell_same w g' o cur e u hc, hn, hm, by simpa using hs, ?_⟩⟩
    rw [Array.toList_setIfInBounds, List.take_set, ht]
/-- A word is set. -/
theorem Fl.setW {w : World} {base b g p : Nat} {C : Array Value} {R : Nat → Value} {LL : Nat → List Int} {vo : Value} {od : List (Nat × Nat)} {cu : Int} (h : Fl w base b C R LL vo od cu) (hg : (R 1).ownBlock = some g) (x : Int) :
    Fl (w.setCell ⟨g, p, none⟩ (.int .i64 x)) base b C R (upd LL 1 ((LL 1).set p x)) vo od cu ∧ KpF w (w.setCell ⟨g, p, none⟩ (.int .i64 x)) b R vo R vo := by
  have hkeep : ∀ k, k ≠ g → (w.setCell ⟨g, p, none⟩ (.int .i64 x)).heap[k]? = w.heap[k]? := fun k hk => Below.heap_setCell w ⟨g, p, none⟩ _ k (fun e => hk e)
  have hgb : g ≠ b := fun e => h.ne_box 1 (by omega) (by rw [hg, e])
  refine ⟨⟨h.box.other _ _ (fun e => hgb e.symm), h.at_, fun j hj => ?_, h.apart, h.ord, own_kept h.orow (fun k hk => hkeep k (fun e => h.ne_row 1 (by omega) k hk (by rw [hg, e]))), h.cur⟩, ⟨rfl, rfl, rfl, by simp, fun k hk hn => hkeep k (fun e => hn (.inr (.inl ⟨1, by omega, by rw [hg, e]⟩))), fun k hk => .inl hk⟩⟩
  by_cases e : j = 1
  · subst e
    rw [upd_same, List.length_set, List.map_set]
    exact own_setCellF (h.row 1 hj) hg p _
  · rw [upd_other _ _ _ _ e]
    exact own_kept (h.row j hj) (fun k hk => hkeep k (fun e' => by
      rcases h.apart j 1 hj (by omega) e with h5 | h5
      · rw [hk] at h5; cases h5
      · exact h5 (by rw [hk, hg, e'])))
/-- The cursor is set. -/
theorem Fl.setC {w : World} {base b : Nat} {C : Array Value} {R : Nat → Value} {LL : Nat → List Int} {vo : Value} {od : List (Nat × Nat)} {cu : Int} (h : Fl w base b C R LL vo od cu) (x : Int) :
    Fl (w.setCell ⟨b, 9, none⟩ (.int .i64 x)) base b (C.setIfInBounds 9 (.int .i64 x)) R LL vo od x ∧ KpF w (w.setCell ⟨b, 9, none⟩ (.int .i64 x)) b R vo R vo := by
  have hkeep : ∀ k, k ≠ b → (w.setCell ⟨b, 9, none⟩ (.int .i64 x)).heap[k]? = w.heap[k]? := fun k hk => Below.heap_setCell w ⟨b, 9, none⟩ _ k (fun e => hk e)
  have hsz : 9 < C.size := by
    rcases Nat.lt_or_ge 9 C.size with h1 | h1
    · exact h1
    · have := h.cur; rw [Array.getElem?_eq_none h1] at this; cases this
  refine ⟨⟨h.box.set 9 _, fun j hj => ?_, fun j hj => own_kept (h.row j hj) (fun k hk => hkeep k (fun e => h.ne_box j hj (by rw [hk, e]))), h.apart, ?_, own_kept h.orow (fun k hk => hkeep k (fun e => h.ne_ord (by rw [hk, e]))), ?_⟩, ⟨rfl, rfl, rfl, by simp, fun k hk hn => hkeep k (fun e => hn (.inl e)), fun k hk => .inl hk⟩⟩
  · rw [get_set_ne (by omega)]; exact h.at_ j hj
  · rw [get_set_ne (by omega)]; exact h.ord
  · rw [Array.getElem?_setIfInBounds_self_of_lt hsz]
/-- One more in order. -/
theorem Fl.setO {w w1 : World} {base b l r : Nat} {C : Array Value} {R : Nat → Value} {LL : Nat → List Int} {vo v1 : Value} {od : List (Nat × Nat)} {cu : Int} (h : Fl w base b C R LL vo od cu)
    (ho : w1.ownsRow base 123 2 v1 (od.length + 1) (spC od ++ [.int .i64 (l : Int), .int .i64 (r : Int)])) (hg : w.grownBy w1 vo.ownBlock) (hn : v1.ownBlock = vo.ownBlock ∨ ∃ g, v1.ownBlock = some g ∧ w.heap.size ≤ g) :
    Fl (w1.setCell ⟨b, 8, none⟩ v1) base b (C.setIfInBounds 8 v1) R LL v1 (od ++ [(l, r)]) cu ∧ KpF w (w1.setCell ⟨b, 8, none⟩ v1) b R vo R v1 := by
  have hk1 : ∀ k, k < w.heap.size → vo.ownBlock ≠ some k → w1.heap[k]? = w.heap[k]? := fun k hk hne => hg.block k hk (fun e => hne e.symm)
  have hkeep : ∀ k, k < w.heap.size → k ≠ b → vo.ownBlock ≠ some k → (w1.setCell ⟨b, 8, none⟩ v1).heap[k]? = w.heap[k]? := fun k hk hkb hne => (Below.heap_setCell w1 ⟨b, 8, none⟩ _ k (fun e => hkb e)).trans (hk1 k hk hne)
  have hsz : 8 < C.size := by
    rcases Nat.lt_or_ge 8 C.size with h1 | h1
    · exact h1
    · have := h.ord; rw [Array.getElem?_eq_none h1] at this; cases this
  have hbox : Blk w1 b C 113 := (hk1 b h.box.lt h.ne_ord).trans h.box
  have hvb : v1.ownBlock ≠ some b := own_offF ho hbox (by decide)
  refine ⟨⟨hbox.set 8 _, fun j hj => ?_, fun j hj => own_kept (h.row j hj) (fun k hk => hkeep k ((h.row j hj).lt k hk).2 (fun e => h.ne_box j hj (by rw [hk, e])) (fun e => h.ne_row j hj k e hk)), h.apart, ?_, ?_, ?_⟩, ⟨hg.os, hg.tape, hg.output, by simp [hg.size], fun k hk hn => hkeep k hk (fun e => hn (.inl e)) (fun e => hn (.inr (.inr e))), fun k hk => ?_⟩⟩
  · rw [get_set_ne (by omega)]; exact h.at_ j hj
  · rw [Array.getElem?_setIfInBounds_self_of_lt hsz]
  · rw [List.length_append, spC_append]
    exact own_kept ho (fun k hk => Below.heap_setCell w1 ⟨b, 8, none⟩ _ k (fun e => hvb (by rw [hk, show k = b from e])))
  · rw [get_set_ne (by omega)]; exact h.cur
  · rcases hk with hk | hk | hk
    · exact .inl (.inl hk)
    · exact .inl (.inr (.inl hk))
    · rcases hn with hn | ⟨g, hn, hgs⟩
      · exact .inl (.inr (.inr (hn.symm.trans hk)))
      · rw [hn] at hk; injection hk with hk; exact .inr (by omega)
theorem andNot_one (z : Int) (h : 0 ≤ z ∧ z < 4294967296) : bits .andNot .i64 z 1 = even z := by
  obtain ⟨y, rfl⟩ : ∃ y : Nat, z = (y : Int) := ⟨z.toNat, by omega⟩
  have := clr_i64 y 0 (by omega) (by omega)
  rw [show ((2 ^ 0 : Nat) : Int) = 1 from rfl] at this
  rw [this]
  unfold even clrN bitN
  simp only [Nat.pow_zero, Nat.div_one, Nat.mul_one]
  have := Nat.mod_lt y (show 0 < 2 by decide)
  have := Nat.mod_le y 2
  omega
end Go.Proofs.YtlimollpocagiaaGreatDoor
