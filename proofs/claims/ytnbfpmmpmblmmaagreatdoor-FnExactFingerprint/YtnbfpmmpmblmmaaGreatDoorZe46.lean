/- toNodeS. Slices of Put: copies (toPut, toPutS), two that are the same held against each other (eqPut, eqPutS). A copy of a slice of Put: toPutS. Marks of slices of structs; two slices of Put that are the same. eqNodeS. States measured, copied, compared. StateCheck: the model and the program. -/
import Derived.Test.YtnbfpmmpmblmmaaGreatDoorZe45
import Derived.Test.YtnbfpmmpmblmmaaGreatDoorZe19
import Derived.Test.YtnbfpmmpmblmmaaGreatDoorZe03
import Derived.Test.YtnbfpmmpmblmmaaGreatDoorZe02
import Derived.Deep.MidRow
import Derived.Deep.RegionHeld3
import Derived.Test.YtnbfpmmpmblmmaaGreatDoorZe26
import Derived.Test.YtnbfpmmpmblmmaaGreatDoorZe44
namespace Go.Proofs.YtnbfpmmpmblmmaaGreatDoor
set_option linter.unusedVariables false
set_option linter.unusedSimpArgs false
open Go.RowKit

set_option maxRecDepth 100000 in
set_option maxHeartbeats 4000000 in
theorem toNodeS_any (v : Value) (L : List Nd) (us : List Value) (w : World) (h : RdN w 9 v (L.map ndE) us) (hn : L.length ≤ 1048576) (hb : ∀ i, i < L.length → (ndAt L i).d.length ≤ 1048576) :
    Calls Tryz.prog 12 #[v] w fun e w' => ∃ v' vs, e = .returned v' ∧ OwnN w' w.heap.size 53 9 v' (L.map ndE) vs ∧ Below w.heap.size w w' := by
  obtain ⟨i0, hi, hz0, hz1, hz2⟩ := info_parts infoNz
  obtain ⟨a, cap, rfl⟩ : ∃ a cap, v = .slice a L.length cap := by obtain ⟨a, cap, e, _⟩ := h.row; exact ⟨a, cap, by simpa using e⟩
  have HR := hide h
  have HB := hide hb
  obtain ⟨N, hN⟩ : ∃ N, N = L.length := ⟨_, rfl⟩
  have HN := hide hN
  rw [← hN] at hn HR ⊢
  have hm : N ≤ maxLen := by unfold maxLen; omega
  clear h hb hN
  go_enter Tryz.func12, Tryz.ntmps12
  go_wp2_with (first | (refine wpList_make_full _ rfl (.tmp 6) (.tmp 6) 29 rfl w.heap.size 53 i0 (.agg #[.int .i64 0, .int .i64 0, .int .i64 0, .int .i64 0, .int .i64 0, .int .i64 0, .int .i64 0, .int .i64 0, .int .i64 0, .slice none 0 0]) 10 Tryz.underlying29 hi hz0 hz1 .i64 .i64 N N N rfl rfl rfl rfl (by rw [hz2]; omega) hm (Nat.le_refl _) ?_; intro w1 hown hgrow; rw [made_nd] at hown) | fail)
  have H1 := hide (show OwnN w1 w.heap.size 53 9 (.slice (some ⟨w.heap.size, 0, none⟩) N N) ((List.replicate N nd0).map ndE) (List.replicate N (.slice none 0 0)) ∧ Below w.heap.size w w1 from
    ⟨OwnN.zerosN hown, (Below.refl _ _).grown hgrow (Nat.le_refl _) (fun k h => by cases h)⟩)
  clear hgrow hown
  go_loopw [4] (fun i wr => ∃ (k : Nat) (vs : List Value), k ≤ N ∧ i = .int .i64 k ∧ Hid (OwnN wr w.heap.size 53 9 (.slice (some ⟨w.heap.size, 0, none⟩) N N) ((L.take k ++ List.replicate (L.length - k) nd0).map ndE) vs ∧ Below w.heap.size w wr)) (fun i _ => N - (intOf i).toNat)
  case atStart => exact ⟨0, _, Nat.zero_le _, rfl, hide ⟨by rw [List.take_zero, List.nil_append, Nat.sub_zero, ← HN.out]; exact H1.out.1, H1.out.2⟩⟩
  case round =>
    clear H1
    obtain ⟨k, vs, hk, rfl, HO⟩ := hrel
    by_cases hlt : k < N
    · have hkl : k < L.length := by rw [← HN.out]; exact hlt
      obtain ⟨b0, off, cap', na, nc, e0, hb0, hrd, hu, hrg⟩ := node_at (HR.out.below HO.out.2) (i := k) hkl
      injection e0 with e1 e2 e3
      subst e1 e3
      have hLk : L[k]? = some (ndAt L k) := by unfold ndAt; simp [List.getD, hkl]
      have hzs := HB.out k hkl
      obtain ⟨x, hx⟩ : ∃ x, x = ndAt L k := ⟨_, rfl⟩
      rw [← hx] at hrd hrg hzs hLk
      have HP := hide hLk
      obtain ⟨q, hq⟩ : ∃ q, q = x.d.length := ⟨_, rfl⟩
      have HQ := hide hq
      have HTO := hide (toNode_any x.k x.l x.m x.u x.g x.p x.e x.t x.c (.slice na x.d.length nc) x.d wr hrd (by omega))
      rw [← hq] at hrg hzs
      have HRg := hide (show wr.rangeAt b0 (off + k * 10) [.int .i64 x.k, .int .i64 x.l, .int .i64 x.m, .int .i64 x.u, .int .i64 x.g, .int .i64 x.p, .int .i64 x.e, .int .i64 x.t, .int .i64 x.c, .slice na q nc] from hrg)
      have HTO2 := hide (show Calls Tryz.prog 26 #[.agg #[.int .i64 x.k, .int .i64 x.l, .int .i64 x.m, .int .i64 x.u, .int .i64 x.g, .int .i64 x.p, .int .i64 x.e, .int .i64 x.t, .int .i64 x.c, .slice na q nc]] wr _ from by rw [hq]; exact HTO.out)
      clear hrg hrd hu e2 hb0 hx hq hLk HTO
      go_wp2_with (first | (refine wpList_load_mid rfl 50 _ rfl b0 (off + k * 10) rfl [.int .i64 x.k, .int .i64 x.l, .int .i64 x.m, .int .i64 x.u, .int .i64 x.g, .int .i64 x.p, .int .i64 x.e, .int .i64 x.t, .int .i64 x.c, .slice na q nc] _ HRg.out Tryz.underlying50 rfl infoLN10 ?_) | (go_at_call 26; fail))
      refine HTO2.out.mono ?_
      rintro e w2 ⟨u', rfl, o2, b2⟩
      obtain ⟨a2, c2, rfl⟩ : ∃ a cap, u' = .slice a x.d.length cap := by
        rcases o2.2 with ⟨rfl, h0⟩ | ⟨g, cap, _, rfl, _⟩
        · exact ⟨none, 0, by rw [h0]⟩
        · exact ⟨_, _, rfl⟩
      have O2 := hide (HO.out.1.below b2)
      have B2 := hide (HO.out.2.trans (b2.mono HO.out.2.size))
      have hfr : ∀ (j : Nat) (y : Value) (r : Nat), vs[j]? = some y → y.ownBlock = some r → (Value.slice a2 x.d.length c2).ownBlock ≠ some r := fun j y r hy hr e => by
        have h1 := (o2.lt r e).1
        have hjl : j < vs.length := (List.getElem?_eq_some_iff.1 hy).1
        rw [HO.out.1.len] at hjl
        have h2 := ((HO.out.1.dat j y _ hy (List.getElem?_eq_getElem hjl)).lt r hr).2
        omega
      have hQl : k < ((L.take k ++ List.replicate (L.length - k) nd0).map ndE).length := by simp; omega
      have z9 := O2.out.put (by decide) k hQl [.int .i64 x.k, .int .i64 x.l, .int .i64 x.m, .int .i64 x.u, .int .i64 x.g, .int .i64 x.p, .int .i64 x.e, .int .i64 x.t, .int .i64 x.c] rfl (.slice a2 x.d.length c2) x.d (g := w.heap.size) rfl (own_mono o2 HO.out.2.size) hfr
      have h5 : ((L.take k ++ List.replicate (L.length - k) nd0).map ndE).set k ([.int .i64 x.k, .int .i64 x.l, .int .i64 x.m, .int .i64 x.u, .int .i64 x.g, .int .i64 x.p, .int .i64 x.e, .int .i64 x.t, .int .i64 x.c], x.d) = (L.take (k + 1) ++ List.replicate (L.length - (k + 1)) nd0).map ndE := by
        rw [← fill_nd L k x HP.out, List.map_set]
        rfl
      rw [h5] at z9
      have H4 := hide (show OwnN (w2.setCells w.heap.size (k * 10) [.int .i64 x.k, .int .i64 x.l, .int .i64 x.m, .int .i64 x.u, .int .i64 x.g, .int .i64 x.p, .int .i64 x.e, .int .i64 x.t, .int .i64 x.c, .slice a2 x.d.length c2]) w.heap.size 53 9 (.slice (some ⟨w.heap.size, 0, none⟩) N N) ((L.take (k + 1) ++ List.replicate (L.length - (k + 1)) nd0).map ndE) (vs.set k (.slice a2 x.d.length c2)) ∧ Below w.heap.size w (w2.setCells w.heap.size (k * 10) [.int .i64 x.k, .int .i64 x.l, .int .i64 x.m, .int .i64 x.u, .int .i64 x.g, .int .i64 x.p, .int .i64 x.e, .int .i64 x.t, .int .i64 x.c, .slice a2 x.d.length c2]) from ⟨z9, below_cells (Nat.le_refl _) _ _ B2.out⟩)
      have HT := hide (there_rowN (show w2.ownsRow w.heap.size 53 10 (.slice (some ⟨w.heap.size, 0, none⟩) N N) N _ from by
        have := O2.out.row
        rw [show ((L.take k ++ List.replicate (L.length - k) nd0).map ndE).length = N by simp; have := HN.out; omega] at this
        exact this) (o := k * 10) (m := 10) (by omega))
      clear z9 h5 hfr hQl o2 b2 O2 B2 HO HTO2
      obtain ⟨qd, hqd⟩ : ∃ qd, qd = x.d.length := ⟨_, rfl⟩
      rw [← hqd] at H4 ⊢
      clear hqd
      unfold nodeV
      obtain ⟨cs, hcs⟩ : ∃ cs : Array Value, cs = #[.int .i64 x.k, .int .i64 x.l, .int .i64 x.m, .int .i64 x.u, .int .i64 x.g, .int .i64 x.p, .int .i64 x.e, .int .i64 x.t, .int .i64 x.c, .slice a2 qd c2] := ⟨_, rfl⟩
      have HT' := hide (show w2.there w.heap.size (k * 10) cs.size from by rw [hcs]; exact HT.out)
      have HI := hide (show (Tryz.prog.info? 53).map (·.size) = some cs.size from by rw [hcs]; exact infoN10)
      have HC := hide (show cs.all (·.oneCell') = true from by rw [hcs]; exact oneNd _ _ _ _)
      have H5 := hide (show OwnN (w2.setCells w.heap.size (k * 10) cs.toList) w.heap.size 53 9 (.slice (some ⟨w.heap.size, 0, none⟩) N N) ((L.take (k + 1) ++ List.replicate (L.length - (k + 1)) nd0).map ndE) (vs.set k (.slice a2 qd c2)) ∧ Below w.heap.size w (w2.setCells w.heap.size (k * 10) cs.toList) from by rw [hcs]; exact H4.out)
      rw [← hcs]
      clear H4 HT hcs
      go_wp2_with (first | (refine wpList_store_mid rfl 53 _ _ rfl w.heap.size (k * 10) cs rfl rfl HT'.out HI.out HC.out ?_) | fail)
      go_roundw
      case rel => exact ⟨k + 1, _, by omega, by go_num, H5⟩
      case measure => simp [intOf]; omega
    · have hkN : k = N := by omega
      have HF := hide (show OwnN wr w.heap.size 53 9 (.slice (some ⟨w.heap.size, 0, none⟩) N N) (L.map ndE) vs from by
        have := HO.out.1
        rw [hkN, HN.out, Nat.sub_self, List.replicate_zero, List.append_nil, List.take_length, ← HN.out] at this
        exact this)
      clear hkN
      go_wp2
      go_ret
      exact ⟨_, vs, rfl, HF.out, HO.out.2⟩
end Go.Proofs.YtnbfpmmpmblmmaaGreatDoor

namespace Go.Proofs.YtnbfpmmpmblmmaaGreatDoor
set_option linter.unusedVariables false
set_option linter.unusedSimpArgs false
open Go.RowKit

/-- A Put as an element. -/
def neP (p : Int × List Int) : NE := ([.int .i64 p.1], p.2)
theorem neP_pre (P : List (Int × List Int)) : ∀ l ∈ P.map neP, l.1.length = 1 := by
  intro l hl
  rw [List.mem_map] at hl
  obtain ⟨p, _, rfl⟩ := hl
  rfl
end Go.Proofs.YtnbfpmmpmblmmaaGreatDoor

namespace Go.Proofs.YtnbfpmmpmblmmaaGreatDoor
set_option linter.unusedVariables false
set_option linter.unusedSimpArgs false
open Go.RowKit

end Go.Proofs.YtnbfpmmpmblmmaaGreatDoor

namespace Go.Proofs.YtnbfpmmpmblmmaaGreatDoor
set_option linter.unusedVariables false
set_option linter.unusedSimpArgs false
open Go.RowKit

/-- Nothing turned but the row and the bytes. -/
structure KpN (w w' : World) (v : Value) (vs : List Value) : Prop where
  os : w'.os = w.os
  tape : w'.tape = w.tape
  output : w'.output = w.output
  size : w.heap.size ≤ w'.heap.size
  block : ∀ b, b < w.heap.size → v.ownBlock ≠ some b → (∀ u ∈ vs, u.ownBlock ≠ some b) → w'.heap[b]? = w.heap[b]?
theorem KpN.refl (w : World) (v : Value) (vs : List Value) : KpN w w v vs := ⟨rfl, rfl, rfl, Nat.le_refl _, fun _ _ _ _ => rfl⟩
theorem KpN.row {w w' w2 : World} {v : Value} {vs : List Value} (h : KpN w w' v vs) (g : w'.grownBy w2 v.ownBlock) : KpN w w2 v vs :=
  ⟨g.os.trans h.os, g.tape.trans h.tape, g.output.trans h.output, Nat.le_trans h.size g.size, fun b hb h1 h2 => (g.block b (Nat.lt_of_lt_of_le hb h.size) (fun e => h1 e.symm)).trans (h.block b hb h1 h2)⟩
theorem KpN.dat {w w' w2 : World} {v : Value} {vs : List Value} (h : KpN w w' v vs) (u : Value) (hu : u ∈ vs) (g : w'.grownBy w2 u.ownBlock) : KpN w w2 v vs :=
  ⟨g.os.trans h.os, g.tape.trans h.tape, g.output.trans h.output, Nat.le_trans h.size g.size, fun b hb h1 h2 => (g.block b (Nat.lt_of_lt_of_le hb h.size) (fun e => h2 u hu e.symm)).trans (h.block b hb h1 h2)⟩
end Go.Proofs.YtnbfpmmpmblmmaaGreatDoor

namespace Go.Proofs.YtnbfpmmpmblmmaaGreatDoor
set_option linter.unusedVariables false
set_option linter.unusedSimpArgs false
open Go.RowKit

set_option maxRecDepth 100000 in
set_option maxHeartbeats 2000000 in
theorem eqNodeS_same (v1 v2 : Value) (P : List Nd) (us1 us2 : List Value) (w : World) (h1 : RdN w 9 v1 (P.map ndE) us1) (h2 : RdN w 9 v2 (P.map ndE) us2) :
    Calls Tryz.prog 16 #[v1, v2] w fun e w' => e = .returned (.bool true) ∧ Below w.heap.size w w' := by
  obtain ⟨a1, c1, rfl⟩ : ∃ a cap, v1 = .slice a P.length cap := by obtain ⟨a, cap, e, _⟩ := h1.row; exact ⟨a, cap, by simpa using e⟩
  obtain ⟨a2, c2, rfl⟩ : ∃ a cap, v2 = .slice a P.length cap := by obtain ⟨a, cap, e, _⟩ := h2.row; exact ⟨a, cap, by simpa using e⟩
  have hm : P.length ≤ 9223372036854775807 := by obtain ⟨a, cap, _, _, g1, g2⟩ := h1.row; unfold maxLen at g2; simp at g1; omega
  have H1 := hide (show RdN w 9 (.slice a1 (P.map ndE).length c1) (P.map ndE) us1 from by simpa using h1)
  have H2 := hide (show RdN w 9 (.slice a2 (P.map ndE).length c2) (P.map ndE) us2 from by simpa using h2)
  clear h1 h2
  have hcc : ((P.length : Int) != (P.length : Int)) = false := by simp
  go_enter Tryz.func16, Tryz.ntmps16
  go_wp2
  go_loopw [5] (fun i wr => ∃ k : Nat, k ≤ P.length ∧ i = .int .i64 k ∧ Below w.heap.size w wr) (fun i _ => P.length - (intOf i).toNat)
  case atStart => exact ⟨0, Nat.zero_le _, rfl, Below.refl _ _⟩
  case round =>
    obtain ⟨k, hk, rfl, hb1⟩ := hrel
    have HK := hide hb1
    clear hb1
    by_cases hlt : k < P.length
    · obtain ⟨x, hp⟩ : ∃ x, P[k]? = some x := ⟨_, List.getElem?_eq_getElem hlt⟩
      obtain ⟨b, off, u, e0, hb0, hu, hrd, hrg⟩ := (H1.out.below HK.out).at (i := k) (l := ndE x) (by rw [List.getElem?_map, hp]; rfl)
      obtain ⟨b', off', u', e0', hb0', hu', hrd', hrg'⟩ := (H2.out.below HK.out).at (i := k) (l := ndE x) (by rw [List.getElem?_map, hp]; rfl)
      subst e0
      subst e0'
      have HR := hide (show wr.rangeAt b (off + k * 10) [.int .i64 x.k, .int .i64 x.l, .int .i64 x.m, .int .i64 x.u, .int .i64 x.g, .int .i64 x.p, .int .i64 x.e, .int .i64 x.t, .int .i64 x.c, u] from hrg)
      have HR' := hide (show wr.rangeAt b' (off' + k * 10) [.int .i64 x.k, .int .i64 x.l, .int .i64 x.m, .int .i64 x.u, .int .i64 x.g, .int .i64 x.p, .int .i64 x.e, .int .i64 x.t, .int .i64 x.c, u'] from hrg')
      have HD := hide (And.intro (show Rd .u8 wr u x.d from hrd) (show Rd .u8 wr u' x.d from hrd'))
      clear hrg hrg' hrd hrd' hu hu' hp
      go_wp2_with fail
      refine wp_region_noPanic ?_
      refine wp_region_held_drew (S := fun w' => w'.rangeAt b (off + k * 10) [.int .i64 x.k, .int .i64 x.l, .int .i64 x.m, .int .i64 x.u, .int .i64 x.g, .int .i64 x.p, .int .i64 x.e, .int .i64 x.t, .int .i64 x.c, u] ∧ w'.rangeAt b' (off' + k * 10) [.int .i64 x.k, .int .i64 x.l, .int .i64 x.m, .int .i64 x.u, .int .i64 x.g, .int .i64 x.p, .int .i64 x.e, .int .i64 x.t, .int .i64 x.c, u']) (by kernel_rfl) ⟨HR.out, HR'.out⟩ (fun hH => ?_)
      refine wpAnyH_take (i := 0) (oi := _) (v := .slice (some ⟨b, off, none⟩) P.length c1) rfl (by kernel_rfl) (by kernel_rfl) (by kernel_rfl) (fun _ _ _ h => h) (Or.inl ⟨by rfl, fun w' hw' => by go_simp⟩) hH ?_
      try simp only [Act.put, List.getElem_toArray, List.getElem_cons_zero, List.getElem_cons_succ, List.setIfInBounds_toArray, List.set_cons_zero, List.set_cons_succ]
      refine wpAnyH_take (i := 1) (oi := _) (v := .int .i64 k) rfl (by kernel_rfl) (by kernel_rfl) (by kernel_rfl) (fun _ _ _ h => h) (Or.inl ⟨by rfl, fun w' hw' => by go_simp⟩) hH ?_
      try simp only [Act.put, List.getElem_toArray, List.getElem_cons_zero, List.getElem_cons_succ, List.setIfInBounds_toArray, List.set_cons_zero, List.set_cons_succ]
      refine wpAnyH_take (i := 2) (oi := _) (v := .pointer (some ⟨b, off + k * 10, none⟩)) rfl (by kernel_rfl) (by kernel_rfl) (by kernel_rfl) (fun _ _ _ h => h) (Or.inl ⟨by rfl, fun w' hw' => by go_simp⟩) hH ?_
      try simp only [Act.put, List.getElem_toArray, List.getElem_cons_zero, List.getElem_cons_succ, List.setIfInBounds_toArray, List.set_cons_zero, List.set_cons_succ]
      refine wpAnyH_take (i := 3) (oi := _) (v := .agg #[.int .i64 x.k, .int .i64 x.l, .int .i64 x.m, .int .i64 x.u, .int .i64 x.g, .int .i64 x.p, .int .i64 x.e, .int .i64 x.t, .int .i64 x.c, u]) rfl (by kernel_rfl) (by kernel_rfl) (by kernel_rfl) (fun _ _ _ h => h) (yieldsIf_load_mid (by rfl) 53 _ rfl b (off + k * 10) rfl [.int .i64 x.k, .int .i64 x.l, .int .i64 x.m, .int .i64 x.u, .int .i64 x.g, .int .i64 x.p, .int .i64 x.e, .int .i64 x.t, .int .i64 x.c, u] _ (fun w' h => h.1) Tryz.underlying53 rfl infoN10) hH ?_
      try simp only [Act.put, List.getElem_toArray, List.getElem_cons_zero, List.getElem_cons_succ, List.setIfInBounds_toArray, List.set_cons_zero, List.set_cons_succ]
      refine wpAnyH_take (i := 4) (oi := _) (v := .slice (some ⟨b', off', none⟩) P.length c2) rfl (by kernel_rfl) (by kernel_rfl) (by kernel_rfl) (fun _ _ _ h => h) (Or.inl ⟨by rfl, fun w' hw' => by go_simp⟩) hH ?_
      try simp only [Act.put, List.getElem_toArray, List.getElem_cons_zero, List.getElem_cons_succ, List.setIfInBounds_toArray, List.set_cons_zero, List.set_cons_succ]
      refine wpAnyH_take (i := 5) (oi := _) (v := .int .i64 k) rfl (by kernel_rfl) (by kernel_rfl) (by kernel_rfl) (fun _ _ _ h => h) (Or.inl ⟨by rfl, fun w' hw' => by go_simp⟩) hH ?_
      try simp only [Act.put, List.getElem_toArray, List.getElem_cons_zero, List.getElem_cons_succ, List.setIfInBounds_toArray, List.set_cons_zero, List.set_cons_succ]
      refine wpAnyH_take (i := 6) (oi := _) (v := .pointer (some ⟨b', off' + k * 10, none⟩)) rfl (by kernel_rfl) (by kernel_rfl) (by kernel_rfl) (fun _ _ _ h => h) (Or.inl ⟨by rfl, fun w' hw' => by go_simp⟩) hH ?_
      try simp only [Act.put, List.getElem_toArray, List.getElem_cons_zero, List.getElem_cons_succ, List.setIfInBounds_toArray, List.set_cons_zero, List.set_cons_succ]
      refine wpAnyH_take (i := 7) (oi := _) (v := .agg #[.int .i64 x.k, .int .i64 x.l, .int .i64 x.m, .int .i64 x.u, .int .i64 x.g, .int .i64 x.p, .int .i64 x.e, .int .i64 x.t, .int .i64 x.c, u']) rfl (by kernel_rfl) (by kernel_rfl) (by kernel_rfl) (fun _ _ _ h => h) (yieldsIf_load_mid (by rfl) 53 _ rfl b' (off' + k * 10) rfl [.int .i64 x.k, .int .i64 x.l, .int .i64 x.m, .int .i64 x.u, .int .i64 x.g, .int .i64 x.p, .int .i64 x.e, .int .i64 x.t, .int .i64 x.c, u'] _ (fun w' h => h.2) Tryz.underlying53 rfl infoN10) hH ?_
      try simp only [Act.put, List.getElem_toArray, List.getElem_cons_zero, List.getElem_cons_succ, List.setIfInBounds_toArray, List.set_cons_zero, List.set_cons_succ]
      refine wpAnyH_ready (rs := [8]) (by kernel_rfl) (by simp) ?_
      refine AllReadyH.cons (o := _) rfl (fun K hK => ?_) AllReadyH.nil
      go_simp
      refine (eqNode_same x.k x.l x.m x.u x.g x.p x.e x.t x.c _ _ x.d _ (HD.out.1.below ((Below.refl _ _).drew)) (HD.out.2.below ((Below.refl _ _).drew))).mono ?_
      rintro e w2 ⟨rfl, b2⟩
      have b3 := ((Below.refl _ _).drew).trans b2
      have B2 := hide (HK.out.trans (b3.mono HK.out.size))
      have s2 : w2.rangeAt b (off + k * 10) [.int .i64 x.k, .int .i64 x.l, .int .i64 x.m, .int .i64 x.u, .int .i64 x.g, .int .i64 x.p, .int .i64 x.e, .int .i64 x.t, .int .i64 x.c, u] ∧ w2.rangeAt b' (off' + k * 10) [.int .i64 x.k, .int .i64 x.l, .int .i64 x.m, .int .i64 x.u, .int .i64 x.g, .int .i64 x.p, .int .i64 x.e, .int .i64 x.t, .int .i64 x.c, u'] := ⟨fun j v hv => (b3.cell (p := ⟨b, off + k * 10 + j, none⟩) hb0).trans (HR.out j v hv), fun j v hv => (b3.cell (p := ⟨b', off' + k * 10 + j, none⟩) hb0').trans (HR'.out j v hv)⟩
      refine hK.out _ _ s2 (fun hH => ?_)
      clear hK K s2 b2 b3 HK
      try simp only [Act.put, List.getElem_toArray, List.getElem_cons_zero, List.getElem_cons_succ, List.setIfInBounds_toArray, List.set_cons_zero, List.set_cons_succ]
      refine wpAnyH_take (i := 9) (oi := _) (v := .bool false) rfl (by kernel_rfl) (by kernel_rfl) (by kernel_rfl) (fun _ _ _ h => h) (Or.inl ⟨by rfl, fun w' hw' => by go_simp⟩) hH ?_
      try simp only [Act.put, List.getElem_toArray, List.getElem_cons_zero, List.getElem_cons_succ, List.setIfInBounds_toArray, List.set_cons_zero, List.set_cons_succ]
      refine wpAnyH_done (by kernel_rfl) (NoPanic.normal ?_) _
      clear hH
      go_wp2
      go_roundw
      case rel => exact ⟨k + 1, by omega, by go_num, B2.out⟩
      case measure => simp [intOf]; omega
    · go_wp2
      go_ret
      exact ⟨rfl, HK.out⟩

end Go.Proofs.YtnbfpmmpmblmmaaGreatDoor

namespace Go.Proofs.YtnbfpmmpmblmmaaGreatDoor
set_option linter.unusedVariables false
set_option linter.unusedSimpArgs false
open Go.RowKit

theorem own_asideN {W : World} {base n sz : Nat} {e : TypeId} {v : Value} {xs : List Value} (h : W.ownsRow base e sz v n xs) (p : Addr) (x : Value) (hp : p.block < base) : (W.setCell p x).ownsRow base e sz v n xs :=
  h.kept (row := some p.block) ⟨rfl, rfl, rfl, by simp, fun q hq hne => Below.heap_setCell W p _ q (fun e => hne (by rw [e]))⟩ (by
    rcases h.2 with ⟨rfl, _⟩ | ⟨g, cap, cur, rfl, hb, _⟩
    · exact .inl rfl
    · right
      intro e
      have e' : g = p.block := Option.some.inj e
      omega)
theorem OwnN.aside {W : World} {base : Nat} {e : TypeId} {m : Nat} {v : Value} {L : List NE} {vs : List Value} (h : OwnN W base e m v L vs) (p : Addr) (x : Value) (hp : p.block < base) : OwnN (W.setCell p x) base e m v L vs :=
  ⟨h.len, h.pre, own_asideN h.row p x hp, fun i u l hu hl => own_asideN (h.dat i u l hu hl) p x hp, h.one⟩
theorem OwnN.shape {W : World} {base : Nat} {e : TypeId} {m : Nat} {v : Value} {L : List NE} {vs : List Value} (h : OwnN W base e m v L vs) : ∃ a cap, v = .slice a L.length cap := by
  obtain ⟨a, cap, e, _⟩ := h.rd.row
  exact ⟨a, cap, e⟩
set_option maxRecDepth 100000 in
theorem szState_any (C : Int) (v : Value) (L : List Nd) (us : List Value) (w : World) (h : RdN w 9 v (L.map ndE) us) :
    Calls Tryz.prog 4 #[.agg #[.int .i64 C, v], .int .i64 1048576] w fun e w' => ∃ r : Int, e = .returned (.int .i64 r) ∧ (0 ≤ r → L.length ≤ 1048576 ∧ totN L ≤ 1048576) ∧ Below w.heap.size w w' := by
  obtain ⟨a, cap, rfl⟩ : ∃ a cap, v = .slice a L.length cap := by obtain ⟨a, cap, e, _⟩ := h.row; exact ⟨a, cap, by simpa using e⟩
  have HR := hide h
  obtain ⟨N, hN⟩ : ∃ N, N = L.length := ⟨_, rfl⟩
  have HN := hide hN
  rw [← hN] at HR ⊢
  clear h hN
  go_enter Tryz.func4, Tryz.ntmps4
  go_wp2_with fail
  refine (szNodeS_any _ L us _ (HR.out.below ?_)).mono ?_
  · exact (Below.refl _ _).alloc (Nat.le_refl _) _
  rintro e w1 ⟨r, rfl, hr, b1⟩
  have B1 := hide (((Below.refl _ _).alloc (Nat.le_refl _) _).trans (b1.mono (by simp)))
  have HRR := hide hr
  clear b1 hr
  by_cases h0 : r < 0
  · go_wp2
    go_ret
    first
    | exact ⟨-1, rfl, fun h => by omega, B1.out⟩
    | exact ⟨_, rfl, fun h => by omega, B1.out⟩
  · go_wp2
    go_ret
    exact ⟨r, rfl, fun h => ⟨by rw [HN.out]; exact (HRR.out h).2.1, (HRR.out h).2.2⟩, B1.out⟩
set_option maxRecDepth 100000 in
set_option maxHeartbeats 1000000 in
theorem toState_any (C : Int) (v : Value) (L : List Nd) (us : List Value) (w : World) (h : RdN w 9 v (L.map ndE) us) (hn : L.length ≤ 1048576) (hb : ∀ i, i < L.length → (ndAt L i).d.length ≤ 1048576) :
    Calls Tryz.prog 6 #[.agg #[.int .i64 C, v]] w fun e w' => ∃ v' vs, e = .returned (.agg #[.int .i64 C, v']) ∧ OwnN w' w.heap.size 53 9 v' (L.map ndE) vs ∧ Below w.heap.size w w' := by
  obtain ⟨a, cap, rfl⟩ : ∃ a cap, v = .slice a L.length cap := by obtain ⟨a, cap, e, _⟩ := h.row; exact ⟨a, cap, by simpa using e⟩
  have HR := hide h
  have HB := hide (And.intro hn hb)
  obtain ⟨N, hN⟩ : ∃ N, N = L.length := ⟨_, rfl⟩
  have HN := hide hN
  rw [← hN] at HR ⊢
  clear h hN hn hb
  go_enter Tryz.func6, Tryz.ntmps6
  go_wp2_with fail
  refine (toNodeS_any _ L us _ (HR.out.below ?_) HB.out.1 HB.out.2).mono ?_
  · exact (((Below.refl _ _).alloc (Nat.le_refl _) _).alloc (by simp) _).alloc (by simp; omega) _
  rintro x w1 ⟨v1, vs1, rfl, o1, b1⟩
  obtain ⟨a1, cap1, rfl⟩ : ∃ a1 cap1, v1 = .slice a1 N cap1 := by obtain ⟨a, cap, e⟩ := o1.shape; exact ⟨a, cap, by rw [HN.out]; simpa using e⟩
  have hz1 := (Blk.new _ _ _).below b1 (by simp)
  simp only [World.size_alloc] at hz1
  have hz0 := ((Blk.new _ _ _).alloc _).below b1 (by simp)
  simp only [World.size_alloc] at hz0
  have hB : Below w.heap.size w w1 := ((((Below.refl _ _).alloc (Nat.le_refl _) _).alloc (by simp) _).alloc (by simp; omega) _).trans (b1.mono (by simp; omega))
  have f0 := hz0.frozen 0
  have d0 := (hz0.cell 0).trans (show _ = some (.int .i64 0) from rfl)
  have f1 := hz0.frozen 1
  have d1 := (hz0.cell 1).trans (show _ = some (.slice none 0 0) from rfl)
  have g1 := hz1.frozen 1
  have c0 := (hz1.cell 0).trans (show _ = some (.int .i64 C) from rfl)
  have c1 := (hz1.cell 1).trans (show _ = some (.slice none 0 0) from rfl)
  have ho := (o1.mono (base' := w.heap.size + 3) (by simp))
  have K := hide (And.intro hB ho)
  have KZ := hide hz0
  clear hz1 hz0 hB ho o1 b1
  go_wp2
  have q0 := KZ.out.other ⟨w.heap.size + 1 + 1, 1, none⟩ (.slice a1 N cap1) (by simp)
  have q1 : Blk _ _ #[.int .i64 C, .slice none 0 0] 31 := q0.set 0 (.int .i64 C)
  have q2 : Blk _ _ #[.int .i64 C, .slice a1 N cap1] 31 := q1.set 1 (.slice a1 N cap1)
  have KQ := hide q2
  clear q0 q1 q2 KZ
  refine bodyPost_ret (v := .agg #[.int .i64 C, .slice a1 N cap1]) ?_ rfl ⟨_, vs1, rfl, OwnN.mono ?_ (by omega : w.heap.size ≤ w.heap.size + 3), ?_⟩
  · exact results_cell_row rfl _ _ (w.heap.size + 1) 31 #[.int .i64 C, .slice a1 N cap1] (0, 0) _ rfl KQ.out Tryz.underlying31 rfl (by kernel_rfl)
  · repeat (refine OwnN.aside ?_ _ _ (by simp <;> omega))
    exact K.out.2
  · repeat (refine Below.setCell ?_ (by simp <;> omega) _)
    exact K.out.1
set_option maxRecDepth 100000 in
theorem eqState_same (C : Int) (v1 v2 : Value) (L : List Nd) (us1 us2 : List Value) (w : World) (h1 : RdN w 9 v1 (L.map ndE) us1) (h2 : RdN w 9 v2 (L.map ndE) us2) :
    Calls Tryz.prog 8 #[.agg #[.int .i64 C, v1], .agg #[.int .i64 C, v2]] w fun e w' => e = .returned (.bool true) ∧ Below w.heap.size w w' := by
  obtain ⟨a1, cap1, rfl⟩ : ∃ a cap, v1 = .slice a L.length cap := by obtain ⟨a, cap, e, _⟩ := h1.row; exact ⟨a, cap, by simpa using e⟩
  obtain ⟨a2, cap2, rfl⟩ : ∃ a cap, v2 = .slice a L.length cap := by obtain ⟨a, cap, e, _⟩ := h2.row; exact ⟨a, cap, by simpa using e⟩
  have HB := hide (And.intro h1 h2)
  have H0 := hide (show ∀ o o2, Below w.heap.size w ((w.alloc o).alloc o2) from fun o o2 => ((Below.refl _ _).alloc (Nat.le_refl _) o).alloc (by simp) o2)
  obtain ⟨N, hN⟩ : ∃ N, N = L.length := ⟨_, rfl⟩
  rw [← hN] at HB ⊢
  clear h1 h2 hN
  have qC : (C != C) = false := by simp
  go_enter Tryz.func8, Tryz.ntmps8
  go_wp2_with fail
  refine (eqNodeS_same _ _ L us1 us2 _ (HB.out.1.below (H0.out _ _)) (HB.out.2.below (H0.out _ _))).mono ?_
  rintro e w4 ⟨rfl, b4⟩
  have H4 := hide ((H0.out _ _).trans (b4.mono (H0.out _ _).size))
  clear b4
  go_wp2
  go_ret
  exact ⟨rfl, H4.out⟩
end Go.Proofs.YtnbfpmmpmblmmaaGreatDoor

namespace Go.Proofs.YtnbfpmmpmblmmaaGreatDoor
set_option linter.unusedVariables false
set_option linter.unusedSimpArgs false
open Go.RowKit

end Go.Proofs.YtnbfpmmpmblmmaaGreatDoor
