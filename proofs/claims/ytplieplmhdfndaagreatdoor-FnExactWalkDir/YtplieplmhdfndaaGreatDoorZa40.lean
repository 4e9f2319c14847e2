/- Rows of nodes: whole elements set, zeros. toNodeS. Slices of Put: copies (toPut, toPutS), two that are the same held against each other (eqPut, eqPutS). A copy of a slice of Put: toPutS. Marks of slices of structs; two slices of Put that are the same. eqNodeS. -/
import Derived.Test.YtplieplmhdfndaaGreatDoorZa39
import Derived.Test.YtplieplmhdfndaaGreatDoorZa15
import Derived.Test.YtplieplmhdfndaaGreatDoorZa03
import Derived.Test.YtplieplmhdfndaaGreatDoorZa02
import Derived.Deep.MidRow
import Derived.Deep.RegionHeld3
namespace Go.Proofs.YtplieplmhdfndaaGreatDoor
set_option linter.unusedVariables false
set_option linter.unusedSimpArgs false
open Go.RowKit

theorem set_grownN (w : World) (g o : Nat) (x : Value) : w.grownBy (w.setCell ⟨g, o, none⟩ x) (some g) :=
  ⟨rfl, rfl, rfl, by simp, fun q hq hne => Below.heap_setCell w ⟨g, o, none⟩ _ q (fun e => hne (by rw [e]))⟩
theorem there_rowN {w : World} {base : Nat} {e : TypeId} {g n cap sz : Nat} {xs : List Value} (h : w.ownsRow base e sz (.slice (some ⟨g, 0, none⟩) n cap) n xs) {o m : Nat} (hk : o + m ≤ n * sz) : w.there g o m := by
  rcases h.2 with ⟨e, _⟩ | ⟨g', cap', cur, e, hb, hc, hn, hm, hs, ht⟩
  · cases e
  · injection e with e1 e2 e3
    injection e1 with e1
    injection e1 with e1 e4
    subst e1
    intro j hj
    have hlt : o + j < cur.size := by
      have : n * sz ≤ cap' * sz := Nat.mul_le_mul_right _ hn
      rw [hs]; omega
    have hB : Blk w g cur _ := hc
    refine ⟨?_, hB.frozen _⟩
    rw [hB.cell (o + j), Array.getElem?_eq_getElem hlt]
    rfl
theorem made_nd (n : Nat) : (madeCells (Value.agg #[.int .i64 0, .int .i64 0, .int .i64 0, .int .i64 0, .int .i64 0, .int .i64 0, .int .i64 0, .int .i64 0, .int .i64 0, .slice none 0 0]).cells (n * 10)).toList = cellsN (List.replicate n (.slice none 0 0)) ((List.replicate n nd0).map ndE) := by
  apply List.ext_getElem?
  intro j
  by_cases hj : j < n * 10
  · have h1 := cellsN_get 9 (List.replicate n (.slice none 0 0)) ((List.replicate n nd0).map ndE) (by simp) (ndE_pre _) (j / 10) (j % 10) (.slice none 0 0) (ndE nd0) (by rw [List.getElem?_replicate, if_pos (by omega)]) (by rw [List.getElem?_map, List.getElem?_replicate, if_pos (by omega)]; rfl) (by omega)
    rw [show j / 10 * (9 + 1) + j % 10 = j by omega] at h1
    rw [h1]
    rcases (by omega : j % 10 = 0 ∨ j % 10 = 1 ∨ j % 10 = 2 ∨ j % 10 = 3 ∨ j % 10 = 4 ∨ j % 10 = 5 ∨ j % 10 = 6 ∨ j % 10 = 7 ∨ j % 10 = 8 ∨ j % 10 = 9) with h | h | h | h | h | h | h | h | h | h <;> (rw [h]; simp [madeCells, hj, h, Value.cells, ndE, ndF, nd0])
  · rw [List.getElem?_eq_none (l := cellsN _ _) (by rw [cellsN_len 9 _ _ (by simp) (ndE_pre _)]; simp; omega)]
    simp [madeCells, hj]
theorem fill_nd (P : List Nd) (k : Nat) (p : Nd) (hp : P[k]? = some p) : (P.take k ++ List.replicate (P.length - k) nd0).set k p = P.take (k + 1) ++ List.replicate (P.length - (k + 1)) nd0 := by
  have hk : k < P.length := (List.getElem?_eq_some_iff.1 hp).1
  have e : P.take (k + 1) = P.take k ++ [p] := by rw [List.take_add_one, hp]; rfl
  rw [e, show P.length - k = (P.length - (k + 1)) + 1 by omega, List.replicate_succ, List.set_append_right _ _ (by simp; omega)]
  have : k - (P.take k).length = 0 := by simp; omega
  rw [this]
  simp
theorem OwnN.zerosN {w : World} {base n : Nat} {v : Value} (h : w.ownsRow base 56 10 v n (cellsN (List.replicate n (.slice none 0 0)) ((List.replicate n nd0).map ndE))) : OwnN w base 56 9 v ((List.replicate n nd0).map ndE) (List.replicate n (.slice none 0 0)) := by
  refine ⟨by simp, ndE_pre _, by simpa using h, fun i u l hu hl => ?_, fun i j u u' b hu _ hb _ => ?_⟩
  · rw [List.getElem?_replicate] at hu
    split at hu
    · cases hu
      rw [List.getElem?_map, List.getElem?_replicate] at hl
      split at hl
      · cases hl
        exact ⟨rfl, .inl ⟨rfl, rfl⟩⟩
      · contradiction
    · cases hu
  · rw [List.getElem?_replicate] at hu
    split at hu
    · cases hu
      cases hb
    · cases hu
theorem cells_grown (b : Nat) : ∀ (xs : List Value) (o : Nat) (w : World), w.grownBy (w.setCells b o xs) (some b)
  | [], _, w => World.grownBy.refl _ _
  | x :: xs, o, w => grownBy_trans (set_grownN w b o x) (cells_grown b xs (o + 1) _)
theorem cells_snoc (b : Nat) (y : Value) : ∀ (xs : List Value) (o : Nat) (w : World), w.setCells b o (xs ++ [y]) = (w.setCells b o xs).setCell ⟨b, o + xs.length, none⟩ y
  | [], _, _ => rfl
  | x :: xs, o, w => by
    show ((w.setCell ⟨b, o, none⟩ x).setCells b (o + 1) (xs ++ [y])) = _
    rw [cells_snoc b y xs (o + 1) _, show o + 1 + xs.length = o + (x :: xs).length by simp only [List.length_cons]; omega]
    rfl
/-- Fields set one after another, from the j-th on. -/
def putF (l : List Value) : Nat → List Value → List Value
  | _, [] => l
  | j, x :: xs => putF (l.set j x) (j + 1) xs
theorem putF_get (i : Nat) : ∀ (xs : List Value) (j : Nat) (l : List Value), j + xs.length ≤ l.length → (putF l j xs)[i]? = if j ≤ i ∧ i < j + xs.length then xs[i - j]? else l[i]?
  | [], j, l, h => by rw [if_neg (fun h => by have := h.2; simp at this; omega)]; rfl
  | x :: xs, j, l, h => by
    show (putF (l.set j x) (j + 1) xs)[i]? = _
    rw [putF_get i xs (j + 1) (l.set j x) (by simp at h ⊢; omega)]
    simp at h
    by_cases h1 : i = j
    · subst h1
      rw [if_neg (by omega), if_pos (by simp), List.getElem?_set_self (by omega)]
      simp
    · rw [List.getElem?_set_ne (by omega)]
      by_cases h2 : j + 1 ≤ i ∧ i < j + 1 + xs.length
      · rw [if_pos h2, if_pos (by simp; omega), show i - j = (i - (j + 1)) + 1 by omega, List.getElem?_cons_succ]
      · rw [if_neg h2, if_neg (by simp; omega)]
theorem putF_all (xs l : List Value) (h : xs.length = l.length) : putF l 0 xs = xs := by
  apply List.ext_getElem?
  intro i
  rw [putF_get i xs 0 l (by omega)]
  by_cases hi : i < xs.length
  · rw [if_pos (by omega), Nat.sub_zero]
  · rw [if_neg (by omega), List.getElem?_eq_none (by omega), List.getElem?_eq_none (by omega)]
theorem OwnN.fields {base g : Nat} {e : TypeId} {m : Nat} {v : Value} {vs : List Value} (he : e ≠ 5) (hv : v.ownBlock = some g) (i : Nat) : ∀ (xs : List Value) (j : Nat) (W : World) (L : List NE) (l : NE), OwnN W base e m v L vs → L[i]? = some l → j + xs.length ≤ m → OwnN (W.setCells g (i * (m + 1) + j) xs) base e m v (L.set i (putF l.1 j xs, l.2)) vs
  | [], j, W, L, l, h, hl, hj => by
    have : L.set i (putF l.1 j [], l.2) = L := by
      show L.set i l = L
      obtain ⟨hi, rfl⟩ := List.getElem?_eq_some_iff.1 hl
      simp
    rw [this]
    exact h
  | x :: xs, j, W, L, l, h, hl, hj => by
    have hi : i < L.length := (List.getElem?_eq_some_iff.1 hl).1
    have z := OwnN.fields he hv i xs (j + 1) _ _ (l.1.set j x, l.2) (h.field he i j l x hl (by simp at hj; omega) hv) (by rw [List.getElem?_set_self hi]) (by simp at hj; omega)
    rw [List.set_set] at z
    exact z
theorem OwnN.put {W : World} {base g : Nat} {e : TypeId} {m : Nat} {v : Value} {L : List NE} {vs : List Value} (h : OwnN W base e m v L vs) (he : e ≠ 5) (i : Nat) (hi : i < L.length) (xs : List Value) (hx : xs.length = m) (u : Value) (zs : List Int) (hv : v.ownBlock = some g) (hu : W.ownsRow base 5 1 u zs.length (zs.map (Value.int .u8)))
    (hnew : ∀ (j : Nat) (u' : Value) (b : Nat), vs[j]? = some u' → u'.ownBlock = some b → u.ownBlock ≠ some b) : OwnN (W.setCells g (i * (m + 1)) (xs ++ [u])) base e m v (L.set i (xs, zs)) (vs.set i u) := by
  have hl : L[i]? = some L[i] := List.getElem?_eq_getElem hi
  have hlen : L[i].1.length = m := h.pre _ (List.getElem_mem hi)
  have z := OwnN.fields he hv i xs 0 W L L[i] h hl (by omega)
  rw [putF_all xs _ (by rw [hx, hlen])] at z
  have y := z.last he i (xs, L[i].2) u zs (by rw [List.getElem?_set_self hi]) hv (hu.kept (cells_grown g xs _ W) (by rw [← hv]; exact own_apart hu h.row (Ne.symm he))) hnew
  rw [List.set_set] at y
  rw [cells_snoc, hx]
  exact y
end Go.Proofs.YtplieplmhdfndaaGreatDoor

namespace Go.Proofs.YtplieplmhdfndaaGreatDoor
set_option linter.unusedVariables false
set_option linter.unusedSimpArgs false
open Go.RowKit

set_option maxRecDepth 100000 in
set_option maxHeartbeats 4000000 in
theorem toNodeS_any (v : Value) (L : List Nd) (us : List Value) (w : World) (h : RdN w 9 v (L.map ndE) us) (hn : L.length ≤ 1048576) (hb : ∀ i, i < L.length → (ndAt L i).d.length ≤ 1048576) :
    Calls Tryz.prog 34 #[v] w fun e w' => ∃ v' vs, e = .returned v' ∧ OwnN w' w.heap.size 56 9 v' (L.map ndE) vs ∧ Below w.heap.size w w' := by
  obtain ⟨i0, hi, hz0, hz1, hz2⟩ := info_parts infoNz
  obtain ⟨a, cap, rfl⟩ : ∃ a cap, v = .slice a L.length cap := by obtain ⟨a, cap, e, _⟩ := h.row; exact ⟨a, cap, by simpa using e⟩
  have HR := hide h
  have HB := hide hb
  obtain ⟨N, hN⟩ : ∃ N, N = L.length := ⟨_, rfl⟩
  have HN := hide hN
  rw [← hN] at hn HR ⊢
  have hm : N ≤ maxLen := by unfold maxLen; omega
  clear h hb hN
  go_enter Tryz.func34, Tryz.ntmps34
  go_wp2_with (first | (refine wpList_make_full _ rfl (.tmp 6) (.tmp 6) 27 rfl w.heap.size 56 i0 (.agg #[.int .i64 0, .int .i64 0, .int .i64 0, .int .i64 0, .int .i64 0, .int .i64 0, .int .i64 0, .int .i64 0, .int .i64 0, .slice none 0 0]) 10 Tryz.underlying27 hi hz0 hz1 .i64 .i64 N N N rfl rfl rfl rfl (by rw [hz2]; omega) hm (Nat.le_refl _) ?_; intro w1 hown hgrow; rw [made_nd] at hown) | fail)
  have H1 := hide (show OwnN w1 w.heap.size 56 9 (.slice (some ⟨w.heap.size, 0, none⟩) N N) ((List.replicate N nd0).map ndE) (List.replicate N (.slice none 0 0)) ∧ Below w.heap.size w w1 from
    ⟨OwnN.zerosN hown, (Below.refl _ _).grown hgrow (Nat.le_refl _) (fun k h => by cases h)⟩)
  clear hgrow hown
  go_loopw [4] (fun i wr => ∃ (k : Nat) (vs : List Value), k ≤ N ∧ i = .int .i64 k ∧ Hid (OwnN wr w.heap.size 56 9 (.slice (some ⟨w.heap.size, 0, none⟩) N N) ((L.take k ++ List.replicate (L.length - k) nd0).map ndE) vs ∧ Below w.heap.size w wr)) (fun i _ => N - (intOf i).toNat)
  case atStart => exact ⟨0, _, Nat.zero_le _, rfl, hide ⟨by rw [List.take_zero, List.nil_append, Nat.sub_zero, ← HN.out]; exact H1.out.1, H1.out.2⟩⟩
  case round =>
    clear H1
    obtain ⟨k, vs, hk, rfl, HO⟩ := hrel
    by_cases hlt : k < N
    · have hkl : k < L.length := by rw [← HN.out]; exact hlt
      obtain ⟨b0, off, cap', na, nc, e0, hb0, hrd, hu, hrg⟩ := node_at (HR.out.below HO.out.2) (i := k) hkl
      injection e0 with e1 e2 e3
      subst e1 e3
      have hLk : L[k]? = some (ndAt L k) := by unfold ndAt; simp [List.getD, hkl]
      have hzs := HB.out k hkl
      obtain ⟨x, hx⟩ : ∃ x, x = ndAt L k := ⟨_, rfl⟩
      rw [← hx] at hrd hrg hzs hLk
      have HP := hide hLk
      obtain ⟨q, hq⟩ : ∃ q, q = x.d.length := ⟨_, rfl⟩
      have HQ := hide hq
      have HTO := hide (toNode_any x.k x.l x.m x.u x.g x.p x.e x.t x.c (.slice na x.d.length nc) x.d wr hrd (by omega))
      rw [← hq] at hrg hzs
      have HRg := hide (show wr.rangeAt b0 (off + k * 10) [.int .i64 x.k, .int .i64 x.l, .int .i64 x.m, .int .i64 x.u, .int .i64 x.g, .int .i64 x.p, .int .i64 x.e, .int .i64 x.t, .int .i64 x.c, .slice na q nc] from hrg)
      have HTO2 := hide (show Calls Tryz.prog 60 #[.agg #[.int .i64 x.k, .int .i64 x.l, .int .i64 x.m, .int .i64 x.u, .int .i64 x.g, .int .i64 x.p, .int .i64 x.e, .int .i64 x.t, .int .i64 x.c, .slice na q nc]] wr _ from by rw [hq]; exact HTO.out)
      clear hrg hrd hu e2 hb0 hx hq hLk HTO
      go_wp2_with (first | (refine wpList_load_mid rfl 118 _ rfl b0 (off + k * 10) rfl [.int .i64 x.k, .int .i64 x.l, .int .i64 x.m, .int .i64 x.u, .int .i64 x.g, .int .i64 x.p, .int .i64 x.e, .int .i64 x.t, .int .i64 x.c, .slice na q nc] _ HRg.out Tryz.underlying118 rfl infoLN10 ?_) | (go_at_call 60; fail))
      refine HTO2.out.mono ?_
      rintro e w2 ⟨u', rfl, o2, b2⟩
      obtain ⟨a2, c2, rfl⟩ : ∃ a cap, u' = .slice a x.d.length cap := by
        rcases o2.2 with ⟨rfl, h0⟩ | ⟨g, cap, _, rfl, _⟩
        · exact ⟨none, 0, by rw [h0]⟩
        · exact ⟨_, _, rfl⟩
      have O2 := hide (HO.out.1.below b2)
      have B2 := hide (HO.out.2.trans (b2.mono HO.out.2.size))
      have hfr : ∀ (j : Nat) (y : Value) (r : Nat), vs[j]? = some y → y.ownBlock = some r → (Value.slice a2 x.d.length c2).ownBlock ≠ some r := fun j y r hy hr e => by
        have h1 := (o2.lt r e).1
        have hjl : j < vs.length := (List.getElem?_eq_some_iff.1 hy).1
        rw [HO.out.1.len] at hjl
        have h2 := ((HO.out.1.dat j y _ hy (List.getElem?_eq_getElem hjl)).lt r hr).2
        omega
      have hQl : k < ((L.take k ++ List.replicate (L.length - k) nd0).map ndE).length := by simp; omega
      have z9 := O2.out.put (by decide) k hQl [.int .i64 x.k, .int .i64 x.l, .int .i64 x.m, .int .i64 x.u, .int .i64 x.g, .int .i64 x.p, .int .i64 x.e, .int .i64 x.t, .int .i64 x.c] rfl (.slice a2 x.d.length c2) x.d (g := w.heap.size) rfl (own_mono o2 HO.out.2.size) hfr
      have h5 : ((L.take k ++ List.replicate (L.length - k) nd0).map ndE).set k ([.int .i64 x.k, .int .i64 x.l, .int .i64 x.m, .int .i64 x.u, .int .i64 x.g, .int .i64 x.p, .int .i64 x.e, .int .i64 x.t, .int .i64 x.c], x.d) = (L.take (k + 1) ++ List.replicate (L.length - (k + 1)) nd0).map ndE := by
        rw [← fill_nd L k x HP.out, List.map_set]
        rfl
      rw [h5] at z9
      have H4 := hide (show OwnN (w2.setCells w.heap.size (k * 10) [.int .i64 x.k, .int .i64 x.l, .int .i64 x.m, .int .i64 x.u, .int .i64 x.g, .int .i64 x.p, .int .i64 x.e, .int .i64 x.t, .int .i64 x.c, .slice a2 x.d.length c2]) w.heap.size 56 9 (.slice (some ⟨w.heap.size, 0, none⟩) N N) ((L.take (k + 1) ++ List.replicate (L.length - (k + 1)) nd0).map ndE) (vs.set k (.slice a2 x.d.length c2)) ∧ Below w.heap.size w (w2.setCells w.heap.size (k * 10) [.int .i64 x.k, .int .i64 x.l, .int .i64 x.m, .int .i64 x.u, .int .i64 x.g, .int .i64 x.p, .int .i64 x.e, .int .i64 x.t, .int .i64 x.c, .slice a2 x.d.length c2]) from ⟨z9, below_cells (Nat.le_refl _) _ _ B2.out⟩)
      have HT := hide (there_rowN (show w2.ownsRow w.heap.size 56 10 (.slice (some ⟨w.heap.size, 0, none⟩) N N) N _ from by
        have := O2.out.row
        rw [show ((L.take k ++ List.replicate (L.length - k) nd0).map ndE).length = N by simp; have := HN.out; omega] at this
        exact this) (o := k * 10) (m := 10) (by omega))
      clear z9 h5 hfr hQl o2 b2 O2 B2 HO HTO2
      obtain ⟨qd, hqd⟩ : ∃ qd, qd = x.d.length := ⟨_, rfl⟩
      rw [← hqd] at H4 ⊢
      clear hqd
      unfold nodeV
      obtain ⟨cs, hcs⟩ : ∃ cs : Array Value, cs = #[.int .i64 x.k, .int .i64 x.l, .int .i64 x.m, .int .i64 x.u, .int .i64 x.g, .int .i64 x.p, .int .i64 x.e, .int .i64 x.t, .int .i64 x.c, .slice a2 qd c2] := ⟨_, rfl⟩
      have HT' := hide (show w2.there w.heap.size (k * 10) cs.size from by rw [hcs]; exact HT.out)
      have HI := hide (show (Tryz.prog.info? 56).map (·.size) = some cs.size from by rw [hcs]; exact infoN10)
      have HC := hide (show cs.all (·.oneCell') = true from by rw [hcs]; exact oneNd _ _ _ _)
      have H5 := hide (show OwnN (w2.setCells w.heap.size (k * 10) cs.toList) w.heap.size 56 9 (.slice (some ⟨w.heap.size, 0, none⟩) N N) ((L.take (k + 1) ++ List.replicate (L.length - (k + 1)) nd0).map ndE) (vs.set k (.slice a2 qd c2)) ∧ Below w.heap.size w (w2.setCells w.heap.size (k * 10) cs.toList) from by rw [hcs]; exact H4.out)
      rw [← hcs]
      clear H4 HT hcs
      go_wp2_with (first | (refine wpList_store_mid rfl 56 _ _ rfl w.heap.size (k * 10) cs rfl rfl HT'.out HI.out HC.out ?_) | fail)
      go_roundw
      case rel => exact ⟨k + 1, _, by omega, by go_num, H5⟩
      case measure => simp [intOf]; omega
    · have hkN : k = N := by omega
      have HF := hide (show OwnN wr w.heap.size 56 9 (.slice (some ⟨w.heap.size, 0, none⟩) N N) (L.map ndE) vs from by
        have := HO.out.1
        rw [hkN, HN.out, Nat.sub_self, List.replicate_zero, List.append_nil, List.take_length, ← HN.out] at this
        exact this)
      clear hkN
      go_wp2
      go_ret
      exact ⟨_, vs, rfl, HF.out, HO.out.2⟩
end Go.Proofs.YtplieplmhdfndaaGreatDoor

namespace Go.Proofs.YtplieplmhdfndaaGreatDoor
set_option linter.unusedVariables false
set_option linter.unusedSimpArgs false
open Go.RowKit

/-- A Put as an element. -/
def neP (p : Int × List Int) : NE := ([.int .i64 p.1], p.2)
theorem neP_pre (P : List (Int × List Int)) : ∀ l ∈ P.map neP, l.1.length = 1 := by
  intro l hl
  rw [List.mem_map] at hl
  obtain ⟨p, _, rfl⟩ := hl
  rfl
end Go.Proofs.YtplieplmhdfndaaGreatDoor

namespace Go.Proofs.YtplieplmhdfndaaGreatDoor
set_option linter.unusedVariables false
set_option linter.unusedSimpArgs false
open Go.RowKit

end Go.Proofs.YtplieplmhdfndaaGreatDoor

namespace Go.Proofs.YtplieplmhdfndaaGreatDoor
set_option linter.unusedVariables false
set_option linter.unusedSimpArgs false
open Go.RowKit

/-- Nothing turned but the row and the bytes. -/
structure KpN (w w' : World) (v : Value) (vs : List Value) : Prop where
  os : w'.os = w.os
  tape : w'.tape = w.tape
  output : w'.output = w.output
  size : w.heap.size ≤ w'.heap.size
  block : ∀ b, b < w.heap.size → v.ownBlock ≠ some b → (∀ u ∈ vs, u.ownBlock ≠ some b) → w'.heap[b]? = w.heap[b]?
theorem KpN.refl (w : World) (v : Value) (vs : List Value) : KpN w w v vs := ⟨rfl, rfl, rfl, Nat.le_refl _, fun _ _ _ _ => rfl⟩
theorem KpN.row {w w' w2 : World} {v : Value} {vs : List Value} (h : KpN w w' v vs) (g : w'.grownBy w2 v.ownBlock) : KpN w w2 v vs :=
  ⟨g.os.trans h.os, g.tape.trans h.tape, g.output.trans h.output, Nat.le_trans h.size g.size, fun b hb h1 h2 => (g.block b (Nat.lt_of_lt_of_le hb h.size) (fun e => h1 e.symm)).trans (h.block b hb h1 h2)⟩
theorem KpN.dat {w w' w2 : World} {v : Value} {vs : List Value} (h : KpN w w' v vs) (u : Value) (hu : u ∈ vs) (g : w'.grownBy w2 u.ownBlock) : KpN w w2 v vs :=
  ⟨g.os.trans h.os, g.tape.trans h.tape, g.output.trans h.output, Nat.le_trans h.size g.size, fun b hb h1 h2 => (g.block b (Nat.lt_of_lt_of_le hb h.size) (fun e => h2 u hu e.symm)).trans (h.block b hb h1 h2)⟩
end Go.Proofs.YtplieplmhdfndaaGreatDoor

namespace Go.Proofs.YtplieplmhdfndaaGreatDoor
set_option linter.unusedVariables false
set_option linter.unusedSimpArgs false
open Go.RowKit

set_option maxRecDepth 100000 in
set_option maxHeartbeats 2000000 in
theorem eqNodeS_same (v1 v2 : Value) (P : List Nd) (us1 us2 : List Value) (w : World) (h1 : RdN w 9 v1 (P.map ndE) us1) (h2 : RdN w 9 v2 (P.map ndE) us2) :
    Calls Tryz.prog 37 #[v1, v2] w fun e w' => e = .returned (.bool true) ∧ Below w.heap.size w w' := by
  obtain ⟨a1, c1, rfl⟩ : ∃ a cap, v1 = .slice a P.length cap := by obtain ⟨a, cap, e, _⟩ := h1.row; exact ⟨a, cap, by simpa using e⟩
  obtain ⟨a2, c2, rfl⟩ : ∃ a cap, v2 = .slice a P.length cap := by obtain ⟨a, cap, e, _⟩ := h2.row; exact ⟨a, cap, by simpa using e⟩
  have hm : P.length ≤ 9223372036854775807 := by obtain ⟨a, cap, _, _, g1, g2⟩ := h1.row; unfold maxLen at g2; simp at g1; omega
  have H1 := hide (show RdN w 9 (.slice a1 (P.map ndE).length c1) (P.map ndE) us1 from by simpa using h1)
  have H2 := hide (show RdN w 9 (.slice a2 (P.map ndE).length c2) (P.map ndE) us2 from by simpa using h2)
  clear h1 h2
  have hcc : ((P.length : Int) != (P.length : Int)) = false := by simp
  go_enter Tryz.func37, Tryz.ntmps37
  go_wp2
  go_loopw [5] (fun i wr => ∃ k : Nat, k ≤ P.length ∧ i = .int .i64 k ∧ Below w.heap.size w wr) (fun i _ => P.length - (intOf i).toNat)
  case atStart => exact ⟨0, Nat.zero_le _, rfl, Below.refl _ _⟩
  case round =>
    obtain ⟨k, hk, rfl, hb1⟩ := hrel
    have HK := hide hb1
    clear hb1
    by_cases hlt : k < P.length
    · obtain ⟨x, hp⟩ : ∃ x, P[k]? = some x := ⟨_, List.getElem?_eq_getElem hlt⟩
      obtain ⟨b, off, u, e0, hb0, hu, hrd, hrg⟩ := (H1.out.below HK.out).at (i := k) (l := ndE x) (by rw [List.getElem?_map, hp]; rfl)
      obtain ⟨b', off', u', e0', hb0', hu', hrd', hrg'⟩ := (H2.out.below HK.out).at (i := k) (l := ndE x) (by rw [List.getElem?_map, hp]; rfl)
      subst e0
      subst e0'
      have HR := hide (show wr.rangeAt b (off + k * 10) [.int .i64 x.k, .int .i64 x.l, .int .i64 x.m, .int .i64 x.u, .int .i64 x.g, .int .i64 x.p, .int .i64 x.e, .int .i64 x.t, .int .i64 x.c, u] from hrg)
      have HR' := hide (show wr.rangeAt b' (off' + k * 10) [.int .i64 x.k, .int .i64 x.l, .int .i64 x.m, .int .i64 x.u, .int .i64 x.g, .int .i64 x.p, .int .i64 x.e, .int .i64 x.t, .int .i64 x.c, u'] from hrg')
      have HD := hide (And.intro (show Rd .u8 wr u x.d from hrd) (show Rd .u8 wr u' x.d from hrd'))
      clear hrg hrg' hrd hrd' hu hu' hp
      go_wp2_with fail
      refine wp_region_noPanic ?_
      refine wp_region_held_drew (S := fun w' => w'.rangeAt b (off + k * 10) [.int .i64 x.k, .int .i64 x.l, .int .i64 x.m, .int .i64 x.u, .int .i64 x.g, .int .i64 x.p, .int .i64 x.e, .int .i64 x.t, .int .i64 x.c, u] ∧ w'.rangeAt b' (off' + k * 10) [.int .i64 x.k, .int .i64 x.l, .int .i64 x.m, .int .i64 x.u, .int .i64 x.g, .int .i64 x.p, .int .i64 x.e, .int .i64 x.t, .int .i64 x.c, u']) (by kernel_rfl) ⟨HR.out, HR'.out⟩ (fun hH => ?_)
      refine wpAnyH_take (i := 0) (oi := _) (v := .slice (some ⟨b, off, none⟩) P.length c1) rfl (by kernel_rfl) (by kernel_rfl) (by kernel_rfl) (fun _ _ _ h => h) (Or.inl ⟨by rfl, fun w' hw' => by go_simp⟩) hH ?_
      try simp only [Act.put, List.getElem_toArray, List.getElem_cons_zero, List.getElem_cons_succ, List.setIfInBounds_toArray, List.set_cons_zero, List.set_cons_succ]
      refine wpAnyH_take (i := 1) (oi := _) (v := .int .i64 k) rfl (by kernel_rfl) (by kernel_rfl) (by kernel_rfl) (fun _ _ _ h => h) (Or.inl ⟨by rfl, fun w' hw' => by go_simp⟩) hH ?_
      try simp only [Act.put, List.getElem_toArray, List.getElem_cons_zero, List.getElem_cons_succ, List.setIfInBounds_toArray, List.set_cons_zero, List.set_cons_succ]
      refine wpAnyH_take (i := 2) (oi := _) (v := .pointer (some ⟨b, off + k * 10, none⟩)) rfl (by kernel_rfl) (by kernel_rfl) (by kernel_rfl) (fun _ _ _ h => h) (Or.inl ⟨by rfl, fun w' hw' => by go_simp⟩) hH ?_
      try simp only [Act.put, List.getElem_toArray, List.getElem_cons_zero, List.getElem_cons_succ, List.setIfInBounds_toArray, List.set_cons_zero, List.set_cons_succ]
      refine wpAnyH_take (i := 3) (oi := _) (v := .agg #[.int .i64 x.k, .int .i64 x.l, .int .i64 x.m, .int .i64 x.u, .int .i64 x.g, .int .i64 x.p, .int .i64 x.e, .int .i64 x.t, .int .i64 x.c, u]) rfl (by kernel_rfl) (by kernel_rfl) (by kernel_rfl) (fun _ _ _ h => h) (yieldsIf_load_mid (by rfl) 56 _ rfl b (off + k * 10) rfl [.int .i64 x.k, .int .i64 x.l, .int .i64 x.m, .int .i64 x.u, .int .i64 x.g, .int .i64 x.p, .int .i64 x.e, .int .i64 x.t, .int .i64 x.c, u] _ (fun w' h => h.1) Tryz.underlying56 rfl infoN10) hH ?_
      try simp only [Act.put, List.getElem_toArray, List.getElem_cons_zero, List.getElem_cons_succ, List.setIfInBounds_toArray, List.set_cons_zero, List.set_cons_succ]
      refine wpAnyH_take (i := 4) (oi := _) (v := .slice (some ⟨b', off', none⟩) P.length c2) rfl (by kernel_rfl) (by kernel_rfl) (by kernel_rfl) (fun _ _ _ h => h) (Or.inl ⟨by rfl, fun w' hw' => by go_simp⟩) hH ?_
      try simp only [Act.put, List.getElem_toArray, List.getElem_cons_zero, List.getElem_cons_succ, List.setIfInBounds_toArray, List.set_cons_zero, List.set_cons_succ]
      refine wpAnyH_take (i := 5) (oi := _) (v := .int .i64 k) rfl (by kernel_rfl) (by kernel_rfl) (by kernel_rfl) (fun _ _ _ h => h) (Or.inl ⟨by rfl, fun w' hw' => by go_simp⟩) hH ?_
      try simp only [Act.put, List.getElem_toArray, List.getElem_cons_zero, List.getElem_cons_succ, List.setIfInBounds_toArray, List.set_cons_zero, List.set_cons_succ]
      refine wpAnyH_take (i := 6) (oi := _) (v := .pointer (some ⟨b', off' + k * 10, none⟩)) rfl (by kernel_rfl) (by kernel_rfl) (by kernel_rfl) (fun _ _ _ h => h) (Or.inl ⟨by rfl, fun w' hw' => by go_simp⟩) hH ?_
      try simp only [Act.put, List.getElem_toArray, List.getElem_cons_zero, List.getElem_cons_succ, List.setIfInBounds_toArray, List.set_cons_zero, List.set_cons_succ]
      refine wpAnyH_take (i := 7) (oi := _) (v := .agg #[.int .i64 x.k, .int .i64 x.l, .int .i64 x.m, .int .i64 x.u, .int .i64 x.g, .int .i64 x.p, .int .i64 x.e, .int .i64 x.t, .int .i64 x.c, u']) rfl (by kernel_rfl) (by kernel_rfl) (by kernel_rfl) (fun _ _ _ h => h) (yieldsIf_load_mid (by rfl) 56 _ rfl b' (off' + k * 10) rfl [.int .i64 x.k, .int .i64 x.l, .int .i64 x.m, .int .i64 x.u, .int .i64 x.g, .int .i64 x.p, .int .i64 x.e, .int .i64 x.t, .int .i64 x.c, u'] _ (fun w' h => h.2) Tryz.underlying56 rfl infoN10) hH ?_
      try simp only [Act.put, List.getElem_toArray, List.getElem_cons_zero, List.getElem_cons_succ, List.setIfInBounds_toArray, List.set_cons_zero, List.set_cons_succ]
      refine wpAnyH_ready (rs := [8]) (by kernel_rfl) (by simp) ?_
      refine AllReadyH.cons (o := _) rfl (fun K hK => ?_) AllReadyH.nil
      go_simp
      refine (eqNode_same x.k x.l x.m x.u x.g x.p x.e x.t x.c _ _ x.d _ (HD.out.1.below ((Below.refl _ _).drew)) (HD.out.2.below ((Below.refl _ _).drew))).mono ?_
      rintro e w2 ⟨rfl, b2⟩
      have b3 := ((Below.refl _ _).drew).trans b2
      have B2 := hide (HK.out.trans (b3.mono HK.out.size))
      have s2 : w2.rangeAt b (off + k * 10) [.int .i64 x.k, .int .i64 x.l, .int .i64 x.m, .int .i64 x.u, .int .i64 x.g, .int .i64 x.p, .int .i64 x.e, .int .i64 x.t, .int .i64 x.c, u] ∧ w2.rangeAt b' (off' + k * 10) [.int .i64 x.k, .int .i64 x.l, .int .i64 x.m, .int .i64 x.u, .int .i64 x.g, .int .i64 x.p, .int .i64 x.e, .int .i64 x.t, .int .i64 x.c, u'] := ⟨fun j v hv => (b3.cell (p := ⟨b, off + k * 10 + j, none⟩) hb0).trans (HR.out j v hv), fun j v hv => (b3.cell (p := ⟨b', off' + k * 10 + j, none⟩) hb0').trans (HR'.out j v hv)⟩
      refine hK.out _ _ s2 (fun hH => ?_)
      clear hK K s2 b2 b3 HK
      try simp only [Act.put, List.getElem_toArray, List.getElem_cons_zero, List.getElem_cons_succ, List.setIfInBounds_toArray, List.set_cons_zero, List.set_cons_succ]
      refine wpAnyH_take (i := 9) (oi := _) (v := .bool false) rfl (by kernel_rfl) (by kernel_rfl) (by kernel_rfl) (fun _ _ _ h => h) (Or.inl ⟨by rfl, fun w' hw' => by go_simp⟩) hH ?_
      try simp only [Act.put, List.getElem_toArray, List.getElem_cons_zero, List.getElem_cons_succ, List.setIfInBounds_toArray, List.set_cons_zero, List.set_cons_succ]
      refine wpAnyH_done (by kernel_rfl) (NoPanic.normal ?_) _
      clear hH
      go_wp2
      go_roundw
      case rel => exact ⟨k + 1, by omega, by go_num, B2.out⟩
      case measure => simp [intOf]; omega
    · go_wp2
      go_ret
      exact ⟨rfl, HK.out⟩

end Go.Proofs.YtplieplmhdfndaaGreatDoor
