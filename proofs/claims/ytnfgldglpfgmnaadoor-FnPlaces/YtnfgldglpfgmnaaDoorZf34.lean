/- The program's renewal: fresh. The program's renewal: a number set, an old one looked up. -/
import Derived.Test.YtnfgldglpfgmnaaDoorZf33
namespace Go.Proofs.YtnfgldglpfgmnaaDoor
set_option linter.unusedVariables false
set_option linter.unusedSimpArgs false
open Go.RowKit

theorem OwnN.ltR {W : World} {base : Nat} {e : TypeId} {m : Nat} {v : Value} {L : List NE} {vs : List Value} (h : OwnN W base e m v L vs) {i : Nat} {u : Value} {b : Nat} (hu : vs[i]? = some u) (hb : u.ownBlock = some b) : base ≤ b ∧ b < W.heap.size := by
  have hi : i < L.length := by rw [← h.len]; exact (List.getElem?_eq_some_iff.1 hu).1
  exact (h.dat i u L[i] hu (List.getElem?_eq_getElem hi)).lt b hb
theorem cells_newR (w : World) (C : Array Value) (t : TypeId) : ∀ j u, C.toList[j]? = some u → (w.alloc (.cells C t)).cell? (Addr.add ⟨w.heap.size, 0, none⟩ j) = some u := by
  intro j u h
  rw [Addr.add_mid, Nat.zero_add, (Blk.new w C t).cell j]
  simpa using h
theorem blk_same {w : World} {b d : Nat} {C C' : Array Value} {t t' : TypeId} (h : Blk w b C t) (k : Blk w d C' t') (e : b = d) : t = t' := by
  subst e
  have h1 : w.heap[b]? = some (.cells C t (0, 0)) := h
  have h2 : w.heap[b]? = some (.cells C' t' (0, 0)) := k
  rw [h1] at h2
  injection h2 with h2
  injection h2 with _ h2 _
theorem blk_over {w w1 : World} {b g : Nat} {C G : Array Value} {t u : TypeId} {v : Value} (hw : w1 = w.setCell ⟨g, 0, none⟩ v) (hg : Blk w g G u) (h : Blk w b C t) (ht : t ≠ u) : Blk w1 b C t := by
  rw [hw]
  exact h.other _ _ (fun e => ht (blk_same h hg e))
theorem sup_tail {W : World} {bd off : Nat} {x : Int} {xs : List Int} {cap : Nat} {a' : Option Addr} (h : Rd .i64 W (.slice (some ⟨bd, off, none⟩) (x :: xs).length cap) (x :: xs)) (ha : cap ≠ 1 → a' = some ⟨bd, off + 1, none⟩) : Rd .i64 W (.slice a' xs.length (cap - 1)) xs := by
  obtain ⟨bd', off', cap', e, h1, h2, h3, h4⟩ := h.partsC (by simp)
  injection e with e1 e2 e3
  subst e3
  rcases Nat.eq_zero_or_pos xs.length with h0 | h0
  · obtain rfl : xs = [] := List.eq_nil_of_length_eq_zero h0
    exact ⟨a', cap - 1, rfl, by simp, fun h => absurd rfl h, by simp, by omega⟩
  · simp at h2
    have hc := ha (by omega)
    subst hc
    have hh := Rd.cut2 1 xs.length h h0 (by simp; omega)
    simpa using hh
/-- The rest of the numbers stays where an append to the puts and a cell of the renewal are written. -/
theorem Sup.kpyG {W0 W A E : World} {fv : Value} {L : List Int} {b : Nat} {C : Array Value} {v : Value} (h : Sup W0 W fv (some L)) (k : Blk A b C 72) (y : KpY TyF E (A.setCell ⟨b, 24, none⟩ v)) (y4 : KpY (fun t => t = 40) E A) (hb : Below W.heap.size W E) : Sup W0 (A.setCell ⟨b, 24, none⟩ v) fv (some L) := by
  obtain ⟨g, a, cap, h1, h2, h3, h4⟩ := h
  have k3 := y4.blk (h3.below hb h3.lt) (by decide)
  exact ⟨g, a, cap, h1, h2, k3.other _ _ (fun e => absurd (blk_same k3 k e) (by decide)), h4⟩
set_option maxRecDepth 100000 in
set_option maxHeartbeats 2000000 in
theorem fresh_any (W0 wA w : World) (b : Nat) (D : RD) (da : Option Addr) (n dc : Nat) (ys : List Int) (h : RSt W0 wA b D) (hb : Below wA.heap.size wA w) (hn : n = ys.length) (hd : w.ownsRow wA.heap.size 5 1 (.slice da ys.length dc) ys.length (ys.map (Value.int .u8))) (hP : D.P.length ≤ 100000) :
    Calls Tryd.prog 97 #[.pointer (some ⟨b, 0, none⟩), .slice da n dc] w fun e w' => e = .returned (.int .i64 (supN D.st)) ∧ RSt W0 w' b (D.fresh ys) ∧ KpY TyF w w' ∧ Below W0.heap.size w w' ∧ (∀ l, l < 3 → w'.cell? ⟨b, 20 + l, none⟩ = w.cell? ⟨b, 20 + l, none⟩) := by
  obtain ⟨tr, cv, Lo, Ln, P, sh, st⟩ := D
  obtain ⟨C, so, sl, fv, pv, vs, hA⟩ := h
  have HA := hide hA
  have HS := hide (hA.below hb)
  clear hA
  obtain ⟨i0, hi, hz0, hz1, hz2⟩ := info_parts infoPut
  obtain ⟨pa, pc, rfl⟩ := own_shape HS.out.puts.row
  obtain ⟨pn, hpn⟩ : ∃ pn, pn = P.length := ⟨_, rfl⟩
  have hP2 : pn ≤ 100000 := by rw [hpn]; exact hP
  simp only [List.length_map, ← hpn] at HA HS
  have c24 := (HS.out.now.box.cell 24).trans HS.out.ps
  have c25 := (HS.out.now.box.cell 25).trans HS.out.sh
  have f25 := HS.out.now.box.frozen 25
  have c23 := (HS.out.now.box.cell 23).trans HS.out.fn
  have HN := hide hn
  have HPN := hide hpn
  clear hP hn hpn
  cases st with
  | none =>
    have hfv : fv = .func (.func 27) #[] #[] := HS.out.sup
    subst hfv
    have HS1 := hide HS.out
    have HY1 := hide (KpY.refl TyF w)
    have HB1 := hide (Below.refl W0.heap.size w)
    go_enter Tryd.func97, Tryd.ntmps97
    go_upto_region 5 with (first | (go_at_call 27; refine (unlike_any _).mono ?_; rintro e w' ⟨rfl, rfl⟩) | fail)
    clear c23 c24 c25 f25
    have hS1 := HS1.out
    have hsz1 : wA.heap.size ≤ w.heap.size := Nat.le_trans hb.size HB1.out.size
    have hlo1 := hS1.low.size
    have c24 := (hS1.now.box.cell 24).trans hS1.ps
    have HD1 := hide (show w.ownsRow wA.heap.size 5 1 (.slice da ys.length dc) ys.length (ys.map (Value.int .u8)) from HY1.out.own hd (by unfold TyF; decide))
    have B2 := hide (show Below w.heap.size w (w.alloc (.cells #[.int .i64 (-1), .slice da n dc] 40)) from (Below.refl _ _).alloc (Nat.le_refl _) _)
    have S2 := hide (hS1.below B2.out)
    have R2 := hide S2.out.puts.row
    rw [List.length_map, ← HPN.out] at R2
    clear hS1
    go_wp2_with (first
      | (at_builtin; go_loud (refine wpList_append_own_at _ rfl (.tmp 24) (.tmp 28) 35 rfl W0.heap.size 40 i0 (.agg #[.int .i64 0, .slice none 0 0]) 2 32 Tryd.underlying35 hi hz0 hz1 hz2 rfl (by decide) (.slice pa pn pc) pn _ rfl R2.out ⟨w.heap.size, 0, none⟩ 1 1 [.int .i64 (-1), .slice da n dc] rfl rfl (cells_newR w #[.int .i64 (-1), .slice da n dc] 40) (by intro y hy; simp at hy; rcases hy with rfl | rfl <;> rfl) (by unfold maxLen; omega) (by omega) (by simp; omega) ?_; intro v4 w4 o4 g4 _ _; obtain ⟨va4, vc4, rfl⟩ := own_shape o4; have O4 := hide (And.intro o4 g4); have k4 : Blk w4 b C 72 := (KpY.ownrow (T := fun t => t = 40) (KpY.refl _ _) R2.out rfl g4).blk S2.out.now.box (by decide); have c4 := k4.cell 24; have f4 := k4.frozen 24; rw [Array.getElem?_eq_getElem (by have := HS.out.size; omega)] at c4; have K4 := hide k4; clear o4 g4 k4))
      | fail)
    clear c4 f4
    have Y4 := hide (show KpY (fun t => t = 40) (w.alloc (.cells #[.int .i64 (-1), .slice da n dc] 40)) w4 from (KpY.refl _ _).ownrow R2.out rfl O4.out.2)
    have A4 := hide (show OwnN w4 W0.heap.size 40 1 (.slice va4 (pn + 1) vc4) ((P ++ [((-1), ys)]).map neP) (vs ++ [.slice da n dc]) from by
      rw [List.map_append]
      show OwnN _ _ _ _ _ (_ ++ [neP ((-1), ys)]) _
      have hh := S2.out.puts.push (by decide) (neP ((-1), ys)) (.slice da n dc) rfl (by have := own_below (own_mono HD1.out (by have := HA.out.low.size; omega)) B2.out; have e := HN.out; subst e; exact this) (fun j x k hx hk e => by have h1 := (HD1.out.lt k (by rw [← e, HN.out])).1; have h2 := (HA.out.puts.ltR hx hk).2; omega) (by rw [List.length_map, ← HPN.out]; exact O4.out.1) O4.out.2
      exact hh)
    have K5 := hide (K4.out.set 24 (.slice va4 (pn + 1) vc4))
    have Y5 := hide (show KpY TyF w (w4.setCell ⟨b, 24, none⟩ (.slice va4 (pn + 1) vc4)) from (((HY1.out.below B2.out).trans (Y4.out.weaker (fun t h => .inr (.inr h)))).setCell K4.out (.inl rfl)))
    have Y5b := hide (show KpY (fun t => t = 72) w4 (w4.setCell ⟨b, 24, none⟩ (.slice va4 (pn + 1) vc4)) from (KpY.refl _ _).setCell K4.out rfl)
    have Y5c := hide (show KpY TyF (w.alloc (.cells #[.int .i64 (-1), .slice da n dc] 40)) (w4.setCell ⟨b, 24, none⟩ (.slice va4 (pn + 1) vc4)) from ((Y4.out.weaker (fun t h => .inr (.inr h))).setCell K4.out (.inl rfl)))
    have B5 := hide (show Below W0.heap.size w (w4.setCell ⟨b, 24, none⟩ (.slice va4 (pn + 1) vc4)) from (((HB1.out.trans (B2.out.mono (by omega))).grown O4.out.2 (by simp; omega) (fun r e => (R2.out.lt r e).1))).setCell (p := ⟨b, 24, none⟩) HS.out.lo _)
    go_wp2
    go_ret
    refine ⟨rfl, ⟨C.setIfInBounds 24 (.slice va4 (pn + 1) vc4), so, sl, .func (.func 27) #[] #[], .slice va4 (pn + 1) vc4, vs ++ [.slice da n dc], ⟨HS.out.trs, by rw [Array.size_setIfInBounds]; exact HS.out.size, fun i hi => ?_, ?_, ?_, ?_, HS.out.apart, ?_, ?_, ?_, ?_, ?_, HS.out.lo, HS.out.low.trans B5.out⟩⟩, Y5.out, B5.out, fun l hl => ((K5.out.cell (20 + l)).trans (Array.getElem?_setIfInBounds_ne (by omega))).trans (HS.out.now.box.cell (20 + l)).symm⟩
    · rw [Array.getElem?_setIfInBounds_ne (by omega)]; exact HS.out.tr i hi
    · rw [Array.getElem?_setIfInBounds_ne (by omega)]; exact HS.out.cv
    · exact S2.out.old.kpy Y5c.out (by unfold TyF; decide) K5.out (fun l hl => Array.getElem?_setIfInBounds_ne (by omega))
    · exact S2.out.now.kpy Y5c.out (by unfold TyF; decide) K5.out (fun l hl => Array.getElem?_setIfInBounds_ne (by omega))
    · rw [Array.getElem?_setIfInBounds_ne (by omega)]; exact HS.out.fn
    · rfl
    · rw [Array.getElem?_setIfInBounds_self_of_lt (by have := HS.out.size; omega)]
    · exact Y5b.out.ownN A4.out (by decide) (by decide)
    · rw [Array.getElem?_setIfInBounds_ne (by omega)]; exact HS.out.sh
  | some L =>
    obtain ⟨g, la, lc, rfl, hg, hgB, hgR⟩ := HS.out.sup
    have HG := hide (And.intro hg (And.intro hgB hgR))
    cases L with
    | nil =>
      clear hg hgB hgR
      have hb0 : Blk w g #[.slice la 0 lc] 38 := HG.out.2.1
      have HB0 := hide hb0
      clear hb0
      have K5 := hide (HS.out.now.box.set 25 (.bool true))
      have Y5 := hide (show KpY TyF w (w.setCell ⟨b, 25, none⟩ (.bool true)) from (KpY.refl _ _).setCell HS.out.now.box (.inl rfl))
      have B5 := hide (show Below W0.heap.size w (w.setCell ⟨b, 25, none⟩ (.bool true)) from (Below.refl _ _).setCell (p := ⟨b, 25, none⟩) HS.out.lo _)
      go_enter Tryd.func97, Tryd.ntmps97
      go_wp2_with (first | (go_at_call 50; refine (supply_none _ _ _ _ HB0.out).mono ?_; rintro e w' ⟨rfl, rfl⟩) | fail)
      go_ret
      refine ⟨rfl, ⟨C.setIfInBounds 25 (.bool true), so, sl, .func (.func 50) #[] #[.pointer (some ⟨g, 0, none⟩)], .slice pa pn pc, vs, ⟨HS.out.trs, by rw [Array.size_setIfInBounds]; exact HS.out.size, fun i hi => ?_, ?_, ?_, ?_, HS.out.apart, ?_, ?_, ?_, ?_, ?_, HS.out.lo, HS.out.low.trans B5.out⟩⟩, Y5.out, B5.out, fun l hl => ((K5.out.cell (20 + l)).trans (Array.getElem?_setIfInBounds_ne (by omega))).trans (HS.out.now.box.cell (20 + l)).symm⟩
      · rw [Array.getElem?_setIfInBounds_ne (by omega)]; exact HS.out.tr i hi
      · rw [Array.getElem?_setIfInBounds_ne (by omega)]; exact HS.out.cv
      · exact HS.out.old.kpy Y5.out (by unfold TyF; decide) K5.out (fun l hl => Array.getElem?_setIfInBounds_ne (by omega))
      · exact HS.out.now.kpy Y5.out (by unfold TyF; decide) K5.out (fun l hl => Array.getElem?_setIfInBounds_ne (by omega))
      · rw [Array.getElem?_setIfInBounds_ne (by omega)]; exact HS.out.fn
      · exact ⟨g, la, lc, rfl, HG.out.1, HB0.out.other _ _ (fun e => absurd (blk_same HB0.out HS.out.now.box e) (by decide)), HG.out.2.2⟩
      · rw [Array.getElem?_setIfInBounds_ne (by omega)]; exact HS.out.ps
      · exact (KpY.setCell (T := fun t => t = 72) (KpY.refl _ _) HS.out.now.box rfl).ownN HS.out.puts (by decide) (by decide)
      · rw [Array.getElem?_setIfInBounds_self_of_lt (by have := HS.out.size; omega)]; rfl
    | cons x xs =>
      obtain ⟨bd, off, cp, ee, hbw, hcl, hcm, hcell⟩ := hgR.partsC (by simp)
      injection ee with e1 e2 e3
      subst e1 e3
      have hgR0 := hgR
      obtain ⟨xl, hxl⟩ : ∃ xl, xl = xs.length := ⟨_, rfl⟩
      have hb0 : Blk w g #[.slice (some ⟨bd, off, none⟩) (xl + 1) lc] 38 := by rw [hxl]; exact HG.out.2.1
      have HB0 := hide hb0
      have HX := hide (show w.cell? ⟨bd, off, none⟩ = some (.int .i64 x) from (HS.out.low.cell (p := ⟨bd, off, none⟩) hbw).trans (by simpa using hcell 0 (by simp)))
      have HCl := hide (show xl + 1 ≤ lc from by rw [hxl]; simpa using hcl)
      have HXL := hide hxl
      have HCM := hide hcm
      clear hg hgB hgR hb0 hcell hcl e2 hxl hcm hgR0
      go_enter Tryd.func97, Tryd.ntmps97
      go_upto_region 1 with fail
      go_wp2_with (go_at_call 50; fail)
      refine (supply_some g bd off xl lc x w HB0.out HCl.out HCM.out HX.out).mono ?_
      rintro e w1 ⟨rfl, a1, ha1, hw1⟩
      have HY1 := hide (show KpY TyF w w1 from by rw [hw1]; exact (KpY.refl _ _).setCell HB0.out (.inr (.inl rfl)))
      have HB1 := hide (show Below W0.heap.size w w1 from by rw [hw1]; exact (Below.refl _ _).setCell (p := ⟨g, 0, none⟩) HG.out.1 _)
      have HSup := hide (show Sup W0 w1 (.func (.func 50) #[] #[.pointer (some ⟨g, 0, none⟩)]) (some xs) from ⟨g, a1, lc - 1, rfl, HG.out.1, by rw [hw1, ← HXL.out]; exact HB0.out.set 0 _, sup_tail HG.out.2.2 ha1⟩)
      have HS1 := hide (show RStC W0 w1 b { tr, cv, Lo, Ln, P, sh, st := some xs } C so sl _ _ vs from ⟨HS.out.trs, HS.out.size, HS.out.tr, HS.out.cv, HS.out.old.kpy HY1.out (by unfold TyF; decide) (blk_over hw1 HB0.out HS.out.now.box (by decide)) (fun l hl => rfl), HS.out.now.kpy HY1.out (by unfold TyF; decide) (blk_over hw1 HB0.out HS.out.now.box (by decide)) (fun l hl => rfl), HS.out.apart, HS.out.fn, HSup.out, HS.out.ps, (show KpY (fun t => t = 38) w w1 from by rw [hw1]; exact (KpY.refl _ _).setCell HB0.out rfl).ownN HS.out.puts (by decide) (by decide), HS.out.sh, HS.out.lo, HS.out.low.trans HB1.out⟩)
      clear hw1 ha1 c23 c24 c25 f25 HX HCl HCM HXL HB0
      go_upto_region 5 with fail
      have hS1 := HS1.out
      have hsz1 : wA.heap.size ≤ w1.heap.size := Nat.le_trans hb.size HB1.out.size
      have hlo1 := hS1.low.size
      have c24 := (hS1.now.box.cell 24).trans hS1.ps
      have HD1 := hide (show w1.ownsRow wA.heap.size 5 1 (.slice da ys.length dc) ys.length (ys.map (Value.int .u8)) from HY1.out.own hd (by unfold TyF; decide))
      have B2 := hide (show Below w1.heap.size w1 (w1.alloc (.cells #[.int .i64 x, .slice da n dc] 40)) from (Below.refl _ _).alloc (Nat.le_refl _) _)
      have S2 := hide (hS1.below B2.out)
      have R2 := hide S2.out.puts.row
      rw [List.length_map, ← HPN.out] at R2
      clear hS1
      go_wp2_with (first
        | (at_builtin; go_loud (refine wpList_append_own_at _ rfl (.tmp 24) (.tmp 28) 35 rfl W0.heap.size 40 i0 (.agg #[.int .i64 0, .slice none 0 0]) 2 32 Tryd.underlying35 hi hz0 hz1 hz2 rfl (by decide) (.slice pa pn pc) pn _ rfl R2.out ⟨w1.heap.size, 0, none⟩ 1 1 [.int .i64 x, .slice da n dc] rfl rfl (cells_newR w1 #[.int .i64 x, .slice da n dc] 40) (by intro y hy; simp at hy; rcases hy with rfl | rfl <;> rfl) (by unfold maxLen; omega) (by omega) (by simp; omega) ?_; intro v4 w4 o4 g4 _ _; obtain ⟨va4, vc4, rfl⟩ := own_shape o4; have O4 := hide (And.intro o4 g4); have k4 : Blk w4 b C 72 := (KpY.ownrow (T := fun t => t = 40) (KpY.refl _ _) R2.out rfl g4).blk S2.out.now.box (by decide); have c4 := k4.cell 24; have f4 := k4.frozen 24; rw [Array.getElem?_eq_getElem (by have := HS.out.size; omega)] at c4; have K4 := hide k4; clear o4 g4 k4))
        | fail)
      clear c4 f4
      have Y4 := hide (show KpY (fun t => t = 40) (w1.alloc (.cells #[.int .i64 x, .slice da n dc] 40)) w4 from (KpY.refl _ _).ownrow R2.out rfl O4.out.2)
      have A4 := hide (show OwnN w4 W0.heap.size 40 1 (.slice va4 (pn + 1) vc4) ((P ++ [(x, ys)]).map neP) (vs ++ [.slice da n dc]) from by
        rw [List.map_append]
        show OwnN _ _ _ _ _ (_ ++ [neP (x, ys)]) _
        have hh := S2.out.puts.push (by decide) (neP (x, ys)) (.slice da n dc) rfl (by have := own_below (own_mono HD1.out (by have := HA.out.low.size; omega)) B2.out; have e := HN.out; subst e; exact this) (fun j x k hx hk e => by have h1 := (HD1.out.lt k (by rw [← e, HN.out])).1; have h2 := (HA.out.puts.ltR hx hk).2; omega) (by rw [List.length_map, ← HPN.out]; exact O4.out.1) O4.out.2
        exact hh)
      have K5 := hide (K4.out.set 24 (.slice va4 (pn + 1) vc4))
      have Y5 := hide (show KpY TyF w (w4.setCell ⟨b, 24, none⟩ (.slice va4 (pn + 1) vc4)) from (((HY1.out.below B2.out).trans (Y4.out.weaker (fun t h => .inr (.inr h)))).setCell K4.out (.inl rfl)))
      have Y5b := hide (show KpY (fun t => t = 72) w4 (w4.setCell ⟨b, 24, none⟩ (.slice va4 (pn + 1) vc4)) from (KpY.refl _ _).setCell K4.out rfl)
      have Y5c := hide (show KpY TyF (w1.alloc (.cells #[.int .i64 x, .slice da n dc] 40)) (w4.setCell ⟨b, 24, none⟩ (.slice va4 (pn + 1) vc4)) from ((Y4.out.weaker (fun t h => .inr (.inr h))).setCell K4.out (.inl rfl)))
      have B5 := hide (show Below W0.heap.size w (w4.setCell ⟨b, 24, none⟩ (.slice va4 (pn + 1) vc4)) from (((HB1.out.trans (B2.out.mono (by omega))).grown O4.out.2 (by simp; omega) (fun r e => (R2.out.lt r e).1))).setCell (p := ⟨b, 24, none⟩) HS.out.lo _)
      go_wp2
      go_ret
      refine ⟨rfl, ⟨C.setIfInBounds 24 (.slice va4 (pn + 1) vc4), so, sl, .func (.func 50) #[] #[.pointer (some ⟨g, 0, none⟩)], .slice va4 (pn + 1) vc4, vs ++ [.slice da n dc], ⟨HS.out.trs, by rw [Array.size_setIfInBounds]; exact HS.out.size, fun i hi => ?_, ?_, ?_, ?_, HS.out.apart, ?_, ?_, ?_, ?_, ?_, HS.out.lo, HS.out.low.trans B5.out⟩⟩, Y5.out, B5.out, fun l hl => ((K5.out.cell (20 + l)).trans (Array.getElem?_setIfInBounds_ne (by omega))).trans (HS.out.now.box.cell (20 + l)).symm⟩
      · rw [Array.getElem?_setIfInBounds_ne (by omega)]; exact HS.out.tr i hi
      · rw [Array.getElem?_setIfInBounds_ne (by omega)]; exact HS.out.cv
      · exact S2.out.old.kpy Y5c.out (by unfold TyF; decide) K5.out (fun l hl => Array.getElem?_setIfInBounds_ne (by omega))
      · exact S2.out.now.kpy Y5c.out (by unfold TyF; decide) K5.out (fun l hl => Array.getElem?_setIfInBounds_ne (by omega))
      · rw [Array.getElem?_setIfInBounds_ne (by omega)]; exact HS.out.fn
      · exact HSup.out.kpyG K4.out Y5c.out Y4.out B2.out
      · rw [Array.getElem?_setIfInBounds_self_of_lt (by have := HS.out.size; omega)]
      · exact Y5b.out.ownN A4.out (by decide) (by decide)
      · rw [Array.getElem?_setIfInBounds_ne (by omega)]; exact HS.out.sh
end Go.Proofs.YtnfgldglpfgmnaaDoor

namespace Go.Proofs.YtnfgldglpfgmnaaDoor
set_option linter.unusedVariables false
set_option linter.unusedSimpArgs false
open Go.RowKit

/-- What a renewal knows behind a number that was set. -/
def RD.setNow (D : RD) (l r : Nat) (x : Int) : RD := { D with Ln := upd D.Ln l (setN (D.Ln l) r x) }
theorem KpY.num {w w' : World} {b base n : Nat} {sv : Value} {C : Array Value} {xs : List Value} (h : NumF w w' b sv) (hb : Blk w b C 72) (ho : w.ownsRow base 3 1 sv n xs) : KpY (fun t => t = 72 ∨ t = 3) w w' := fun k hk hT => by
  refine h.block k hk (fun e => ?_) (fun e => ?_)
  · subst e
    have hb' : w.heap[k]? = some (.cells C 72) := hb
    exact hT _ _ _ hb' (.inl rfl)
  · obtain ⟨_, C', hC⟩ := own_rowB ho e
    have hb' : w.heap[k]? = some (.cells C' 3) := hC
    exact hT _ _ _ hb' (.inr rfl)
theorem NumF.belowR {w w' : World} {b base n : Nat} {sv : Value} {xs : List Value} (h : NumF w w' b sv) (hb : base ≤ b) (hbs : base ≤ w.heap.size) (ho : w.ownsRow base 3 1 sv n xs) : Below base w w' :=
  ⟨h.os, h.tape, h.output, h.size, fun k hk => h.block k (by omega) (by omega) (fun e => by have := (ho.lt k e).1; omega)⟩
theorem setR_any (W0 w : World) (b l r : Nat) (x : Int) (D : RD) (h : RSt W0 w b D) (hl : l < 3) (hr : r ≤ 100000) (hL : (D.Ln l).length ≤ 100001) :
    Calls Tryd.prog 70 #[.pointer (some ⟨b, 20, none⟩), spotV l r, .int .i64 x] w fun e w' => e = .returned (.tuple #[]) ∧ RSt W0 w' b (D.setNow l r x) ∧ FrR b w w' ∧ Below W0.heap.size w w' := by
  obtain ⟨C, so, sl, fv, pv, vs, hS⟩ := h
  refine (setS2_any b 20 l r C 72 sl D.Ln x W0.heap.size w hS.now hl hr hL (by decide) hS.low.size).mono ?_
  rintro e w' ⟨rfl, sw, h1, h2, h3⟩
  have hk := KpY.num h2 hS.now.box (hS.now.row l hl)
  have hB := h2.belowR hS.lo hS.low.size (hS.now.row l hl)
  refine ⟨rfl, ⟨C.setIfInBounds (20 + l) sw, so, upd sl l sw, fv, pv, vs, ⟨hS.trs, by rw [Array.size_setIfInBounds]; exact hS.size, fun i hi => ?_, ?_, ?_, h1, ?_, ?_, ?_, ?_, ?_, ?_, hS.lo, hS.low.trans hB⟩⟩, ⟨hk.weaker (fun t ht => by unfold TyR; rcases ht with ht | ht <;> simp [ht]), fun hbl => ⟨Nat.lt_of_lt_of_le hbl h2.size, fun X E e1 e2 => ⟨(h2.block X e1.lt (fun e => absurd (blk_same e1 hS.now.box e) (by decide)) (e2 l hl _ ((hS.now.box.cell _).trans (hS.now.at_ l hl)))).trans e1, fun m hm v hv => ?_⟩⟩, h2.os, h2.tape, h2.output, h2.size⟩, hB⟩
  · rw [Array.getElem?_setIfInBounds_ne (by omega)]; exact hS.tr i hi
  · rw [Array.getElem?_setIfInBounds_ne (by omega)]; exact hS.cv
  · exact ⟨h1.box, fun m hm => by rw [Array.getElem?_setIfInBounds_ne (by omega)]; exact hS.old.at_ m hm, fun m hm => h2.own (hS.old.row m hm) (blk_off (hS.old.row m hm) hS.now.box (by decide)) (hS.apart m l hm hl), hS.old.apart⟩
  · intro m k hm hk'
    by_cases e : k = l
    · subst e
      rw [upd_same]
      rcases h3 with h3 | ⟨g, h3, hg⟩
      · rw [h3]; exact hS.apart m k hm hk'
      · refine .inr (fun e => ?_)
        rw [h3] at e
        have := ((hS.old.row m hm).lt g e).2
        omega
    · rw [upd_other _ _ _ _ e]
      exact hS.apart m k hm hk'
  · rw [Array.getElem?_setIfInBounds_ne (by omega)]; exact hS.fn
  · have hs := hS.sup
    show Sup W0 w' fv D.st
    cases hst : D.st with
    | none => rw [hst] at hs; exact hs
    | some L =>
      rw [hst] at hs
      obtain ⟨g, a, cap, e1, e2, e3, e4⟩ := hs
      exact ⟨g, a, cap, e1, e2, hk.blk e3 (by decide), e4⟩
  · rw [Array.getElem?_setIfInBounds_ne (by omega)]; exact hS.ps
  · exact hk.ownN hS.puts (by decide) (by decide)
  · rw [Array.getElem?_setIfInBounds_ne (by omega)]; exact hS.sh
  · rw [h1.box.cell (20 + m)] at hv
    by_cases e : m = l
    · subst e
      rw [Array.getElem?_setIfInBounds_self_of_lt (by have := hS.size; omega)] at hv
      cases hv
      rcases h3 with h3 | ⟨g, h3, hg⟩
      · rw [h3]
        exact e2 m hm _ ((hS.now.box.cell _).trans (hS.now.at_ m hm))
      · rw [h3]
        intro e'
        cases e'
        have := e1.lt
        omega
    · rw [Array.getElem?_setIfInBounds_ne (by omega)] at hv
      exact e2 m hm v ((hS.now.box.cell _).trans hv)
theorem atOld_any (W0 w : World) (b l r : Nat) (D : RD) (h : RSt W0 w b D) (hl : l < 3) (hr : r ≤ 100000) :
    Calls Tryd.prog 52 #[.pointer (some ⟨b, 17, none⟩), spotV l r] w fun e w' => e = .returned (.int .i64 ((D.Lo l).getD r 0)) ∧ Below w.heap.size w w' := by
  obtain ⟨C, so, sl, fv, pv, vs, hS⟩ := h
  exact atS_any b 17 l r C 72 so D.Lo W0.heap.size w hS.old hl hr
end Go.Proofs.YtnfgldglpfgmnaaDoor
