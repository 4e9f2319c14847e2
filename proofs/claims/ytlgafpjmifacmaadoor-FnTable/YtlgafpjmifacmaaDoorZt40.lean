/- A table of inodes drawn. LowestInode, the program's and the model's: one text, walked twice. -/
import Derived.Test.YtlgafpjmifacmaaDoorZt05
import Derived.Test.YtlgafpjmifacmaaDoorZt07
import Derived.Test.YtlgafpjmifacmaaDoorZt39
import Derived.Test.YtlgafpjmifacmaaDoorZt31
namespace Go.Proofs.YtlgafpjmifacmaaDoor
set_option linter.unusedVariables false
set_option linter.unusedSimpArgs false
open Go.RowKit

theorem Dn.row {w0 W wr wr' : World} {b base : Nat} {cv : Value} {cs : List Int} {e : TypeId} {sz n : Nat} {v : Value} {xs : List Value} (h : Dn w0 W wr b cv cs) (o : wr.ownsRow base e sz v n xs) (hg : wr.grownBy wr' (some b)) (hb : W.heap.size ≤ base) : wr'.ownsRow base e sz v n xs :=
  o.kept hg (by
    cases hv : v.ownBlock with
    | none => exact .inl rfl
    | some k => exact .inr (fun e => by have := (o.lt k hv).1; have := h.lt; injection e with e; omega))
/-- Behind an append to a row of the call's own. -/
theorem Dn.grew {w0 W wr w7 : World} {b base : Nat} {cv : Value} {cs : List Int} {e : TypeId} {sz n : Nat} {v : Value} {xs : List Value} {ob : Obj} (h : Dn w0 W wr b cv cs) (o : wr.ownsRow base e sz v n xs) (hg : (wr.alloc ob).grownBy w7 v.ownBlock) (hb : W.heap.size ≤ base) : Dn w0 W w7 b cv cs :=
  h.own (((Below.refl _ _).alloc h.gb.size _).grown hg (by have := h.gb.size; simp; omega) (fun k e => Nat.le_trans hb (o.lt k e).1))
theorem own_over {base g : Nat} {e : TypeId} {sz n : Nat} {v : Value} (hv : v.ownBlock = some g) : ∀ (ds : List Int) {w : World} {zs : List Int} (o : Nat), w.ownsRow base e sz v n (zs.map (Value.int .i64)) → o + ds.length ≤ zs.length → (w.setCells g o (ds.map (Value.int .i64))).ownsRow base e sz v n ((over zs o ds).map (Value.int .i64))
  | [], w, zs, o, h, _ => by simpa [over, World.setCells] using h
  | d :: ds, w, zs, o, h, hl => by
    have h1 : (w.setCell ⟨g, o, none⟩ (.int .i64 d)).ownsRow base e sz v n ((zs.set o d).map (Value.int .i64)) := by
      rcases h.2 with ⟨rfl, _⟩ | ⟨g', cap, cur, rfl, hb, hc, hn, hm, hs, ht⟩
      · cases hv
      · obtain rfl : g' = g := by simpa [Value.ownBlock] using hv
        refine ⟨by simpa using h.1, .inr ⟨g', cap, cur.setIfInBounds o (.int .i64 d), rfl, hb, heap_setCell_same w g' o cur e _ hc, hn, hm, by simpa using hs, ?_⟩⟩
        rw [Array.toList_setIfInBounds, List.take_set, ht, List.map_set]
    have h2 := own_over hv ds (o + 1) h1 (by simp at hl ⊢; omega)
    rw [over_cons zs o d ds hl] at h2
    exact h2
theorem own_there {w : World} {base : Nat} {e : TypeId} {g n cap sz : Nat} {xs : List Value} (h : w.ownsRow base e sz (.slice (some ⟨g, 0, none⟩) n cap) n xs) {o m : Nat} (hk : o + m ≤ n * sz) : w.there g o m := by
  rcases h.2 with ⟨e, _⟩ | ⟨g', cap', cur, e, hb, hc, hn, hm, hs, ht⟩
  · cases e
  · injection e with e1 e2 e3
    injection e1 with e1
    injection e1 with e1 e4
    subst e1
    intro j hj
    have hlt : o + j < cur.size := by
      have : n * sz ≤ cap' * sz := Nat.mul_le_mul_right _ hn
      rw [hs]; omega
    have hB : Blk w g cur _ := hc
    refine ⟨?_, hB.frozen _⟩
    rw [hB.cell (o + j), Array.getElem?_eq_getElem hlt]
    rfl
def lenT : Value → Nat
  | .slice _ n _ => n
  | _ => 0
theorem lenT_own {w : World} {base : Nat} {e : TypeId} {sz : Nat} {v : Value} {n : Nat} {xs : List Value} (h : w.ownsRow base e sz v n xs) : lenT v = n := by
  rcases h.2 with ⟨rfl, rfl⟩ | ⟨g, cap, _, rfl, _⟩ <;> rfl
theorem shape_row {w : World} {base : Nat} {e : TypeId} {sz : Nat} {v : Value} {n : Nat} {xs : List Value} (h : w.ownsRow base e sz v n xs) : ∃ a cap, v = .slice a n cap := by
  rcases h.2 with ⟨rfl, rfl⟩ | ⟨g, cap, _, rfl, _⟩
  · exact ⟨_, _, rfl⟩
  · exact ⟨_, _, rfl⟩
theorem place_row {w : World} {base : Nat} {e : TypeId} {sz : Nat} {v : Value} {n : Nat} {xs : List Value} (h : w.ownsRow base e sz v n xs) (hn : 0 < n) : ∃ g cap, v = .slice (some ⟨g, 0, none⟩) n cap := by
  rcases h.2 with ⟨rfl, rfl⟩ | ⟨g, cap, _, rfl, _⟩
  · omega
  · exact ⟨_, _, rfl⟩
theorem size_small (v : Value) (zs : List Int) (w : World) (h : Rd .u8 w v zs) (hn : zs.length ≤ 1048576) :
    Calls Tryd.prog 41 #[v, .int .i64 14] w fun e w' => ∃ r : Nat, e = .returned (.int .i64 (r : Int)) ∧ 2 ≤ r ∧ r ≤ 14 ∧ Below w.heap.size w w' := by
  obtain ⟨a, cap, rfl, _⟩ := h
  by_cases hb : (14 : Int) < 2 + (zs.length : Int) / 2
  · go_enter Tryd.func41, Tryd.ntmps41
    go_wp2
    go_ret
    exact ⟨14, rfl, by omega, Nat.le_refl _, Below.refl _ _⟩
  · go_enter Tryd.func41, Tryd.ntmps41
    go_wp2
    go_ret
    exact ⟨2 + zs.length / 2, by simp, by omega, by omega, Below.refl _ _⟩

set_option maxRecDepth 100000 in
set_option maxHeartbeats 4000000 in
theorem table_drawn {w0 W : World} {b : Nat} {cv : Value} {cs : List Int} (h : Sc w0 W b cv cs) (n : Nat) (hn : n ≤ 100) :
    Calls Tryd.prog 39 #[.pointer (some ⟨b, 0, none⟩), .int .i64 (n : Int)] W fun e w' => ∃ (v : Value) (zs : List Int), e = .returned v ∧ w'.ownsRow W.heap.size 44 24 v (n + 1) (zs.map (Value.int .i64)) ∧ Sc w0 w' b cv cs ∧ W.grownBy w' (some b) := by
  obtain ⟨i0, hi, hz0, hz1, hz2⟩ := info_parts infoT24
  have HD := hide (Dn.start h)
  have hlt := h.src.lt
  clear h
  have HZ := hide (show (cellsI (List.replicate 24 0)).size = 24 from rfl)
  have H0 := hide (show Dn w0 W (W.alloc (.cells (cellsI (List.replicate 24 0)) 44)) b cv cs ∧ (W.alloc (.cells (cellsI (List.replicate 24 0)) 44)).ownsRow W.heap.size 44 24 (.slice (some ⟨W.heap.size, 0, none⟩) 1 1) (0 + 1) ((List.replicate 24 (0 : Int)).map (Value.int .i64)) from
    ⟨HD.out.own ((Below.refl _ _).alloc (Nat.le_refl _) _), World.ownsRow_lit (base := W.heap.size) (e := 44) (size := 24) W (cellsI (List.replicate 24 0)) 1 (Nat.le_refl _) (by unfold maxLen; omega) rfl⟩)
  clear HD
  go_enter Tryd.func39, Tryd.ntmps39
  go_wp2_with (first | (refine wpList_build1 rfl 27 44 _ rfl (cellsI (List.replicate 24 0)) rfl i0 _ Tryd.underlying27 hi hz0 (by rw [hz1, HZ.out]) (by rw [HZ.out]; omega) (by rw [HZ.out]; omega) ?_) | fail)
  go_loopw [5, 6] (fun v i wr => ∃ (k : Nat) (zs : List Int), k ≤ n ∧ i = .int .i64 k ∧ Dn w0 W wr b cv cs ∧ wr.ownsRow W.heap.size 44 24 v (k + 1) (zs.map (Value.int .i64))) (fun _ i _ => n - (intOf i).toNat)
  case atStart => exact ⟨0, _, by omega, rfl, H0.out.1, H0.out.2⟩
  case round =>
    clear H0 HZ
    obtain ⟨k, zs, hk, rfl, hd, ho⟩ := hrel
    have HK := hide (And.intro hd ho)
    clear hd ho
    by_cases hkn : k < n
    · go_wp2_with fail
      refine (inode_drawn HK.out.1.sc).mono ?_
      rintro e w2 ⟨R, hR, rfl, s2, d2⟩
      have HN := hide hR
      have HM := hide (And.intro (HK.out.1.draw s2 d2) (HK.out.1.row HK.out.2 d2 (Nat.le_refl _)))
      have HLE := hide HM.out.1.gb.size
      clear s2 d2 HK hR
      have HZ := hide (show (cellsI R).size = 24 from by rw [cellsI_size]; exact HN.out)
      go_wp2_with (first | (refine wpList_build1 rfl 27 44 _ rfl (cellsI (R)) rfl i0 _ Tryd.underlying27 hi hz0 (by rw [hz1, HZ.out]) (by rw [HZ.out]; omega) (by rw [HZ.out]; omega) ?_) | (at_builtin; refine append_fresh _ rfl (.tmp 14) (.tmp 17) 27 rfl W.heap.size 44 i0 (.agg (cellsI (List.replicate 24 0))) 24 192 Tryd.underlying27 hi hz0 hz1 hz2 rfl (by decide) _ _ _ rfl (HM.out.2.alloc _) ⟨w2.heap.size, 0, none⟩ 1 1 ((R).map (Value.int .i64)) rfl (by rw [List.length_map, HN.out]) (cells_new w2 (R) _) (ints_oneCell _ _) (by omega) (by unfold maxLen; omega) (by omega) (by have := HLE.out; simp; omega) ?_; intro v7 w7 o7 g7 f7; have O7 := hide o7; have G7 := hide g7; clear o7 g7 f7) | fail)
      have HW := hide (show Dn w0 W w7 b cv cs ∧ w7.ownsRow W.heap.size 44 24 v7 (k + 1 + 1) ((zs ++ R).map (Value.int .i64)) from ⟨HM.out.1.grew HM.out.2 G7.out (Nat.le_refl _), by rw [List.map_append]; exact O7.out⟩)
      clear HM O7 G7
      go_roundw
      case rel => exact ⟨k + 1, _, by omega, by go_num, HW.out.1, HW.out.2⟩
      case measure => simp [intOf]; omega
    · obtain rfl : k = n := by omega
      go_wp2
      go_ret
      exact ⟨_, _, rfl, HK.out.2, HK.out.1.sc, HK.out.1.gb⟩

noncomputable def tailE : Code := sndC (sndC (sndC (sndC (Tryd.f19.body.getD .skip))))
set_option maxRecDepth 100000 in
set_option maxHeartbeats 4000000 in
theorem table_tail {w W wr : World} {b n : Nat} {cv v : Value} {cs zs : List Int} (hD : Dn w W wr b cv cs) (hO : wr.ownsRow W.heap.size 44 24 v n (zs.map (Value.int .i64))) (hn : n ≤ 1001) (x0 x1 x2 x5 x6 x7 x8 x9 x10 x11 x12 x13 x14 x15 x16 x17 x18 x19 x20 x21 x22 x23 x24 x25 x26 x27 x28 x29 x30 x31 x32 x33 x34 x35 x36 x37 x38 x39 x40 x41 x42 x43 x44 x45 x46 x47 x48 x49 : Value) (K5 : Act → World → Prop) (hK5 : ∀ a w', Code.wp Tryd.prog (sndC tailE) (bodyPost Tryd.prog Tryd.f19 (fun e w' => ∃ (v' : Value) (n : Nat) (zs : List Int), e = .returned v' ∧ w'.ownsRow w.heap.size 44 24 v' n (zs.map (Value.int .i64)) ∧ n ≤ 1002 ∧ Below w.heap.size w w')) a w' → K5 a w') (K4 : Act → World → Prop) (hK4 : ∀ a w', Code.wp Tryd.prog (sndC (fstC tailE)) (Exit.then K5 (bodyPost Tryd.prog Tryd.f19 (fun e w' => ∃ (v' : Value) (n : Nat) (zs : List Int), e = .returned v' ∧ w'.ownsRow w.heap.size 44 24 v' n (zs.map (Value.int .i64)) ∧ n ≤ 1002 ∧ Below w.heap.size w w'))) a w' → K4 a w') :
    Code.wp Tryd.prog (fstC (fstC tailE)) (Exit.then K4 (Exit.then K5 (bodyPost Tryd.prog Tryd.f19 (fun e w' => ∃ (v' : Value) (n : Nat) (zs : List Int), e = .returned v' ∧ w'.ownsRow w.heap.size 44 24 v' n (zs.map (Value.int .i64)) ∧ n ≤ 1002 ∧ Below w.heap.size w w')))) ⟨#[x0, x1, x2, .pointer (some ⟨b, 0, none⟩), v, x5, x6, x7, x8, x9, x10, x11, x12, x13, x14, x15, x16, x17, x18, x19, x20, x21, x22, x23, x24, x25, x26, x27, x28, x29, x30, x31, x32, x33, x34, x35, x36, x37, x38, x39, x40, x41, x42, x43, x44, x45, x46, x47, x48, x49], []⟩ wr := by
  obtain ⟨i0, hi, hz0, hz1, hz2⟩ := info_parts infoT24
  have HD := hide (And.intro hD hO)
  clear hD hO
  conv => arg 2; whnf
  conv at hK4 => enter [a, w', 1, 2]; whnf
  conv at hK5 => enter [a, w', 1, 2]; whnf
  go_wp2_with fail
  refine (HD.out.1.sc.One 30 (by omega) (by omega)).mono ?_
  rintro e w1 ⟨t, rfl, s1, d1⟩
  have HK := hide (And.intro (HD.out.1.draw s1 d1) (HD.out.1.row HD.out.2 d1 (Nat.le_refl _)))
  have HWW := hide (show w.heap.size ≤ W.heap.size by have := HD.out.1.sc.hb; have := HD.out.1.lt; omega)
  clear s1 d1 HD
  cases t with
  | false =>
    go_wp2
    go_ret
    exact ⟨_, _, _, rfl, own_mono HK.out.2 HWW.out, by omega, HK.out.1.sc.low⟩
  | true =>
    go_wp2
    go_loopw [4] (fun v wr => ∃ (n : Nat) (zs : List Int), n ≤ 1001 ∧ Dn w W wr b cv cs ∧ wr.ownsRow W.heap.size 44 24 v n (zs.map (Value.int .i64))) (fun v _ => 1001 - lenT v)
    case atStart => exact ⟨n, zs, hn, HK.out.1, HK.out.2⟩
    case round =>
      clear HK
      obtain ⟨m, ys, hm, hd, ho⟩ := hrel
      have hlen := lenT_own ho
      obtain ⟨a, cap, rfl⟩ := shape_row ho
      have HM := hide (And.intro hd ho)
      clear hd ho
      have HLE := hide HM.out.1.gb.size
      by_cases hlt : m < 1001
      · have HN := hide (show (List.replicate 24 (0 : Int)).length = 24 from rfl)
        have HZ := hide (show (cellsI (List.replicate 24 0)).size = 24 from rfl)
        go_wp2_with (first | (refine wpList_build1 rfl 27 44 _ rfl (cellsI (List.replicate 24 0)) rfl i0 _ Tryd.underlying27 hi hz0 (by rw [hz1, HZ.out]) (by rw [HZ.out]; omega) (by rw [HZ.out]; omega) ?_) | (at_builtin; refine append_fresh _ rfl (.tmp 40) (.tmp 42) 27 rfl W.heap.size 44 i0 (.agg (cellsI (List.replicate 24 0))) 24 192 Tryd.underlying27 hi hz0 hz1 hz2 rfl (by decide) _ _ _ rfl (HM.out.2.alloc _) ⟨wr.heap.size, 0, none⟩ 1 1 ((List.replicate 24 (0 : Int)).map (Value.int .i64)) rfl (by rw [List.length_map, HN.out]) (cells_new wr (List.replicate 24 (0 : Int)) _) (ints_oneCell _ _) (by omega) (by unfold maxLen; omega) (by omega) (by have := HLE.out; simp; omega) ?_; intro v7 w7 o7 g7 f7; have O7 := hide o7; have G7 := hide g7; clear o7 g7 f7) | fail)
        have HW := hide (show Dn w W w7 b cv cs ∧ w7.ownsRow W.heap.size 44 24 v7 (m + 1) ((ys ++ List.replicate 24 0).map (Value.int .i64)) from ⟨HM.out.1.grew HM.out.2 G7.out (Nat.le_refl _), by rw [List.map_append]; exact O7.out⟩)
        clear HM O7 G7
        have hl7 := lenT_own HW.out.2
        go_roundw
        case rel => exact ⟨m + 1, _, by omega, HW.out.1, HW.out.2⟩
        case measure => simp [lenT] at hl7 ⊢; rw [hl7]; omega
      · obtain rfl : m = 1001 := by omega
        go_wp2_with fail
        refine (inode_drawn HM.out.1.sc).mono ?_
        rintro e w2 ⟨R, hR, rfl, s2, d2⟩
        have HN := hide hR
        have HJ := hide (And.intro (HM.out.1.draw s2 d2) (HM.out.1.row HM.out.2 d2 (Nat.le_refl _)))
        have HLE := hide HJ.out.1.gb.size
        clear s2 d2 HM hR
        have HZ := hide (show (cellsI R).size = 24 from by rw [cellsI_size]; exact HN.out)
        go_wp2_with (first | (refine wpList_build1 rfl 27 44 _ rfl (cellsI (R)) rfl i0 _ Tryd.underlying27 hi hz0 (by rw [hz1, HZ.out]) (by rw [HZ.out]; omega) (by rw [HZ.out]; omega) ?_) | (at_builtin; refine append_fresh _ rfl (.tmp 44) (.tmp 47) 27 rfl W.heap.size 44 i0 (.agg (cellsI (List.replicate 24 0))) 24 192 Tryd.underlying27 hi hz0 hz1 hz2 rfl (by decide) _ _ _ rfl (HJ.out.2.alloc _) ⟨w2.heap.size, 0, none⟩ 1 1 ((R).map (Value.int .i64)) rfl (by rw [List.length_map, HN.out]) (cells_new w2 (R) _) (ints_oneCell _ _) (by omega) (by unfold maxLen; omega) (by omega) (by have := HLE.out; simp; omega) ?_; intro v7 w7 o7 g7 f7; have O7 := hide o7; have G7 := hide g7; clear o7 g7 f7) | fail)
        have HW := hide (show Dn w W w7 b cv cs ∧ w7.ownsRow W.heap.size 44 24 v7 (1001 + 1) ((ys ++ R).map (Value.int .i64)) from ⟨HJ.out.1.grew HJ.out.2 G7.out (Nat.le_refl _), by rw [List.map_append]; exact O7.out⟩)
        clear HJ O7 G7
        go_ret
        first
        | exact ⟨_, _, _, rfl, own_mono HW.out.2 HWW.out, by omega, HW.out.1.sc.low⟩
        | exact ⟨v7, 1001 + 1, rfl, ⟨_, own_mono HW.out.2 HWW.out⟩, by omega, HW.out.1.sc.low⟩
        | exact ⟨v7, 1001 + 1, ⟨_, own_mono HW.out.2 HWW.out⟩, by omega, HW.out.1.sc.low⟩
        | exact ⟨v7, rfl, 1001 + 1, ⟨_, own_mono HW.out.2 HWW.out⟩, by omega, HW.out.1.sc.low⟩

set_option maxRecDepth 100000 in
set_option maxHeartbeats 4000000 in
theorem drawET_any (v : Value) (cs : List Int) (w : World) (h : Rd .u8 w v cs) (hbd : ∀ z ∈ cs, 0 ≤ z ∧ z < 256) (hn : cs.length ≤ 1048576) :
    Calls Tryd.prog 19 #[v] w fun e w' => ∃ (v' : Value) (n : Nat) (zs : List Int), e = .returned v' ∧ w'.ownsRow w.heap.size 44 24 v' n (zs.map (Value.int .i64)) ∧ n ≤ 1002 ∧ Below w.heap.size w w' := by
  have HR := hide (And.intro h hbd)
  clear h hbd
  go_enter Tryd.func19, Tryd.ntmps19
  go_wp2_with fail
  refine (draw_any v cs w HR.out.1 hn).mono ?_
  rintro e w1 ⟨rfl, hs, hb, hsz⟩
  have HD := hide (Dn.start (show Sc w w1 w.heap.size v cs from ⟨hs, Nat.le_refl _, hb, HR.out.1, HR.out.2, hn⟩))
  have HWW := hide hb.size
  clear hs hb
  go_wp2_with fail
  refine (size_small v cs w1 (HR.out.1.below HD.out.sc.low) hn).mono ?_
  rintro e w2 ⟨r, rfl, hr2, hr14, b2⟩
  have H2 := hide (HD.out.own b2)
  clear b2 HD
  go_wp2_with fail
  refine (H2.out.sc.N r (by omega) (by omega)).mono ?_
  rintro e w3 ⟨z, rfl, hz0, hz1, s2, d2⟩
  have H3 := hide (H2.out.draw s2 d2)
  clear s2 d2 H2
  obtain ⟨m, rfl⟩ : ∃ m : Nat, z = (m : Int) := ⟨z.toNat, by omega⟩
  have hm : m < 14 := by omega
  clear hz0 hz1
  go_wp2_with fail
  refine (table_drawn H3.out.sc m (by omega)).mono ?_
  rintro e w4 ⟨vt, zs, rfl, o4, s2, d2⟩
  have HK := hide (And.intro (H3.out.draw s2 d2) (own_mono o4 H3.out.gb.size))
  clear s2 d2 o4 H3
  obtain ⟨g, cap, rfl⟩ := place_row HK.out.2 (by omega)
  go_wp2_with fail
  refine (HK.out.1.sc.N 8 (by omega) (by omega)).mono ?_
  rintro e w5 ⟨q, rfl, hq0, hq1, s2, d2⟩
  have HM := hide (And.intro (HK.out.1.draw s2 d2) (HK.out.1.row HK.out.2 d2 (Nat.le_refl _)))
  clear s2 d2 HK
  have hq : q = 0 ∨ q = 1 ∨ q = 2 ∨ ((q == 0) = false ∧ (q == 1) = false ∧ (q == 2) = false) := by
    rcases (by omega : q = 0 ∨ q = 1 ∨ q = 2 ∨ 3 ≤ q) with h | h | h | h
    · exact .inl h
    · exact .inr (.inl h)
    · exact .inr (.inr (.inl h))
    · exact .inr (.inr (.inr ⟨by simp; omega, by simp; omega, by simp; omega⟩))
  clear hq0 hq1
  have hzl : zs.length = (m + 1) * 24 := by have := HM.out.2.1; simpa using this
  rcases hq with rfl | rfl | rfl | ⟨n0, n1, n2⟩
  · go_wp2_with fail
    refine (HM.out.1.sc.N (m + 1) (by omega) (by omega)).mono ?_
    rintro e w6 ⟨p, rfl, hp0, hp1, s2, d2⟩
    have HJ := hide (And.intro (HM.out.1.draw s2 d2) (HM.out.1.row HM.out.2 d2 (Nat.le_refl _)))
    clear s2 d2 HM
    obtain ⟨pn, rfl⟩ : ∃ pn : Nat, p = (pn : Int) := ⟨p.toNat, by omega⟩
    have hpn : pn < m + 1 := by omega
    clear hp0 hp1
    go_wp2_with fail
    refine (inode_drawn HJ.out.1.sc).mono ?_
    rintro e w7 ⟨R, hR, rfl, s2, d2⟩
    have HI := hide (And.intro (HJ.out.1.draw s2 d2) (HJ.out.1.row HJ.out.2 d2 (Nat.le_refl _)))
    clear s2 d2 HJ
    go_wp2_with fail
    refine (spoilI_any HI.out.1.sc R hR).mono ?_
    rintro e w8 ⟨R2, hR2, rfl, s2, d2⟩
    have HH := hide (And.intro (HI.out.1.draw s2 d2) (HI.out.1.row HI.out.2 d2 (Nat.le_refl _)))
    have HN := hide hR2
    clear s2 d2 HI hR hR2
    have HZ := hide (show (cellsI R2).size = 24 from by rw [cellsI_size]; exact HN.out)
    have HX := hide (own_over (g := g) rfl R2 (pn * 24) HH.out.2 (by rw [HN.out, hzl]; omega))
    have HY := hide (HH.out.1.own (below_cells (show w1.heap.size ≤ g from (HH.out.2.lt g rfl).1) (R2.map (Value.int .i64)) (pn * 24) (Below.refl _ _)))
    have HT := hide (own_there HH.out.2 (o := pn * 24) (m := 24) (by omega))
    go_upto_region 10 with (first | (refine wpList_store_mid rfl 44 _ _ rfl g (pn * 24) (cellsI R2) rfl rfl (by rw [HZ.out]; exact HT.out) (by rw [HZ.out]; exact info24) (cellsI_one _) ?_) | fail)
    exact table_tail HY.out HX.out (by omega) _ _ _ _ _ _ _ _ _ _ _ _ _ _ _ _ _ _ _ _ _ _ _ _ _ _ _ _ _ _ _ _ _ _ _ _ _ _ _ _ _ _ _ _ _ _ _ _ _ (by assumption) _ (by assumption)
  · go_wp2_with fail
    refine (inode_drawn HM.out.1.sc).mono ?_
    rintro e w7 ⟨R2, hR2, rfl, s2, d2⟩
    have HH := hide (And.intro (HM.out.1.draw s2 d2) (HM.out.1.row HM.out.2 d2 (Nat.le_refl _)))
    have HN := hide hR2
    clear s2 d2 HM hR2
    have HZ := hide (show (cellsI R2).size = 24 from by rw [cellsI_size]; exact HN.out)
    have HX := hide (own_over (g := g) rfl R2 0 HH.out.2 (by rw [HN.out, hzl]; omega))
    have HY := hide (HH.out.1.own (below_cells (show w1.heap.size ≤ g from (HH.out.2.lt g rfl).1) (R2.map (Value.int .i64)) 0 (Below.refl _ _)))
    have HT := hide (own_there HH.out.2 (o := 0) (m := 24) (by omega))
    go_upto_region 10 with (first | (refine wpList_store_mid rfl 44 _ _ rfl g 0 (cellsI R2) rfl rfl (by rw [HZ.out]; exact HT.out) (by rw [HZ.out]; exact info24) (cellsI_one _) ?_) | fail)
    exact table_tail HY.out HX.out (by omega) _ _ _ _ _ _ _ _ _ _ _ _ _ _ _ _ _ _ _ _ _ _ _ _ _ _ _ _ _ _ _ _ _ _ _ _ _ _ _ _ _ _ _ _ _ _ _ _ _ (by assumption) _ (by assumption)
  · go_wp2
    go_ret
    exact ⟨_, 0, [], rfl, ⟨rfl, .inl ⟨rfl, rfl⟩⟩, by omega, HM.out.1.sc.low⟩
  · go_upto_region 10 with fail
    exact table_tail HM.out.1 HM.out.2 (by omega) _ _ _ _ _ _ _ _ _ _ _ _ _ _ _ _ _ _ _ _ _ _ _ _ _ _ _ _ _ _ _ _ _ _ _ _ _ _ _ _ _ _ _ _ _ _ _ _ _ (by assumption) _ (by assumption)
end Go.Proofs.YtlgafpjmifacmaaDoor

namespace Go.Proofs.YtlgafpjmifacmaaDoor
set_option linter.unusedVariables false
set_option linter.unusedSimpArgs false
open Go.RowKit

/-- From number k on, m more: the least that is free or lacking, or 0. -/
def lowG (zs : List Int) (n : Nat) : Nat → Nat → Nat
  | 0, _ => 0
  | m + 1, k => if n ≤ k ∨ zs.getD (k * 24) 0 = 0 then k else lowG zs n m (k + 1)
theorem lowG_stop (zs : List Int) (n k : Nat) (hk : k < 1001) (h : n ≤ k ∨ zs.getD (k * 24) 0 = 0) : lowG zs n (1001 - k) k = k := by
  have e : 1001 - k = (1001 - (k + 1)) + 1 := by omega
  rw [e, lowG, if_pos h]
theorem lowG_next (zs : List Int) (n k : Nat) (hk : k < 1001) (h : ¬ (n ≤ k ∨ zs.getD (k * 24) 0 = 0)) : lowG zs n (1001 - k) k = lowG zs n (1001 - (k + 1)) (k + 1) := by
  have e : 1001 - k = (1001 - (k + 1)) + 1 := by omega
  rw [e, lowG, if_neg h]

set_option maxRecDepth 100000 in
theorem implLow_any (v : Value) (n : Nat) (zs : List Int) (w : World) (h : RdT w v n zs) :
    Calls Tryd.prog 20 #[v] w fun e w' => e = .returned (.int .i64 (lowG zs n 999 2)) ∧ w' = w := by
  have hm := h.len
  have hz := h.1
  unfold maxLen at hm
  rcases h.parts with ⟨a, cap, rfl, hlow⟩ | ⟨b, off, cap, rfl, hbw, hcell⟩
  all_goals
    clear h
    go_enter Tryd.func20, Tryd.ntmps20
    go_wp2
    go_loop [3] (fun i => ∃ k : Nat, 2 ≤ k ∧ k ≤ 1001 ∧ i = .int .i64 k ∧ lowG zs n 999 2 = lowG zs n (1001 - k) k) (fun i => 1001 - (intOf i).toNat)
    case atStart => exact ⟨2, by omega, by omega, rfl, rfl⟩
    case round =>
      obtain ⟨k, hk2, hk, rfl, he⟩ := hrel
      have HE := hide he
      clear he
      by_cases hlt : k < 1001
      · by_cases hn : n ≤ k
        · have HS := hide (HE.out.trans (lowG_stop zs n k hlt (.inl hn)))
          go_wp2
          go_ret
          exact ⟨ret_int (by rw [HS.out]), rfl⟩
        · first
          | omega
          | (have c1 := hcell (k * 24) (by omega)
             by_cases hf : zs.getD (k * 24) 0 = 0
             · have HS := hide (HE.out.trans (lowG_stop zs n k hlt (.inr hf)))
               rw [hf] at c1
               clear hcell hf
               go_wp2
               go_ret
               exact ⟨ret_int (by rw [HS.out]), rfl⟩
             · have HS := hide (HE.out.trans (lowG_next zs n k hlt (by omega)))
               generalize zs.getD (k * 24) 0 = z at c1 hf
               have hb : (z == 0) = false := by simpa using hf
               clear hcell
               go_wp2
               go_round
               case rel => exact ⟨k + 1, by omega, by omega, by go_num, HS.out⟩
               case measure => simp [intOf]; omega)
      · have hk1 : k = 1001 := by omega
        subst hk1
        have HS := hide (HE.out.trans (show lowG zs n (1001 - 1001) 1001 = 0 from rfl))
        go_wp2
        go_ret
        exact ⟨ret_int (by rw [HS.out]; rfl), rfl⟩

end Go.Proofs.YtlgafpjmifacmaaDoor
