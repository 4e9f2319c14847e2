/- The law on DiskRun, walked. -/
import Derived.Test.YthghibopnnjboaaZd45
namespace Go.Proofs.Ythghibopnnjboaa
set_option linter.unusedVariables false
set_option linter.unusedSimpArgs false
open Go.RowKit

theorem endN_bdO (m M : Nat) : ∀ (L : List NE) (k : Nat), (∀ l ∈ L, l.2.length ≤ M) → endN m k L ≤ k + L.length * (m + M)
  | [], k, _ => by simp [endN]
  | l :: L, k, h => by
    have h1 := endN_bdO m M L (k + m + l.2.length) (fun x hx => h x (by simp [hx]))
    have h2 := h l (by simp)
    have e : (l :: L).length * (m + M) = L.length * (m + M) + (m + M) := by simp [Nat.add_mul]
    rw [e]
    simp only [endN]
    omega
theorem doS_ans (m : Nat) (k A : Int) (D : List Int) (s : DS) : (doS m k A D s).2.2.length ≤ 512 := by
  unfold doS
  split
  · simp
  · split
    · simp
    · split
      · simp
      · split
        · split
          · simp only [List.length_take]; omega
          · simp
        · split
          · split
            · split <;> simp
            · simp
          · split <;> simp
theorem anS_bd (m : Nat) : ∀ (L : List DO) (s : DS), ∀ a ∈ anS m L s, a.2.length ≤ 512
  | [], s, a, h => by cases h
  | o :: L, s, a, h => by
    rcases List.mem_cons.1 h with rfl | h
    · exact doS_ans m o.1 o.2.1 o.2.2 s
    · exact anS_bd m L _ a h
theorem runD_bd (zs : List Int) (P : List DO) (hz : zs.length ≤ 1048576) (hA : ∀ p ∈ P, p.2.1 < 9223372036854775808) : endO 1 (runD zs P) ≤ 140737488355328 := by
  unfold runD
  split
  · rename_i hsz
    split
    · simp [endO, endO1, endN]
    · rename_i hP
      have hm := szOk_iff hsz
      have hok := stS_ok (newS_ok zs) hm.1 P hA
      have h1 : endN 1 1 ((anS (zs.length / 512) P (newS zs)).map neA) ≤ 1 + 4000 * 513 := by
        refine Nat.le_trans (endN_bdO 1 512 _ 1 (fun l hl => ?_)) ?_
        · rw [List.mem_map] at hl
          obtain ⟨a, ha, rfl⟩ := hl
          exact anS_bd _ _ _ a ha
        · rw [List.length_map, anS_len]; omega
      have h2 := hok.len
      have h3 : (mkW (stS (zs.length / 512) P (newS zs)).F (stS (zs.length / 512) P (newS zs)).C).length = zs.length := by rw [mkW_len _ _ (fun x hx => by rw [h2]; exact hok.ok x hx), h2]
      show endN 1 1 ((anS (zs.length / 512) P (newS zs)).map neA) + (stS (zs.length / 512) P (newS zs)).F.length + (mkW (stS (zs.length / 512) P (newS zs)).F (stS (zs.length / 512) P (newS zs)).C).length ≤ _
      rw [h2, h3]
      omega
  · simp [endO, endO1, endN]
theorem OwnN.keptL {W W' : World} {base : Nat} {e : TypeId} {m : Nat} {v v2 : Value} {L : List NE} {vs vs2 : List Value} (h : OwnN W base e m v L vs) (k : KpN W W' v2 vs2) (ap : ∀ b, (v2.ownBlock = some b ∨ ∃ u ∈ vs2, u.ownBlock = some b) → b < base) : OwnN W' base e m v L vs := by
  have kr : ∀ {sz n : Nat} {e : TypeId} {x : Value} {xs : List Value}, W.ownsRow base e sz x n xs → W'.ownsRow base e sz x n xs := fun {sz n e x xs} ho => k.ownB (base' := base) ho (fun b hb e => by have := ap b (.inl e); have := (ho.lt b hb).1; omega) (fun b hb u hu e => by have := ap b (.inr ⟨u, hu, e⟩); have := (ho.lt b hb).1; omega)
  exact ⟨h.len, h.pre, kr h.row, fun i u l hu hl => kr (h.dat i u l hu hl), h.one⟩
theorem OwnO.keptL {W W' : World} {base : Nat} {va v2 v3 w2 : Value} {r : OutR} {vs vs2 : List Value} (h : OwnO W base va v2 v3 r vs) (k : KpN W W' w2 vs2) (ap : ∀ b, (w2.ownBlock = some b ∨ ∃ u ∈ vs2, u.ownBlock = some b) → b < base) : OwnO W' base va v2 v3 r vs := by
  have kr : ∀ {sz n : Nat} {e : TypeId} {x : Value} {xs : List Value}, W.ownsRow base e sz x n xs → W'.ownsRow base e sz x n xs := fun {sz n e x xs} ho => k.ownB (base' := base) ho (fun b hb e => by have := ap b (.inl e); have := (ho.lt b hb).1; omega) (fun b hb u hu e => by have := ap b (.inr ⟨u, hu, e⟩); have := (ho.lt b hb).1; omega)
  exact ⟨h.ans.keptL k ap, kr h.img, kr h.see⟩
theorem grown_kpN {W W' : World} {v : Value} (h : W.grownBy W' v.ownBlock) : KpN W W' v [] := ⟨h.os, h.tape, h.output, h.size, fun b hb h1 _ => h.block b hb (fun e => h1 e.symm)⟩
theorem range5 {w : World} {g : Nat} {a b c d e : Value} {t : TypeId} (h : Blk w g #[a, b, c, d, e] t) : w.rangeAt g 0 [a, b, c, d, e] := by
  intro j v hj
  rw [Nat.zero_add, h.cell j]
  simpa using hj
theorem MkO.low {W W' : World} {base : Nat} {va v2 v3 : Value} {k0 : Nat} {r : OutR} {vs : List Value} (h : MkO W base va v2 v3 k0 r vs) (hb : Below W.heap.size W W') : MkO W' base va v2 v3 k0 r vs := h.below hb
theorem wpList_load_midO {P : Program} {ops : Array Oper} {rest : List Oper} {op : Oper} {a : Act} {w : World} {Q : Exit → Act → World → Prop} (hw : Region.wanted op (yielded ops a.tmps) = true) (ty : TypeId) (x : Operand) (ho : op.op = .load ty x)
    (b o : Nat) (hx : a.eval x = .pointer (some ⟨b, o, none⟩)) (cs : List Value) (d : TypeDesc) (hc : w.rangeAt b o cs) (hu : P.underlying ty = some d) (hd : d.isRow = true) (hi : (P.info? ty).map (·.size) = some cs.length)
    (h : wpList P ops Q rest (a.put op.dst (.agg cs.toArray)) w) : wpList P ops Q (op :: rest) a w :=
  Go.BigFrame.wpList_want hw fun _ hK => wp_load_mid ty x ho b o hx cs d hc hu hd hi (hK _ _ h)
set_option maxRecDepth 100000 in
set_option maxHeartbeats 8000000 in
theorem lawDrn (v1 v2 : Value) (zs : List Int) (P : List DO) (us : List Value) (w : World) (h1 : Rd .u8 w v1 zs) (h2 : RdN w 2 v2 (P.map neD) us) (hA : ∀ p ∈ P, p.2.1 < 9223372036854775808) (hbd : ∀ p ∈ P, ∀ z ∈ p.2.2, 0 ≤ z ∧ z < 256) :
    Calls Try.prog 4 #[v1, v2] w fun e w' => e = .returned (.bool true) ∧ Below w.heap.size w w' := by
  have hm1 := h1.len
  unfold maxLen at hm1
  obtain ⟨a1, c1, rfl⟩ := rd_shape h1
  obtain ⟨a2, c2, rfl⟩ : ∃ a cap, v2 = .slice a P.length cap := by obtain ⟨a, cap, e, _⟩ := h2.row; exact ⟨a, cap, by simpa using e⟩
  have H := hide (And.intro h1 h2)
  have HA := hide (And.intro hA hbd)
  clear h1 h2 hA hbd
  by_cases hz : zs.length ≤ 1048576
  · have q0 : ¬ ((1048576 : Int) < (zs.length : Int)) := by omega
    go_enter Try.func4, Try.ntmps4
    go_wp2_with fail
    refine (szDiskOpS_any _ P us w H.out.2).mono ?_
    rintro e w1 ⟨l, rfl, hl, b1⟩
    have B1 := hide b1
    clear b1
    by_cases hl0 : l < 0
    · go_wp2
      go_ret
      exact ⟨rfl, B1.out⟩
    · obtain ⟨_, hPl, hPd⟩ := hl (by omega)
      have HPd := hide hPd
      have HBd := hide (runD_bd zs P hz HA.out.1)
      have HE2 := hide (show endN 2 (1 + zs.length) (P.map neD) ≤ 140737488355328 from Nat.le_trans (endN_bdO 2 1048576 _ _ (fun l hl => by
        rw [List.mem_map] at hl
        obtain ⟨p, hp, rfl⟩ := hl
        exact hPd p hp)) (by rw [List.length_map]; omega))
      clear hl hPd
      -- the model's answer
      go_wp2_with fail
      refine (toByteS_any _ zs w1 (H.out.1.below B1.out) (by omega)).mono ?_
      rintro e w2 ⟨x1, rfl, o2, b2⟩
      have B2 := hide (B1.out.trans (b2.mono B1.out.size))
      have R2 := hide (Rd.own o2)
      clear o2 b2
      go_wp2_with fail
      refine (toDiskOpS_any _ P us w2 (H.out.2.below B2.out) hPl HPd.out).mono ?_
      rintro e w3 ⟨x2, xs2, rfl, o3, b3⟩
      have B3 := hide (B2.out.trans (b3.mono B2.out.size))
      have R3 := hide (And.intro (R2.out.below b3) o3.rd)
      clear o3 b3 R2
      go_wp2_with fail
      refine (specDR_any x1 x2 zs P xs2 w3 R3.out.1 R3.out.2 hz HA.out.1 HA.out.2).mono ?_
      rintro e w4 ⟨ua, u2, u3, vw, rfl, ow, b4⟩
      obtain ⟨r, hr⟩ : ∃ r, r = runD zs P := ⟨_, rfl⟩
      rw [← hr] at ow HBd
      rw [← hr]
      have HR := hide hr
      clear hr
      obtain ⟨rc, rA, rI, rE, rn⟩ := r
      simp only
      have B4 := hide (B3.out.trans (b4.mono B3.out.size))
      have W4 := hide ow.rd
      obtain ⟨aua, cua, rfl⟩ : ∃ a cap, ua = .slice a rA.length cap := by obtain ⟨a, cap, e⟩ := own_shape ow.ans.row; exact ⟨a, cap, by simpa using e⟩
      obtain ⟨au2, cu2, rfl⟩ := own_shape ow.img
      obtain ⟨au3, cu3, rfl⟩ := own_shape ow.see
      clear ow b4 R3
      obtain ⟨gw, hgw⟩ : ∃ gw, gw = w4.heap.size := ⟨_, rfl⟩
      obtain ⟨w5, hw5⟩ : ∃ w5, w5 = w4.alloc (.cells #[.int .i64 rc, .slice aua rA.length cua, .slice au2 rI.length cu2, .slice au3 rE.length cu3, .int .i64 rn] 33) := ⟨_, rfl⟩
      have b5 : Below w4.heap.size w4 w5 := by rw [hw5]; exact (Below.refl _ _).alloc (Nat.le_refl _) _
      have K5 := hide (show Blk w5 gw #[.int .i64 rc, .slice aua rA.length cua, .slice au2 rI.length cu2, .slice au3 rE.length cu3, .int .i64 rn] 33 ∧ Below w.heap.size w w5 ∧ RdO w5 (.slice aua rA.length cua) (.slice au2 rI.length cu2) (.slice au3 rE.length cu3) (rc, rA, rI, rE, rn) vw from ⟨by rw [hw5, hgw]; exact Blk.new w4 _ _, B4.out.trans (b5.mono B4.out.size), W4.out.below b5⟩)
      have HW5 := hide hw5
      have Hgw := hide hgw
      clear b5 hw5 hgw B4 W4 B3 B2
      go_upto_region 8 with fail
      rw [← Hgw.out, ← HW5.out]
      clear HW5
      -- the arguments for the program
      go_wp2_with fail
      refine (toByteS_any _ zs w5 (H.out.1.below K5.out.2.1) (by omega)).mono ?_
      rintro e w6 ⟨x0, rfl, o6, b6⟩
      obtain ⟨ax, cx, rfl⟩ := own_shape o6
      have K6 := hide (show Blk w6 gw #[.int .i64 rc, .slice aua rA.length cua, .slice au2 rI.length cu2, .slice au3 rE.length cu3, .int .i64 rn] 33 ∧ Below w.heap.size w w6 ∧ RdO w6 (.slice aua rA.length cua) (.slice au2 rI.length cu2) (.slice au3 rE.length cu3) (rc, rA, rI, rE, rn) vw from ⟨K5.out.1.below b6 K5.out.1.lt, K5.out.2.1.trans (b6.mono K5.out.2.1.size), K5.out.2.2.below b6⟩)
      have X6 := hide o6
      have LW6 := hide b6
      have hs56 := b6.size
      clear o6 b6
      go_wp2_with fail
      refine (toDiskOpS_any _ P us w6 (H.out.2.below K6.out.2.1) hPl HPd.out).mono ?_
      rintro e w7 ⟨y0, ys, rfl, o7, b7⟩
      obtain ⟨ay, cy, rfl⟩ : ∃ a cap, y0 = .slice a P.length cap := by obtain ⟨a, cap, e⟩ := own_shape o7.row; exact ⟨a, cap, by simpa using e⟩
      have K7 := hide (show Blk w7 gw #[.int .i64 rc, .slice aua rA.length cua, .slice au2 rI.length cu2, .slice au3 rE.length cu3, .int .i64 rn] 33 ∧ Below w.heap.size w w7 ∧ RdO w7 (.slice aua rA.length cua) (.slice au2 rI.length cu2) (.slice au3 rE.length cu3) (rc, rA, rI, rE, rn) vw from ⟨K6.out.1.below b7 K6.out.1.lt, K6.out.2.1.trans (b7.mono K6.out.2.1.size), K6.out.2.2.below b7⟩)
      have X7 := hide (own_below X6.out b7)
      have LW7 := hide (show Below w5.heap.size w5 w7 from LW6.out.trans (b7.mono hs56))
      have Y7 := hide o7
      have hs67 := b7.size
      clear o7 b7 K6
      go_wp2_with fail
      refine (implDR_any _ _ zs P ys w7 (Rd.own X7.out) Y7.out.rd hz HA.out.1 HA.out.2).mono ?_
      rintro e w8 ⟨va, v2, v3, vs, rfl, og, b8, ap⟩
      rw [← HR.out] at og
      rw [← HR.out]
      simp only
      obtain ⟨ava, cva, rfl⟩ : ∃ a cap, va = .slice a rA.length cap := by obtain ⟨a, cap, e⟩ := own_shape og.ans.row; exact ⟨a, cap, by simpa using e⟩
      obtain ⟨av2, cv2, rfl⟩ := own_shape og.img
      obtain ⟨av3, cv3, rfl⟩ := own_shape og.see
      obtain ⟨gg, hgg⟩ : ∃ gg, gg = w8.heap.size := ⟨_, rfl⟩
      obtain ⟨w9, hw9⟩ : ∃ w9, w9 = w8.alloc (.cells #[.int .i64 rc, .slice ava rA.length cva, .slice av2 rI.length cv2, .slice av3 rE.length cv3, .int .i64 rn] 33) := ⟨_, rfl⟩
      have b9 : Below w8.heap.size w8 w9 := by rw [hw9]; exact (Below.refl _ _).alloc (Nat.le_refl _) _
      have b79 : Below w7.heap.size w7 w9 := b8.trans (b9.mono b8.size)
      have hs57 : w5.heap.size ≤ w7.heap.size := Nat.le_trans hs56 hs67
      have Lb9 := hide (show Below w5.heap.size w5 w9 from LW7.out.trans (b79.mono hs57))
      have Mb9 := hide (show Blk w9 gg #[.int .i64 rc, .slice ava rA.length cva, .slice av2 rI.length cv2, .slice av3 rE.length cv3, .int .i64 rn] 33 from by rw [hw9, hgg]; exact Blk.new w8 _ _)
      have Xb9 := hide (own_below X7.out b79)
      have Yb9 := hide (Y7.out.below b79)
      have Gb9 := hide (og.below b9)
      have HAp := hide ap
      have hs79 := b79.size
      have hgg7 : w7.heap.size ≤ gg := by rw [hgg]; exact b8.size
      have HW9 := hide hw9
      have Hgg := hide hgg
      clear b9 hw9 hgg og b8 ap b79 X7 K7 LW7
      go_upto_region 11 with fail
      rw [← Hgg.out, ← HW9.out]
      clear HW9
      have m9 := hide (And.intro (range5 Mb9.out) (range5 (K5.out.1.below Lb9.out K5.out.1.lt)))
      go_wp2_with (first
        | (refine wpList_load_midO (by rfl) 33 _ rfl gg 0 rfl [.int .i64 rc, .slice ava rA.length cva, .slice av2 rI.length cv2, .slice av3 rE.length cv3, .int .i64 rn] _ m9.out.1 Try.underlying33 rfl infoO5 ?_)
        | (refine wpList_load_midO (by rfl) 33 _ rfl gw 0 rfl [.int .i64 rc, .slice aua rA.length cua, .slice au2 rI.length cu2, .slice au3 rE.length cu3, .int .i64 rn] _ m9.out.2 Try.underlying33 rfl infoO5 ?_)
        | fail)
      refine (eqOut_same (rc, rA, rI, rE, rn) (.slice ava rA.length cva) (.slice av2 rI.length cv2) (.slice av3 rE.length cv3) (.slice aua rA.length cua) (.slice au2 rI.length cu2) (.slice au3 rE.length cu3) vs vw w9 Gb9.out.rd (K5.out.2.2.below Lb9.out)).mono ?_
      rintro e wA ⟨rfl, bA⟩
      have LbA := hide (Lb9.out.trans (bA.mono Lb9.out.size))
      have MbA := hide (Mb9.out.below bA Mb9.out.lt)
      have XbA := hide (own_below Xb9.out bA)
      have YbA := hide (Yb9.out.below bA)
      have GbA := hide (Gb9.out.below bA)
      have hsA := bA.size
      clear bA Lb9 Mb9 Gb9 Xb9 Yb9
      clear m9
      go_wp2_with fail
      refine (toByteS_any _ zs wA (H.out.1.below (K5.out.2.1.trans (LbA.out.mono K5.out.2.1.size))) (by omega)).mono ?_
      rintro e wB ⟨t1, rfl, oB, bB⟩
      have LbB := hide (LbA.out.trans (bB.mono LbA.out.size))
      have MbB := hide (MbA.out.below bB MbA.out.lt)
      have XbB := hide (own_below XbA.out bB)
      have YbB := hide (YbA.out.below bB)
      have GbB := hide (GbA.out.below bB)
      have TB := hide (Rd.own oB)
      clear oB
      have hsB := bB.size
      clear bB LbA MbA GbA XbA YbA
      go_wp2_with fail
      refine (eqByteS_same _ _ zs wB (Rd.own XbB.out) TB.out).mono ?_
      rintro e wC ⟨rfl, bC⟩
      have LbC := hide (LbB.out.trans (bC.mono LbB.out.size))
      have MbC := hide (MbB.out.below bC MbB.out.lt)
      have XbC := hide (own_below XbB.out bC)
      have YbC := hide (YbB.out.below bC)
      have GbC := hide (GbB.out.below bC)
      clear TB
      have hsC := bC.size
      clear bC LbB MbB GbB XbB YbB
      go_wp2_with fail
      refine (toDiskOpS_any _ P us wC (H.out.2.below (K5.out.2.1.trans (LbC.out.mono K5.out.2.1.size))) hPl HPd.out).mono ?_
      rintro e wD ⟨t2, ts2, rfl, oD, bD⟩
      have LbD := hide (LbC.out.trans (bD.mono LbC.out.size))
      have MbD := hide (MbC.out.below bD MbC.out.lt)
      have XbD := hide (own_below XbC.out bD)
      have YbD := hide (YbC.out.below bD)
      have GbD := hide (GbC.out.below bD)
      have TD := hide oD.rd
      clear oD
      have hsD := bD.size
      clear bD LbC MbC GbC XbC YbC
      go_wp2_with fail
      refine (eqDiskOpS_same _ _ P ys ts2 wD YbD.out.rd TD.out).mono ?_
      rintro e wE ⟨rfl, bE⟩
      have LbE := hide (LbD.out.trans (bE.mono LbD.out.size))
      have MbE := hide (MbD.out.below bE MbD.out.lt)
      have XbE := hide (own_below XbD.out bE)
      have YbE := hide (YbD.out.below bE)
      have GbE := hide (GbD.out.below bE)
      clear TD
      have hsE := bE.size
      clear bE LbD MbD GbD XbD YbD
      go_wp2_with fail
      refine (markByteS_any (.slice ax zs.length cx) w5.heap.size zs.length 1 _ wE XbE.out (by omega) (by omega)).mono ?_
      rintro e wF ⟨rfl, oF, gF⟩
      have hxlt : ∀ b, (Value.slice ax zs.length cx).ownBlock = some b → w5.heap.size ≤ b ∧ b < w6.heap.size := fun b hb => X6.out.lt b hb
      have hsF := gF.size
      have LbF := hide (LbE.out.grown gF (by omega) (fun r e => (hxlt r e).1))
      have MbF := hide (show Blk wF gg #[.int .i64 rc, .slice ava rA.length cva, .slice av2 rI.length cv2, .slice av3 rE.length cv3, .int .i64 rn] 33 from (gF.block gg MbE.out.lt (fun e => by have := (hxlt gg e.symm).2; omega)).trans MbE.out)
      have YbF := hide (YbE.out.keptL (grown_kpN gF) (fun b hb => by
        rcases hb with hb | ⟨u, hu, _⟩
        · have := (hxlt b hb).2; omega
        · cases hu))
      have GbF := hide (GbE.out.keptL (grown_kpN gF) (fun b hb => by
        rcases hb with hb | ⟨u, hu, _⟩
        · have := (hxlt b hb).2; omega
        · cases hu))
      clear oF gF hxlt XbE YbE GbE LbE MbE X6
      go_wp2_with fail
      refine (markDiskOpS_any (.slice ay P.length cy) w6.heap.size (1 + zs.length) P ys wF YbF.out HE2.out).mono ?_
      rintro e wG ⟨rfl, oG, kG⟩
      have hylt : ∀ b, ((Value.slice ay P.length cy).ownBlock = some b ∨ ∃ u ∈ ys, u.ownBlock = some b) → w6.heap.size ≤ b ∧ b < w7.heap.size := fun b hb => by
        rcases hb with hb | ⟨u, hu, hb⟩
        · exact Y7.out.row.lt b hb
        · obtain ⟨j, hj⟩ := List.getElem?_of_mem hu
          exact Y7.out.ltK hj hb
      have hsG := kG.size
      have LbG := hide (show Below w5.heap.size w5 wG from LbF.out.trans (kG.lowO (by omega) (fun b hb => by have := (hylt b (.inl hb)).1; omega) (fun b u hu hb => by have := (hylt b (.inr ⟨u, hu, hb⟩)).1; omega)))
      have MbG := hide (show Blk wG gg #[.int .i64 rc, .slice ava rA.length cva, .slice av2 rI.length cv2, .slice av3 rE.length cv3, .int .i64 rn] 33 from (kG.block gg MbF.out.lt (fun e => by have := (hylt gg (.inl e)).2; omega) (fun u hu e => by have := (hylt gg (.inr ⟨u, hu, e⟩)).2; omega)).trans MbF.out)
      have GbG := hide (GbF.out.keptL kG (fun b hb => (hylt b hb).2))
      obtain ⟨KE, hKE⟩ : ∃ KE, KE = endN 2 (1 + zs.length) (P.map neD) := ⟨_, rfl⟩
      rw [← hKE]
      have HKE := hide hKE
      have qk : decide ((KE : Int) < 0) = false := by simp
      clear oG kG hylt YbF GbF LbF MbF Y7 hKE
      have mG := hide (And.intro (range5 MbG.out) (range5 (K5.out.1.below LbG.out K5.out.1.lt)))
      go_wp2_with (first
        | (refine wpList_load_midO (by rfl) 33 _ rfl gg 0 rfl [.int .i64 rc, .slice ava rA.length cva, .slice av2 rI.length cv2, .slice av3 rE.length cv3, .int .i64 rn] _ mG.out.1 Try.underlying33 rfl infoO5 ?_)
        | (refine wpList_load_midO (by rfl) 33 _ rfl gw 0 rfl [.int .i64 rc, .slice aua rA.length cua, .slice au2 rI.length cu2, .slice au3 rE.length cu3, .int .i64 rn] _ mG.out.2 Try.underlying33 rfl infoO5 ?_)
        | fail)
      refine (eqOut_same (rc, rA, rI, rE, rn) (.slice ava rA.length cva) (.slice av2 rI.length cv2) (.slice av3 rE.length cv3) (.slice aua rA.length cua) (.slice au2 rI.length cu2) (.slice au3 rE.length cu3) vs vw wG GbG.out.rd (K5.out.2.2.below LbG.out)).mono ?_
      rintro e wH ⟨rfl, bH⟩
      have LbH := hide (LbG.out.trans (bH.mono LbG.out.size))
      have MbH := hide (MbG.out.below bH MbG.out.lt)
      have GbH := hide (GbG.out.below bH)
      have hsH := bH.size
      clear bH LbG MbG GbG
      clear mG qk
      have mH := hide (And.intro (range5 MbH.out) (range5 (K5.out.1.below LbH.out K5.out.1.lt)))
      go_wp2_with (first
        | (refine wpList_load_midO (by rfl) 33 _ rfl gg 0 rfl [.int .i64 rc, .slice ava rA.length cva, .slice av2 rI.length cv2, .slice av3 rE.length cv3, .int .i64 rn] _ mH.out.1 Try.underlying33 rfl infoO5 ?_)
        | (refine wpList_load_midO (by rfl) 33 _ rfl gw 0 rfl [.int .i64 rc, .slice aua rA.length cua, .slice au2 rI.length cu2, .slice au3 rE.length cu3, .int .i64 rn] _ mH.out.2 Try.underlying33 rfl infoO5 ?_)
        | fail)
      refine (markOut_any (rc, rA, rI, rE, rn) (.slice ava rA.length cva) (.slice av2 rI.length cv2) (.slice av3 rE.length cv3) vs w7.heap.size 1 wH GbH.out HAp.out (by omega) HBd.out).mono ?_
      rintro e wI ⟨rfl, oI, bI, yI⟩
      have hsI := bI.size
      have LbI := hide (show Below w5.heap.size w5 wI from LbH.out.trans (bI.mono hs57))
      have MbI := hide (show Blk wI gg #[.int .i64 rc, .slice ava rA.length cva, .slice av2 rI.length cv2, .slice av3 rE.length cv3, .int .i64 rn] 33 from yI.blk MbH.out (by unfold TyK; decide))
      have GbI := hide oI
      clear oI bI yI LbH MbH GbH mH
      obtain ⟨EO, hEO⟩ : ∃ EO, EO = endO 1 (rc, rA, rI, rE, rn) := ⟨_, rfl⟩
      rw [← hEO] at HBd
      rw [← hEO]
      have HEO := hide hEO
      clear hEO
      have qE : decide ((EO : Int) < 0) = false := by simp
      have qS : ((EO : Int) != (EO : Int)) = false := by simp
      have mI := hide (And.intro (range5 MbI.out) (range5 (K5.out.1.below LbI.out K5.out.1.lt)))
      go_wp2_with (first
        | (refine wpList_load_midO (by rfl) 33 _ rfl gg 0 rfl [.int .i64 rc, .slice ava rA.length cva, .slice av2 rI.length cv2, .slice av3 rE.length cv3, .int .i64 rn] _ mI.out.1 Try.underlying33 rfl infoO5 ?_)
        | (refine wpList_load_midO (by rfl) 33 _ rfl gw 0 rfl [.int .i64 rc, .slice aua rA.length cua, .slice au2 rI.length cu2, .slice au3 rE.length cu3, .int .i64 rn] _ mI.out.2 Try.underlying33 rfl infoO5 ?_)
        | fail)
      refine (heldOut_any (rc, rA, rI, rE, rn) (.slice ava rA.length cva) (.slice av2 rI.length cv2) (.slice av3 rE.length cv3) vs w7.heap.size 1 wI GbI.out (by rw [← HEO.out]; exact HBd.out)).mono ?_
      rintro e wJ ⟨rfl, bJ⟩
      rw [← HEO.out]
      have LbJ := hide (LbI.out.trans (bJ.mono LbI.out.size))
      have MbJ := hide (MbI.out.below bJ MbI.out.lt)
      have GbJ := hide (GbI.out.below bJ)
      have hsJ := bJ.size
      clear bJ LbI MbI GbI
      clear mI
      go_wp2_with fail
      refine (toByteS_any _ zs wJ (H.out.1.below (K5.out.2.1.trans (LbJ.out.mono K5.out.2.1.size))) (by omega)).mono ?_
      rintro e wK ⟨t3, rfl, oK, bK⟩
      have LbK := hide (LbJ.out.trans (bK.mono LbJ.out.size))
      have MbK := hide (MbJ.out.below bK MbJ.out.lt)
      have GbK := hide (GbJ.out.below bK)
      have TK := hide (Rd.own oK)
      clear oK
      have hsK := bK.size
      clear bK LbJ MbJ GbJ
      go_wp2_with fail
      refine (toDiskOpS_any _ P us wK (H.out.2.below (K5.out.2.1.trans (LbK.out.mono K5.out.2.1.size))) hPl HPd.out).mono ?_
      rintro e wL ⟨t4, ts4, rfl, oL, bL⟩
      have LbL := hide (LbK.out.trans (bL.mono LbK.out.size))
      have MbL := hide (MbK.out.below bL MbK.out.lt)
      have GbL := hide (GbK.out.below bL)
      have TL := hide (And.intro (TK.out.below bL) oL.rd)
      clear oL TK
      have hsL := bL.size
      clear bL LbK MbK GbK
      go_wp2_with fail
      refine (implDR_any t3 t4 zs P ts4 wL TL.out.1 TL.out.2 hz HA.out.1 HA.out.2).mono ?_
      rintro e wM ⟨sa, s2, s3, vs5, rfl, oM, bM, _⟩
      rw [← HR.out] at oM
      rw [← HR.out]
      simp only
      obtain ⟨asa, csa, rfl⟩ : ∃ a cap, sa = .slice a rA.length cap := by obtain ⟨a, cap, e⟩ := own_shape oM.ans.row; exact ⟨a, cap, by simpa using e⟩
      obtain ⟨as2, cs2, rfl⟩ := own_shape oM.img
      obtain ⟨as3, cs3, rfl⟩ := own_shape oM.see
      obtain ⟨gh, hgh⟩ : ∃ gh, gh = wM.heap.size := ⟨_, rfl⟩
      obtain ⟨wN, hwN⟩ : ∃ wN, wN = wM.alloc (.cells #[.int .i64 rc, .slice asa rA.length csa, .slice as2 rI.length cs2, .slice as3 rE.length cs3, .int .i64 rn] 33) := ⟨_, rfl⟩
      have bN0 : Below wM.heap.size wM wN := by rw [hwN]; exact (Below.refl _ _).alloc (Nat.le_refl _) _
      have bN : Below wL.heap.size wL wN := bM.trans (bN0.mono bM.size)
      have SbN := hide (show RdO wN (.slice asa rA.length csa) (.slice as2 rI.length cs2) (.slice as3 rE.length cs3) (rc, rA, rI, rE, rn) vs5 from oM.rd.below bN0)
      have KbN := hide (show Blk wN gh #[.int .i64 rc, .slice asa rA.length csa, .slice as2 rI.length cs2, .slice as3 rE.length cs3, .int .i64 rn] 33 from by rw [hwN, hgh]; exact Blk.new wM _ _)
      have LbN := hide (LbL.out.trans (bN.mono LbL.out.size))
      have MbN := hide (MbL.out.below bN MbL.out.lt)
      have GbN := hide (GbL.out.below bN)
      have HWN := hide hwN
      have Hgh := hide hgh
      clear bN0 bN oM bM hwN hgh LbL MbL GbL TL
      go_upto_region 31 with fail
      rw [← Hgh.out, ← HWN.out]
      clear HWN
      have mN := hide (And.intro (range5 KbN.out) (range5 (K5.out.1.below LbN.out K5.out.1.lt)))
      go_wp2_with (first
        | (refine wpList_load_midO (by rfl) 33 _ rfl gh 0 rfl [.int .i64 rc, .slice asa rA.length csa, .slice as2 rI.length cs2, .slice as3 rE.length cs3, .int .i64 rn] _ mN.out.1 Try.underlying33 rfl infoO5 ?_)
        | (refine wpList_load_midO (by rfl) 33 _ rfl gw 0 rfl [.int .i64 rc, .slice aua rA.length cua, .slice au2 rI.length cu2, .slice au3 rE.length cu3, .int .i64 rn] _ mN.out.2 Try.underlying33 rfl infoO5 ?_)
        | fail)
      refine (eqOut_same (rc, rA, rI, rE, rn) (.slice asa rA.length csa) (.slice as2 rI.length cs2) (.slice as3 rE.length cs3) (.slice aua rA.length cua) (.slice au2 rI.length cu2) (.slice au3 rE.length cu3) vs5 vw wN SbN.out (K5.out.2.2.below LbN.out)).mono ?_
      rintro e wO ⟨rfl, bO⟩
      have LbO := hide (LbN.out.trans (bO.mono LbN.out.size))
      have MbO := hide (MbN.out.below bO MbN.out.lt)
      have GbO := hide (GbN.out.below bO)
      have hsO := bO.size
      clear bO LbN MbN GbN
      clear mN
      have mO := hide (And.intro (range5 MbO.out) (range5 (K5.out.1.below LbO.out K5.out.1.lt)))
      go_wp2_with (first
        | (refine wpList_load_midO (by rfl) 33 _ rfl gg 0 rfl [.int .i64 rc, .slice ava rA.length cva, .slice av2 rI.length cv2, .slice av3 rE.length cv3, .int .i64 rn] _ mO.out.1 Try.underlying33 rfl infoO5 ?_)
        | (refine wpList_load_midO (by rfl) 33 _ rfl gw 0 rfl [.int .i64 rc, .slice aua rA.length cua, .slice au2 rI.length cu2, .slice au3 rE.length cu3, .int .i64 rn] _ mO.out.2 Try.underlying33 rfl infoO5 ?_)
        | fail)
      refine (heldOut_any (rc, rA, rI, rE, rn) (.slice ava rA.length cva) (.slice av2 rI.length cv2) (.slice av3 rE.length cv3) vs w7.heap.size 1 wO GbO.out (by rw [← HEO.out]; exact HBd.out)).mono ?_
      rintro e wP ⟨rfl, bP⟩
      rw [← HEO.out]
      have LbP := hide (LbO.out.trans (bP.mono LbO.out.size))
      have MbP := hide (MbO.out.below bP MbO.out.lt)
      have GbP := hide (GbO.out.below bP)
      have hsP := bP.size
      clear bP LbO MbO GbO
      go_wp2
      go_ret
      exact ⟨rfl, K5.out.2.1.trans (LbP.out.mono K5.out.2.1.size)⟩
  · have q0 : (1048576 : Int) < (zs.length : Int) := by omega
    go_enter Try.func4, Try.ntmps4
    go_wp2
    go_ret
    exact ⟨rfl, Below.refl _ _⟩
end Go.Proofs.Ythghibopnnjboaa
