/- The law on the device, walked. -/
import Derived.Test.YthghibopnnjboaaZi44
import Derived.BigQuiet
import Derived.Deep.QuietTactic
import Derived.Deep.DeepCutAuto
namespace Go.Proofs.Ythghibopnnjboaa
set_option linter.unusedVariables false
set_option linter.unusedSimpArgs false
open Go.RowKit

theorem infoDzz : (Try.prog.info? 30).map (fun i => (i.zero, i.size, i.bytes)) = some (some (.agg #[.int .i64 0, .int .i64 0, .slice none 0 0]), 3, 40) := by kernel_rfl
theorem one3D (a b : Int) (u : Value) (hu : u.oneCell' = true) : ∀ y ∈ ([.int .i64 a, .int .i64 b, u] : List Value), y.oneCell' = true := by
  intro y hy
  simp at hy
  rcases hy with rfl | rfl | rfl
  · rfl
  · rfl
  · exact hu
theorem cells3D (w : World) (a b : Int) (u : Value) (t : TypeId) : ∀ (j : Nat) (x : Value), [Value.int .i64 a, .int .i64 b, u][j]? = some x → (w.alloc (.cells #[.int .i64 a, .int .i64 b, u] t)).cell? (Addr.add ⟨w.heap.size, 0, none⟩ j) = some x := fun j x hj => cells_newK w #[.int .i64 a, .int .i64 b, u] t j x hj
theorem cells_onesD : ∀ (us : List Value) (P : List DO), (∀ u ∈ us, u.oneCell' = true) → ∀ x ∈ cellsN us (P.map neD), x.oneCell' = true
  | [], _, _, x, hx => by simp [cellsN] at hx
  | _ :: _, [], _, x, hx => by simp [cellsN] at hx
  | u :: us, p :: P, h, x, hx => by
    simp only [List.map_cons, cellsN, neD, List.cons_append, List.nil_append, List.mem_cons] at hx
    rcases hx with rfl | rfl | rfl | hx
    · rfl
    · rfl
    · exact h _ List.mem_cons_self
    · exact cells_onesD us P (fun u hu => h u (List.mem_cons_of_mem _ hu)) x hx
theorem Kd.ones {W : World} {base : Nat} {v : Value} {P : List DO} {us : List Value} (h : Kd W base v P us) : ∀ x ∈ cellsN us (P.map neD), x.oneCell' = true := by
  refine cells_onesD us P (fun u hu => ?_)
  obtain ⟨i, hi⟩ := List.getElem?_of_mem hu
  have hlt : i < us.length := by
    rcases Nat.lt_or_ge i us.length with h | h
    · exact h
    · rw [List.getElem?_eq_none h] at hi; cases hi
  obtain ⟨a, c, rfl⟩ := shape_rowK (h.dat i u _ hi (List.getElem?_eq_getElem (by rw [← h.len]; exact hlt)))
  rfl
abbrev OutT := Int × List (Int × List Int) × List Int × List Int × Int
/-- A DiskOut in block g, whose two images are rows of bytes. -/
structure OutB (W : World) (base g : Nat) (r : OutT) (va v2 v3 : Value) : Prop where
  blk : Blk W g #[.int .i64 r.1, va, v2, v3, .int .i64 r.2.2.2.2] 33
  img : W.ownsRow base 5 1 v2 r.2.2.1.length (r.2.2.1.map (Value.int .u8))
  see : W.ownsRow base 5 1 v3 r.2.2.2.1.length (r.2.2.2.1.map (Value.int .u8))
theorem OutB.below {W W' : World} {base g : Nat} {r : OutT} {va v2 v3 : Value} (h : OutB W base g r va v2 v3) (hb : Below W.heap.size W W') : OutB W' base g r va v2 v3 := ⟨h.blk.below hb h.blk.lt, own_below h.img hb, own_below h.see hb⟩
theorem OutB.kpy {T : TypeId → Prop} {W W' : World} {base g : Nat} {r : OutT} {va v2 v3 : Value} (h : OutB W base g r va v2 v3) (k : KpY T W W') (h1 : ¬ T 33) (h2 : ¬ T 5) : OutB W' base g r va v2 v3 := ⟨k.blk h.blk h1, k.own h.img h2, k.own h.see h2⟩
theorem own_cap {w : World} {base g n cap m : Nat} {e : TypeId} {sz : Nat} {xs : List Value} (h : w.ownsRow base e sz (.slice (some ⟨g, 0, none⟩) m cap) n xs) : n ≤ cap ∧ cap ≤ maxLen := by
  rcases h.2 with ⟨h, _⟩ | ⟨g', cap', cur, e, _, _, h1, h2, _⟩
  · cases h
  · injection e with _ _ e3
    subst e3
    exact ⟨h1, h2⟩
theorem OutB.imgC {W : World} {base g : Nat} {r : OutT} {va v2 v3 : Value} (h : OutB W base g r va v2 v3) (I : List Int) (hI : r.2.2.1 = I) (n : Nat) (hn : I.length = n) (hp : 0 < n) : ∃ gI cI, n ≤ cI ∧ cI ≤ maxLen ∧ Rd .u8 W (.slice (some ⟨gI, 0, none⟩) n cI) I ∧ W.cell? ⟨g, 2, none⟩ = some (.slice (some ⟨gI, 0, none⟩) n cI) := by
  subst hI
  subst hn
  obtain ⟨gI, cI, rfl⟩ := place_rowK h.img hp
  exact ⟨gI, cI, (own_cap h.img).1, (own_cap h.img).2, Rd.own h.img, (h.blk.cell 2).trans rfl⟩
theorem OutB.seeC {W : World} {base g : Nat} {r : OutT} {va v2 v3 : Value} (h : OutB W base g r va v2 v3) (I : List Int) (hI : r.2.2.2.1 = I) (n : Nat) (hn : I.length = n) (hp : 0 < n) : ∃ gI cI, n ≤ cI ∧ cI ≤ maxLen ∧ Rd .u8 W (.slice (some ⟨gI, 0, none⟩) n cI) I ∧ W.cell? ⟨g, 3, none⟩ = some (.slice (some ⟨gI, 0, none⟩) n cI) := by
  subst hI
  subst hn
  obtain ⟨gI, cI, rfl⟩ := place_rowK h.see hp
  exact ⟨gI, cI, (own_cap h.see).1, (own_cap h.see).2, Rd.own h.see, (h.blk.cell 3).trans rfl⟩
/-- A row of bytes, held by cell k of block g. -/
structure Hv (W : World) (g k gI n c : Nat) (I : List Int) : Prop where
  at_ : W.cell? ⟨g, k, none⟩ = some (.slice (some ⟨gI, 0, none⟩) n c)
  lt : g < W.heap.size
  rd : Rd .u8 W (.slice (some ⟨gI, 0, none⟩) n c) I
theorem Hv.below {W W' : World} {g k gI n c : Nat} {I : List Int} (h : Hv W g k gI n c I) (hb : Below W.heap.size W W') : Hv W' g k gI n c I := ⟨(hb.cell (p := ⟨g, k, none⟩) h.lt).trans h.at_, Nat.lt_of_lt_of_le h.lt hb.size, h.rd.below hb⟩
theorem rd_top {W : World} {g n c : Nat} {I : List Int} (h : Rd .u8 W (.slice (some ⟨g, 0, none⟩) n c) I) (hl : 2048 ≤ I.length) : Rd .u8 W (.slice (some ⟨g, 0, none⟩) 2048 c) (I.take 2048) := by
  have := Rd.cut2 0 2048 h (by omega) (by omega)
  simpa using this
theorem rd_sec {W : World} {g n c : Nat} {I : List Int} (h : Rd .u8 W (.slice (some ⟨g, 0, none⟩) n c) I) (q : Nat) (hl : q * 128 + 128 ≤ I.length) : Rd .u8 W (.slice (some ⟨g, q * 128, none⟩) 128 (c - q * 128)) (secZ I q) := by
  have := Rd.cut2 (q * 128) 128 h (by omega) (by omega)
  rw [Nat.zero_add] at this
  exact this
theorem rd_end {W : World} {g n c : Nat} {I : List Int} (h : Rd .u8 W (.slice (some ⟨g, 0, none⟩) n c) I) (hn : I.length = n) (hl : 4096 < n) : Rd .u8 W (.slice (some ⟨g, 4096, none⟩) (n - 4096) (c - 4096)) (I.drop 4096) := by
  have := Rd.cut2 4096 (n - 4096) h (by omega) (by omega)
  rw [Nat.zero_add, List.take_of_length_le (by rw [List.length_drop]; omega)] at this
  exact this
/-- Of this write sector q may have come. -/
def MtD (F : List Int) (q : Nat) (p : DO) : Prop := ∃ a j : Nat, p.2.1 = (a : Int) ∧ j < 4 ∧ a * 4 + j = q ∧ secZ F q = (p.2.2.drop (j * 128)).take 128
theorem belN {B : Nat} {w w' : World} (h : Below B w w') (n : Nat) : Below B w (w'.drewN n) := ⟨h.os, h.tape, h.output, h.size, h.block⟩
theorem smK_same (v u : Value) (xs : List Int) (w : World) (h : Rd .u8 w v xs) (k : Rd .u8 w u xs) : Calls Try.prog 12 #[v, u] w fun e w' => e = .returned (.bool true) ∧ w' = w := by
  refine (smK_any v u xs xs w h k).mono ?_
  rintro e w' ⟨t, rfl, ht, rfl⟩
  exact ⟨by rw [ht rfl], rfl⟩
set_option maxRecDepth 100000 in
set_option maxHeartbeats 16000000 in
theorem lawDisk (v : Value) (cs : List Int) (w : World) (h : Rd .u8 w v cs) (hbd : ∀ z ∈ cs, 0 ≤ z ∧ z < 256) :
    Calls Try.prog 3 #[v] w fun e w' => e = .returned (.bool true) ∧ Below w.heap.size w w' := by
  obtain ⟨i0, hi, hz0, hz1, hz2⟩ := info_parts infoDzz
  have hm := h.len
  unfold maxLen at hm
  obtain ⟨a, cap, rfl⟩ := rd_shape h
  have H := hide (And.intro h hbd)
  clear h hbd
  by_cases hz : cs.length ≤ 1048576
  · have q0 : ¬ ((1048576 : Int) < (cs.length : Int)) := by omega
    go_enter Try.func3, Try.ntmps3
    go_wp2_with fail
    refine (draw_any _ cs w H.out.1 hz).mono ?_
    rintro e w1 ⟨rfl, s1, b1, _⟩
    have S1 := hide (show Sc w w1 w.heap.size (.slice a cs.length cap) cs from ⟨s1, Nat.le_refl _, b1, H.out.1, H.out.2, hz⟩)
    clear s1 b1
    go_wp2_with fail
    refine (image_drawn S1.out).mono ?_
    rintro e w2 ⟨vi, zs, m, rfl, hm1, hm2, hzl, hzB, o2, s2, d2⟩
    obtain ⟨gi, ci, rfl⟩ := place_rowK o2 (by omega)
    obtain ⟨NZ, hNZ⟩ : ∃ NZ, NZ = m * 512 := ⟨_, rfl⟩
    rw [← hNZ] at o2 hzl
    rw [← hNZ]
    have HZ := hide (And.intro hzl (And.intro hzB (show zs.length = m * 512 by rw [hzl, hNZ])))
    have hNb : 32768 ≤ NZ ∧ NZ ≤ 34816 := ⟨by omega, by omega⟩
    obtain ⟨W3, hW3⟩ : ∃ W3, W3 = w2.alloc (.cells #[] 30) := ⟨_, rfl⟩
    have b3 : Below w2.heap.size w2 W3 := by rw [hW3]; exact (Below.refl _ _).alloc (Nat.le_refl _) _
    have L3 := hide (show LwA w W3 w.heap.size (.slice a cs.length cap) cs (.slice (some ⟨gi, 0, none⟩) NZ ci) zs from (LwA.mk s2 (by rw [hzl]; exact own_mono o2 S1.out.low.size)).below b3)
    obtain ⟨g3, hg3⟩ : ∃ g3, g3 = w2.heap.size := ⟨_, rfl⟩
    have K3 := hide (show Kd W3 w.heap.size (.slice (some ⟨g3, 0, none⟩) 0 0) [] [] from ⟨rfl, by rw [hW3, hg3]; exact own_mono (own_emptyM w2 30 3) s2.low.size, fun i u p h => (by simp at h)⟩)
    have HW3 := hide hW3
    have Hg3 := hide hg3
    clear s2 d2 o2 b3 hW3 hg3 hzl hzB hNZ S1
    go_upto_region 6 with fail
    rw [← Hg3.out, ← HW3.out]
    clear HW3
    go_wp2_with fail
    refine (L3.out.sc.N 6 (by omega) (by omega)).mono ?_
    rintro e w4 ⟨z, rfl, hq0, hq1, s4, d4⟩
    have L4 := hide (L3.out.draw s4 d4)
    have K4 := hide (K3.out.kpy (src_kp L3.out.sc.src d4) (by decide) (by decide))
    clear s4 d4 L3 K3
    obtain ⟨k0, hk0⟩ : ∃ k0 : Nat, (1 : Int) + z = (k0 : Int) := ⟨(1 + z).toNat, by omega⟩
    have hk06 : k0 ≤ 6 := by omega
    go_wp2
    go_loopw [5, 6] (fun ov kv wx => ∃ (k PL : Nat) (P : List DO) (us : List Value) (gp pc : Nat), k + PL ≤ 6 ∧ PL = P.length ∧ kv = .int .i64 (k : Int) ∧ ov = .slice (some ⟨gp, 0, none⟩) PL pc ∧ WrB 0 4 P ∧ Kd wx w.heap.size (.slice (some ⟨gp, 0, none⟩) PL pc) P us ∧ LwA w wx w.heap.size (.slice a cs.length cap) cs (.slice (some ⟨gi, 0, none⟩) NZ ci) zs) (fun _ kv _ => (intOf kv).toNat)
    case atStart => exact ⟨k0, 0, [], [], g3, 0, by omega, rfl, rfl, rfl, WrB.nil _ _, K4.out, L4.out⟩
    case round =>
      clear K4 L4 hk0 hk06 hq0 hq1
      obtain ⟨k, PL, P, us, gp, pc, hk, hPL, rfl, rfl, hW, hK, hL⟩ := hrel
      have HW := hide (And.intro hW hPL)
      have K5 := hide hK
      have L5 := hide hL
      clear hW hK hL hPL
      by_cases hkp : 0 < k
      · have hkI : (0 : Int) < (k : Int) := by omega
        go_wp2_with fail
        refine (L5.out.sc.N 4 (by omega) (by omega)).mono ?_
        rintro e w6 ⟨z, rfl, hq0, hq1, s6, d6⟩
        have L6 := hide (L5.out.draw s6 d6)
        have K6 := hide (K5.out.kpy (src_kp L5.out.sc.src d6) (by decide) (by decide))
        clear s6 d6 L5 K5
        obtain ⟨ab, rfl⟩ : ∃ ab : Nat, z = (ab : Int) := ⟨z.toNat, by omega⟩
        go_wp2_with fail
        refine (block_drawn L6.out.sc).mono ?_
        rintro e w7 ⟨u, D, rfl, hDl, hDB, o7, s7, d7⟩
        obtain ⟨gu, cu, rfl⟩ := place_rowK o7 (by omega)
        have L7 := hide (L6.out.draw s7 d7)
        have K7 := hide (K6.out.kpy (src_kp L6.out.sc.src d7) (by decide) (by decide))
        have U7 := hide (show w7.ownsRow w.heap.size 5 1 (.slice (some ⟨gu, 0, none⟩) 512 cu) D.length (D.map (Value.int .u8)) from by rw [hDl]; exact own_mono o7 L6.out.sc.low.size)
        have HD := hide (And.intro hDl hDB)
        clear s7 d7 o7 hDl hDB L6 K6
        have Ba := hide (show Below w7.heap.size w7 (w7.alloc (.cells #[.int .i64 2, .int .i64 (ab : Int), .slice (some ⟨gu, 0, none⟩) 512 cu] 30)) from (Below.refl _ _).alloc (Nat.le_refl _) _)
        have Ka := hide (K7.out.below Ba.out)
        have La := hide (L7.out.below Ba.out)
        have Ra := hide (show (w7.alloc (.cells #[.int .i64 2, .int .i64 (ab : Int), .slice (some ⟨gu, 0, none⟩) 512 cu] 30)).ownsRow w.heap.size 30 3 (.slice (some ⟨gp, 0, none⟩) PL pc) PL (cellsN us (P.map neD)) from by have := Ka.out.row; rw [← HW.out.2] at this; exact this)
        have hla := La.out.sc.low.size
        go_wp2_with (at_builtin; go_loud (refine wpList_append_own_at _ rfl (.tmp 36) (.tmp 42) 26 rfl w.heap.size 30 i0 (.agg #[.int .i64 0, .int .i64 0, .slice none 0 0]) 3 40 Try.underlying26 hi hz0 hz1 hz2 rfl (by decide) (.slice (some ⟨gp, 0, none⟩) PL pc) (PL) _ rfl Ra.out ⟨w7.heap.size, 0, none⟩ 1 1 [.int .i64 2, .int .i64 (ab : Int), .slice (some ⟨gu, 0, none⟩) 512 cu] rfl rfl (cells3D w7 2 (ab : Int) (.slice (some ⟨gu, 0, none⟩) 512 cu) 30) (one3D _ _ _ rfl) (by unfold maxLen; omega) (by omega) (by exact hla) ?_); intro v7 w8 o7 g7 _ _; obtain ⟨gq8, qc8, rfl⟩ := place_rowK o7 (by omega); have O7 := hide (And.intro o7 g7); clear o7 g7)
        have K8 := hide (show Kd w8 w.heap.size (.slice (some ⟨gq8, 0, none⟩) (PL + 1) qc8) (P ++ [(2, (ab : Int), D)]) (us ++ [.slice (some ⟨gu, 0, none⟩) 512 cu]) from Ka.out.pushK (2, (ab : Int), D) (.slice (some ⟨gu, 0, none⟩) 512 cu) (own_below U7.out Ba.out) (by rw [← HW.out.2]; exact O7.out.1) O7.out.2)
        have L8 := hide (La.out.grewK Ra.out O7.out.2 (Nat.le_refl _))
        have hl8 := L8.out.sc.low.size
        have HW8 := hide (show WrB 0 4 (P ++ [(2, (ab : Int), D)]) ∧ PL + 1 = (P ++ [((2 : Int), (ab : Int), D)]).length from ⟨HW.out.1.snoc ab D (by omega) (by omega) HD.out.1 HD.out.2, by rw [List.length_append, ← HW.out.2]; rfl⟩)
        clear Ba Ka La Ra O7 K7 L7 U7 HW
        go_roundw
        case rel => exact ⟨k - 1, PL + 1, _, _, gq8, qc8, by omega, HW8.out.2, by go_num, rfl, HW8.out.1, K8.out, L8.out⟩
        case measure => simp [intOf]; omega
      · have hk2 : k = 0 := by omega
        subst hk2
        have Ba := hide (show Below wr.heap.size wr (wr.alloc (.cells #[.int .i64 3, .int .i64 0, .slice none 0 0] 30)) from (Below.refl _ _).alloc (Nat.le_refl _) _)
        have Ka := hide (K5.out.below Ba.out)
        have La := hide (L5.out.below Ba.out)
        have Ra := hide (show (wr.alloc (.cells #[.int .i64 3, .int .i64 0, .slice none 0 0] 30)).ownsRow w.heap.size 30 3 (.slice (some ⟨gp, 0, none⟩) PL pc) PL (cellsN us (P.map neD)) from by have := Ka.out.row; rw [← HW.out.2] at this; exact this)
        have hla := La.out.sc.low.size
        go_wp2_with (at_builtin; go_loud (refine wpList_append_own_at _ rfl (.tmp 44) (.tmp 46) 26 rfl w.heap.size 30 i0 (.agg #[.int .i64 0, .int .i64 0, .slice none 0 0]) 3 40 Try.underlying26 hi hz0 hz1 hz2 rfl (by decide) (.slice (some ⟨gp, 0, none⟩) PL pc) (PL) _ rfl Ra.out ⟨wr.heap.size, 0, none⟩ 1 1 [.int .i64 3, .int .i64 0, .slice none 0 0] rfl rfl (cells3D wr 3 0 (.slice none 0 0) 30) (one3D _ _ _ rfl) (by unfold maxLen; omega) (by omega) (by exact hla) ?_); intro v7 wb o7 g7 _ _; obtain ⟨gqb, qcb, rfl⟩ := place_rowK o7 (by omega); have O7 := hide (And.intro o7 g7); clear o7 g7)
        have Kb := hide (show Kd wb w.heap.size (.slice (some ⟨gqb, 0, none⟩) (PL + 1) qcb) (P ++ [(3, 0, [])]) (us ++ [.slice none 0 0]) from Ka.out.pushK (3, 0, []) (.slice none 0 0) (World.ownsRow_nil _ _ _ _) (by rw [← HW.out.2]; exact O7.out.1) O7.out.2)
        have Lb := hide (La.out.grewK Ra.out O7.out.2 (Nat.le_refl _))
        have hlb := Lb.out.sc.low.size
        clear Ba Ka La Ra O7 K5 L5 hla
        obtain ⟨Q1, hQ1⟩ : ∃ Q1, Q1 = P ++ [(3, 0, [])] := ⟨_, rfl⟩
        rw [← hQ1] at Kb
        obtain ⟨us1, hus1⟩ : ∃ us1, us1 = us ++ [.slice none 0 0] := ⟨_, rfl⟩
        rw [← hus1] at Kb
        have HQ1 := hide (And.intro hQ1 (show PL + 1 = Q1.length from by have q := HW.out.2; rw [hQ1]; simp only [List.length_append, List.length_singleton]; omega))
        clear hQ1 hus1
        have R1 := hide (show InR Q1 from by rw [HQ1.out.1]; exact (HW.out.1.inR (by omega)).cat (InR.oneR (by omega) (fun z h => by cases h)))
        go_wp2_with fail
        refine (cpK_any _ zs wb (Rd.own Lb.out.img) (by have := HZ.out.1; omega)).mono ?_
        rintro e x1 ⟨vc, rfl, oc, bc⟩
        have Lx1 := hide (Lb.out.below bc)
        have Kx1 := hide (Kb.out.below bc)
        have Cx1 := hide oc
        clear bc oc Kb Lb 
        go_wp2_with fail
        refine (implDR_any _ _ zs Q1 us1 x1 (Rd.own Cx1.out) Kx1.out.rd (by have := HZ.out.1; omega) R1.out.1 R1.out.2).mono ?_
        rintro e x2 ⟨va, v2, v3, vs, rfl, og, bb, _⟩
        obtain ⟨r, hr⟩ : ∃ r, r = runD zs Q1 := ⟨_, rfl⟩
        rw [← hr] at og
        rw [← hr]
        have HRg1 := hide hr
        clear hr
        obtain ⟨cg1, Ag1, Ig1, Eg1, ng1⟩ := r
        simp only
        obtain ⟨ava, cva, rfl⟩ : ∃ a cap, va = .slice a Ag1.length cap := by obtain ⟨a, cap, e⟩ := own_shape og.ans.row; exact ⟨a, cap, by simpa using e⟩
        obtain ⟨a2g1, c2g1, rfl⟩ := own_shape og.img
        obtain ⟨a3g1, c3g1, rfl⟩ := own_shape og.see
        obtain ⟨g1, hg⟩ : ∃ gg, gg = x2.heap.size := ⟨_, rfl⟩
        obtain ⟨x3, hw⟩ : ∃ w9, w9 = x2.alloc (.cells #[.int .i64 cg1, .slice ava Ag1.length cva, .slice a2g1 Ig1.length c2g1, .slice a3g1 Eg1.length c3g1, .int .i64 ng1] 33) := ⟨_, rfl⟩
        have b2 : Below x2.heap.size x2 x3 := by rw [hw]; exact (Below.refl _ _).alloc (Nat.le_refl _) _
        have bab : Below x1.heap.size x1 x3 := bb.trans (b2.mono bb.size)
        have Lx3 := hide (Lx1.out.below bab)
        have Kx3 := hide (Kx1.out.below bab)
        have Gg1x3 := hide (show OutB x3 w.heap.size g1 (cg1, Ag1, Ig1, Eg1, ng1) (.slice ava Ag1.length cva) (.slice a2g1 Ig1.length c2g1) (.slice a3g1 Eg1.length c3g1) from ⟨by rw [hw, hg]; exact Blk.new x2 _ _, own_mono (own_below og.img b2) Lx1.out.sc.low.size, own_mono (own_below og.see b2) Lx1.out.sc.low.size⟩)
        have HWa := hide hw
        have Hga := hide hg
        clear b2 bab hw hg og bb Lx1 Kx1 Cx1 
        go_upto_region 12 with fail
        rw [← Hga.out, ← HWa.out]
        clear HWa Hga
        go_wp2_with fail
        refine (Lx3.out.sc.N 90 (by omega) (by omega)).mono ?_
        rintro e wc ⟨z, rfl, hq0, hq1, s, d⟩
        have Lc := hide (Lx3.out.draw s d)
        have Kc := hide (Kx3.out.kpy (src_kp Lx3.out.sc.src d) (by decide) (by decide))
        have Gc := hide (Gg1x3.out.kpy (src_kp Lx3.out.sc.src d) (by decide) (by decide))
        clear s d Kx3 Lx3 Gg1x3
        obtain ⟨f, rfl⟩ : ∃ f : Nat, z = (f : Int) := ⟨z.toNat, by omega⟩
        have Ba := hide (show Below wc.heap.size wc (wc.alloc (.cells #[.int .i64 4, .int .i64 (f : Int), .slice none 0 0] 30)) from (Below.refl _ _).alloc (Nat.le_refl _) _)
        have Ka := hide (Kc.out.below Ba.out)
        have La := hide (Lc.out.below Ba.out)
        have Ra := hide (show (wc.alloc (.cells #[.int .i64 4, .int .i64 (f : Int), .slice none 0 0] 30)).ownsRow w.heap.size 30 3 (.slice (some ⟨gqb, 0, none⟩) (PL + 1) qcb) (PL + 1) (cellsN us1 (Q1.map neD)) from by have := Ka.out.row; rw [← HQ1.out.2] at this; exact this)
        have hla := La.out.sc.low.size
        go_wp2_with (at_builtin; go_loud (refine wpList_append_own_at _ rfl (.tmp 54) (.tmp 57) 26 rfl w.heap.size 30 i0 (.agg #[.int .i64 0, .int .i64 0, .slice none 0 0]) 3 40 Try.underlying26 hi hz0 hz1 hz2 rfl (by decide) (.slice (some ⟨gqb, 0, none⟩) (PL + 1) qcb) ((PL + 1)) _ rfl Ra.out ⟨wc.heap.size, 0, none⟩ 1 1 [.int .i64 4, .int .i64 (f : Int), .slice none 0 0] rfl rfl (cells3D wc 4 (f : Int) (.slice none 0 0) 30) (one3D _ _ _ rfl) (by unfold maxLen; omega) (by omega) (by exact hla) ?_); intro v7 wh o7 g7 _ _; obtain ⟨gqh, qch, rfl⟩ := place_rowK o7 (by omega); have O7 := hide (And.intro o7 g7); clear o7 g7)
        have Kh := hide (show Kd wh w.heap.size (.slice (some ⟨gqh, 0, none⟩) ((PL + 1) + 1) qch) (Q1 ++ [(4, (f : Int), [])]) (us1 ++ [.slice none 0 0]) from Ka.out.pushK (4, (f : Int), []) (.slice none 0 0) (World.ownsRow_nil _ _ _ _) (by rw [← HQ1.out.2]; exact O7.out.1) O7.out.2)
        have Lh := hide (La.out.grewK Ra.out O7.out.2 (Nat.le_refl _))
        have hlh := Lh.out.sc.low.size
        have Gh := hide ((Gc.out.below Ba.out).kpy ((KpY.refl (fun t => t = 30) _).ownrow Ra.out rfl O7.out.2) (by decide) (by decide))
        clear Ba Ka La Ra O7 Kc Lc Gc hla
        obtain ⟨Q2, hQ2⟩ : ∃ Q2, Q2 = Q1 ++ [(4, (f : Int), [])] := ⟨_, rfl⟩
        rw [← hQ2] at Kh
        obtain ⟨us2, hus2⟩ : ∃ us2, us2 = us1 ++ [.slice none 0 0] := ⟨_, rfl⟩
        rw [← hus2] at Kh
        have HQ2 := hide (And.intro hQ2 (show PL + 1 + 1 = Q2.length from by have q := HQ1.out.2; rw [hQ2]; simp only [List.length_append, List.length_singleton]; omega))
        clear hQ2 hus2
        have R2 := hide (show InR Q2 from by rw [HQ2.out.1]; exact R1.out.cat (InR.oneR (by omega) (fun z h => by cases h)))
        have hgq : gqh < wh.heap.size := (Kh.out.row.lt gqh rfl).2
        obtain ⟨We, hWe⟩ : ∃ We, We = wh.alloc (.cells #[] 30) := ⟨_, rfl⟩
        obtain ⟨g4, hg4⟩ : ∃ g4, g4 = wh.heap.size := ⟨_, rfl⟩
        have b4 : Below wh.heap.size wh We := by rw [hWe]; exact (Below.refl _ _).alloc (Nat.le_refl _) _
        have Le := hide (Lh.out.below b4)
        have Ke := hide (Kh.out.below b4)
        have Ge := hide (Gh.out.below b4)
        have We2 := hide (show Kd We g4 (.slice (some ⟨g4, 0, none⟩) 0 0) [] [] from ⟨rfl, by rw [hWe, hg4]; exact own_emptyM wh 30 3, fun i u p h => (by simp at h)⟩)
        have hge : g4 ≤ We.heap.size := by rw [hg4]; exact b4.size
        have hwg : w.heap.size ≤ g4 := by rw [hg4]; exact hlh
        rw [← hg4] at hgq
        have HWe := hide hWe
        have Hg4 := hide hg4
        clear b4 hWe hg4 Lh Kh Gh
        go_upto_region 15 with fail
        rw [← Hg4.out, ← HWe.out]
        clear HWe
        go_wp2_with fail
        refine (Le.out.sc.N 20 (by omega) (by omega)).mono ?_
        rintro e wf ⟨z, rfl, hy0, hy1, s, d⟩
        have hge2 := Nat.le_trans hge d.size
        have Lf := hide (Le.out.draw s d)
        have Kf := hide (Ke.out.kpy (src_kp Le.out.sc.src d) (by decide) (by decide))
        have Gf := hide (Ge.out.kpy (src_kp Le.out.sc.src d) (by decide) (by decide))
        have Wf := hide (We2.out.kpy (src_kp Le.out.sc.src d) (by decide) (by decide))
        clear s d Ke Le Ge We2
        obtain ⟨k1, hk1⟩ : ∃ k1 : Nat, (1 : Int) + z = (k1 : Int) := ⟨(1 + z).toNat, by omega⟩
        have hk120 : k1 ≤ 20 := by omega
        go_wp2
        go_loopw [9, 10] (fun wv kv wx => ∃ (k WL : Nat) (X : List DO) (xs : List Value) (gy yc : Nat), k + WL ≤ 20 ∧ WL = X.length ∧ kv = .int .i64 (k : Int) ∧ wv = (.slice (some ⟨gy, 0, none⟩) WL yc) ∧ WrB 4 8 X ∧ Kd wx g4 (.slice (some ⟨gy, 0, none⟩) WL yc) X xs ∧ LwA w wx w.heap.size (.slice a cs.length cap) cs (.slice (some ⟨gi, 0, none⟩) NZ ci) zs ∧ Kd wx w.heap.size (.slice (some ⟨gqh, 0, none⟩) (PL + 1 + 1) qch) Q2 us2 ∧ OutB wx w.heap.size g1 (cg1, Ag1, Ig1, Eg1, ng1) (.slice ava Ag1.length cva) (.slice a2g1 Ig1.length c2g1) (.slice a3g1 Eg1.length c3g1) ∧ g4 ≤ wx.heap.size) (fun _ kv _ => (intOf kv).toNat)
        case atStart => exact ⟨k1, 0, [], [], g4, 0, by omega, rfl, rfl, rfl, WrB.nil _ _, Wf.out, Lf.out, Kf.out, Gf.out, hge2⟩
        case round =>
          clear Wf Lf Kf Gf hge2 hge hk1 hk120 hy0 hy1
          obtain ⟨k, WL, X, xs, gy, yc, hk3, hWL, rfl, rfl, hW, hK, hL, hO, hG, hh⟩ := hrel
          have HX := hide (And.intro hW hWL)
          have W5 := hide hK
          have L5 := hide hL
          have K5 := hide hO
          have G5 := hide hG
          clear hW hK hL hO hG hWL
          by_cases hkp : 0 < k
          · have hkI : (0 : Int) < (k : Int) := by omega
            go_wp2_with fail
            refine (L5.out.sc.N 4 (by omega) (by omega)).mono ?_
            rintro e w6 ⟨z, rfl, hv0, hv1, s, d⟩
            have hh6 := Nat.le_trans hh d.size
            have L6 := hide (L5.out.draw s d)
            have K6 := hide (K5.out.kpy (src_kp L5.out.sc.src d) (by decide) (by decide))
            have W6 := hide (W5.out.kpy (src_kp L5.out.sc.src d) (by decide) (by decide))
            have G6 := hide (G5.out.kpy (src_kp L5.out.sc.src d) (by decide) (by decide))
            clear s d K5 L5 W5 G5
            obtain ⟨ab, hab⟩ : ∃ ab : Nat, (4 : Int) + z = (ab : Int) := ⟨(4 + z).toNat, by omega⟩
            go_wp2_with fail
            refine (block_drawn L6.out.sc).mono ?_
            rintro e w7 ⟨u, D, rfl, hDl, hDB, o7, s, d⟩
            obtain ⟨gu, cu, rfl⟩ := place_rowK o7 (by omega)
            have U7 := hide (show w7.ownsRow g4 5 1 (.slice (some ⟨gu, 0, none⟩) 512 cu) D.length (D.map (Value.int .u8)) from by rw [hDl]; exact own_mono o7 hh6)
            have HD := hide (And.intro hDl hDB)
            have hh7 := Nat.le_trans hh6 d.size
            clear o7 hDl hDB
            have L7 := hide (L6.out.draw s d)
            have K7 := hide (K6.out.kpy (src_kp L6.out.sc.src d) (by decide) (by decide))
            have W7 := hide (W6.out.kpy (src_kp L6.out.sc.src d) (by decide) (by decide))
            have G7 := hide (G6.out.kpy (src_kp L6.out.sc.src d) (by decide) (by decide))
            clear s d K6 L6 W6 G6
            have Ba := hide (show Below w7.heap.size w7 (w7.alloc (.cells #[.int .i64 2, .int .i64 (ab : Int), .slice (some ⟨gu, 0, none⟩) 512 cu] 30)) from (Below.refl _ _).alloc (Nat.le_refl _) _)
            have Ka := hide (W7.out.below Ba.out)
            have La := hide (L7.out.below Ba.out)
            have Ra := hide (show (w7.alloc (.cells #[.int .i64 2, .int .i64 (ab : Int), .slice (some ⟨gu, 0, none⟩) 512 cu] 30)).ownsRow g4 30 3 (.slice (some ⟨gy, 0, none⟩) WL yc) WL (cellsN xs (X.map neD)) from by have := Ka.out.row; rw [← HX.out.2] at this; exact this)
            have hla := La.out.sc.low.size
            go_wp2_with (at_builtin; go_loud (refine wpList_append_own_at _ rfl (.tmp 67) (.tmp 74) 26 rfl g4 30 i0 (.agg #[.int .i64 0, .int .i64 0, .slice none 0 0]) 3 40 Try.underlying26 hi hz0 hz1 hz2 rfl (by decide) (.slice (some ⟨gy, 0, none⟩) WL yc) (WL) _ rfl Ra.out ⟨w7.heap.size, 0, none⟩ 1 1 [.int .i64 2, .int .i64 (ab : Int), .slice (some ⟨gu, 0, none⟩) 512 cu] rfl rfl (cells3D w7 2 (ab : Int) (.slice (some ⟨gu, 0, none⟩) 512 cu) 30) (one3D _ _ _ rfl) (by unfold maxLen; omega) (by omega) (by have := Ba.out.size; omega) ?_); intro v7 w8 o7 g7 _ _; obtain ⟨gq8, qc8, rfl⟩ := place_rowK o7 (by omega); have O7 := hide (And.intro o7 g7); clear o7 g7)
            have W8 := hide (show Kd w8 g4 (.slice (some ⟨gq8, 0, none⟩) (WL + 1) qc8) (X ++ [(2, (ab : Int), D)]) (xs ++ [.slice (some ⟨gu, 0, none⟩) 512 cu]) from Ka.out.pushK (2, (ab : Int), D) (.slice (some ⟨gu, 0, none⟩) 512 cu) (own_below U7.out Ba.out) (by rw [← HX.out.2]; exact O7.out.1) O7.out.2)
            have L8 := hide (La.out.grewK Ra.out O7.out.2 (by omega))
            have hl8 := L8.out.sc.low.size
            have K8 := hide ((K7.out.below Ba.out).kept O7.out.2 ⟨_, _, _, Ra.out⟩ (.inr (fun e => by have h1 := (Ra.out.lt gy rfl).1; have : gqh = gy := Option.some.inj e; omega)))
            have G8 := hide ((G7.out.below Ba.out).kpy ((KpY.refl (fun t => t = 30) _).ownrow Ra.out rfl O7.out.2) (by decide) (by decide))
            have hh8 : g4 ≤ w8.heap.size := Nat.le_trans hh7 (Nat.le_trans Ba.out.size O7.out.2.size)
            have HX8 := hide (show WrB 4 8 (X ++ [(2, (ab : Int), D)]) ∧ WL + 1 = (X ++ [((2 : Int), (ab : Int), D)]).length from ⟨HX.out.1.snoc ab D (by omega) (by omega) HD.out.1 HD.out.2, by rw [List.length_append, ← HX.out.2]; rfl⟩)
            clear Ba Ka La Ra O7 K7 L7 U7 W7 G7 HX
            go_roundw
            case rel => exact ⟨k - 1, WL + 1, _, _, gq8, qc8, by omega, HX8.out.2, by go_num, rfl, HX8.out.1, W8.out, L8.out, K8.out, G8.out, hh8⟩
            case measure => simp [intOf]; omega
          · have hk2 : k = 0 := by omega
            subst hk2
            have Ra := hide (show wr.ownsRow w.heap.size 30 3 (.slice (some ⟨gqh, 0, none⟩) (PL + 1 + 1) qch) (PL + 1 + 1) (cellsN us2 (Q2.map neD)) from by have := K5.out.row; rw [← HQ2.out.2] at this; exact this)
            have Rw := hide (show wr.ownsRow g4 30 3 (.slice (some ⟨gy, 0, none⟩) WL yc) WL (cellsN xs (X.map neD)) from by have := W5.out.row; rw [← HX.out.2] at this; exact this)
            go_wp2_with (at_builtin; go_loud (refine wpList_append_own_at _ rfl (.tmp 76) (.tmp 77) 26 rfl w.heap.size 30 i0 (.agg #[.int .i64 0, .int .i64 0, .slice none 0 0]) 3 40 Try.underlying26 hi hz0 hz1 hz2 rfl (by decide) (.slice (some ⟨gqh, 0, none⟩) (PL + 1 + 1) qch) (PL + 1 + 1) _ rfl Ra.out ⟨gy, 0, none⟩ WL yc (cellsN xs (X.map neD)) rfl Rw.out.1 (Rw.out.cells (g := gy) rfl) W5.out.ones (by unfold maxLen; omega) (by omega) L5.out.sc.low.size ?_); intro v7 wi o7 g7 _ _; obtain ⟨gz, zc, rfl⟩ := place_rowK o7 (by omega); have O7 := hide (And.intro o7 g7); clear o7 g7)
            have Ki := hide (show Kd wi w.heap.size (.slice (some ⟨gz, 0, none⟩) (PL + 1 + 1 + WL) zc) (Q2 ++ X) (us2 ++ xs) from K5.out.cat (W5.out.mono hwg) (by rw [← HQ2.out.2, ← HX.out.2]; exact O7.out.1) ((KpY.refl _ _).ownrow Ra.out rfl O7.out.2))
            have Wi := hide (W5.out.kept O7.out.2 ⟨_, _, _, Ra.out⟩ (.inr (fun e => by have h1 := (Rw.out.lt gy rfl).1; have : gy = gqh := Option.some.inj e; omega)))
            have Li := hide (L5.out.grewK Ra.out O7.out.2 (Nat.le_refl _))
            have Gi := hide (G5.out.kpy ((KpY.refl (fun t => t = 30) _).ownrow Ra.out rfl O7.out.2) (by decide) (by decide))
            clear Ra Rw O7 K5 W5 L5 G5
            obtain ⟨Q3, hQ3⟩ : ∃ Q3, Q3 = Q2 ++ X := ⟨_, rfl⟩
            rw [← hQ3] at Ki
            obtain ⟨us3, hus3⟩ : ∃ us3, us3 = us2 ++ xs := ⟨_, rfl⟩
            rw [← hus3] at Ki
            have HQ3 := hide (And.intro hQ3 (show PL + 1 + 1 + WL = Q3.length from by have q := And.intro HQ2.out.2 HX.out.2; rw [hQ3]; simp only [List.length_append, List.length_singleton]; omega))
            clear hQ3 hus3
            have R3 := hide (show InR Q3 from by rw [HQ3.out.1]; exact R2.out.cat (HX.out.1.inR (by omega)))
            go_wp2_with fail
            refine (cpK_any _ zs wi (Rd.own Li.out.img) (by have := HZ.out.1; omega)).mono ?_
            rintro e y1 ⟨vc, rfl, oc, bc⟩
            have Ly1 := hide (Li.out.below bc)
            have Ky1 := hide (Ki.out.below bc)
            have Cy1 := hide oc
            have Gy1 := hide (Gi.out.below bc)
            have Wy1 := hide (Wi.out.below bc)
            clear bc oc Ki Li Gi Wi
            go_wp2_with fail
            refine (implDR_any _ _ zs Q3 us3 y1 (Rd.own Cy1.out) Ky1.out.rd (by have := HZ.out.1; omega) R3.out.1 R3.out.2).mono ?_
            rintro e y2 ⟨va, v2, v3, vs, rfl, og, bb, _⟩
            obtain ⟨r, hr⟩ : ∃ r, r = runD zs Q3 := ⟨_, rfl⟩
            rw [← hr] at og
            rw [← hr]
            have HRg2 := hide hr
            clear hr
            obtain ⟨cg2, Ag2, Ig2, Eg2, ng2⟩ := r
            simp only
            obtain ⟨ava, cva, rfl⟩ : ∃ a cap, va = .slice a Ag2.length cap := by obtain ⟨a, cap, e⟩ := own_shape og.ans.row; exact ⟨a, cap, by simpa using e⟩
            obtain ⟨a2g2, c2g2, rfl⟩ := own_shape og.img
            obtain ⟨a3g2, c3g2, rfl⟩ := own_shape og.see
            obtain ⟨g2, hg⟩ : ∃ gg, gg = y2.heap.size := ⟨_, rfl⟩
            obtain ⟨y3, hw⟩ : ∃ w9, w9 = y2.alloc (.cells #[.int .i64 cg2, .slice ava Ag2.length cva, .slice a2g2 Ig2.length c2g2, .slice a3g2 Eg2.length c3g2, .int .i64 ng2] 33) := ⟨_, rfl⟩
            have b2 : Below y2.heap.size y2 y3 := by rw [hw]; exact (Below.refl _ _).alloc (Nat.le_refl _) _
            have bab : Below y1.heap.size y1 y3 := bb.trans (b2.mono bb.size)
            have Ly3 := hide (Ly1.out.below bab)
            have Ky3 := hide (Ky1.out.below bab)
            have Gy3 := hide (Gy1.out.below bab)
            have Wy3 := hide (Wy1.out.below bab)
            have Gg2y3 := hide (show OutB y3 w.heap.size g2 (cg2, Ag2, Ig2, Eg2, ng2) (.slice ava Ag2.length cva) (.slice a2g2 Ig2.length c2g2) (.slice a3g2 Eg2.length c3g2) from ⟨by rw [hw, hg]; exact Blk.new y2 _ _, own_mono (own_below og.img b2) Ly1.out.sc.low.size, own_mono (own_below og.see b2) Ly1.out.sc.low.size⟩)
            have HWa := hide hw
            have Hga := hide hg
            clear b2 bab hw hg og bb Ly1 Ky1 Cy1 Gy1 Wy1
            go_upto_region 21 with fail
            rw [← Hga.out, ← HWa.out]
            clear HWa Hga
            go_wp2_with fail
            refine (choice_drawn Ly3.out.sc).mono ?_
            rintro e wj ⟨vh, ch, rfl, hcl, hcB, oh, s, d⟩
            obtain ⟨gh, hc, rfl⟩ := place_rowK oh (by omega)
            have Vj := hide (show wj.ownsRow w.heap.size 5 1 (.slice (some ⟨gh, 0, none⟩) 12 hc) ch.length (ch.map (Value.int .u8)) from by rw [hcl]; exact own_mono oh Ly3.out.sc.low.size)
            have HC := hide (And.intro hcl hcB)
            clear oh hcl hcB
            have Lj := hide (Ly3.out.draw s d)
            have Kj := hide (Ky3.out.kpy (src_kp Ly3.out.sc.src d) (by decide) (by decide))
            have Gj := hide (Gy3.out.kpy (src_kp Ly3.out.sc.src d) (by decide) (by decide))
            have Wj := hide (Wy3.out.kpy (src_kp Ly3.out.sc.src d) (by decide) (by decide))
            have Fj := hide (Gg2y3.out.kpy (src_kp Ly3.out.sc.src d) (by decide) (by decide))
            clear s d Ky3 Ly3 Gy3 Wy3 Gg2y3
            go_wp2_with fail
            refine (cpK_any _ zs wj (Rd.own Lj.out.img) (by have := HZ.out.1; omega)).mono ?_
            rintro e u1 ⟨vc, rfl, oc, bc⟩
            have Lu1 := hide (Lj.out.below bc)
            have Ku1 := hide (Kj.out.below bc)
            have Gu1 := hide (Gj.out.below bc)
            have Wu1 := hide (Wj.out.below bc)
            have Fu1 := hide (Fj.out.below bc)
            have Vu1 := hide (own_below Vj.out bc)
            have Cu1 := hide oc
            clear bc oc Lj Kj Gj Wj Fj Vj
            have Rk := hide (show u1.ownsRow w.heap.size 30 3 (.slice (some ⟨gz, 0, none⟩) (PL + 1 + 1 + WL) zc) (PL + 1 + 1 + WL) (cellsN us3 (Q3.map neD)) from by have := Ku1.out.row; rw [← HQ3.out.2] at this; exact this)
            go_wp2_with (first | (at_builtin; refine wpList_append_copyM u1 rfl (.tmp 87) (.tmp 88) 26 rfl 30 i0 (.agg #[.int .i64 0, .int .i64 0, .slice none 0 0]) 3 40 Try.underlying26 hi hz0 hz1 hz2 rfl (by decide) rfl (some ⟨gz, 0, none⟩) (PL + 1 + 1 + WL) zc (cellsN us3 (Q3.map neD)) rfl Rk.out.1 (fun _ => ⟨gz, 0, rfl, (Rk.out.lt gz rfl).2, fun j u hj => (by have h := Rk.out.cells (g := gz) rfl j u hj; rw [Addr.add_mid] at h; exact h)⟩) Ku1.out.ones (by unfold maxLen; omega) (by omega) ?_; intro v1 m1 o1 b1; obtain ⟨gm, cm, rfl⟩ := place_rowK o1 (by omega); have hgm : gy ≠ gm := (by have h1 := (o1.lt gm rfl).1; have h2 := (Wu1.out.row.lt gy rfl).2; omega); have Km1 := hide (show Kd m1 w.heap.size (.slice (some ⟨gm, 0, none⟩) (PL + 1 + 1 + WL) cm) Q3 us3 from ⟨Ku1.out.len, by rw [← HQ3.out.2]; exact own_mono o1 Lu1.out.sc.low.size, fun i u p hu hp => own_below (Ku1.out.dat i u p hu hp) b1⟩); have Lm1 := hide (Lu1.out.below b1); have Gm1 := hide (Gu1.out.below b1); have Wm1 := hide (Wu1.out.below b1); have Fm1 := hide (Fu1.out.below b1); have Vm1 := hide (own_below Vu1.out b1); have Cm1 := hide (own_below Cu1.out b1); clear o1 b1 Lu1 Gu1 Wu1 Fu1 Vu1 Cu1 Ku1 Rk; have Ba := hide (show Below m1.heap.size m1 (m1.alloc (.cells #[.int .i64 5, .int .i64 0, .slice (some ⟨gh, 0, none⟩) 12 hc] 30)) from (Below.refl _ _).alloc (Nat.le_refl _) _); have Ka := hide (Km1.out.below Ba.out); have La := hide (Lm1.out.below Ba.out); have Ra := hide (show (m1.alloc (.cells #[.int .i64 5, .int .i64 0, .slice (some ⟨gh, 0, none⟩) 12 hc] 30)).ownsRow w.heap.size 30 3 (.slice (some ⟨gm, 0, none⟩) (PL + 1 + 1 + WL) cm) (PL + 1 + 1 + WL) (cellsN us3 (Q3.map neD)) from by have := Ka.out.row; rw [← HQ3.out.2] at this; exact this); have hla := La.out.sc.low.size) | (at_builtin; go_loud (refine wpList_append_own_at _ rfl (.tmp 89) (.tmp 92) 26 rfl w.heap.size 30 i0 (.agg #[.int .i64 0, .int .i64 0, .slice none 0 0]) 3 40 Try.underlying26 hi hz0 hz1 hz2 rfl (by decide) (.slice (some ⟨gm, 0, none⟩) (PL + 1 + 1 + WL) cm) ((PL + 1 + 1 + WL)) _ rfl Ra.out ⟨m1.heap.size, 0, none⟩ 1 1 [.int .i64 5, .int .i64 0, .slice (some ⟨gh, 0, none⟩) 12 hc] rfl rfl (cells3D m1 5 0 (.slice (some ⟨gh, 0, none⟩) 12 hc) 30) (one3D _ _ _ rfl) (by unfold maxLen; omega) (by omega) (by exact hla) ?_); intro v7 wv1 o7 g7 _ _; obtain ⟨gqv1, qcv1, rfl⟩ := place_rowK o7 (by omega); have O7 := hide (And.intro o7 g7); clear o7 g7))
            have Kwv1 := hide (show Kd wv1 w.heap.size (.slice (some ⟨gqv1, 0, none⟩) ((PL + 1 + 1 + WL) + 1) qcv1) (Q3 ++ [(5, 0, ch)]) (us3 ++ [.slice (some ⟨gh, 0, none⟩) 12 hc]) from Ka.out.pushK (5, 0, ch) (.slice (some ⟨gh, 0, none⟩) 12 hc) (own_below Vm1.out Ba.out) (by rw [← HQ3.out.2]; exact O7.out.1) O7.out.2)
            have Lwv1 := hide (La.out.grewK Ra.out O7.out.2 (Nat.le_refl _))
            have hlv1 := Lwv1.out.sc.low.size
            have Gwv1 := hide ((Gm1.out.below Ba.out).kpy ((KpY.refl (fun t => t = 30) _).ownrow Ra.out rfl O7.out.2) (by decide) (by decide))
            have Fwv1 := hide ((Fm1.out.below Ba.out).kpy ((KpY.refl (fun t => t = 30) _).ownrow Ra.out rfl O7.out.2) (by decide) (by decide))
            have Wwv1 := hide ((Wm1.out.below Ba.out).kept O7.out.2 ⟨_, _, _, Ra.out⟩ (.inr (fun e => hgm (Option.some.inj e))))
            have Cwv1 := hide (((KpY.refl (fun t => t = 30) _).ownrow Ra.out rfl O7.out.2).own (own_below Cm1.out Ba.out) (by decide))
            clear Ba Ka La Ra O7 Km1 Lm1 Gm1 Fm1 Wm1 Cm1 Vm1 hla
            obtain ⟨Q4, hQ4⟩ : ∃ Q4, Q4 = Q3 ++ [(5, 0, ch)] := ⟨_, rfl⟩
            rw [← hQ4] at Kwv1
            obtain ⟨us4, hus4⟩ : ∃ us4, us4 = us3 ++ [.slice (some ⟨gh, 0, none⟩) 12 hc] := ⟨_, rfl⟩
            rw [← hus4] at Kwv1
            have HQ4 := hide (And.intro hQ4 (show PL + 1 + 1 + WL + 1 = Q4.length from by have q := HQ3.out.2; rw [hQ4]; simp only [List.length_append, List.length_singleton]; omega))
            clear hQ4 hus4
            have R4 := hide (show InR Q4 from by rw [HQ4.out.1]; exact R3.out.cat (InR.oneR (by omega) HC.out.2))
            go_wp2_with fail
            refine (implDR_any _ _ zs Q4 us4 wv1 (Rd.own Cwv1.out) Kwv1.out.rd (by have := HZ.out.1; omega) R4.out.1 R4.out.2).mono ?_
            rintro e wv2 ⟨va, v2, v3, vs, rfl, og, bb, _⟩
            obtain ⟨r, hr⟩ : ∃ r, r = runD zs Q4 := ⟨_, rfl⟩
            rw [← hr] at og
            rw [← hr]
            have HRg5 := hide hr
            clear hr
            obtain ⟨cg5, Ag5, Ig5, Eg5, ng5⟩ := r
            simp only
            obtain ⟨ava, cva, rfl⟩ : ∃ a cap, va = .slice a Ag5.length cap := by obtain ⟨a, cap, e⟩ := own_shape og.ans.row; exact ⟨a, cap, by simpa using e⟩
            obtain ⟨a2g5, c2g5, rfl⟩ := own_shape og.img
            obtain ⟨a3g5, c3g5, rfl⟩ := own_shape og.see
            obtain ⟨g5, hg⟩ : ∃ gg, gg = wv2.heap.size := ⟨_, rfl⟩
            obtain ⟨wv3, hw⟩ : ∃ w9, w9 = wv2.alloc (.cells #[.int .i64 cg5, .slice ava Ag5.length cva, .slice a2g5 Ig5.length c2g5, .slice a3g5 Eg5.length c3g5, .int .i64 ng5] 33) := ⟨_, rfl⟩
            have b2 : Below wv2.heap.size wv2 wv3 := by rw [hw]; exact (Below.refl _ _).alloc (Nat.le_refl _) _
            have bab : Below wv1.heap.size wv1 wv3 := bb.trans (b2.mono bb.size)
            have Lwv3 := hide (Lwv1.out.below bab)
            have Kwv3 := hide (Kwv1.out.below bab)
            have Gwv3 := hide (Gwv1.out.below bab)
            have Wwv3 := hide (Wwv1.out.below bab)
            have Fwv3 := hide (Fwv1.out.below bab)
            have Gg5wv3 := hide (show OutB wv3 w.heap.size g5 (cg5, Ag5, Ig5, Eg5, ng5) (.slice ava Ag5.length cva) (.slice a2g5 Ig5.length c2g5) (.slice a3g5 Eg5.length c3g5) from ⟨by rw [hw, hg]; exact Blk.new wv2 _ _, own_mono (own_below og.img b2) Lwv1.out.sc.low.size, own_mono (own_below og.see b2) Lwv1.out.sc.low.size⟩)
            have HWa := hide hw
            have Hga := hide hg
            clear b2 bab hw hg og bb Lwv1 Kwv1 Cwv1 Gwv1 Wwv1 Fwv1
            go_upto_region 23 with fail
            rw [← Hga.out, ← HWa.out]
            clear HWa Hga
            obtain ⟨F1, F3, hD⟩ := disk_math HZ.out.2.2 hm1 hm2 HW.out.1.1 HX.out.1.1 (by have := HW.out.2; omega) (by have := HX.out.2; omega) f ch
            obtain ⟨WT, hWT⟩ : ∃ WT : Nat, WT = min f (4 * WL) := ⟨_, rfl⟩
            have hM1 : 0 = cg1 := by have h := hD.c1; rw [← HQ1.out.1, ← HRg1.out] at h; exact h.symm
            have hM2 : F1 = Ig1 := by have h := hD.i1; rw [← HQ1.out.1, ← HRg1.out] at h; exact h.symm
            have hM3 : (WT : Int) = ng2 := by have h := hD.n2; rw [← HQ1.out.1, ← HQ2.out.1, ← HQ3.out.1, ← HRg2.out, ← HX.out.2, ← hWT] at h; exact h.symm
            have hM4 : 0 = ng5 := by have h := hD.n3; rw [← HQ1.out.1, ← HQ2.out.1, ← HQ3.out.1, ← HQ4.out.1, ← HRg5.out] at h; exact h.symm
            have hM5 : F3 = Ig5 := by have h := hD.i3; rw [← HQ1.out.1, ← HQ2.out.1, ← HQ3.out.1, ← HQ4.out.1, ← HRg5.out] at h; exact h.symm
            have hM6 : F3 = Eg5 := by have h := hD.e3; rw [← HQ1.out.1, ← HQ2.out.1, ← HQ3.out.1, ← HQ4.out.1, ← HRg5.out] at h; exact h.symm
            clear HRg1 HRg2 HRg5
            subst hM1
            subst hM2
            subst hM3
            subst hM4
            subst hM5
            subst hM6
            have hl1 : F1.length = NZ := hD.l1.trans HZ.out.1
            have hl3 : F3.length = NZ := hD.l3.trans HZ.out.1
            have HD := hide hD
            clear hD Kwv3
            obtain ⟨gI, cI, hcI, hcI2, r5, k52⟩ := Gg5wv3.out.imgC F3 rfl NZ hl3 (by omega)
            obtain ⟨gS, cS, hcS, hcS2, r6, k53⟩ := Gg5wv3.out.seeC F3 rfl NZ hl3 (by omega)
            obtain ⟨gJ, cJ, hcJ, hcJ2, r1, k12⟩ := Gwv3.out.imgC F1 rfl NZ hl1 (by omega)
            have k10 : wv3.cell? ⟨g1, 0, none⟩ = some (.int .i64 0) := (Gwv3.out.blk.cell 0).trans rfl
            have k24 : wv3.cell? ⟨g2, 4, none⟩ = some (.int .i64 (WT : Int)) := (Fwv3.out.blk.cell 4).trans rfl
            have k54 : wv3.cell? ⟨g5, 4, none⟩ = some (.int .i64 0) := (Gg5wv3.out.blk.cell 4).trans rfl
            have H5 := hide (show Hv wv3 g5 2 gI NZ cI F3 from ⟨k52, Gg5wv3.out.blk.lt, r5⟩)
            have H6 := hide (show Hv wv3 g5 3 gS NZ cS F3 from ⟨k53, Gg5wv3.out.blk.lt, r6⟩)
            have H1 := hide (show Hv wv3 g1 2 gJ NZ cJ F1 from ⟨k12, Gwv3.out.blk.lt, r1⟩)
            have hci : NZ ≤ ci ∧ ci ≤ maxLen := by have h := own_cap Lwv3.out.img; rw [HZ.out.1] at h; exact h
            obtain ⟨hci, hci2⟩ := hci
            clear r5 r6 r1 Gwv3 Fwv3 Gg5wv3
            go_upto_if 100 with fail
            go_cut [14] (fun tv wx => tv = .int .i64 (WT : Int) ∧ wx = wv3)
            case first =>
              by_cases hfw : f < 4 * WL
              · have hfI : (f : Int) < 4 * (WL : Int) := by omega
                have e : WT = f := by omega
                go_wp2_with fail
                go_meet
                exact ⟨by rw [e], rfl⟩
              · have hfI : ¬ ((f : Int) < 4 * (WL : Int)) := by omega
                have e : (WT : Int) = 4 * (WL : Int) := by omega
                go_wp2_with fail
                go_meet
                exact ⟨by rw [e], rfl⟩
            case rest =>
            obtain ⟨h14, hwc⟩ := hcut
            subst h14
            obtain rfl := hwc.symm
            go_wp2_with fail
            refine (smK_same _ _ F3 wv3 H5.out.rd H6.out.rd).mono ?_
            rintro e wz ⟨rfl, hw⟩
            obtain rfl := hw.symm
            go_upto_region 28 with fail
            clear k53 k10 k24 k54
            have q1 : (2048 : Int) ≤ (cI : Int) := by omega
            have q2 : (2048 : Int) ≤ (cJ : Int) := by omega
            have T5 := hide (rd_top H5.out.rd (by omega))
            have T1 := hide (show Rd .u8 wv3 (.slice (some ⟨gJ, 0, none⟩) 2048 cJ) (F3.take 2048) from by rw [HD.out.t]; exact rd_top H1.out.rd (by omega))
            go_quiet ((go_at_call 12; go_loud (refine Calls.quiet_of_same (smK_same _ _ (F3.take 2048) _ (T5.out.below (belN (Below.refl _ _) _)) (T1.out.below (belN (Below.refl _ _) _))))))
            clear k52 k12 T5 T1 q1 q2
            go_wp2
            go_loopw [15] (fun av wx => ∃ q AT : Nat, AT = q * 128 ∧ 16 ≤ q ∧ q ≤ 32 ∧ av = .int .i64 (AT : Int) ∧ Below wv3.heap.size wv3 wx) (fun av _ => 4096 - (intOf av).toNat)
            case atStart => exact ⟨16, 2048, rfl, by omega, by omega, rfl, belN (Below.refl _ _) _⟩
            case round =>
              obtain ⟨q, AT, hAT, hq1, hq2, rfl, hB⟩ := hrel
              have HB := hide hB
              clear hB
              by_cases hq : q < 32
              · have hAI : (AT : Int) < 4096 := by omega
                have k5 : wr.cell? ⟨g5, 2, none⟩ = some (.slice (some ⟨gI, 0, none⟩) NZ cI) := (H5.out.below HB.out).at_
                have S5 := hide (show Rd .u8 wv3 (.slice (some ⟨gI, AT, none⟩) 128 (cI - AT)) (secZ F3 q) from by rw [hAT]; exact rd_sec H5.out.rd q (by omega))
                have Si := hide (show Rd .u8 wv3 (.slice (some ⟨gi, AT, none⟩) 128 (ci - AT)) (secZ zs q) from by rw [hAT]; exact rd_sec (show Rd .u8 wv3 (.slice (some ⟨gi, 0, none⟩) NZ ci) zs from Rd.own Lwv3.out.img) q (by have := HZ.out.1; omega))
                have hA0 : 2048 ≤ AT ∧ AT ≤ 3968 := ⟨by omega, by omega⟩
                have HAT := hide hAT
                clear hAT
                have hA1 : (AT : Int) + 128 ≤ (cI : Int) := by omega
                have hA2 : (AT : Int) + 128 ≤ (ci : Int) := by omega
                go_wp2_with fail
                refine (smK_any _ _ (secZ F3 q) (secZ zs q) wr (S5.out.below HB.out) (Si.out.below HB.out)).mono ?_
                rintro e wz ⟨t0, rfl, ht0, hw⟩
                obtain rfl := hw.symm
                clear k5 Si hA2
                go_wp2
                go_loopw [17, 159] (fun tv iv wx => ∃ (i : Nat) (tb : Bool), i ≤ WL ∧ tv = .bool tb ∧ iv = .int .i64 (i : Int) ∧ (secZ F3 q = secZ zs q → tb = true) ∧ (∀ (k : Nat) (p : DO), k < i → X[k]? = some p → MtD F3 q p → tb = true) ∧ Below wv3.heap.size wv3 wx) (fun _ iv _ => WL - (intOf iv).toNat)
                case atStart => exact ⟨0, t0, by omega, rfl, rfl, ht0, fun k p h => (by omega), HB.out⟩
                case round =>
                  clear HB ht0
                  obtain ⟨i, tb, hiW, rfl, rfl, ht1, ht2, hB⟩ := hrel
                  have HT := hide (And.intro ht1 ht2)
                  have HB := hide hB
                  clear ht1 ht2 hB
                  by_cases hlt : i < WL
                  · obtain ⟨p, hp⟩ : ∃ p, X[i]? = some p := ⟨_, List.getElem?_eq_getElem (by have := HX.out.2; omega)⟩
                    obtain ⟨k, A, D⟩ := p
                    obtain ⟨hk2, ⟨ka, hka, hka1, hka2⟩, hDl⟩ := HX.out.1.1 _ (List.mem_of_getElem? hp)
                    simp only at hk2 hka hDl
                    subst hk2
                    subst hka
                    obtain ⟨b, off, u, hoa, hbl, hu, hrd, hrg⟩ := RdN.at (i := i) (l := neD (2, (ka : Int), D)) (show RdN wv3 2 (.slice (some ⟨gy, 0, none⟩) (X.map neD).length yc) (X.map neD) xs by rw [List.length_map, ← HX.out.2]; exact Wwv3.out.rd) (by rw [List.getElem?_map, hp]; rfl)
                    obtain ⟨rfl, rfl⟩ : gy = b ∧ 0 = off := by injection hoa with h; injection h with h1 h2; exact ⟨h1, h2⟩
                    have ho := Wwv3.out.dat i u (2, (ka : Int), D) hu hp
                    obtain ⟨gd, dc, rfl⟩ := place_rowK ho (by show 0 < D.length; omega)
                    have hdc : 512 ≤ dc := by have := (own_cap ho).1; simp only at this; omega
                    have hrD := Rd.own ho
                    simp only [hDl] at hrD hrg
                    have HDd := hide (show Rd .u8 wv3 (.slice (some ⟨gd, 0, none⟩) 512 dc) D from hrD)
                    have hiI : (i : Int) < (WL : Int) := by omega
                    have HRg := hide (show wr.rangeAt gy (0 + i * 3) [.int .i64 2, .int .i64 (ka : Int), .slice (some ⟨gd, 0, none⟩) 512 dc] from fun j v hj => (HB.out.cell (p := ⟨gy, 0 + i * 3 + j, none⟩) hbl).trans (hrg j v hj))
                    obtain ⟨g8, hg8⟩ : ∃ g8, g8 = wr.heap.size := ⟨_, rfl⟩
                    obtain ⟨wd, hwd⟩ : ∃ wd, wd = wr.alloc (.cells #[.int .i64 2, .int .i64 (ka : Int), .slice (some ⟨gd, 0, none⟩) 512 dc] 30) := ⟨_, rfl⟩
                    have hbk : Blk wd g8 #[.int .i64 2, .int .i64 (ka : Int), .slice (some ⟨gd, 0, none⟩) 512 dc] 30 := by rw [hwd, hg8]; exact Blk.new wr _ _
                    have kc1 : wd.cell? ⟨g8, 1, none⟩ = some (.int .i64 (ka : Int)) := (hbk.cell 1).trans rfl
                    have kc2 : wd.cell? ⟨g8, 2, none⟩ = some (.slice (some ⟨gd, 0, none⟩) 512 dc) := (hbk.cell 2).trans rfl
                    have HBd := hide (show Below wv3.heap.size wv3 wd from by rw [hwd]; exact HB.out.alloc HB.out.size _)
                    have HWd := hide hwd
                    have Hg8 := hide hg8
                    have Hp := hide (And.intro hp hDl)
                    clear hrd hrg hu hp hwd hg8 hbk ho hrD hoa hbl hDl
                    go_upto_region 38 with (first | (refine wpList_load_mid rfl 30 _ rfl gy (0 + i * 3) rfl [.int .i64 2, .int .i64 (ka : Int), .slice (some ⟨gd, 0, none⟩) 512 dc] _ HRg.out Try.underlying30 rfl infoD3 ?_) | (refine wpList_load_mid rfl 30 _ rfl gy (i * 3) rfl [.int .i64 2, .int .i64 (ka : Int), .slice (some ⟨gd, 0, none⟩) 512 dc] _ (by have := HRg.out; rw [Nat.zero_add] at this; exact this) Try.underlying30 rfl infoD3 ?_) | fail)
                    rw [← Hg8.out, ← HWd.out]
                    clear HRg HWd HB
                    have hnew : ∀ (tn : Bool), (tb = true → tn = true) → (MtD F3 q (2, (ka : Int), D) → tn = true) → (secZ F3 q = secZ zs q → tn = true) ∧ (∀ (k : Nat) (p : DO), k < i + 1 → X[k]? = some p → MtD F3 q p → tn = true) := fun tn h1 h2 => ⟨fun h => h1 (HT.out.1 h), fun k p hk hp hm => by
                      rcases Nat.lt_or_ge k i with hki | hki
                      · exact h1 (HT.out.2 k p hki hp hm)
                      · have e : k = i := by omega
                        subst e
                        rw [Hp.out.1] at hp
                        obtain rfl := Option.some.inj hp
                        exact h2 hm⟩
                    have HN := hide hnew
                    clear hnew HT
                    by_cases hc1 : (AT : Int) - (ka : Int) * 512 < 0
                    · obtain ⟨fr, hfr⟩ : ∃ fr : Int, (AT : Int) - (ka : Int) * 512 = fr := ⟨_, rfl⟩
                      have hf0 : fr < 0 := by omega
                      have hf1 : -9223372036854775808 ≤ fr := by omega
                      have HMt := hide (show ¬ MtD F3 q (2, (ka : Int), D) from fun ⟨a, j, h1, h2, h3, _⟩ => by have := HAT.out; simp only at h1; omega)
                      go_wp2
                      go_roundw
                      case rel => exact ⟨i + 1, tb, by omega, rfl, by go_num, (HN.out tb id (fun h => absurd h HMt.out)).1, (HN.out tb id (fun h => absurd h HMt.out)).2, HBd.out⟩
                      case measure => simp [intOf]; omega
                    · by_cases hc2 : (512 : Int) ≤ (AT : Int) - (ka : Int) * 512
                      · obtain ⟨fr, hfr⟩ : ∃ fr : Int, (AT : Int) - (ka : Int) * 512 = fr := ⟨_, rfl⟩
                        have hf0 : 0 ≤ fr := by omega
                        have hf2 : ¬ (fr < 512) := by omega
                        have hf1 : fr ≤ 9223372036854775807 := by omega
                        have HMt := hide (show ¬ MtD F3 q (2, (ka : Int), D) from fun ⟨a, j, h1, h2, h3, _⟩ => by have := HAT.out; simp only at h1; omega)
                        clear hc1 hc2
                        go_wp2
                        go_roundw
                        case rel => exact ⟨i + 1, tb, by omega, rfl, by go_num, (HN.out tb id (fun h => absurd h HMt.out)).1, (HN.out tb id (fun h => absurd h HMt.out)).2, HBd.out⟩
                        case measure => simp [intOf]; omega
                      · obtain ⟨FJ, hFJ⟩ : ∃ FJ : Nat, (AT : Int) - (ka : Int) * 512 = (FJ : Int) := ⟨((AT : Int) - (ka : Int) * 512).toNat, by omega⟩
                        obtain ⟨jj, hjj⟩ : ∃ jj : Nat, FJ = jj * 128 := ⟨q - ka * 4, by have := HAT.out; omega⟩
                        have hj4 : jj < 4 := by omega
                        have hF0 : (FJ : Int) < 512 := by omega
                        have hF1 : (FJ : Int) + 128 ≤ (dc : Int) := by omega
                        have SD := hide (show Rd .u8 wd (.slice (some ⟨gd, FJ, none⟩) 128 (dc - FJ)) (secZ D jj) from by rw [hjj]; exact rd_sec (HDd.out.below HBd.out) jj (by have := Hp.out.2; omega))
                        have HMt := hide (show MtD F3 q (2, (ka : Int), D) → secZ F3 q = secZ D jj from fun ⟨a, j, h1, h2, h3, h4⟩ => by
                          have := HAT.out
                          simp only at h1
                          have e : j = jj := by omega
                          rw [← e]; exact h4)
                        clear hjj hc1 hc2
                        go_wp2_with fail
                        refine (smK_any _ _ (secZ F3 q) (secZ D jj) wd (S5.out.below HBd.out) SD.out).mono ?_
                        rintro e wz ⟨t2, rfl, ht2, hw⟩
                        obtain rfl := hw.symm
                        have HT2 := hide ht2
                        clear ht2
                        cases t2 with
                        | true =>
                          go_wp2
                          go_roundw
                          case rel => exact ⟨i + 1, true, by omega, rfl, by go_num, fun _ => rfl, fun _ _ _ _ _ => rfl, HBd.out⟩
                          case measure => simp [intOf]; omega
                        | false =>
                          go_wp2
                          go_roundw
                          case rel => exact ⟨i + 1, tb, by omega, rfl, by go_num, (HN.out tb id (fun h => absurd (HT2.out (HMt.out h)) (by decide))).1, (HN.out tb id (fun h => absurd (HT2.out (HMt.out h)) (by decide))).2, HBd.out⟩
                          case measure => simp [intOf]; omega
                  · have hi3 : i = WL := by omega
                    subst hi3
                    have htb : tb = true := by
                      rcases HD.out.s q (by omega) (by omega) with h | ⟨p, hp, a, j, h1, h2, h3, h4⟩
                      · exact HT.out.1 h
                      · obtain ⟨k, hk⟩ := List.getElem?_of_mem hp
                        exact HT.out.2 k p (by
                          have := HX.out.2
                          rcases Nat.lt_or_ge k X.length with h | h
                          · omega
                          · rw [List.getElem?_eq_none h] at hk; cases hk) hk ⟨a, j, h1, h2, h3, h4⟩
                    subst htb
                    clear HT
                    go_wp2
                    go_roundw
                    case rel => exact ⟨q + 1, AT + 128, by have := HAT.out; omega, by omega, by omega, by go_num, HB.out⟩
                    case measure => simp [intOf]; omega
              · have hq3 : AT = 4096 := by omega
                subst hq3
                clear hAT
                have k5 : wr.cell? ⟨g5, 2, none⟩ = some (.slice (some ⟨gI, 0, none⟩) NZ cI) := (H5.out.below HB.out).at_
                have E5 := hide (show Rd .u8 wr (.slice (some ⟨gI, 4096, none⟩) (NZ - 4096) (cI - 4096)) (F3.drop 4096) from rd_end (H5.out.below HB.out).rd hl3 (by omega))
                have Ei := hide (show Rd .u8 wr (.slice (some ⟨gi, 4096, none⟩) (NZ - 4096) (ci - 4096)) (F3.drop 4096) from by rw [HD.out.d]; exact rd_end ((show Rd .u8 wv3 (.slice (some ⟨gi, 0, none⟩) NZ ci) zs from Rd.own Lwv3.out.img).below HB.out) HZ.out.1 (by omega))
                have HBe := hide (show Below w.heap.size w wr from Lwv3.out.sc.low.trans (HB.out.mono Lwv3.out.sc.low.size))
                have hA1 : (4096 : Int) ≤ (NZ : Int) := by omega
                have hA2 : (NZ : Int) ≤ (cI : Int) := by omega
                have hA3 : (NZ : Int) ≤ (ci : Int) := by omega
                go_upto_region 44 with fail
                go_quiet ((go_at_call 12; go_loud (refine Calls.quiet_of_same (smK_same _ _ (F3.drop 4096) _ (E5.out.below (belN (Below.refl _ _) _)) (Ei.out.below (belN (Below.refl _ _) _))))))
                go_wp2
                go_ret
                exact ⟨rfl, belN HBe.out _⟩
  · have q0 : (1048576 : Int) < (cs.length : Int) := by omega
    go_enter Try.func3, Try.ntmps3
    go_wp2
    go_ret
    exact ⟨rfl, Below.refl _ _⟩
end Go.Proofs.Ythghibopnnjboaa
