/- The law on MapWords, walked: it answers true and turns nothing that was there. -/
import Derived.Test.YtkbbnflblkkepaaGreatDoorZm47
import Derived.Test.YtkbbnflblkkepaaGreatDoorZm34
namespace Go.Proofs.YtkbbnflblkkepaaGreatDoor
open Go.RowKit

theorem LetF.belowM {w w' : World} (h : LetF w) (hb : Below w.heap.size w w') : LetF w' := h.below hb
theorem mapW_len (zs : List Int) (hbd : ∀ z ∈ zs, 0 ≤ z ∧ z < 256) : (mapW zs).length ≤ 65536 := by
  unfold mapW
  split
  · unfold mapL mwW
    rw [decTo_len]
    have := (trB_boundM zs hbd ((choR zs).getD 22 0) (((choR zs).drop 23).take 12) ((choR zs).getD 35 0) ((choR zs).getD 36 0)).1
    omega
  · simp
set_option maxRecDepth 100000 in
set_option maxHeartbeats 1000000 in
theorem lawMw (v0 : Value) (ws : List Int) (w : World) (h : Rd .u8 w v0 ws) (hbd : ∀ z ∈ ws, 0 ≤ z ∧ z < 256) (hg : ErrT w) (hL : LetF w) :
    Calls Tryz.prog 3 #[v0] w fun e w' => e = .returned (.bool true) ∧ Below w.heap.size w w' := by
  have hm := h.len
  unfold maxLen at hm
  have hsh : ∃ a cap, v0 = .slice a ws.length cap := by obtain ⟨a, cap, h1, _⟩ := h; exact ⟨a, cap, h1⟩
  obtain ⟨a0, cap0, rfl⟩ := hsh
  have H := hide h
  have HB := hide hbd
  have HG := hide (And.intro hg hL)
  clear h hbd hg hL
  by_cases hbig : (1048576 : Int) < (ws.length : Int)
  · go_enter Tryz.func3, Tryz.ntmps3
    go_wp2
    go_ret
    exact ⟨rfl, Below.refl _ _⟩
  · have hsm : ws.length ≤ 1048576 := by omega
    have hel := mapW_len ws HB.out
    have hcc : (mapC ws != mapC ws) = false := by simp
    clear hbig
    go_enter Tryz.func3, Tryz.ntmps3
    go_wp2_with fail
    refine (toByteS_any _ ws _ H.out (by omega)).mono ?_
    rintro e w1 ⟨v1, rfl, o1, b1⟩
    have R1 := hide (Rd.own o1)
    have B1 := hide b1
    clear o1 b1
    go_wp2_with fail
    refine (specMW_any v1 ws _ R1.out HB.out hsm).mono ?_
    rintro e w2 ⟨v2, rfl, o2, b2⟩
    have O2 := hide o2
    have B2 := hide (B1.out.trans (b2.mono B1.out.size))
    clear o2 b2 R1 B1
    go_wp2_with fail
    refine (toByteS_any _ ws _ (H.out.below B2.out) (by omega)).mono ?_
    rintro e w3 ⟨x0, rfl, o3, b3⟩
    have X3 := hide o3
    have O23 := hide (own_below O2.out b3)
    have L2 := hide (fun k hk => (O2.out.lt k hk).2)
    have B3 := hide (B2.out.trans (b3.mono B2.out.size))
    have s23 := hide b3.size
    clear o3 b3
    go_wp2_with fail
    refine (implMW_any x0 ws _ (Rd.own X3.out) HB.out hsm (HG.out.1.below B3.out) (HG.out.2.below B3.out)).mono ?_
    rintro e w4 ⟨g0, rfl, o4, b4⟩
    have G4 := hide o4
    have X4 := hide (own_below X3.out b4)
    have O24 := hide (own_below O23.out b4)
    have LX := hide (fun k hk => (X3.out.lt k hk).2)
    have B4 := hide (B3.out.trans (b4.mono B3.out.size))
    clear o4 b4 X3 O23
    go_wp2_with fail
    refine (eqIntS_same g0 v2 (mapW ws) _ (Rd.own G4.out) (Rd.own O24.out)).mono ?_
    rintro e w5 ⟨rfl, b5⟩
    have G5 := hide (own_below G4.out b5)
    have X5 := hide (own_below X4.out b5)
    have O25 := hide (own_below O24.out b5)
    have B5 := hide (B4.out.trans (b5.mono B4.out.size))
    clear b5 G4 X4 O24 B4
    go_wp2_with fail
    refine (toByteS_any _ ws _ (H.out.below B5.out) (by omega)).mono ?_
    rintro e w6 ⟨t0, rfl, o6, b6⟩
    have T6 := hide (Rd.own o6)
    have G6 := hide (own_below G5.out b6)
    have X6 := hide (own_below X5.out b6)
    have O26 := hide (own_below O25.out b6)
    have B6 := hide (B5.out.trans (b6.mono B5.out.size))
    clear o6 b6 G5 X5 O25 B5
    go_wp2_with fail
    refine (eqByteS_same x0 t0 ws _ (Rd.own X6.out) T6.out).mono ?_
    rintro e w7 ⟨rfl, b7⟩
    have G7 := hide (own_below G6.out b7)
    have X7 := hide (own_below X6.out b7)
    have O27 := hide (own_below O26.out b7)
    have B7 := hide (B6.out.trans (b7.mono B6.out.size))
    clear b7 G6 X6 O26 B6 T6
    go_wp2_with fail
    refine (markByteS_any x0 w2.heap.size ws.length 1 _ _ X7.out (by omega) (by omega)).mono ?_
    rintro e w8 ⟨rfl, _, g8⟩
    have G8 := hide (G7.out.kept g8 (apart w3.heap.size (fun k hk => (G7.out.lt k hk).1) LX.out))
    have O28 := hide (O27.out.kept g8 (apart' w2.heap.size L2.out (fun k hk => (X7.out.lt k hk).1)))
    have B8 := hide (B7.out.grown g8 B7.out.size (fun k hk => Nat.le_trans B2.out.size (X7.out.lt k hk).1))
    clear g8 G7 O27 B7 X7
    go_wp2_with fail
    refine (eqIntS_same g0 v2 (mapW ws) _ (Rd.own G8.out) (Rd.own O28.out)).mono ?_
    rintro e w9 ⟨rfl, b9⟩
    have G9 := hide (own_below G8.out b9)
    have O29 := hide (own_below O28.out b9)
    have B9 := hide (B8.out.trans (b9.mono B8.out.size))
    clear b9 G8 O28 B8
    go_wp2_with fail
    refine (markIntS_any g0 w3.heap.size (mapW ws).length 1 _ _ G9.out (by omega) (by omega)).mono ?_
    rintro e w10 ⟨rfl, o10, g10⟩
    have G10 := hide o10
    have O210 := hide (O29.out.kept g10 (apart' w3.heap.size (fun k hk => Nat.lt_of_lt_of_le (L2.out k hk) s23.out) (fun k hk => (G9.out.lt k hk).1)))
    have B10 := hide (B9.out.grown g10 B9.out.size (fun k hk => Nat.le_trans B3.out.size (G9.out.lt k hk).1))
    clear o10 g10 G9 O29 B9
    go_wp2_with fail
    refine (heldIntS_any g0 (mapW ws).length 1 _ (Rd.own G10.out) (by omega) (by omega)).mono ?_
    rintro e wq ⟨rfl, hwq⟩
    rw [hwq]
    clear hwq
    go_wp2_with fail
    refine (toByteS_any _ ws _ (H.out.below B10.out) (by omega)).mono ?_
    rintro e w11 ⟨t1, rfl, o11, b11⟩
    have T11 := hide (Rd.own o11)
    have G11 := hide (own_below G10.out b11)
    have O211 := hide (own_below O210.out b11)
    have B11 := hide (B10.out.trans (b11.mono B10.out.size))
    clear o11 b11 G10 O210 B10
    go_wp2_with fail
    refine (implMW_any t1 ws _ T11.out HB.out hsm (HG.out.1.below B11.out) (HG.out.2.below B11.out)).mono ?_
    rintro e w12 ⟨h0, rfl, o12, b12⟩
    have H12 := hide (Rd.own o12)
    have G12 := hide (own_below G11.out b12)
    have O212 := hide (own_below O211.out b12)
    have B12 := hide (B11.out.trans (b12.mono B11.out.size))
    clear o12 b12 G11 O211 B11 T11
    go_wp2_with fail
    refine (eqIntS_same h0 v2 (mapW ws) _ H12.out (Rd.own O212.out)).mono ?_
    rintro e w13 ⟨rfl, b13⟩
    have G13 := hide (own_below G12.out b13)
    have B13 := hide (B12.out.trans (b13.mono B12.out.size))
    clear b13 G12 O212 B12 H12
    go_wp2_with fail
    refine (heldIntS_any g0 (mapW ws).length 1 _ (Rd.own G13.out) (by omega) (by omega)).mono ?_
    rintro e wq ⟨rfl, hwq⟩
    rw [hwq]
    clear hwq
    go_wp2
    go_ret
    exact ⟨rfl, B13.out⟩
end Go.Proofs.YtkbbnflblkkepaaGreatDoor
