/- The law on EncodeTable, walked: it answers true and turns nothing that was there. -/
import Derived.Test.YtlpapoplnacobaaDoorTabH
import Derived.Test.YtlpapoplnacobaaDoorTabM
import Derived.Test.YtlpapoplnacobaaDoorApart
namespace Go.Proofs.YtlpapoplnacobaaDoor
set_option linter.unusedVariables false
set_option linter.unusedSimpArgs false
open Go.RowKit

set_option maxRecDepth 100000 in
set_option maxHeartbeats 2000000 in
theorem lawEncT (v : Value) (n : Nat) (zs : List Int) (w : World) (hrd : RdT w v n zs) (hg : ErrT w) :
    Calls Tryd.prog 3 #[v] w fun e w' => e = .returned (.bool true) ∧ Below w.heap.size w w' := by
  have HR := hide hrd
  have HE := hide hg
  have hz := hrd.1
  clear hg
  by_cases hbig : (1048576 : Int) < (n : Int)
  · have HS := hide (show (if (1048576 : Int) < n then (-1 : Int) else 1048576 - (n : Int)) = -1 from if_pos hbig)
    clear hrd
    go_enter Tryd.func3, Tryd.ntmps3
    go_wp2_with fail
    refine (szInodeS_any v n zs _ HR.out).mono ?_
    rintro e w1 ⟨rfl, rfl⟩
    rw [HS.out]
    go_wp2
    go_ret
    exact ⟨rfl, Below.refl _ _⟩
  · have HS := hide (show (if (1048576 : Int) < n then (-1 : Int) else 1048576 - (n : Int)) = 1048576 - (n : Int) from if_neg hbig)
    have hn : n ≤ 1048576 := by omega
    have HN := hide hn
    have hel := encTab_len zs n hz
    have hcc : (codeTab zs n != codeTab zs n) = false := by simp
    clear hrd
    go_enter Tryd.func3, Tryd.ntmps3
    go_wp2_with fail
    refine (szInodeS_any v n zs _ HR.out).mono ?_
    rintro e w1 ⟨rfl, rfl⟩
    rw [HS.out]
    have hl : decide ((1048576 : Int) - (n : Int) < 0) = false := by simp; omega
    go_wp2_with fail
    refine (toInodeS_any v n zs _ HR.out HN.out).mono ?_
    rintro e w1 ⟨v1, rfl, o1, b1⟩
    have R1 := hide (RdT.own o1)
    have B1 := hide b1
    clear o1 b1
    go_wp2_with fail
    refine (specTab_any v1 n zs _ R1.out).mono ?_
    rintro e w2 ⟨v2, rfl, o2, b2⟩
    have O2 := hide o2
    have B2 := hide (B1.out.trans (b2.mono B1.out.size))
    clear o2 b2 R1 B1
    go_wp2_with fail
    refine (toInodeS_any v n zs _ (HR.out.below B2.out) HN.out).mono ?_
    rintro e w3 ⟨x0, rfl, o3, b3⟩
    have X3 := hide o3
    have O3 := hide (own_below O2.out b3)
    have B3 := hide (B2.out.trans (b3.mono B2.out.size))
    have L2 := hide (fun k hk => (O2.out.lt k hk).2)
    have hs23 := b3.size
    have hsw2 := B2.out.size
    clear o3 b3 O2 B2
    go_wp2_with fail
    refine (implTab_any x0 n zs _ (RdT.own X3.out) HN.out (HE.out.below B3.out)).mono ?_
    rintro e w4 ⟨g0, rfl, o4, b4⟩
    have G4 := hide o4
    have L3 := hide (fun k hk => (X3.out.lt k hk))
    have X4 := hide (own_below X3.out b4)
    have O4 := hide (own_below O3.out b4)
    have B4 := hide (B3.out.trans (b4.mono B3.out.size))
    have hs34 := b4.size
    have hsw3 := B3.out.size
    clear o4 b4 O3 X3 B3
    go_wp2_with fail
    refine (eqByteS_same g0 v2 (encTab zs n) _ (Rd.own G4.out) (Rd.own O4.out)).mono ?_
    rintro e w5 ⟨rfl, b5⟩
    have G5 := hide (own_below G4.out b5)
    have O5 := hide (own_below O4.out b5)
    have X5 := hide (own_below X4.out b5)
    have B5 := hide (B4.out.trans (b5.mono B4.out.size))
    clear b5 G4 O4 X4 B4
    go_wp2_with fail
    refine (toInodeS_any v n zs _ (HR.out.below B5.out) HN.out).mono ?_
    rintro e w6 ⟨v6, rfl, o6, b6⟩
    have R6 := hide (RdT.own o6)
    have G6 := hide (own_below G5.out b6)
    have O6 := hide (own_below O5.out b6)
    have X6 := hide (own_below X5.out b6)
    have B6 := hide (B5.out.trans (b6.mono B5.out.size))
    clear o6 b6 G5 O5 X5 B5
    go_wp2_with fail
    refine (eqInodeS_same x0 v6 n zs _ (RdT.own X6.out) R6.out).mono ?_
    rintro e w7 ⟨rfl, b7⟩
    have G7 := hide (own_below G6.out b7)
    have O7 := hide (own_below O6.out b7)
    have X7 := hide (own_below X6.out b7)
    have B7 := hide (B6.out.trans (b7.mono B6.out.size))
    clear b7 G6 O6 X6 B6 R6
    go_wp2_with fail
    refine (markInodeS_any x0 _ n zs _ X7.out HN.out).mono ?_
    rintro e w8 ⟨rfl, r8, g8⟩
    have G8 := hide (G7.out.kept g8 (apart w3.heap.size (fun k hk => (G7.out.lt k hk).1) (fun k hk => (L3.out k hk).2)))
    have O8 := hide (O7.out.kept g8 (apart' w2.heap.size L2.out (fun k hk => (L3.out k hk).1)))
    have B8 := hide (B7.out.grown g8 B7.out.size (fun k hk => Nat.le_trans (by omega) (L3.out k hk).1))
    clear r8 g8 G7 O7 X7 B7
    have hkk : ¬ (1 + ((n * 24 : Nat) : Int)) < 0 := by omega
    have hkk2 : ¬ (1 + (n : Int) * 24) < 0 := by omega
    go_wp2_with fail
    refine (eqByteS_same g0 v2 (encTab zs n) _ (Rd.own G8.out) (Rd.own O8.out)).mono ?_
    rintro e w9 ⟨rfl, b9⟩
    have G9 := hide (own_below G8.out b9)
    have O9 := hide (own_below O8.out b9)
    have B9 := hide (B8.out.trans (b9.mono B8.out.size))
    clear b9 G8 O8 B8
    go_wp2_with fail
    refine (markByteS_any g0 w3.heap.size (encTab zs n).length 1 _ _ G9.out (by omega) (by omega)).mono ?_
    rintro e w10 ⟨rfl, o10, g10⟩
    have G10 := hide o10
    have O10 := hide (O9.out.kept g10 (apart' w3.heap.size (fun k hk => Nat.lt_of_lt_of_le (L2.out k hk) hs23) (fun k hk => (G9.out.lt k hk).1)))
    have B10 := hide (B9.out.grown g10 B9.out.size (fun k hk => Nat.le_trans hsw3 (G9.out.lt k hk).1))
    clear o10 g10 G9 O9 B9
    go_wp2_with fail
    refine (heldByteS_any g0 (encTab zs n).length 1 _ (Rd.own G10.out) (by omega) (by omega)).mono ?_
    rintro e wq ⟨rfl, hwq⟩
    rw [hwq]
    clear hwq
    go_wp2_with fail
    refine (toInodeS_any v n zs _ (HR.out.below B10.out) HN.out).mono ?_
    rintro e w11 ⟨v11, rfl, o11, b11⟩
    have R11 := hide (RdT.own o11)
    have G11 := hide (own_below G10.out b11)
    have O11 := hide (own_below O10.out b11)
    have B11 := hide (B10.out.trans (b11.mono B10.out.size))
    clear o11 b11 G10 O10 B10
    go_wp2_with fail
    refine (implTab_any v11 n zs _ R11.out HN.out (HE.out.below B11.out)).mono ?_
    rintro e w12 ⟨h0, rfl, o12, b12⟩
    have H12 := hide (Rd.own o12)
    have G12 := hide (own_below G11.out b12)
    have O12 := hide (own_below O11.out b12)
    have B12 := hide (B11.out.trans (b12.mono B11.out.size))
    clear o12 b12 G11 O11 B11 R11
    go_wp2_with fail
    refine (eqByteS_same h0 v2 (encTab zs n) _ H12.out (Rd.own O12.out)).mono ?_
    rintro e w13 ⟨rfl, b13⟩
    have G13 := hide (own_below G12.out b13)
    have B13 := hide (B12.out.trans (b13.mono B12.out.size))
    clear b13 G12 O12 B12 H12
    go_wp2_with fail
    refine (heldByteS_any g0 (encTab zs n).length 1 _ (Rd.own G13.out) (by omega) (by omega)).mono ?_
    rintro e wq ⟨rfl, hwq⟩
    rw [hwq]
    clear hwq
    go_wp2
    go_ret
    exact ⟨rfl, B13.out⟩
end Go.Proofs.YtlpapoplnacobaaDoor
