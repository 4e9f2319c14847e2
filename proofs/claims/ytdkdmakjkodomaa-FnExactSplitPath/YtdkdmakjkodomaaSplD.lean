/- The law on SplitPath: the walk. -/
import Derived.Test.YtdkdmakjkodomaaSplB
import Derived.Test.YtdkdmakjkodomaaSplC
import Derived.Test.YtdkdmakjkodomaaApart
namespace Go.Proofs.Ytdkdmakjkodomaa
set_option linter.unusedVariables false
set_option linter.unusedSimpArgs false
open Go.RowKit

theorem namesSP_len (s : ByteArray) (h : s.size ≤ 9223372036854775807) : (Spl.namesSP s).length ≤ 600 := by
  have hl := Spl.names_len s
  unfold Spl.namesSP
  by_cases h0 : Spl.codeSP s = 0
  · rw [if_pos h0]
    have : ¬ 512 < s.size := by
      intro hb
      have e : Spl.codeSP s = 12 := by
        unfold Spl.codeSP
        rw [if_neg (by omega), if_pos hb]
      omega
    omega
  · rw [if_neg h0]; simp
set_option maxHeartbeats 1000000 in
theorem lawSplit (s : ByteArray) (w : World) (hm : s.size ≤ 9223372036854775807) :
    Calls Try.prog 5 #[.string s] w fun e w' => e = .returned (.bool true) ∧ Below w.heap.size w w' := by
  by_cases hbig : 1048576 < s.size
  · go_enter Try.func5, Try.ntmps5
    go_wp2
    go_ret
    exact ⟨rfl, Below.refl _ _⟩
  have hnl := namesSP_len s hm
  have hcc : (Spl.codeSP s != Spl.codeSP s) = false := by simp
  go_enter Try.func5, Try.ntmps5
  go_wp2_with (go_at_call 14; fail)
  refine (specSplit_any s _ hm).mono ?_
  rintro e w1 ⟨v1, rfl, o1, b1⟩
  have O1 := hide o1
  have B1 := hide b1
  have L1 := hide (fun k hk => (O1.out.lt k hk).2)
  clear o1 b1
  go_wp2_with (go_at_call 15; fail)
  refine (implSplit_any s _ hm).mono ?_
  rintro e w2 ⟨v2, rfl, o2, b2⟩
  have G2 := hide o2
  have O2 := hide (own_below O1.out b2)
  have B2 := hide (B1.out.trans (b2.mono B1.out.size))
  clear o2 b2 O1
  go_wp2_with (go_at_call 16; fail)
  refine (eqStringS_same v2 v1 (Spl.namesSP s) _ (RdS.own G2.out) (RdS.own O2.out)).mono ?_
  rintro e w3 ⟨rfl, b3⟩
  have G3 := hide (own_below G2.out b3)
  have O3 := hide (own_below O2.out b3)
  have B3 := hide (B2.out.trans (b3.mono B2.out.size))
  clear b3 G2 O2 B2
  go_wp2_with (go_at_call 17; fail)
  refine (markStringS_any v2 w1.heap.size (Spl.namesSP s).length 1 _ _ G3.out (by omega) (by omega) (by omega)).mono ?_
  rintro e w4 ⟨rfl, o4, g4⟩
  have G4 := hide o4
  have O4 := hide (O3.out.kept g4 (apart' w1.heap.size L1.out (fun k hk => (G3.out.lt k hk).1)))
  have B4 := hide (B3.out.grown g4 B3.out.size (fun k hk => Nat.le_trans B1.out.size (G3.out.lt k hk).1))
  clear o4 g4 G3 O3 B3
  go_wp2_with (go_at_call 18; fail)
  refine (heldStringS_any v2 (Spl.namesSP s).length 1 _ (RdS.own G4.out) (by omega) (by omega) (by omega)).mono ?_
  rintro e w5 ⟨rfl, b5⟩
  have G5 := hide (own_below G4.out b5)
  have O5 := hide (own_below O4.out b5)
  have B5 := hide (B4.out.trans (b5.mono B4.out.size))
  clear b5 G4 O4 B4
  go_wp2_with (go_at_call 15; fail)
  refine (implSplit_any s _ hm).mono ?_
  rintro e w6 ⟨v6, rfl, o6, b6⟩
  have H6 := hide (RdS.own o6)
  have G6 := hide (own_below G5.out b6)
  have O6 := hide (own_below O5.out b6)
  have B6 := hide (B5.out.trans (b6.mono B5.out.size))
  clear o6 b6 G5 O5 B5
  go_wp2_with (go_at_call 16; fail)
  refine (eqStringS_same v6 v1 (Spl.namesSP s) _ H6.out (RdS.own O6.out)).mono ?_
  rintro e w7 ⟨rfl, b7⟩
  have G7 := hide (own_below G6.out b7)
  have B7 := hide (B6.out.trans (b7.mono B6.out.size))
  clear b7 G6 O6 B6 H6
  go_wp2_with (go_at_call 18; fail)
  refine (heldStringS_any v2 (Spl.namesSP s).length 1 _ (RdS.own G7.out) (by omega) (by omega) (by omega)).mono ?_
  rintro e w8 ⟨rfl, b8⟩
  have B8 := hide (B7.out.trans (b8.mono B7.out.size))
  clear b8 G7 B7
  go_wp2
  go_ret
  exact ⟨rfl, B8.out⟩
end Go.Proofs.Ytdkdmakjkodomaa
