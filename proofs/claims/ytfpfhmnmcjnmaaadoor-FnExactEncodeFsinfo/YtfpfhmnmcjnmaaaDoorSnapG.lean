/- EncodeSnap of the model: refusals. -/
import Derived.Test.YtfpfhmnmcjnmaaaDoorSnapF
import Derived.Test.YtfpfhmnmcjnmaaaDoorInoB
namespace Go.Proofs.YtfpfhmnmcjnmaaaDoor
set_option linter.unusedVariables false
set_option linter.unusedSimpArgs false
open Go.RowKit

set_option maxRecDepth 100000 in
set_option maxHeartbeats 2000000 in
theorem specS_false (pl : Int) (nm : ByteArray) (ge cl s : Int) (ds : List Int) (p q : Int) (w : World) (hd : ds.length = 12) (hn : nm.size ≤ maxLen) (hr : rightS pl nm ge cl s ds p q = false) :
    Calls Tryd.prog 37 #[.agg (snapC pl nm ge cl s ds p q)] w fun e w' => e = .returned (.tuple #[.slice none 0 0, .int .i64 7]) ∧ Below w.heap.size w w' := by
  have HRF := hide hr
  have HD := hide hd
  have HN := hide hn
  have HLen := hide (show (cellsI (rootI s ds p q)).size = 15 from by rw [cellsI_size]; exact rootI_len s ds p q HD.out)
  have K0 := hide (And.intro (Blk.new w (snapC pl nm ge cl s ds p q) 67) (show Below w.heap.size w (w.alloc (.cells (snapC pl nm ge cl s ds p q) 67)) from (Below.refl _ _).alloc (Nat.le_refl _) _))
  have c0 : (w.alloc (.cells (snapC pl nm ge cl s ds p q) 67)).cell? ⟨w.heap.size, 0, none⟩ = some (.int .i64 pl) := by rw [(Blk.new w _ _).cell 0]; rfl
  have c1 : (w.alloc (.cells (snapC pl nm ge cl s ds p q) 67)).cell? ⟨w.heap.size, 1, none⟩ = some (.string nm) := by rw [(Blk.new w _ _).cell 1]; rfl
  have c2 : (w.alloc (.cells (snapC pl nm ge cl s ds p q) 67)).cell? ⟨w.heap.size, 2, none⟩ = some (.int .i64 ge) := by rw [(Blk.new w _ _).cell 2]; rfl
  have c3 : (w.alloc (.cells (snapC pl nm ge cl s ds p q) 67)).cell? ⟨w.heap.size, 3, none⟩ = some (.int .i64 cl) := by rw [(Blk.new w _ _).cell 3]; rfl
  have HRG := hide (snap_range pl nm ge cl s ds p q K0.out.1)
  clear hd hn hr
  go_enter Tryd.func37, Tryd.ntmps37
  go_wp2_with (go_at_call 77; fail)
  refine (l02Within_any pl 1 31 _).mono ?_
  rintro e w1 ⟨rfl, rfl⟩
  cases e0 : wi pl 1 31 with
  | false =>
    go_wp2
    go_ret2
    exact ⟨rfl, K0.out.2⟩
  | true =>
    go_wp2_with (go_at_call 78; fail)
    refine (Chk.spec_any nm _ HN.out).mono ?_
    rintro e w1 ⟨rfl, rfl⟩
    cases e1 : (Chk.chkS nm == 0) with
    | false =>
      have hb : (Chk.chkS nm != 0) = true := by simp only [bne, e1]; rfl
      go_wp2
      go_ret2
      exact ⟨rfl, K0.out.2⟩
    | true =>
      have hb : Chk.chkS nm = 0 := by simpa using e1
      rw [hb]
      have E1 := hide e1
      clear e1 hb
      go_wp2_with (go_at_call 77; fail)
      refine (l02Within_any ge 1 1099511627776 _).mono ?_
      rintro e w1 ⟨rfl, rfl⟩
      cases e2 : wi ge 1 1099511627776 with
      | false =>
        go_wp2
        go_ret2
        exact ⟨rfl, K0.out.2⟩
      | true =>
        go_wp2_with (go_at_call 77; fail)
        refine (l02Within_any cl 1 1099511627776 _).mono ?_
        rintro e w1 ⟨rfl, rfl⟩
        cases e3 : wi cl 1 1099511627776 with
        | false =>
          go_wp2
          go_ret2
          exact ⟨rfl, K0.out.2⟩
        | true =>
          go_wp2_with (first | (refine wpList_load_midG (by first | rfl | simp [Region.wanted, yielded]) 36 _ rfl w.heap.size 4 rfl ((rootI s ds p q).map (Value.int .i64)) _ HRG.out Tryd.underlying36 rfl (by rw [List.length_map, ← cellsI_size, HLen.out]; exact info15) ?_) | (go_at_call 52; fail))
          refine (l02Root_any s ds p q _ HD.out).mono ?_
          rintro e w2 ⟨rfl, b2⟩
          have B2 := hide (K0.out.2.trans (b2.mono K0.out.2.size))
          have k2 := K0.out.1.below b2 K0.out.1.lt
          have c4 := (k2.cell 4).trans (show (snapC pl nm ge cl s ds p q)[4]? = some (.int .i64 s) from rfl)
          clear b2 k2 c0 c1 c2 c3
          cases e4 : rightR s ds p q with
          | false =>
            go_wp2
            go_ret2
            exact ⟨rfl, B2.out⟩
          | true =>
            go_wp2_with (go_at_call 79; fail)
            refine (tableSize_any s _).mono ?_
            rintro e w3 ⟨rfl, rfl⟩
            have e5 : tabB s = false := by
              have h := HRF.out
              unfold rightS at h
              rw [e0, E1.out, e2, e3, e4] at h
              simpa using h
            go_wp2
            go_ret2
            exact ⟨rfl, B2.out⟩
end Go.Proofs.YtfpfhmnmcjnmaaaDoor
