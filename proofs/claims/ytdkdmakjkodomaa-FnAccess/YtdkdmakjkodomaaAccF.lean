/- The law FnAccess: the walk. -/
import Derived.Test.YtdkdmakjkodomaaAccM
import Derived.Deep.RegionHeld3
import Derived.Deep.MidRow
import Derived.Deep.Cut
import Derived.Deep.CutRange
import Derived.Test.YtdkdmakjkodomaaAccB
namespace Go.Proofs.Ytdkdmakjkodomaa
set_option linter.unusedVariables false
set_option linter.unusedSimpArgs false
open Go.RowKit

set_option maxRecDepth 100000 in
set_option maxHeartbeats 4000000 in
theorem lawAccess (v0 : Value) (zs : List Int) (w : World) (h : Rd .u8 w v0 zs) (hbd : ∀ z ∈ zs, 0 ≤ z ∧ z < 256) :
    Calls Try.prog 3 #[v0] w fun e w' => e = .returned (.bool true) ∧ Below w.heap.size w w' := by
  have hm := h.len
  unfold maxLen at hm
  have hsh : ∃ a cap, v0 = .slice a zs.length cap := by obtain ⟨a, cap, h1, _⟩ := h; exact ⟨a, cap, h1⟩
  have hne : 0 < zs.length → ∀ c, v0.ownBlock = some c → c ≠ w.heap.size := by
    intro hp c hc
    obtain ⟨b, off, cap, rfl, hb, _⟩ := h.partsC hp
    simp [Value.ownBlock] at hc
    omega
  obtain ⟨a0, cap0, rfl⟩ := hsh
  by_cases hbig : (1048576 : Int) < (zs.length : Int)
  · go_enter Try.func3, Try.ntmps3
    go_wp2
    go_ret
    exact ⟨rfl, Below.refl _ _⟩
  · have hsm : zs.length ≤ 1048576 := by omega
    have H := hide (And.intro h hbd)
    have HN := hide (show ∀ (k : Nat) (W : World) (L : List (Nat × Array Value × TypeId)), 1 ≤ k → k ≤ 1000000 → AcS w (.slice a0 zs.length cap0) zs.length L W →
        Calls Try.prog 8 #[.pointer (some ⟨w.heap.size, 0, none⟩), .int .i64 (k : Int)] W fun e w' => ∃ r : Nat, e = .returned (.int .i64 (r : Int)) ∧ r < k ∧ AcS w (.slice a0 zs.length cap0) zs.length L w' ∧ w'.heap.size = W.heap.size from by
      intro k W L h1 h2 hA
      refine (N_any w.heap.size k _ zs _ hA.1 (h.below hA.2.1) hbd hsm h1 h2 hne).mono ?_
      rintro e w' ⟨r, rfl, hr, hs, hd⟩
      exact ⟨r, rfl, hr, hA.dr hd hs, hd.2⟩)
    clear hbig hm h hbd hne
    go_enter Try.func3, Try.ntmps3
    go_wp2_with (go_at_call 7; fail)
    refine (draw_any _ zs _ H.out.1 hsm).mono ?_
    rintro e w1 ⟨rfl, hs1, hb1, hz1s⟩
    have A1 := hide (show AcS w (.slice a0 zs.length cap0) zs.length [] w1 from ⟨hs1, hb1, by omega, fun x hx => by cases hx⟩)
    clear hs1 hb1 hz1s
    go_wp2_with fail
    go_loopw [4] (fun i wr => ∃ k : Nat, k ≤ 20 ∧ i = .int .i64 k ∧ AcS w (.slice a0 zs.length cap0) zs.length [] wr) (fun i _ => 20 - (intOf i).toNat)
    case atStart => exact ⟨0, by omega, rfl, A1.out⟩
    case round =>
      obtain ⟨k, hk, rfl, hA⟩ := hrel
      obtain ⟨wA, hwA⟩ : ∃ x : World, x = wr := ⟨_, rfl⟩
      subst hwA
      have A2 := hide hA
      clear hA A1
      by_cases hlt : k < 20
      · go_wp2_with (go_at_call 8; fail)
        refine (HN.out 512 _ [] (by omega) (by omega) A2.out).mono ?_
        rintro e w3 ⟨m, rfl, hmm, hA, hz3⟩
        have A3 := hide hA
        clear hA A2
        go_wp2_with (go_at_call 8; fail)
        refine (HN.out 3 _ [] (by omega) (by omega) A3.out).mono ?_
        rintro e w4 ⟨u, rfl, hu, hA, hz4⟩
        have A4 := hide hA
        clear hA A3
        go_wp2_with (go_at_call 8; fail)
        refine (HN.out 3 _ [] (by omega) (by omega) A4.out).mono ?_
        rintro e w5 ⟨g, rfl, hg, hA, hz5⟩
        have A5 := hide (show AcS w (.slice a0 zs.length cap0) zs.length [(wA.heap.size, #[.int .i64 0, .int .i64 0, .int .i64 m, .int .i64 (1 + (u : Int)), .int .i64 (1 + (g : Int)), .int .i64 0, .int .i64 0, .int .i64 0, .int .i64 0, .slice none 0 0], 27)] (w5.alloc (.cells #[.int .i64 0, .int .i64 0, .int .i64 m, .int .i64 (1 + (u : Int)), .int .i64 (1 + (g : Int)), .int .i64 0, .int .i64 0, .int .i64 0, .int .i64 0, .slice none 0 0] 27)) from by
          have h := hA.new #[.int .i64 0, .int .i64 0, .int .i64 m, .int .i64 (1 + (u : Int)), .int .i64 (1 + (g : Int)), .int .i64 0, .int .i64 0, .int .i64 0, .int .i64 0, .slice none 0 0] 27
          rw [hz5, hz4, hz3] at h
          exact h)
        clear hA A4
        go_wp2_with (go_at_call 8; fail)
        refine (HN.out 3 _ _ (by omega) (by omega) A5.out).mono ?_
        rintro e w6 ⟨r6, rfl, hr6, hA, hz6⟩
        have A6 := hide hA
        clear hA A5
        go_wp2_with (go_at_call 8; fail)
        refine (HN.out 3 _ _ (by omega) (by omega) A6.out).mono ?_
        rintro e w7 ⟨r7, rfl, hr7, hA, hz7⟩
        have A7 := hide hA
        clear hA A6
        go_wp2_with (go_at_call 8; fail)
        refine (HN.out 8 _ _ (by omega) (by omega) A7.out).mono ?_
        rintro e w8 ⟨c, rfl, hc, hA, hz8⟩
        have h8 : w8.heap.size = wA.heap.size + 1 := by rw [hz8, hz7, hz6, World.size_alloc, hz5, hz4, hz3]
        have A8 := hide hA
        clear hA A7 hz3 hz4 hz5 hz6 hz7 hz8
        go_wp2_with fail
        obtain ⟨s, hs⟩ : ∃ s, s = selS (1 + (u : Int)) (1 + (g : Int)) (1 + (r6 : Int)) (1 + (r7 : Int)) := ⟨_, rfl⟩
        have HSs := hide hs
        clear hs
        have A8b := hide (show AcS w (.slice a0 zs.length cap0) zs.length [(wA.heap.size + 1, #[.int .i64 1, .int .i64 2, .int .i64 4], 3), (wA.heap.size, #[.int .i64 0, .int .i64 0, .int .i64 m, .int .i64 (1 + (u : Int)), .int .i64 (1 + (g : Int)), .int .i64 0, .int .i64 0, .int .i64 0, .int .i64 0, .slice none 0 0], 27)] (w8.alloc (.cells #[.int .i64 1, .int .i64 2, .int .i64 4] 3)) from by
          have h := A8.out.new #[.int .i64 1, .int .i64 2, .int .i64 4] 3
          rw [h8] at h
          exact h)
        clear A8
        go_loopw [9, 43] (fun al i wr => ∃ j : Nat, j ≤ 3 ∧ i = .int .i64 j ∧ al = .bool (okTo ((m : Int) / 2 ^ s) c j) ∧ AcS w (.slice a0 zs.length cap0) zs.length [(wA.heap.size + 1, #[.int .i64 1, .int .i64 2, .int .i64 4], 3), (wA.heap.size, #[.int .i64 0, .int .i64 0, .int .i64 m, .int .i64 (1 + (u : Int)), .int .i64 (1 + (g : Int)), .int .i64 0, .int .i64 0, .int .i64 0, .int .i64 0, .slice none 0 0], 27)] wr) (fun _ i _ => 3 - (intOf i).toNat)
        case atStart => exact ⟨0, by omega, rfl, rfl, A8b.out⟩
        case round =>
          obtain ⟨j, hj, rfl, rfl, hA⟩ := hrel
          have A9 := hide hA
          have l0 := (hA.head.cell 0).trans (show _ = some (.int .i64 1) from rfl)
          have l1 := (hA.head.cell 1).trans (show _ = some (.int .i64 2) from rfl)
          have l2 := (hA.head.cell 2).trans (show _ = some (.int .i64 4) from rfl)
          clear hA A8b
          rcases (by omega : j = 0 ∨ j = 1 ∨ j = 2 ∨ j = 3) with rfl | rfl | rfl | rfl
          · by_cases hw : (c : Int) / 1 % 2 = 1
            · have hbo := bitOk_on ((m : Int) / 2 ^ s) c 0 (by omega) hw
              have hmy : mayB m (1 + (u : Int)) (1 + (g : Int)) (1 + (r6 : Int)) (1 + (r7 : Int)) 1 = accB ((m : Int) / 2 ^ s) 1 := by rw [HSs.out]; exact may_sel _ _ _ _ _ _ (by omega) (by omega) (by omega)
              have HBo := hide (And.intro hbo hmy)
              clear hbo hmy
              go_wp2_with (first
                | (refine wpList_load_midN (by first | rfl | (simp [Region.wanted, yielded]; done) | (simp [Region.wanted, yielded]; omega)) 27 _ rfl wA.heap.size 0 rfl (#[.int .i64 0, .int .i64 0, .int .i64 m, .int .i64 (1 + (u : Int)), .int .i64 (1 + (g : Int)), .int .i64 0, .int .i64 0, .int .i64 0, .int .i64 0, .slice none 0 0] : Array Value).toList _ (node_range A9.out.tail.head) Try.underlying27 rfl infoN10 ?_)
                | (go_at_call 9; fail))
              refine (implMay_any _ _ _ _ _ _ _ _ _ _ _ _ _ _).mono ?_
              rintro e w9 ⟨rfl, b9⟩
              rw [HBo.out.2]
              have A10 := hide (A9.out.below b9)
              clear b9
              cases hacc : accB ((m : Int) / 2 ^ s) 1 with
              | true =>
                have hk2 := HBo.out.1.trans hacc
                go_wp2
                go_round
                case rel => exact ⟨0 + 1, by omega, by go_num, by rw [show okTo ((m : Int) / 2 ^ s) c (0 + 1) = (okTo ((m : Int) / 2 ^ s) c 0 && bitOk ((m : Int) / 2 ^ s) c 0) from rfl, hk2, Bool.and_true], A10.out⟩
                case measure => simp [intOf]
              | false =>
                have hk2 := HBo.out.1.trans hacc
                go_wp2
                go_round
                case rel => exact ⟨0 + 1, by omega, by go_num, by rw [show okTo ((m : Int) / 2 ^ s) c (0 + 1) = (okTo ((m : Int) / 2 ^ s) c 0 && bitOk ((m : Int) / 2 ^ s) c 0) from rfl, hk2, Bool.and_false], A10.out⟩
                case measure => simp [intOf]
            · have hk2 := bitOk_off ((m : Int) / 2 ^ s) c 0 hw
              go_wp2
              go_round
              case rel => exact ⟨0 + 1, by omega, by go_num, by rw [show okTo ((m : Int) / 2 ^ s) c (0 + 1) = (okTo ((m : Int) / 2 ^ s) c 0 && bitOk ((m : Int) / 2 ^ s) c 0) from rfl, hk2, Bool.and_true], A9.out⟩
              case measure => simp [intOf]
          · by_cases hw : (c : Int) / 2 % 2 = 1
            · have hbo := bitOk_on ((m : Int) / 2 ^ s) c 1 (by omega) hw
              have hmy : mayB m (1 + (u : Int)) (1 + (g : Int)) (1 + (r6 : Int)) (1 + (r7 : Int)) 2 = accB ((m : Int) / 2 ^ s) 2 := by rw [HSs.out]; exact may_sel _ _ _ _ _ _ (by omega) (by omega) (by omega)
              have HBo := hide (And.intro hbo hmy)
              clear hbo hmy
              go_wp2_with (first
                | (refine wpList_load_midN (by first | rfl | (simp [Region.wanted, yielded]; done) | (simp [Region.wanted, yielded]; omega)) 27 _ rfl wA.heap.size 0 rfl (#[.int .i64 0, .int .i64 0, .int .i64 m, .int .i64 (1 + (u : Int)), .int .i64 (1 + (g : Int)), .int .i64 0, .int .i64 0, .int .i64 0, .int .i64 0, .slice none 0 0] : Array Value).toList _ (node_range A9.out.tail.head) Try.underlying27 rfl infoN10 ?_)
                | (go_at_call 9; fail))
              refine (implMay_any _ _ _ _ _ _ _ _ _ _ _ _ _ _).mono ?_
              rintro e w9 ⟨rfl, b9⟩
              rw [HBo.out.2]
              have A10 := hide (A9.out.below b9)
              clear b9
              cases hacc : accB ((m : Int) / 2 ^ s) 2 with
              | true =>
                have hk2 := HBo.out.1.trans hacc
                go_wp2
                go_round
                case rel => exact ⟨1 + 1, by omega, by go_num, by rw [show okTo ((m : Int) / 2 ^ s) c (1 + 1) = (okTo ((m : Int) / 2 ^ s) c 1 && bitOk ((m : Int) / 2 ^ s) c 1) from rfl, hk2, Bool.and_true], A10.out⟩
                case measure => simp [intOf]
              | false =>
                have hk2 := HBo.out.1.trans hacc
                go_wp2
                go_round
                case rel => exact ⟨1 + 1, by omega, by go_num, by rw [show okTo ((m : Int) / 2 ^ s) c (1 + 1) = (okTo ((m : Int) / 2 ^ s) c 1 && bitOk ((m : Int) / 2 ^ s) c 1) from rfl, hk2, Bool.and_false], A10.out⟩
                case measure => simp [intOf]
            · have hk2 := bitOk_off ((m : Int) / 2 ^ s) c 1 hw
              go_wp2
              go_round
              case rel => exact ⟨1 + 1, by omega, by go_num, by rw [show okTo ((m : Int) / 2 ^ s) c (1 + 1) = (okTo ((m : Int) / 2 ^ s) c 1 && bitOk ((m : Int) / 2 ^ s) c 1) from rfl, hk2, Bool.and_true], A9.out⟩
              case measure => simp [intOf]
          · by_cases hw : (c : Int) / 4 % 2 = 1
            · have hbo := bitOk_on ((m : Int) / 2 ^ s) c 2 (by omega) hw
              have hmy : mayB m (1 + (u : Int)) (1 + (g : Int)) (1 + (r6 : Int)) (1 + (r7 : Int)) 4 = accB ((m : Int) / 2 ^ s) 4 := by rw [HSs.out]; exact may_sel _ _ _ _ _ _ (by omega) (by omega) (by omega)
              have HBo := hide (And.intro hbo hmy)
              clear hbo hmy
              go_wp2_with (first
                | (refine wpList_load_midN (by first | rfl | (simp [Region.wanted, yielded]; done) | (simp [Region.wanted, yielded]; omega)) 27 _ rfl wA.heap.size 0 rfl (#[.int .i64 0, .int .i64 0, .int .i64 m, .int .i64 (1 + (u : Int)), .int .i64 (1 + (g : Int)), .int .i64 0, .int .i64 0, .int .i64 0, .int .i64 0, .slice none 0 0] : Array Value).toList _ (node_range A9.out.tail.head) Try.underlying27 rfl infoN10 ?_)
                | (go_at_call 9; fail))
              refine (implMay_any _ _ _ _ _ _ _ _ _ _ _ _ _ _).mono ?_
              rintro e w9 ⟨rfl, b9⟩
              rw [HBo.out.2]
              have A10 := hide (A9.out.below b9)
              clear b9
              cases hacc : accB ((m : Int) / 2 ^ s) 4 with
              | true =>
                have hk2 := HBo.out.1.trans hacc
                go_wp2
                go_round
                case rel => exact ⟨2 + 1, by omega, by go_num, by rw [show okTo ((m : Int) / 2 ^ s) c (2 + 1) = (okTo ((m : Int) / 2 ^ s) c 2 && bitOk ((m : Int) / 2 ^ s) c 2) from rfl, hk2, Bool.and_true], A10.out⟩
                case measure => simp [intOf]
              | false =>
                have hk2 := HBo.out.1.trans hacc
                go_wp2
                go_round
                case rel => exact ⟨2 + 1, by omega, by go_num, by rw [show okTo ((m : Int) / 2 ^ s) c (2 + 1) = (okTo ((m : Int) / 2 ^ s) c 2 && bitOk ((m : Int) / 2 ^ s) c 2) from rfl, hk2, Bool.and_false], A10.out⟩
                case measure => simp [intOf]
            · have hk2 := bitOk_off ((m : Int) / 2 ^ s) c 2 hw
              go_wp2
              go_round
              case rel => exact ⟨2 + 1, by omega, by go_num, by rw [show okTo ((m : Int) / 2 ^ s) c (2 + 1) = (okTo ((m : Int) / 2 ^ s) c 2 && bitOk ((m : Int) / 2 ^ s) c 2) from rfl, hk2, Bool.and_true], A9.out⟩
              case measure => simp [intOf]
          · have HAll := hide (okTo_all ((m : Int) / 2 ^ s) c (by omega) (by omega))
            clear l0 l1 l2
            rw [HAll.out]
            obtain ⟨al, hal⟩ : ∃ al, al = accB ((m : Int) / 2 ^ s) c := ⟨_, rfl⟩
            rw [← hal]
            have HMy := hide (show mayB m (1 + (u : Int)) (1 + (g : Int)) (1 + (r6 : Int)) (1 + (r7 : Int)) c = al from by rw [hal, HSs.out]; exact may_sel _ _ _ _ _ _ (by omega) (by omega) (by omega))
            have HAl := hide hal
            have hnn : (al != al) = false := by simp
            clear hal HAll
            go_wp2_with (first
              | (refine wpList_load_midN (by first | rfl | (simp [Region.wanted, yielded]; done) | (simp [Region.wanted, yielded]; omega)) 27 _ rfl wA.heap.size 0 rfl (#[.int .i64 0, .int .i64 0, .int .i64 m, .int .i64 (1 + (u : Int)), .int .i64 (1 + (g : Int)), .int .i64 0, .int .i64 0, .int .i64 0, .int .i64 0, .slice none 0 0] : Array Value).toList _ (node_range A9.out.tail.head) Try.underlying27 rfl infoN10 ?_)
              | (go_at_call 9; fail))
            refine (implMay_any _ _ _ _ _ _ _ _ _ _ _ _ _ _).mono ?_
            rintro e w9 ⟨rfl, b9⟩
            rw [HMy.out]
            have A10 := hide (A9.out.below b9)
            clear b9 A9
            go_wp2_with (first
              | (refine wpList_load_midN (by first | rfl | (simp [Region.wanted, yielded]; done) | (simp [Region.wanted, yielded]; omega)) 27 _ rfl wA.heap.size 0 rfl (#[.int .i64 0, .int .i64 0, .int .i64 m, .int .i64 (1 + (u : Int)), .int .i64 (1 + (g : Int)), .int .i64 0, .int .i64 0, .int .i64 0, .int .i64 0, .slice none 0 0] : Array Value).toList _ (node_range A10.out.tail.head) Try.underlying27 rfl infoN10 ?_)
              | (go_at_call 9; fail))
            refine (implMay_any _ _ _ _ _ _ _ _ _ _ _ _ _ _).mono ?_
            rintro e w10 ⟨rfl, b10⟩
            rw [may_root _ _ _ _ _ (by omega) (by omega)]
            have A11 := hide (A10.out.below b10)
            have A12 := hide (A11.out.new #[.int .i64 0, .int .i64 0, .int .i64 m, .int .i64 (1 + (u : Int)), .int .i64 (1 + (g : Int)), .int .i64 0, .int .i64 0, .int .i64 0, .int .i64 0, .slice none 0 0] 27)
            have hNe := hide (show ∀ x ∈ ([(wA.heap.size + 1, #[.int .i64 1, .int .i64 2, .int .i64 4], 3), (wA.heap.size, #[.int .i64 0, .int .i64 0, .int .i64 m, .int .i64 (1 + (u : Int)), .int .i64 (1 + (g : Int)), .int .i64 0, .int .i64 0, .int .i64 0, .int .i64 0, .slice none 0 0], 27)] : List (Nat × Array Value × TypeId)), x.1 ≠ w10.heap.size from fun x hx => Nat.ne_of_lt (A11.out.2.2.2 x hx).1.lt)
            clear b10 A10
            go_wp2_with (first
              | (refine wpList_load_midN (by first | rfl | (simp [Region.wanted, yielded]; done) | (simp [Region.wanted, yielded]; omega)) 27 _ rfl wA.heap.size 0 rfl (#[.int .i64 0, .int .i64 0, .int .i64 m, .int .i64 (1 + (u : Int)), .int .i64 (1 + (g : Int)), .int .i64 0, .int .i64 0, .int .i64 0, .int .i64 0, .slice none 0 0] : Array Value).toList _ (node_range A11.out.tail.head) Try.underlying27 rfl infoN10 ?_)
              | fail)
            go_cut [] from 20 to 112 (fun wx => ∃ n : Nat, n < 512 ∧ AcS w (.slice a0 zs.length cap0) zs.length ((w10.heap.size, #[.int .i64 0, .int .i64 0, .int .i64 ((m ||| n : Nat) : Int), .int .i64 (1 + (u : Int)), .int .i64 (1 + (g : Int)), .int .i64 0, .int .i64 0, .int .i64 0, .int .i64 0, .slice none 0 0], 27) :: [(wA.heap.size + 1, #[.int .i64 1, .int .i64 2, .int .i64 4], 3), (wA.heap.size, #[.int .i64 0, .int .i64 0, .int .i64 m, .int .i64 (1 + (u : Int)), .int .i64 (1 + (g : Int)), .int .i64 0, .int .i64 0, .int .i64 0, .int .i64 0, .slice none 0 0], 27)]) wx)
            case first =>
              refine wp_region_noPanic ?_
              have AD := hide (A12.out.drew)
              refine wp_region_held_drew (S := fun w' => AcS w (.slice a0 zs.length cap0) zs.length [(wA.heap.size + 1, #[.int .i64 1, .int .i64 2, .int .i64 4], 3), (wA.heap.size, #[.int .i64 0, .int .i64 0, .int .i64 m, .int .i64 (1 + (u : Int)), .int .i64 (1 + (g : Int)), .int .i64 0, .int .i64 0, .int .i64 0, .int .i64 0, .slice none 0 0], 27)] w') (by kernel_rfl) (A12.out.drew.tail) (fun hH => ?_)
              refine wpAnyH_take (i := 0) (oi := _) (v := .pointer (some ⟨w10.heap.size, 2, none⟩)) rfl (by kernel_rfl) (by kernel_rfl) (by kernel_rfl) (fun _ _ _ h => h) (Or.inl ⟨by rfl, fun w' hw' => by go_simp⟩) hH ?_
              try simp only [Act.put, List.getElem_toArray, List.getElem_cons_zero, List.getElem_cons_succ, List.setIfInBounds_toArray, List.set_cons_zero, List.set_cons_succ]
              refine wpAnyH_take (i := 2) (oi := _) (v := .pointer (some ⟨w.heap.size, 0, none⟩)) rfl (by kernel_rfl) (by kernel_rfl) (by kernel_rfl) (fun _ _ _ h => h) (Or.inl ⟨by rfl, fun w' hw' => by go_simp⟩) hH ?_
              try simp only [Act.put, List.getElem_toArray, List.getElem_cons_zero, List.getElem_cons_succ, List.setIfInBounds_toArray, List.set_cons_zero, List.set_cons_succ]
              refine wpAnyH_ready (rs := [1, 3]) (by kernel_rfl) (by simp) ?_
              refine AllReadyH.cons (o := _) rfl (fun K hK => ?_) (AllReadyH.cons (o := _) rfl (fun K hK => ?_) AllReadyH.nil)
              · have hc := (AD.out.head.cell 2).trans (show _ = some (.int .i64 (m : Int)) from rfl)
                go_simp
                refine hK.out _ _ hH (fun hH1 => ?_)
                clear hK K hc
                try simp only [Act.put, List.getElem_toArray, List.getElem_cons_zero, List.getElem_cons_succ, List.setIfInBounds_toArray, List.set_cons_zero, List.set_cons_succ]
                refine wpAnyH_ready (rs := [3]) (by kernel_rfl) (by simp) ?_
                refine AllReadyH.cons (o := _) rfl (fun K hK => ?_) AllReadyH.nil
                go_simp
                refine (HN.out 512 _ _ (by omega) (by omega) AD.out).mono ?_
                rintro e w11 ⟨n, rfl, hn, hA, _⟩
                have A14 := hide hA
                refine hK.out _ _ hA.tail (fun hH2 => ?_)
                clear hK K hA
                try simp only [Act.put, List.getElem_toArray, List.getElem_cons_zero, List.getElem_cons_succ, List.setIfInBounds_toArray, List.set_cons_zero, List.set_cons_succ]
                refine wpAnyH_take (i := 4) (oi := _) (v := .int .i64 ((m ||| n : Nat) : Int)) rfl (by kernel_rfl) (by kernel_rfl) (by kernel_rfl) (fun _ _ _ h => h) (Or.inl ⟨by rfl, fun w' hw' => by have ho := or_nat m n hmm hn; go_simp⟩) hH2 ?_
                try simp only [Act.put, List.getElem_toArray, List.getElem_cons_zero, List.getElem_cons_succ, List.setIfInBounds_toArray, List.set_cons_zero, List.set_cons_succ]
                refine wpAnyH_take (i := 5) (oi := _) (v := .pointer (some ⟨w10.heap.size, 2, none⟩)) rfl (by kernel_rfl) (by kernel_rfl) (by kernel_rfl) (fun _ _ _ h => h) (Or.inl ⟨by rfl, fun w' hw' => by go_simp⟩) hH2 ?_
                try simp only [Act.put, List.getElem_toArray, List.getElem_cons_zero, List.getElem_cons_succ, List.setIfInBounds_toArray, List.set_cons_zero, List.set_cons_succ]
                refine wpAnyH_ready (rs := [6]) (by kernel_rfl) (by simp) ?_
                refine AllReadyH.cons (o := _) rfl (fun K hK => ?_) AllReadyH.nil
                have hc := (A14.out.head.cell 2).trans (show _ = some (.int .i64 (m : Int)) from rfl)
                have hf := A14.out.head.frozen 2
                have A15 := hide (show AcS w (.slice a0 zs.length cap0) zs.length ((w10.heap.size, #[.int .i64 0, .int .i64 0, .int .i64 ((m ||| n : Nat) : Int), .int .i64 (1 + (u : Int)), .int .i64 (1 + (g : Int)), .int .i64 0, .int .i64 0, .int .i64 0, .int .i64 0, .slice none 0 0], 27) :: [(wA.heap.size + 1, #[.int .i64 1, .int .i64 2, .int .i64 4], 3), (wA.heap.size, #[.int .i64 0, .int .i64 0, .int .i64 m, .int .i64 (1 + (u : Int)), .int .i64 (1 + (g : Int)), .int .i64 0, .int .i64 0, .int .i64 0, .int .i64 0, .slice none 0 0], 27)]) (w11.setCell ⟨w10.heap.size, 2, none⟩ (.int .i64 ((m ||| n : Nat) : Int))) from A14.out.set hNe.out 2 _)
                go_simp
                refine hK.out _ _ A15.out.tail (fun _ => ?_)
                clear hK K hc hf
                try simp only [Act.put, List.getElem_toArray, List.getElem_cons_zero, List.getElem_cons_succ, List.setIfInBounds_toArray, List.set_cons_zero, List.set_cons_succ]
                refine wpAnyH_done (by kernel_rfl) (NoPanic.normal ?_) _
                go_wp2_with fail
                go_meet
                exact ⟨n, hn, A15.out⟩
              · go_simp
                refine (HN.out 512 _ _ (by omega) (by omega) AD.out).mono ?_
                rintro e w11 ⟨n, rfl, hn, hA, _⟩
                have A14 := hide hA
                refine hK.out _ _ hA.tail (fun hH2 => ?_)
                clear hK K hA
                try simp only [Act.put, List.getElem_toArray, List.getElem_cons_zero, List.getElem_cons_succ, List.setIfInBounds_toArray, List.set_cons_zero, List.set_cons_succ]
                refine wpAnyH_ready (rs := [1]) (by kernel_rfl) (by simp) ?_
                refine AllReadyH.cons (o := _) rfl (fun K hK => ?_) AllReadyH.nil
                have hc := (A14.out.head.cell 2).trans (show _ = some (.int .i64 (m : Int)) from rfl)
                go_simp
                refine hK.out _ _ hH2 (fun hH1 => ?_)
                clear hK K hc
                try simp only [Act.put, List.getElem_toArray, List.getElem_cons_zero, List.getElem_cons_succ, List.setIfInBounds_toArray, List.set_cons_zero, List.set_cons_succ]
                refine wpAnyH_take (i := 4) (oi := _) (v := .int .i64 ((m ||| n : Nat) : Int)) rfl (by kernel_rfl) (by kernel_rfl) (by kernel_rfl) (fun _ _ _ h => h) (Or.inl ⟨by rfl, fun w' hw' => by have ho := or_nat m n hmm hn; go_simp⟩) hH2 ?_
                try simp only [Act.put, List.getElem_toArray, List.getElem_cons_zero, List.getElem_cons_succ, List.setIfInBounds_toArray, List.set_cons_zero, List.set_cons_succ]
                refine wpAnyH_take (i := 5) (oi := _) (v := .pointer (some ⟨w10.heap.size, 2, none⟩)) rfl (by kernel_rfl) (by kernel_rfl) (by kernel_rfl) (fun _ _ _ h => h) (Or.inl ⟨by rfl, fun w' hw' => by go_simp⟩) hH2 ?_
                try simp only [Act.put, List.getElem_toArray, List.getElem_cons_zero, List.getElem_cons_succ, List.setIfInBounds_toArray, List.set_cons_zero, List.set_cons_succ]
                refine wpAnyH_ready (rs := [6]) (by kernel_rfl) (by simp) ?_
                refine AllReadyH.cons (o := _) rfl (fun K hK => ?_) AllReadyH.nil
                have hc := (A14.out.head.cell 2).trans (show _ = some (.int .i64 (m : Int)) from rfl)
                have hf := A14.out.head.frozen 2
                have A15 := hide (show AcS w (.slice a0 zs.length cap0) zs.length ((w10.heap.size, #[.int .i64 0, .int .i64 0, .int .i64 ((m ||| n : Nat) : Int), .int .i64 (1 + (u : Int)), .int .i64 (1 + (g : Int)), .int .i64 0, .int .i64 0, .int .i64 0, .int .i64 0, .slice none 0 0], 27) :: [(wA.heap.size + 1, #[.int .i64 1, .int .i64 2, .int .i64 4], 3), (wA.heap.size, #[.int .i64 0, .int .i64 0, .int .i64 m, .int .i64 (1 + (u : Int)), .int .i64 (1 + (g : Int)), .int .i64 0, .int .i64 0, .int .i64 0, .int .i64 0, .slice none 0 0], 27)]) (w11.setCell ⟨w10.heap.size, 2, none⟩ (.int .i64 ((m ||| n : Nat) : Int))) from A14.out.set hNe.out 2 _)
                go_simp
                refine hK.out _ _ A15.out.tail (fun _ => ?_)
                clear hK K hc hf
                try simp only [Act.put, List.getElem_toArray, List.getElem_cons_zero, List.getElem_cons_succ, List.setIfInBounds_toArray, List.set_cons_zero, List.set_cons_succ]
                refine wpAnyH_done (by kernel_rfl) (NoPanic.normal ?_) _
                go_wp2_with fail
                go_meet
                exact ⟨n, hn, A15.out⟩
            case rest =>
              obtain ⟨n, hn, hA⟩ := hcut
              have A15 := hide hA
              clear hA A12 A11 hNe
              cases al with
              | true =>
                have HMo := hide (show mayB ((m ||| n : Nat) : Int) (1 + (u : Int)) (1 + (g : Int)) (1 + (r6 : Int)) (1 + (r7 : Int)) c = true from by rw [may_sel _ _ _ _ _ _ (by omega) (by omega) (by omega), ← HSs.out]; exact acc_more m n s c (by omega) (by omega) HAl.out.symm)
                go_wp2_with (first
                  | (refine wpList_load_midN (by first | rfl | (simp [Region.wanted, yielded]; done) | (simp [Region.wanted, yielded]; omega)) 27 _ rfl w10.heap.size 0 rfl (#[.int .i64 0, .int .i64 0, .int .i64 ((m ||| n : Nat) : Int), .int .i64 (1 + (u : Int)), .int .i64 (1 + (g : Int)), .int .i64 0, .int .i64 0, .int .i64 0, .int .i64 0, .slice none 0 0] : Array Value).toList _ (node_range A15.out.head) Try.underlying27 rfl infoN10 ?_)
                  | (go_at_call 9; fail))
                refine (implMay_any _ _ _ _ _ _ _ _ _ _ _ _ _ _).mono ?_
                rintro e w16 ⟨rfl, b16⟩
                rw [HMo.out]
                have A16 := hide (A15.out.below b16)
                clear b16 A15 HMo
                by_cases hu1 : (r6 : Int) = (u : Int)
                · have hub : ((1 + (r6 : Int)) == (1 + (u : Int))) = true := by simp [hu1]
                  have hsel : selS (1 + (u : Int)) (1 + (g : Int)) (1 + (r6 : Int)) (1 + (r7 : Int)) = 6 := by unfold selS; rw [if_pos (by omega)]
                  have cu := (A16.out.tail.tail.head.cell 3).trans (show _ = some (.int .i64 (1 + (u : Int))) from rfl)
                  have cg := (A16.out.tail.tail.head.cell 4).trans (show _ = some (.int .i64 (1 + (g : Int))) from rfl)
                  have HO := hide (show mayB ((m &&& 448 : Nat) : Int) (1 + (u : Int)) (1 + (g : Int)) (1 + (r6 : Int)) (1 + (r7 : Int)) c = true from by rw [may_sel _ _ _ _ _ _ (by omega) (by omega) (by omega), hsel, HAl.out, HSs.out, hsel]; exact acc_only m 6 c (by omega))
                  have A17 := hide (A16.out.new #[.int .i64 0, .int .i64 0, .int .i64 m, .int .i64 (1 + (u : Int)), .int .i64 (1 + (g : Int)), .int .i64 0, .int .i64 0, .int .i64 0, .int .i64 0, .slice none 0 0] 27)
                  clear hsel hu1
                  go_wp2_with (first
                    | (refine wpList_load_midN (by first | rfl | (simp [Region.wanted, yielded]; done) | (simp [Region.wanted, yielded]; omega)) 27 _ rfl wA.heap.size 0 rfl (#[.int .i64 0, .int .i64 0, .int .i64 m, .int .i64 (1 + (u : Int)), .int .i64 (1 + (g : Int)), .int .i64 0, .int .i64 0, .int .i64 0, .int .i64 0, .slice none 0 0] : Array Value).toList _ (node_range A16.out.tail.tail.head) Try.underlying27 rfl infoN10 ?_)
                    | fail)
                  refine wp_region_noPanic ?_
                  have AD := hide (A17.out.drew)
                  have hNe := hide (show ∀ x ∈ (((w10.heap.size, #[.int .i64 0, .int .i64 0, .int .i64 ((m ||| n : Nat) : Int), .int .i64 (1 + (u : Int)), .int .i64 (1 + (g : Int)), .int .i64 0, .int .i64 0, .int .i64 0, .int .i64 0, .slice none 0 0], 27) :: [(wA.heap.size + 1, #[.int .i64 1, .int .i64 2, .int .i64 4], 3), (wA.heap.size, #[.int .i64 0, .int .i64 0, .int .i64 m, .int .i64 (1 + (u : Int)), .int .i64 (1 + (g : Int)), .int .i64 0, .int .i64 0, .int .i64 0, .int .i64 0, .slice none 0 0], 27)]) : List (Nat × Array Value × TypeId)), x.1 ≠ w16.heap.size from fun x hx => Nat.ne_of_lt (A16.out.2.2.2 x hx).1.lt)
                  refine wp_region_held_drew (S := fun w' => AcS w (.slice a0 zs.length cap0) zs.length ((w10.heap.size, #[.int .i64 0, .int .i64 0, .int .i64 ((m ||| n : Nat) : Int), .int .i64 (1 + (u : Int)), .int .i64 (1 + (g : Int)), .int .i64 0, .int .i64 0, .int .i64 0, .int .i64 0, .slice none 0 0], 27) :: [(wA.heap.size + 1, #[.int .i64 1, .int .i64 2, .int .i64 4], 3), (wA.heap.size, #[.int .i64 0, .int .i64 0, .int .i64 m, .int .i64 (1 + (u : Int)), .int .i64 (1 + (g : Int)), .int .i64 0, .int .i64 0, .int .i64 0, .int .i64 0, .slice none 0 0], 27)]) w') (by kernel_rfl) (A17.out.drew.tail) (fun hH => ?_)
                  refine wpAnyH_take (i := 0) (oi := _) (v := .pointer (some ⟨w16.heap.size, 2, none⟩)) rfl (by kernel_rfl) (by kernel_rfl) (by kernel_rfl) (fun _ _ _ h => h) (Or.inl ⟨by rfl, fun w' hw' => by go_simp⟩) hH ?_
                  try simp only [Act.put, List.getElem_toArray, List.getElem_cons_zero, List.getElem_cons_succ, List.setIfInBounds_toArray, List.set_cons_zero, List.set_cons_succ]
                  refine wpAnyH_take (i := 2) (oi := _) (v := .int .i64 6) rfl (by kernel_rfl) (by kernel_rfl) (by kernel_rfl) (fun _ _ _ h => h) (Or.inl ⟨by rfl, fun w' hw' => by go_simp⟩) hH ?_
                  try simp only [Act.put, List.getElem_toArray, List.getElem_cons_zero, List.getElem_cons_succ, List.setIfInBounds_toArray, List.set_cons_zero, List.set_cons_succ]
                  refine wpAnyH_take (i := 3) (oi := _) (v := .int .i64 448) rfl (by kernel_rfl) (by kernel_rfl) (by kernel_rfl) (fun _ _ _ h => h) (Or.inl ⟨by rfl, fun w' hw' => by go_simp; rfl⟩) hH ?_
                  try simp only [Act.put, List.getElem_toArray, List.getElem_cons_zero, List.getElem_cons_succ, List.setIfInBounds_toArray, List.set_cons_zero, List.set_cons_succ]
                  refine wpAnyH_ready (rs := [1]) (by kernel_rfl) (by simp) ?_
                  refine AllReadyH.cons (o := _) rfl (fun K hK => ?_) AllReadyH.nil
                  have hc := (AD.out.head.cell 2).trans (show _ = some (.int .i64 (m : Int)) from rfl)
                  go_simp
                  refine hK.out _ _ hH (fun hH1 => ?_)
                  clear hK K hc
                  try simp only [Act.put, List.getElem_toArray, List.getElem_cons_zero, List.getElem_cons_succ, List.setIfInBounds_toArray, List.set_cons_zero, List.set_cons_succ]
                  refine wpAnyH_take (i := 4) (oi := _) (v := .int .i64 ((m &&& 448 : Nat) : Int)) rfl (by kernel_rfl) (by kernel_rfl) (by kernel_rfl) (fun _ _ _ h => h) (Or.inl ⟨by rfl, fun w' hw' => by have ho : bits .and .i64 (m : Int) 448 = ((m &&& 448 : Nat) : Int) := and_nat m 448 hmm (by omega); go_simp⟩) hH ?_
                  try simp only [Act.put, List.getElem_toArray, List.getElem_cons_zero, List.getElem_cons_succ, List.setIfInBounds_toArray, List.set_cons_zero, List.set_cons_succ]
                  refine wpAnyH_take (i := 5) (oi := _) (v := .pointer (some ⟨w16.heap.size, 2, none⟩)) rfl (by kernel_rfl) (by kernel_rfl) (by kernel_rfl) (fun _ _ _ h => h) (Or.inl ⟨by rfl, fun w' hw' => by go_simp⟩) hH ?_
                  try simp only [Act.put, List.getElem_toArray, List.getElem_cons_zero, List.getElem_cons_succ, List.setIfInBounds_toArray, List.set_cons_zero, List.set_cons_succ]
                  refine wpAnyH_ready (rs := [6]) (by kernel_rfl) (by simp) ?_
                  refine AllReadyH.cons (o := _) rfl (fun K hK => ?_) AllReadyH.nil
                  have hc := (AD.out.head.cell 2).trans (show _ = some (.int .i64 (m : Int)) from rfl)
                  have hf := AD.out.head.frozen 2
                  have A18 := hide ((A16.out.new #[.int .i64 0, .int .i64 0, .int .i64 ((m &&& 448 : Nat) : Int), .int .i64 (1 + (u : Int)), .int .i64 (1 + (g : Int)), .int .i64 0, .int .i64 0, .int .i64 0, .int .i64 0, .slice none 0 0] 27).drew)
                  have A18b := hide (show AcS w (.slice a0 zs.length cap0) zs.length ((w16.heap.size, #[.int .i64 0, .int .i64 0, .int .i64 ((m &&& 448 : Nat) : Int), .int .i64 (1 + (u : Int)), .int .i64 (1 + (g : Int)), .int .i64 0, .int .i64 0, .int .i64 0, .int .i64 0, .slice none 0 0], 27) :: ((w10.heap.size, #[.int .i64 0, .int .i64 0, .int .i64 ((m ||| n : Nat) : Int), .int .i64 (1 + (u : Int)), .int .i64 (1 + (g : Int)), .int .i64 0, .int .i64 0, .int .i64 0, .int .i64 0, .slice none 0 0], 27) :: [(wA.heap.size + 1, #[.int .i64 1, .int .i64 2, .int .i64 4], 3), (wA.heap.size, #[.int .i64 0, .int .i64 0, .int .i64 m, .int .i64 (1 + (u : Int)), .int .i64 (1 + (g : Int)), .int .i64 0, .int .i64 0, .int .i64 0, .int .i64 0, .slice none 0 0], 27)])) _ from A18.out)
                  go_simp
                  refine hK.out _ _ A18.out.tail (fun _ => ?_)
                  clear hK K hc hf
                  try simp only [Act.put, List.getElem_toArray, List.getElem_cons_zero, List.getElem_cons_succ, List.setIfInBounds_toArray, List.set_cons_zero, List.set_cons_succ]
                  refine wpAnyH_done (by kernel_rfl) (NoPanic.normal ?_) _
                  clear A18 AD A17 A16 hH hNe
                  go_wp2_with (first
                    | (refine wpList_load_midN (by first | rfl | (simp [Region.wanted, yielded]; done) | (simp [Region.wanted, yielded]; omega)) 27 _ rfl w16.heap.size 0 rfl (#[.int .i64 0, .int .i64 0, .int .i64 ((m &&& 448 : Nat) : Int), .int .i64 (1 + (u : Int)), .int .i64 (1 + (g : Int)), .int .i64 0, .int .i64 0, .int .i64 0, .int .i64 0, .slice none 0 0] : Array Value).toList _ (node_range A18b.out.head) Try.underlying27 rfl infoN10 ?_)
                    | (go_at_call 9; fail))
                  refine (implMay_any _ _ _ _ _ _ _ _ _ _ _ _ _ _).mono ?_
                  rintro e w19 ⟨rfl, b19⟩
                  rw [HO.out]
                  have A19 := hide ((A18b.out.below b19).tail.tail.tail.tail)
                  clear b19 A18b
                  go_wp2
                  go_round
                  case rel => exact ⟨k + 1, by omega, by go_num, A19.out⟩
                  case measure => simp [intOf]; omega
                · have hub : ((1 + (r6 : Int)) == (1 + (u : Int))) = false := by simp; omega
                  by_cases hg1 : (r7 : Int) = (g : Int)
                  · have hgb : ((1 + (r7 : Int)) == (1 + (g : Int))) = true := by simp [hg1]
                    have hsel : selS (1 + (u : Int)) (1 + (g : Int)) (1 + (r6 : Int)) (1 + (r7 : Int)) = 3 := by unfold selS; rw [if_neg (by omega), if_pos (by omega)]
                    have cu := (A16.out.tail.tail.head.cell 3).trans (show _ = some (.int .i64 (1 + (u : Int))) from rfl)
                    have cg := (A16.out.tail.tail.head.cell 4).trans (show _ = some (.int .i64 (1 + (g : Int))) from rfl)
                    have HO := hide (show mayB ((m &&& 56 : Nat) : Int) (1 + (u : Int)) (1 + (g : Int)) (1 + (r6 : Int)) (1 + (r7 : Int)) c = true from by rw [may_sel _ _ _ _ _ _ (by omega) (by omega) (by omega), hsel, HAl.out, HSs.out, hsel]; exact acc_only m 3 c (by omega))
                    have A17 := hide (A16.out.new #[.int .i64 0, .int .i64 0, .int .i64 m, .int .i64 (1 + (u : Int)), .int .i64 (1 + (g : Int)), .int .i64 0, .int .i64 0, .int .i64 0, .int .i64 0, .slice none 0 0] 27)
                    clear hsel hu1 hg1
                    go_wp2_with (first
                      | (refine wpList_load_midN (by first | rfl | (simp [Region.wanted, yielded]; done) | (simp [Region.wanted, yielded]; omega)) 27 _ rfl wA.heap.size 0 rfl (#[.int .i64 0, .int .i64 0, .int .i64 m, .int .i64 (1 + (u : Int)), .int .i64 (1 + (g : Int)), .int .i64 0, .int .i64 0, .int .i64 0, .int .i64 0, .slice none 0 0] : Array Value).toList _ (node_range A16.out.tail.tail.head) Try.underlying27 rfl infoN10 ?_)
                      | fail)
                    refine wp_region_noPanic ?_
                    have AD := hide (A17.out.drew)
                    have hNe := hide (show ∀ x ∈ (((w10.heap.size, #[.int .i64 0, .int .i64 0, .int .i64 ((m ||| n : Nat) : Int), .int .i64 (1 + (u : Int)), .int .i64 (1 + (g : Int)), .int .i64 0, .int .i64 0, .int .i64 0, .int .i64 0, .slice none 0 0], 27) :: [(wA.heap.size + 1, #[.int .i64 1, .int .i64 2, .int .i64 4], 3), (wA.heap.size, #[.int .i64 0, .int .i64 0, .int .i64 m, .int .i64 (1 + (u : Int)), .int .i64 (1 + (g : Int)), .int .i64 0, .int .i64 0, .int .i64 0, .int .i64 0, .slice none 0 0], 27)]) : List (Nat × Array Value × TypeId)), x.1 ≠ w16.heap.size from fun x hx => Nat.ne_of_lt (A16.out.2.2.2 x hx).1.lt)
                    refine wp_region_held_drew (S := fun w' => AcS w (.slice a0 zs.length cap0) zs.length ((w10.heap.size, #[.int .i64 0, .int .i64 0, .int .i64 ((m ||| n : Nat) : Int), .int .i64 (1 + (u : Int)), .int .i64 (1 + (g : Int)), .int .i64 0, .int .i64 0, .int .i64 0, .int .i64 0, .slice none 0 0], 27) :: [(wA.heap.size + 1, #[.int .i64 1, .int .i64 2, .int .i64 4], 3), (wA.heap.size, #[.int .i64 0, .int .i64 0, .int .i64 m, .int .i64 (1 + (u : Int)), .int .i64 (1 + (g : Int)), .int .i64 0, .int .i64 0, .int .i64 0, .int .i64 0, .slice none 0 0], 27)]) w') (by kernel_rfl) (A17.out.drew.tail) (fun hH => ?_)
                    refine wpAnyH_take (i := 0) (oi := _) (v := .pointer (some ⟨w16.heap.size, 2, none⟩)) rfl (by kernel_rfl) (by kernel_rfl) (by kernel_rfl) (fun _ _ _ h => h) (Or.inl ⟨by rfl, fun w' hw' => by go_simp⟩) hH ?_
                    try simp only [Act.put, List.getElem_toArray, List.getElem_cons_zero, List.getElem_cons_succ, List.setIfInBounds_toArray, List.set_cons_zero, List.set_cons_succ]
                    refine wpAnyH_take (i := 2) (oi := _) (v := .int .i64 3) rfl (by kernel_rfl) (by kernel_rfl) (by kernel_rfl) (fun _ _ _ h => h) (Or.inl ⟨by rfl, fun w' hw' => by go_simp⟩) hH ?_
                    try simp only [Act.put, List.getElem_toArray, List.getElem_cons_zero, List.getElem_cons_succ, List.setIfInBounds_toArray, List.set_cons_zero, List.set_cons_succ]
                    refine wpAnyH_take (i := 3) (oi := _) (v := .int .i64 56) rfl (by kernel_rfl) (by kernel_rfl) (by kernel_rfl) (fun _ _ _ h => h) (Or.inl ⟨by rfl, fun w' hw' => by go_simp; rfl⟩) hH ?_
                    try simp only [Act.put, List.getElem_toArray, List.getElem_cons_zero, List.getElem_cons_succ, List.setIfInBounds_toArray, List.set_cons_zero, List.set_cons_succ]
                    refine wpAnyH_ready (rs := [1]) (by kernel_rfl) (by simp) ?_
                    refine AllReadyH.cons (o := _) rfl (fun K hK => ?_) AllReadyH.nil
                    have hc := (AD.out.head.cell 2).trans (show _ = some (.int .i64 (m : Int)) from rfl)
                    go_simp
                    refine hK.out _ _ hH (fun hH1 => ?_)
                    clear hK K hc
                    try simp only [Act.put, List.getElem_toArray, List.getElem_cons_zero, List.getElem_cons_succ, List.setIfInBounds_toArray, List.set_cons_zero, List.set_cons_succ]
                    refine wpAnyH_take (i := 4) (oi := _) (v := .int .i64 ((m &&& 56 : Nat) : Int)) rfl (by kernel_rfl) (by kernel_rfl) (by kernel_rfl) (fun _ _ _ h => h) (Or.inl ⟨by rfl, fun w' hw' => by have ho : bits .and .i64 (m : Int) 56 = ((m &&& 56 : Nat) : Int) := and_nat m 56 hmm (by omega); go_simp⟩) hH ?_
                    try simp only [Act.put, List.getElem_toArray, List.getElem_cons_zero, List.getElem_cons_succ, List.setIfInBounds_toArray, List.set_cons_zero, List.set_cons_succ]
                    refine wpAnyH_take (i := 5) (oi := _) (v := .pointer (some ⟨w16.heap.size, 2, none⟩)) rfl (by kernel_rfl) (by kernel_rfl) (by kernel_rfl) (fun _ _ _ h => h) (Or.inl ⟨by rfl, fun w' hw' => by go_simp⟩) hH ?_
                    try simp only [Act.put, List.getElem_toArray, List.getElem_cons_zero, List.getElem_cons_succ, List.setIfInBounds_toArray, List.set_cons_zero, List.set_cons_succ]
                    refine wpAnyH_ready (rs := [6]) (by kernel_rfl) (by simp) ?_
                    refine AllReadyH.cons (o := _) rfl (fun K hK => ?_) AllReadyH.nil
                    have hc := (AD.out.head.cell 2).trans (show _ = some (.int .i64 (m : Int)) from rfl)
                    have hf := AD.out.head.frozen 2
                    have A18 := hide ((A16.out.new #[.int .i64 0, .int .i64 0, .int .i64 ((m &&& 56 : Nat) : Int), .int .i64 (1 + (u : Int)), .int .i64 (1 + (g : Int)), .int .i64 0, .int .i64 0, .int .i64 0, .int .i64 0, .slice none 0 0] 27).drew)
                    have A18b := hide (show AcS w (.slice a0 zs.length cap0) zs.length ((w16.heap.size, #[.int .i64 0, .int .i64 0, .int .i64 ((m &&& 56 : Nat) : Int), .int .i64 (1 + (u : Int)), .int .i64 (1 + (g : Int)), .int .i64 0, .int .i64 0, .int .i64 0, .int .i64 0, .slice none 0 0], 27) :: ((w10.heap.size, #[.int .i64 0, .int .i64 0, .int .i64 ((m ||| n : Nat) : Int), .int .i64 (1 + (u : Int)), .int .i64 (1 + (g : Int)), .int .i64 0, .int .i64 0, .int .i64 0, .int .i64 0, .slice none 0 0], 27) :: [(wA.heap.size + 1, #[.int .i64 1, .int .i64 2, .int .i64 4], 3), (wA.heap.size, #[.int .i64 0, .int .i64 0, .int .i64 m, .int .i64 (1 + (u : Int)), .int .i64 (1 + (g : Int)), .int .i64 0, .int .i64 0, .int .i64 0, .int .i64 0, .slice none 0 0], 27)])) _ from A18.out)
                    go_simp
                    refine hK.out _ _ A18.out.tail (fun _ => ?_)
                    clear hK K hc hf
                    try simp only [Act.put, List.getElem_toArray, List.getElem_cons_zero, List.getElem_cons_succ, List.setIfInBounds_toArray, List.set_cons_zero, List.set_cons_succ]
                    refine wpAnyH_done (by kernel_rfl) (NoPanic.normal ?_) _
                    clear A18 AD A17 A16 hH hNe
                    go_wp2_with (first
                      | (refine wpList_load_midN (by first | rfl | (simp [Region.wanted, yielded]; done) | (simp [Region.wanted, yielded]; omega)) 27 _ rfl w16.heap.size 0 rfl (#[.int .i64 0, .int .i64 0, .int .i64 ((m &&& 56 : Nat) : Int), .int .i64 (1 + (u : Int)), .int .i64 (1 + (g : Int)), .int .i64 0, .int .i64 0, .int .i64 0, .int .i64 0, .slice none 0 0] : Array Value).toList _ (node_range A18b.out.head) Try.underlying27 rfl infoN10 ?_)
                      | (go_at_call 9; fail))
                    refine (implMay_any _ _ _ _ _ _ _ _ _ _ _ _ _ _).mono ?_
                    rintro e w19 ⟨rfl, b19⟩
                    rw [HO.out]
                    have A19 := hide ((A18b.out.below b19).tail.tail.tail.tail)
                    clear b19 A18b
                    go_wp2
                    go_round
                    case rel => exact ⟨k + 1, by omega, by go_num, A19.out⟩
                    case measure => simp [intOf]; omega
                  · have hgb : ((1 + (r7 : Int)) == (1 + (g : Int))) = false := by simp; omega
                    have hsel : selS (1 + (u : Int)) (1 + (g : Int)) (1 + (r6 : Int)) (1 + (r7 : Int)) = 0 := by unfold selS; rw [if_neg (by omega), if_neg (by omega)]
                    have cu := (A16.out.tail.tail.head.cell 3).trans (show _ = some (.int .i64 (1 + (u : Int))) from rfl)
                    have cg := (A16.out.tail.tail.head.cell 4).trans (show _ = some (.int .i64 (1 + (g : Int))) from rfl)
                    have HO := hide (show mayB ((m &&& 7 : Nat) : Int) (1 + (u : Int)) (1 + (g : Int)) (1 + (r6 : Int)) (1 + (r7 : Int)) c = true from by rw [may_sel _ _ _ _ _ _ (by omega) (by omega) (by omega), hsel, HAl.out, HSs.out, hsel]; exact acc_only m 0 c (by omega))
                    have A17 := hide (A16.out.new #[.int .i64 0, .int .i64 0, .int .i64 m, .int .i64 (1 + (u : Int)), .int .i64 (1 + (g : Int)), .int .i64 0, .int .i64 0, .int .i64 0, .int .i64 0, .slice none 0 0] 27)
                    clear hsel hu1 hg1
                    go_wp2_with (first
                      | (refine wpList_load_midN (by first | rfl | (simp [Region.wanted, yielded]; done) | (simp [Region.wanted, yielded]; omega)) 27 _ rfl wA.heap.size 0 rfl (#[.int .i64 0, .int .i64 0, .int .i64 m, .int .i64 (1 + (u : Int)), .int .i64 (1 + (g : Int)), .int .i64 0, .int .i64 0, .int .i64 0, .int .i64 0, .slice none 0 0] : Array Value).toList _ (node_range A16.out.tail.tail.head) Try.underlying27 rfl infoN10 ?_)
                      | fail)
                    refine wp_region_noPanic ?_
                    have AD := hide (A17.out.drew)
                    have hNe := hide (show ∀ x ∈ (((w10.heap.size, #[.int .i64 0, .int .i64 0, .int .i64 ((m ||| n : Nat) : Int), .int .i64 (1 + (u : Int)), .int .i64 (1 + (g : Int)), .int .i64 0, .int .i64 0, .int .i64 0, .int .i64 0, .slice none 0 0], 27) :: [(wA.heap.size + 1, #[.int .i64 1, .int .i64 2, .int .i64 4], 3), (wA.heap.size, #[.int .i64 0, .int .i64 0, .int .i64 m, .int .i64 (1 + (u : Int)), .int .i64 (1 + (g : Int)), .int .i64 0, .int .i64 0, .int .i64 0, .int .i64 0, .slice none 0 0], 27)]) : List (Nat × Array Value × TypeId)), x.1 ≠ w16.heap.size from fun x hx => Nat.ne_of_lt (A16.out.2.2.2 x hx).1.lt)
                    refine wp_region_held_drew (S := fun w' => AcS w (.slice a0 zs.length cap0) zs.length ((w10.heap.size, #[.int .i64 0, .int .i64 0, .int .i64 ((m ||| n : Nat) : Int), .int .i64 (1 + (u : Int)), .int .i64 (1 + (g : Int)), .int .i64 0, .int .i64 0, .int .i64 0, .int .i64 0, .slice none 0 0], 27) :: [(wA.heap.size + 1, #[.int .i64 1, .int .i64 2, .int .i64 4], 3), (wA.heap.size, #[.int .i64 0, .int .i64 0, .int .i64 m, .int .i64 (1 + (u : Int)), .int .i64 (1 + (g : Int)), .int .i64 0, .int .i64 0, .int .i64 0, .int .i64 0, .slice none 0 0], 27)]) w') (by kernel_rfl) (A17.out.drew.tail) (fun hH => ?_)
                    refine wpAnyH_take (i := 0) (oi := _) (v := .pointer (some ⟨w16.heap.size, 2, none⟩)) rfl (by kernel_rfl) (by kernel_rfl) (by kernel_rfl) (fun _ _ _ h => h) (Or.inl ⟨by rfl, fun w' hw' => by go_simp⟩) hH ?_
                    try simp only [Act.put, List.getElem_toArray, List.getElem_cons_zero, List.getElem_cons_succ, List.setIfInBounds_toArray, List.set_cons_zero, List.set_cons_succ]
                    refine wpAnyH_take (i := 2) (oi := _) (v := .int .i64 0) rfl (by kernel_rfl) (by kernel_rfl) (by kernel_rfl) (fun _ _ _ h => h) (Or.inl ⟨by rfl, fun w' hw' => by go_simp⟩) hH ?_
                    try simp only [Act.put, List.getElem_toArray, List.getElem_cons_zero, List.getElem_cons_succ, List.setIfInBounds_toArray, List.set_cons_zero, List.set_cons_succ]
                    refine wpAnyH_take (i := 3) (oi := _) (v := .int .i64 7) rfl (by kernel_rfl) (by kernel_rfl) (by kernel_rfl) (fun _ _ _ h => h) (Or.inl ⟨by rfl, fun w' hw' => by go_simp; rfl⟩) hH ?_
                    try simp only [Act.put, List.getElem_toArray, List.getElem_cons_zero, List.getElem_cons_succ, List.setIfInBounds_toArray, List.set_cons_zero, List.set_cons_succ]
                    refine wpAnyH_ready (rs := [1]) (by kernel_rfl) (by simp) ?_
                    refine AllReadyH.cons (o := _) rfl (fun K hK => ?_) AllReadyH.nil
                    have hc := (AD.out.head.cell 2).trans (show _ = some (.int .i64 (m : Int)) from rfl)
                    go_simp
                    refine hK.out _ _ hH (fun hH1 => ?_)
                    clear hK K hc
                    try simp only [Act.put, List.getElem_toArray, List.getElem_cons_zero, List.getElem_cons_succ, List.setIfInBounds_toArray, List.set_cons_zero, List.set_cons_succ]
                    refine wpAnyH_take (i := 4) (oi := _) (v := .int .i64 ((m &&& 7 : Nat) : Int)) rfl (by kernel_rfl) (by kernel_rfl) (by kernel_rfl) (fun _ _ _ h => h) (Or.inl ⟨by rfl, fun w' hw' => by have ho : bits .and .i64 (m : Int) 7 = ((m &&& 7 : Nat) : Int) := and_nat m 7 hmm (by omega); go_simp⟩) hH ?_
                    try simp only [Act.put, List.getElem_toArray, List.getElem_cons_zero, List.getElem_cons_succ, List.setIfInBounds_toArray, List.set_cons_zero, List.set_cons_succ]
                    refine wpAnyH_take (i := 5) (oi := _) (v := .pointer (some ⟨w16.heap.size, 2, none⟩)) rfl (by kernel_rfl) (by kernel_rfl) (by kernel_rfl) (fun _ _ _ h => h) (Or.inl ⟨by rfl, fun w' hw' => by go_simp⟩) hH ?_
                    try simp only [Act.put, List.getElem_toArray, List.getElem_cons_zero, List.getElem_cons_succ, List.setIfInBounds_toArray, List.set_cons_zero, List.set_cons_succ]
                    refine wpAnyH_ready (rs := [6]) (by kernel_rfl) (by simp) ?_
                    refine AllReadyH.cons (o := _) rfl (fun K hK => ?_) AllReadyH.nil
                    have hc := (AD.out.head.cell 2).trans (show _ = some (.int .i64 (m : Int)) from rfl)
                    have hf := AD.out.head.frozen 2
                    have A18 := hide ((A16.out.new #[.int .i64 0, .int .i64 0, .int .i64 ((m &&& 7 : Nat) : Int), .int .i64 (1 + (u : Int)), .int .i64 (1 + (g : Int)), .int .i64 0, .int .i64 0, .int .i64 0, .int .i64 0, .slice none 0 0] 27).drew)
                    have A18b := hide (show AcS w (.slice a0 zs.length cap0) zs.length ((w16.heap.size, #[.int .i64 0, .int .i64 0, .int .i64 ((m &&& 7 : Nat) : Int), .int .i64 (1 + (u : Int)), .int .i64 (1 + (g : Int)), .int .i64 0, .int .i64 0, .int .i64 0, .int .i64 0, .slice none 0 0], 27) :: ((w10.heap.size, #[.int .i64 0, .int .i64 0, .int .i64 ((m ||| n : Nat) : Int), .int .i64 (1 + (u : Int)), .int .i64 (1 + (g : Int)), .int .i64 0, .int .i64 0, .int .i64 0, .int .i64 0, .slice none 0 0], 27) :: [(wA.heap.size + 1, #[.int .i64 1, .int .i64 2, .int .i64 4], 3), (wA.heap.size, #[.int .i64 0, .int .i64 0, .int .i64 m, .int .i64 (1 + (u : Int)), .int .i64 (1 + (g : Int)), .int .i64 0, .int .i64 0, .int .i64 0, .int .i64 0, .slice none 0 0], 27)])) _ from A18.out)
                    go_simp
                    refine hK.out _ _ A18.out.tail (fun _ => ?_)
                    clear hK K hc hf
                    try simp only [Act.put, List.getElem_toArray, List.getElem_cons_zero, List.getElem_cons_succ, List.setIfInBounds_toArray, List.set_cons_zero, List.set_cons_succ]
                    refine wpAnyH_done (by kernel_rfl) (NoPanic.normal ?_) _
                    clear A18 AD A17 A16 hH hNe
                    go_wp2_with (first
                      | (refine wpList_load_midN (by first | rfl | (simp [Region.wanted, yielded]; done) | (simp [Region.wanted, yielded]; omega)) 27 _ rfl w16.heap.size 0 rfl (#[.int .i64 0, .int .i64 0, .int .i64 ((m &&& 7 : Nat) : Int), .int .i64 (1 + (u : Int)), .int .i64 (1 + (g : Int)), .int .i64 0, .int .i64 0, .int .i64 0, .int .i64 0, .slice none 0 0] : Array Value).toList _ (node_range A18b.out.head) Try.underlying27 rfl infoN10 ?_)
                      | (go_at_call 9; fail))
                    refine (implMay_any _ _ _ _ _ _ _ _ _ _ _ _ _ _).mono ?_
                    rintro e w19 ⟨rfl, b19⟩
                    rw [HO.out]
                    have A19 := hide ((A18b.out.below b19).tail.tail.tail.tail)
                    clear b19 A18b
                    go_wp2
                    go_round
                    case rel => exact ⟨k + 1, by omega, by go_num, A19.out⟩
                    case measure => simp [intOf]; omega
              | false =>
                have A16 := hide A15.out
                clear A15
                by_cases hu1 : (r6 : Int) = (u : Int)
                · have hub : ((1 + (r6 : Int)) == (1 + (u : Int))) = true := by simp [hu1]
                  have hsel : selS (1 + (u : Int)) (1 + (g : Int)) (1 + (r6 : Int)) (1 + (r7 : Int)) = 6 := by unfold selS; rw [if_pos (by omega)]
                  have cu := (A16.out.tail.tail.head.cell 3).trans (show _ = some (.int .i64 (1 + (u : Int))) from rfl)
                  have cg := (A16.out.tail.tail.head.cell 4).trans (show _ = some (.int .i64 (1 + (g : Int))) from rfl)
                  have HO := hide (show mayB ((m &&& 448 : Nat) : Int) (1 + (u : Int)) (1 + (g : Int)) (1 + (r6 : Int)) (1 + (r7 : Int)) c = false from by rw [may_sel _ _ _ _ _ _ (by omega) (by omega) (by omega), hsel, HAl.out, HSs.out, hsel]; exact acc_only m 6 c (by omega))
                  have A17 := hide (A16.out.new #[.int .i64 0, .int .i64 0, .int .i64 m, .int .i64 (1 + (u : Int)), .int .i64 (1 + (g : Int)), .int .i64 0, .int .i64 0, .int .i64 0, .int .i64 0, .slice none 0 0] 27)
                  clear hsel hu1
                  go_wp2_with (first
                    | (refine wpList_load_midN (by first | rfl | (simp [Region.wanted, yielded]; done) | (simp [Region.wanted, yielded]; omega)) 27 _ rfl wA.heap.size 0 rfl (#[.int .i64 0, .int .i64 0, .int .i64 m, .int .i64 (1 + (u : Int)), .int .i64 (1 + (g : Int)), .int .i64 0, .int .i64 0, .int .i64 0, .int .i64 0, .slice none 0 0] : Array Value).toList _ (node_range A16.out.tail.tail.head) Try.underlying27 rfl infoN10 ?_)
                    | fail)
                  refine wp_region_noPanic ?_
                  have AD := hide (A17.out.drew)
                  have hNe := hide (show ∀ x ∈ (((w10.heap.size, #[.int .i64 0, .int .i64 0, .int .i64 ((m ||| n : Nat) : Int), .int .i64 (1 + (u : Int)), .int .i64 (1 + (g : Int)), .int .i64 0, .int .i64 0, .int .i64 0, .int .i64 0, .slice none 0 0], 27) :: [(wA.heap.size + 1, #[.int .i64 1, .int .i64 2, .int .i64 4], 3), (wA.heap.size, #[.int .i64 0, .int .i64 0, .int .i64 m, .int .i64 (1 + (u : Int)), .int .i64 (1 + (g : Int)), .int .i64 0, .int .i64 0, .int .i64 0, .int .i64 0, .slice none 0 0], 27)]) : List (Nat × Array Value × TypeId)), x.1 ≠ wc.heap.size from fun x hx => Nat.ne_of_lt (A16.out.2.2.2 x hx).1.lt)
                  refine wp_region_held_drew (S := fun w' => AcS w (.slice a0 zs.length cap0) zs.length ((w10.heap.size, #[.int .i64 0, .int .i64 0, .int .i64 ((m ||| n : Nat) : Int), .int .i64 (1 + (u : Int)), .int .i64 (1 + (g : Int)), .int .i64 0, .int .i64 0, .int .i64 0, .int .i64 0, .slice none 0 0], 27) :: [(wA.heap.size + 1, #[.int .i64 1, .int .i64 2, .int .i64 4], 3), (wA.heap.size, #[.int .i64 0, .int .i64 0, .int .i64 m, .int .i64 (1 + (u : Int)), .int .i64 (1 + (g : Int)), .int .i64 0, .int .i64 0, .int .i64 0, .int .i64 0, .slice none 0 0], 27)]) w') (by kernel_rfl) (A17.out.drew.tail) (fun hH => ?_)
                  refine wpAnyH_take (i := 0) (oi := _) (v := .pointer (some ⟨wc.heap.size, 2, none⟩)) rfl (by kernel_rfl) (by kernel_rfl) (by kernel_rfl) (fun _ _ _ h => h) (Or.inl ⟨by rfl, fun w' hw' => by go_simp⟩) hH ?_
                  try simp only [Act.put, List.getElem_toArray, List.getElem_cons_zero, List.getElem_cons_succ, List.setIfInBounds_toArray, List.set_cons_zero, List.set_cons_succ]
                  refine wpAnyH_take (i := 2) (oi := _) (v := .int .i64 6) rfl (by kernel_rfl) (by kernel_rfl) (by kernel_rfl) (fun _ _ _ h => h) (Or.inl ⟨by rfl, fun w' hw' => by go_simp⟩) hH ?_
                  try simp only [Act.put, List.getElem_toArray, List.getElem_cons_zero, List.getElem_cons_succ, List.setIfInBounds_toArray, List.set_cons_zero, List.set_cons_succ]
                  refine wpAnyH_take (i := 3) (oi := _) (v := .int .i64 448) rfl (by kernel_rfl) (by kernel_rfl) (by kernel_rfl) (fun _ _ _ h => h) (Or.inl ⟨by rfl, fun w' hw' => by go_simp; rfl⟩) hH ?_
                  try simp only [Act.put, List.getElem_toArray, List.getElem_cons_zero, List.getElem_cons_succ, List.setIfInBounds_toArray, List.set_cons_zero, List.set_cons_succ]
                  refine wpAnyH_ready (rs := [1]) (by kernel_rfl) (by simp) ?_
                  refine AllReadyH.cons (o := _) rfl (fun K hK => ?_) AllReadyH.nil
                  have hc := (AD.out.head.cell 2).trans (show _ = some (.int .i64 (m : Int)) from rfl)
                  go_simp
                  refine hK.out _ _ hH (fun hH1 => ?_)
                  clear hK K hc
                  try simp only [Act.put, List.getElem_toArray, List.getElem_cons_zero, List.getElem_cons_succ, List.setIfInBounds_toArray, List.set_cons_zero, List.set_cons_succ]
                  refine wpAnyH_take (i := 4) (oi := _) (v := .int .i64 ((m &&& 448 : Nat) : Int)) rfl (by kernel_rfl) (by kernel_rfl) (by kernel_rfl) (fun _ _ _ h => h) (Or.inl ⟨by rfl, fun w' hw' => by have ho : bits .and .i64 (m : Int) 448 = ((m &&& 448 : Nat) : Int) := and_nat m 448 hmm (by omega); go_simp⟩) hH ?_
                  try simp only [Act.put, List.getElem_toArray, List.getElem_cons_zero, List.getElem_cons_succ, List.setIfInBounds_toArray, List.set_cons_zero, List.set_cons_succ]
                  refine wpAnyH_take (i := 5) (oi := _) (v := .pointer (some ⟨wc.heap.size, 2, none⟩)) rfl (by kernel_rfl) (by kernel_rfl) (by kernel_rfl) (fun _ _ _ h => h) (Or.inl ⟨by rfl, fun w' hw' => by go_simp⟩) hH ?_
                  try simp only [Act.put, List.getElem_toArray, List.getElem_cons_zero, List.getElem_cons_succ, List.setIfInBounds_toArray, List.set_cons_zero, List.set_cons_succ]
                  refine wpAnyH_ready (rs := [6]) (by kernel_rfl) (by simp) ?_
                  refine AllReadyH.cons (o := _) rfl (fun K hK => ?_) AllReadyH.nil
                  have hc := (AD.out.head.cell 2).trans (show _ = some (.int .i64 (m : Int)) from rfl)
                  have hf := AD.out.head.frozen 2
                  have A18 := hide ((A16.out.new #[.int .i64 0, .int .i64 0, .int .i64 ((m &&& 448 : Nat) : Int), .int .i64 (1 + (u : Int)), .int .i64 (1 + (g : Int)), .int .i64 0, .int .i64 0, .int .i64 0, .int .i64 0, .slice none 0 0] 27).drew)
                  have A18b := hide (show AcS w (.slice a0 zs.length cap0) zs.length ((wc.heap.size, #[.int .i64 0, .int .i64 0, .int .i64 ((m &&& 448 : Nat) : Int), .int .i64 (1 + (u : Int)), .int .i64 (1 + (g : Int)), .int .i64 0, .int .i64 0, .int .i64 0, .int .i64 0, .slice none 0 0], 27) :: ((w10.heap.size, #[.int .i64 0, .int .i64 0, .int .i64 ((m ||| n : Nat) : Int), .int .i64 (1 + (u : Int)), .int .i64 (1 + (g : Int)), .int .i64 0, .int .i64 0, .int .i64 0, .int .i64 0, .slice none 0 0], 27) :: [(wA.heap.size + 1, #[.int .i64 1, .int .i64 2, .int .i64 4], 3), (wA.heap.size, #[.int .i64 0, .int .i64 0, .int .i64 m, .int .i64 (1 + (u : Int)), .int .i64 (1 + (g : Int)), .int .i64 0, .int .i64 0, .int .i64 0, .int .i64 0, .slice none 0 0], 27)])) _ from A18.out)
                  go_simp
                  refine hK.out _ _ A18.out.tail (fun _ => ?_)
                  clear hK K hc hf
                  try simp only [Act.put, List.getElem_toArray, List.getElem_cons_zero, List.getElem_cons_succ, List.setIfInBounds_toArray, List.set_cons_zero, List.set_cons_succ]
                  refine wpAnyH_done (by kernel_rfl) (NoPanic.normal ?_) _
                  clear A18 AD A17 A16 hH hNe
                  go_wp2_with (first
                    | (refine wpList_load_midN (by first | rfl | (simp [Region.wanted, yielded]; done) | (simp [Region.wanted, yielded]; omega)) 27 _ rfl wc.heap.size 0 rfl (#[.int .i64 0, .int .i64 0, .int .i64 ((m &&& 448 : Nat) : Int), .int .i64 (1 + (u : Int)), .int .i64 (1 + (g : Int)), .int .i64 0, .int .i64 0, .int .i64 0, .int .i64 0, .slice none 0 0] : Array Value).toList _ (node_range A18b.out.head) Try.underlying27 rfl infoN10 ?_)
                    | (go_at_call 9; fail))
                  refine (implMay_any _ _ _ _ _ _ _ _ _ _ _ _ _ _).mono ?_
                  rintro e w19 ⟨rfl, b19⟩
                  rw [HO.out]
                  have A19 := hide ((A18b.out.below b19).tail.tail.tail.tail)
                  clear b19 A18b
                  go_wp2
                  go_round
                  case rel => exact ⟨k + 1, by omega, by go_num, A19.out⟩
                  case measure => simp [intOf]; omega
                · have hub : ((1 + (r6 : Int)) == (1 + (u : Int))) = false := by simp; omega
                  by_cases hg1 : (r7 : Int) = (g : Int)
                  · have hgb : ((1 + (r7 : Int)) == (1 + (g : Int))) = true := by simp [hg1]
                    have hsel : selS (1 + (u : Int)) (1 + (g : Int)) (1 + (r6 : Int)) (1 + (r7 : Int)) = 3 := by unfold selS; rw [if_neg (by omega), if_pos (by omega)]
                    have cu := (A16.out.tail.tail.head.cell 3).trans (show _ = some (.int .i64 (1 + (u : Int))) from rfl)
                    have cg := (A16.out.tail.tail.head.cell 4).trans (show _ = some (.int .i64 (1 + (g : Int))) from rfl)
                    have HO := hide (show mayB ((m &&& 56 : Nat) : Int) (1 + (u : Int)) (1 + (g : Int)) (1 + (r6 : Int)) (1 + (r7 : Int)) c = false from by rw [may_sel _ _ _ _ _ _ (by omega) (by omega) (by omega), hsel, HAl.out, HSs.out, hsel]; exact acc_only m 3 c (by omega))
                    have A17 := hide (A16.out.new #[.int .i64 0, .int .i64 0, .int .i64 m, .int .i64 (1 + (u : Int)), .int .i64 (1 + (g : Int)), .int .i64 0, .int .i64 0, .int .i64 0, .int .i64 0, .slice none 0 0] 27)
                    clear hsel hu1 hg1
                    go_wp2_with (first
                      | (refine wpList_load_midN (by first | rfl | (simp [Region.wanted, yielded]; done) | (simp [Region.wanted, yielded]; omega)) 27 _ rfl wA.heap.size 0 rfl (#[.int .i64 0, .int .i64 0, .int .i64 m, .int .i64 (1 + (u : Int)), .int .i64 (1 + (g : Int)), .int .i64 0, .int .i64 0, .int .i64 0, .int .i64 0, .slice none 0 0] : Array Value).toList _ (node_range A16.out.tail.tail.head) Try.underlying27 rfl infoN10 ?_)
                      | fail)
                    refine wp_region_noPanic ?_
                    have AD := hide (A17.out.drew)
                    have hNe := hide (show ∀ x ∈ (((w10.heap.size, #[.int .i64 0, .int .i64 0, .int .i64 ((m ||| n : Nat) : Int), .int .i64 (1 + (u : Int)), .int .i64 (1 + (g : Int)), .int .i64 0, .int .i64 0, .int .i64 0, .int .i64 0, .slice none 0 0], 27) :: [(wA.heap.size + 1, #[.int .i64 1, .int .i64 2, .int .i64 4], 3), (wA.heap.size, #[.int .i64 0, .int .i64 0, .int .i64 m, .int .i64 (1 + (u : Int)), .int .i64 (1 + (g : Int)), .int .i64 0, .int .i64 0, .int .i64 0, .int .i64 0, .slice none 0 0], 27)]) : List (Nat × Array Value × TypeId)), x.1 ≠ wc.heap.size from fun x hx => Nat.ne_of_lt (A16.out.2.2.2 x hx).1.lt)
                    refine wp_region_held_drew (S := fun w' => AcS w (.slice a0 zs.length cap0) zs.length ((w10.heap.size, #[.int .i64 0, .int .i64 0, .int .i64 ((m ||| n : Nat) : Int), .int .i64 (1 + (u : Int)), .int .i64 (1 + (g : Int)), .int .i64 0, .int .i64 0, .int .i64 0, .int .i64 0, .slice none 0 0], 27) :: [(wA.heap.size + 1, #[.int .i64 1, .int .i64 2, .int .i64 4], 3), (wA.heap.size, #[.int .i64 0, .int .i64 0, .int .i64 m, .int .i64 (1 + (u : Int)), .int .i64 (1 + (g : Int)), .int .i64 0, .int .i64 0, .int .i64 0, .int .i64 0, .slice none 0 0], 27)]) w') (by kernel_rfl) (A17.out.drew.tail) (fun hH => ?_)
                    refine wpAnyH_take (i := 0) (oi := _) (v := .pointer (some ⟨wc.heap.size, 2, none⟩)) rfl (by kernel_rfl) (by kernel_rfl) (by kernel_rfl) (fun _ _ _ h => h) (Or.inl ⟨by rfl, fun w' hw' => by go_simp⟩) hH ?_
                    try simp only [Act.put, List.getElem_toArray, List.getElem_cons_zero, List.getElem_cons_succ, List.setIfInBounds_toArray, List.set_cons_zero, List.set_cons_succ]
                    refine wpAnyH_take (i := 2) (oi := _) (v := .int .i64 3) rfl (by kernel_rfl) (by kernel_rfl) (by kernel_rfl) (fun _ _ _ h => h) (Or.inl ⟨by rfl, fun w' hw' => by go_simp⟩) hH ?_
                    try simp only [Act.put, List.getElem_toArray, List.getElem_cons_zero, List.getElem_cons_succ, List.setIfInBounds_toArray, List.set_cons_zero, List.set_cons_succ]
                    refine wpAnyH_take (i := 3) (oi := _) (v := .int .i64 56) rfl (by kernel_rfl) (by kernel_rfl) (by kernel_rfl) (fun _ _ _ h => h) (Or.inl ⟨by rfl, fun w' hw' => by go_simp; rfl⟩) hH ?_
                    try simp only [Act.put, List.getElem_toArray, List.getElem_cons_zero, List.getElem_cons_succ, List.setIfInBounds_toArray, List.set_cons_zero, List.set_cons_succ]
                    refine wpAnyH_ready (rs := [1]) (by kernel_rfl) (by simp) ?_
                    refine AllReadyH.cons (o := _) rfl (fun K hK => ?_) AllReadyH.nil
                    have hc := (AD.out.head.cell 2).trans (show _ = some (.int .i64 (m : Int)) from rfl)
                    go_simp
                    refine hK.out _ _ hH (fun hH1 => ?_)
                    clear hK K hc
                    try simp only [Act.put, List.getElem_toArray, List.getElem_cons_zero, List.getElem_cons_succ, List.setIfInBounds_toArray, List.set_cons_zero, List.set_cons_succ]
                    refine wpAnyH_take (i := 4) (oi := _) (v := .int .i64 ((m &&& 56 : Nat) : Int)) rfl (by kernel_rfl) (by kernel_rfl) (by kernel_rfl) (fun _ _ _ h => h) (Or.inl ⟨by rfl, fun w' hw' => by have ho : bits .and .i64 (m : Int) 56 = ((m &&& 56 : Nat) : Int) := and_nat m 56 hmm (by omega); go_simp⟩) hH ?_
                    try simp only [Act.put, List.getElem_toArray, List.getElem_cons_zero, List.getElem_cons_succ, List.setIfInBounds_toArray, List.set_cons_zero, List.set_cons_succ]
                    refine wpAnyH_take (i := 5) (oi := _) (v := .pointer (some ⟨wc.heap.size, 2, none⟩)) rfl (by kernel_rfl) (by kernel_rfl) (by kernel_rfl) (fun _ _ _ h => h) (Or.inl ⟨by rfl, fun w' hw' => by go_simp⟩) hH ?_
                    try simp only [Act.put, List.getElem_toArray, List.getElem_cons_zero, List.getElem_cons_succ, List.setIfInBounds_toArray, List.set_cons_zero, List.set_cons_succ]
                    refine wpAnyH_ready (rs := [6]) (by kernel_rfl) (by simp) ?_
                    refine AllReadyH.cons (o := _) rfl (fun K hK => ?_) AllReadyH.nil
                    have hc := (AD.out.head.cell 2).trans (show _ = some (.int .i64 (m : Int)) from rfl)
                    have hf := AD.out.head.frozen 2
                    have A18 := hide ((A16.out.new #[.int .i64 0, .int .i64 0, .int .i64 ((m &&& 56 : Nat) : Int), .int .i64 (1 + (u : Int)), .int .i64 (1 + (g : Int)), .int .i64 0, .int .i64 0, .int .i64 0, .int .i64 0, .slice none 0 0] 27).drew)
                    have A18b := hide (show AcS w (.slice a0 zs.length cap0) zs.length ((wc.heap.size, #[.int .i64 0, .int .i64 0, .int .i64 ((m &&& 56 : Nat) : Int), .int .i64 (1 + (u : Int)), .int .i64 (1 + (g : Int)), .int .i64 0, .int .i64 0, .int .i64 0, .int .i64 0, .slice none 0 0], 27) :: ((w10.heap.size, #[.int .i64 0, .int .i64 0, .int .i64 ((m ||| n : Nat) : Int), .int .i64 (1 + (u : Int)), .int .i64 (1 + (g : Int)), .int .i64 0, .int .i64 0, .int .i64 0, .int .i64 0, .slice none 0 0], 27) :: [(wA.heap.size + 1, #[.int .i64 1, .int .i64 2, .int .i64 4], 3), (wA.heap.size, #[.int .i64 0, .int .i64 0, .int .i64 m, .int .i64 (1 + (u : Int)), .int .i64 (1 + (g : Int)), .int .i64 0, .int .i64 0, .int .i64 0, .int .i64 0, .slice none 0 0], 27)])) _ from A18.out)
                    go_simp
                    refine hK.out _ _ A18.out.tail (fun _ => ?_)
                    clear hK K hc hf
                    try simp only [Act.put, List.getElem_toArray, List.getElem_cons_zero, List.getElem_cons_succ, List.setIfInBounds_toArray, List.set_cons_zero, List.set_cons_succ]
                    refine wpAnyH_done (by kernel_rfl) (NoPanic.normal ?_) _
                    clear A18 AD A17 A16 hH hNe
                    go_wp2_with (first
                      | (refine wpList_load_midN (by first | rfl | (simp [Region.wanted, yielded]; done) | (simp [Region.wanted, yielded]; omega)) 27 _ rfl wc.heap.size 0 rfl (#[.int .i64 0, .int .i64 0, .int .i64 ((m &&& 56 : Nat) : Int), .int .i64 (1 + (u : Int)), .int .i64 (1 + (g : Int)), .int .i64 0, .int .i64 0, .int .i64 0, .int .i64 0, .slice none 0 0] : Array Value).toList _ (node_range A18b.out.head) Try.underlying27 rfl infoN10 ?_)
                      | (go_at_call 9; fail))
                    refine (implMay_any _ _ _ _ _ _ _ _ _ _ _ _ _ _).mono ?_
                    rintro e w19 ⟨rfl, b19⟩
                    rw [HO.out]
                    have A19 := hide ((A18b.out.below b19).tail.tail.tail.tail)
                    clear b19 A18b
                    go_wp2
                    go_round
                    case rel => exact ⟨k + 1, by omega, by go_num, A19.out⟩
                    case measure => simp [intOf]; omega
                  · have hgb : ((1 + (r7 : Int)) == (1 + (g : Int))) = false := by simp; omega
                    have hsel : selS (1 + (u : Int)) (1 + (g : Int)) (1 + (r6 : Int)) (1 + (r7 : Int)) = 0 := by unfold selS; rw [if_neg (by omega), if_neg (by omega)]
                    have cu := (A16.out.tail.tail.head.cell 3).trans (show _ = some (.int .i64 (1 + (u : Int))) from rfl)
                    have cg := (A16.out.tail.tail.head.cell 4).trans (show _ = some (.int .i64 (1 + (g : Int))) from rfl)
                    have HO := hide (show mayB ((m &&& 7 : Nat) : Int) (1 + (u : Int)) (1 + (g : Int)) (1 + (r6 : Int)) (1 + (r7 : Int)) c = false from by rw [may_sel _ _ _ _ _ _ (by omega) (by omega) (by omega), hsel, HAl.out, HSs.out, hsel]; exact acc_only m 0 c (by omega))
                    have A17 := hide (A16.out.new #[.int .i64 0, .int .i64 0, .int .i64 m, .int .i64 (1 + (u : Int)), .int .i64 (1 + (g : Int)), .int .i64 0, .int .i64 0, .int .i64 0, .int .i64 0, .slice none 0 0] 27)
                    clear hsel hu1 hg1
                    go_wp2_with (first
                      | (refine wpList_load_midN (by first | rfl | (simp [Region.wanted, yielded]; done) | (simp [Region.wanted, yielded]; omega)) 27 _ rfl wA.heap.size 0 rfl (#[.int .i64 0, .int .i64 0, .int .i64 m, .int .i64 (1 + (u : Int)), .int .i64 (1 + (g : Int)), .int .i64 0, .int .i64 0, .int .i64 0, .int .i64 0, .slice none 0 0] : Array Value).toList _ (node_range A16.out.tail.tail.head) Try.underlying27 rfl infoN10 ?_)
                      | fail)
                    refine wp_region_noPanic ?_
                    have AD := hide (A17.out.drew)
                    have hNe := hide (show ∀ x ∈ (((w10.heap.size, #[.int .i64 0, .int .i64 0, .int .i64 ((m ||| n : Nat) : Int), .int .i64 (1 + (u : Int)), .int .i64 (1 + (g : Int)), .int .i64 0, .int .i64 0, .int .i64 0, .int .i64 0, .slice none 0 0], 27) :: [(wA.heap.size + 1, #[.int .i64 1, .int .i64 2, .int .i64 4], 3), (wA.heap.size, #[.int .i64 0, .int .i64 0, .int .i64 m, .int .i64 (1 + (u : Int)), .int .i64 (1 + (g : Int)), .int .i64 0, .int .i64 0, .int .i64 0, .int .i64 0, .slice none 0 0], 27)]) : List (Nat × Array Value × TypeId)), x.1 ≠ wc.heap.size from fun x hx => Nat.ne_of_lt (A16.out.2.2.2 x hx).1.lt)
                    refine wp_region_held_drew (S := fun w' => AcS w (.slice a0 zs.length cap0) zs.length ((w10.heap.size, #[.int .i64 0, .int .i64 0, .int .i64 ((m ||| n : Nat) : Int), .int .i64 (1 + (u : Int)), .int .i64 (1 + (g : Int)), .int .i64 0, .int .i64 0, .int .i64 0, .int .i64 0, .slice none 0 0], 27) :: [(wA.heap.size + 1, #[.int .i64 1, .int .i64 2, .int .i64 4], 3), (wA.heap.size, #[.int .i64 0, .int .i64 0, .int .i64 m, .int .i64 (1 + (u : Int)), .int .i64 (1 + (g : Int)), .int .i64 0, .int .i64 0, .int .i64 0, .int .i64 0, .slice none 0 0], 27)]) w') (by kernel_rfl) (A17.out.drew.tail) (fun hH => ?_)
                    refine wpAnyH_take (i := 0) (oi := _) (v := .pointer (some ⟨wc.heap.size, 2, none⟩)) rfl (by kernel_rfl) (by kernel_rfl) (by kernel_rfl) (fun _ _ _ h => h) (Or.inl ⟨by rfl, fun w' hw' => by go_simp⟩) hH ?_
                    try simp only [Act.put, List.getElem_toArray, List.getElem_cons_zero, List.getElem_cons_succ, List.setIfInBounds_toArray, List.set_cons_zero, List.set_cons_succ]
                    refine wpAnyH_take (i := 2) (oi := _) (v := .int .i64 0) rfl (by kernel_rfl) (by kernel_rfl) (by kernel_rfl) (fun _ _ _ h => h) (Or.inl ⟨by rfl, fun w' hw' => by go_simp⟩) hH ?_
                    try simp only [Act.put, List.getElem_toArray, List.getElem_cons_zero, List.getElem_cons_succ, List.setIfInBounds_toArray, List.set_cons_zero, List.set_cons_succ]
                    refine wpAnyH_take (i := 3) (oi := _) (v := .int .i64 7) rfl (by kernel_rfl) (by kernel_rfl) (by kernel_rfl) (fun _ _ _ h => h) (Or.inl ⟨by rfl, fun w' hw' => by go_simp; rfl⟩) hH ?_
                    try simp only [Act.put, List.getElem_toArray, List.getElem_cons_zero, List.getElem_cons_succ, List.setIfInBounds_toArray, List.set_cons_zero, List.set_cons_succ]
                    refine wpAnyH_ready (rs := [1]) (by kernel_rfl) (by simp) ?_
                    refine AllReadyH.cons (o := _) rfl (fun K hK => ?_) AllReadyH.nil
                    have hc := (AD.out.head.cell 2).trans (show _ = some (.int .i64 (m : Int)) from rfl)
                    go_simp
                    refine hK.out _ _ hH (fun hH1 => ?_)
                    clear hK K hc
                    try simp only [Act.put, List.getElem_toArray, List.getElem_cons_zero, List.getElem_cons_succ, List.setIfInBounds_toArray, List.set_cons_zero, List.set_cons_succ]
                    refine wpAnyH_take (i := 4) (oi := _) (v := .int .i64 ((m &&& 7 : Nat) : Int)) rfl (by kernel_rfl) (by kernel_rfl) (by kernel_rfl) (fun _ _ _ h => h) (Or.inl ⟨by rfl, fun w' hw' => by have ho : bits .and .i64 (m : Int) 7 = ((m &&& 7 : Nat) : Int) := and_nat m 7 hmm (by omega); go_simp⟩) hH ?_
                    try simp only [Act.put, List.getElem_toArray, List.getElem_cons_zero, List.getElem_cons_succ, List.setIfInBounds_toArray, List.set_cons_zero, List.set_cons_succ]
                    refine wpAnyH_take (i := 5) (oi := _) (v := .pointer (some ⟨wc.heap.size, 2, none⟩)) rfl (by kernel_rfl) (by kernel_rfl) (by kernel_rfl) (fun _ _ _ h => h) (Or.inl ⟨by rfl, fun w' hw' => by go_simp⟩) hH ?_
                    try simp only [Act.put, List.getElem_toArray, List.getElem_cons_zero, List.getElem_cons_succ, List.setIfInBounds_toArray, List.set_cons_zero, List.set_cons_succ]
                    refine wpAnyH_ready (rs := [6]) (by kernel_rfl) (by simp) ?_
                    refine AllReadyH.cons (o := _) rfl (fun K hK => ?_) AllReadyH.nil
                    have hc := (AD.out.head.cell 2).trans (show _ = some (.int .i64 (m : Int)) from rfl)
                    have hf := AD.out.head.frozen 2
                    have A18 := hide ((A16.out.new #[.int .i64 0, .int .i64 0, .int .i64 ((m &&& 7 : Nat) : Int), .int .i64 (1 + (u : Int)), .int .i64 (1 + (g : Int)), .int .i64 0, .int .i64 0, .int .i64 0, .int .i64 0, .slice none 0 0] 27).drew)
                    have A18b := hide (show AcS w (.slice a0 zs.length cap0) zs.length ((wc.heap.size, #[.int .i64 0, .int .i64 0, .int .i64 ((m &&& 7 : Nat) : Int), .int .i64 (1 + (u : Int)), .int .i64 (1 + (g : Int)), .int .i64 0, .int .i64 0, .int .i64 0, .int .i64 0, .slice none 0 0], 27) :: ((w10.heap.size, #[.int .i64 0, .int .i64 0, .int .i64 ((m ||| n : Nat) : Int), .int .i64 (1 + (u : Int)), .int .i64 (1 + (g : Int)), .int .i64 0, .int .i64 0, .int .i64 0, .int .i64 0, .slice none 0 0], 27) :: [(wA.heap.size + 1, #[.int .i64 1, .int .i64 2, .int .i64 4], 3), (wA.heap.size, #[.int .i64 0, .int .i64 0, .int .i64 m, .int .i64 (1 + (u : Int)), .int .i64 (1 + (g : Int)), .int .i64 0, .int .i64 0, .int .i64 0, .int .i64 0, .slice none 0 0], 27)])) _ from A18.out)
                    go_simp
                    refine hK.out _ _ A18.out.tail (fun _ => ?_)
                    clear hK K hc hf
                    try simp only [Act.put, List.getElem_toArray, List.getElem_cons_zero, List.getElem_cons_succ, List.setIfInBounds_toArray, List.set_cons_zero, List.set_cons_succ]
                    refine wpAnyH_done (by kernel_rfl) (NoPanic.normal ?_) _
                    clear A18 AD A17 A16 hH hNe
                    go_wp2_with (first
                      | (refine wpList_load_midN (by first | rfl | (simp [Region.wanted, yielded]; done) | (simp [Region.wanted, yielded]; omega)) 27 _ rfl wc.heap.size 0 rfl (#[.int .i64 0, .int .i64 0, .int .i64 ((m &&& 7 : Nat) : Int), .int .i64 (1 + (u : Int)), .int .i64 (1 + (g : Int)), .int .i64 0, .int .i64 0, .int .i64 0, .int .i64 0, .slice none 0 0] : Array Value).toList _ (node_range A18b.out.head) Try.underlying27 rfl infoN10 ?_)
                      | (go_at_call 9; fail))
                    refine (implMay_any _ _ _ _ _ _ _ _ _ _ _ _ _ _).mono ?_
                    rintro e w19 ⟨rfl, b19⟩
                    rw [HO.out]
                    have A19 := hide ((A18b.out.below b19).tail.tail.tail.tail)
                    clear b19 A18b
                    go_wp2
                    go_round
                    case rel => exact ⟨k + 1, by omega, by go_num, A19.out⟩
                    case measure => simp [intOf]; omega
      · go_wp2
        go_ret
        exact ⟨rfl, A2.out.2.1⟩
end Go.Proofs.Ytdkdmakjkodomaa
