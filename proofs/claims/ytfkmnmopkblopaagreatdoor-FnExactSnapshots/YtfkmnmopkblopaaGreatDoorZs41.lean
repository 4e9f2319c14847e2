/- The model's DecodeSnap. -/
import Derived.Test.YtfkmnmopkblopaaGreatDoorZs30
import Derived.Test.YtfkmnmopkblopaaGreatDoorZs36
import Derived.Test.YtfkmnmopkblopaaGreatDoorZs33
import Derived.Test.YtfkmnmopkblopaaGreatDoorZs35
import Derived.Test.YtfkmnmopkblopaaGreatDoorZs20
import Derived.Laws.BytesArg
namespace Go.Proofs.YtfkmnmopkblopaaGreatDoor
set_option linter.unusedVariables false
set_option linter.unusedSimpArgs false
open Go.RowKit

theorem build_sn12 (x0 : Int) (nm : ByteArray) (x2 x3 s1 a0 a1 a2 a3 a4 a5 a6 a7 a8 a9 a10 a11 p1 q1 : Int) :
    Tryz.prog.built 41 [(0, .int .i64 x0), (1, .string nm), (2, .int .i64 x2), (3, .int .i64 x3), (4, .agg (cellsI (rootI s1 [a0, a1, a2, a3, a4, a5, a6, a7, a8, a9, a10, a11] p1 q1)))] = some (snapC x0 nm x2 x3 s1 [a0, a1, a2, a3, a4, a5, a6, a7, a8, a9, a10, a11] p1 q1) := by kernel_rfl
theorem build_sn (x0 : Int) (nm : ByteArray) (x2 x3 s1 : Int) (ds1 : List Int) (p1 q1 : Int) (h1 : ds1.length = 12) :
    Tryz.prog.built 41 [(0, .int .i64 x0), (1, .string nm), (2, .int .i64 x2), (3, .int .i64 x3), (4, .agg (cellsI (rootI s1 ds1 p1 q1)))] = some (snapC x0 nm x2 x3 s1 ds1 p1 q1) := by
  match ds1, h1 with
  | [a0, a1, a2, a3, a4, a5, a6, a7, a8, a9, a10, a11], _ => exact build_sn12 _ _ _ _ _ _ _ _ _ _ _ _ _ _ _ _ _ _ _
/-- What the region of the model's DecodeSnap holds: the snapshot's cell, once it is made and once it is filled. -/
def SSn (W : World) (XF : Array Value) (listed : Array Bool) (a : Act) (w : World) : Prop :=
  Below W.heap.size W w ∧ listed.size = 23 ∧ a.tmps.size = 54 ∧ (listed.getD 22 false = true → listed.getD 21 false = true) ∧ (listed.getD 21 false = true → ∃ g, a.tmps.getD 4 undef = .pointer (some ⟨g, 0, none⟩) ∧ W.heap.size ≤ g ∧ Blk w g (if listed.getD 22 false = true then XF else noSn) 41)
theorem SSn.keep {W : World} {XF : Array Value} {listed : Array Bool} {a : Act} {w w' : World} (h : SSn W XF listed a w) (hb : Below w.heap.size w w') (i d : Nat) (v : Value) (hi : i < 21) (hd : d ≠ 4) (hd2 : d < 54) : SSn W XF (listed.setIfInBounds i true) (a.put (some d) v) w' := by
  obtain ⟨h1, h2, h3, h4, h5⟩ := h
  have e28 : (listed.setIfInBounds i true).getD 21 false = listed.getD 21 false := by rw [listed_set (by omega), if_neg (by omega)]
  have e29 : (listed.setIfInBounds i true).getD 22 false = listed.getD 22 false := by rw [listed_set (by omega), if_neg (by omega)]
  refine ⟨h1.trans (hb.mono h1.size), by simpa using h2, by simpa [Act.put] using h3, by rw [e28, e29]; exact h4, fun h => ?_⟩
  rw [e28] at h
  obtain ⟨g, k1, k2, k3⟩ := h5 h
  refine ⟨g, ?_, k2, ?_⟩
  · rw [getD_put (by omega), if_neg (by omega)]
    exact k1
  · rw [e29]
    exact k3.below hb k3.lt
theorem SSn.made {W : World} {XF : Array Value} {listed : Array Bool} {a : Act} {w : World} (h : SSn W XF listed a w) (hn : listed.getD 21 true = false) : SSn W XF (listed.setIfInBounds 21 true) (a.put (some 4) (.pointer (some ⟨w.heap.size, 0, none⟩))) (w.alloc (.cells noSn 41)) := by
  obtain ⟨h1, h2, h3, h4, h5⟩ := h
  have h28 : listed.getD 21 false = false := by
    rw [Array.getD_eq_getD_getElem?, Array.getElem?_eq_getElem (by omega)] at hn ⊢
    exact hn
  have h29 : listed.getD 22 false = false := by
    cases e : listed.getD 22 false with
    | false => rfl
    | true => have := h4 e; rw [h28] at this; cases this
  have e29 : (listed.setIfInBounds 21 true).getD 22 false = false := by rw [listed_set (by omega), if_neg (by omega)]; exact h29
  refine ⟨h1.alloc h1.size _, by simpa using h2, by simpa [Act.put] using h3, by rw [e29]; exact (fun h => by cases h), fun _ => ⟨w.heap.size, ?_, h1.size, ?_⟩⟩
  · rw [getD_put (by omega), if_pos rfl]
  · rw [e29]
    exact Blk.new w noSn 41
theorem SSn.put {W : World} {XF : Array Value} {listed : Array Bool} {a : Act} {w : World} (h : SSn W XF listed a w) (g : Nat) (hg : a.tmps.getD 4 undef = .pointer (some ⟨g, 0, none⟩)) (hW : W.heap.size ≤ g) (C : Array Value) (hB : Blk w g C 41) (v : Value) (h28 : listed.getD 21 false = true) : SSn W XF (listed.setIfInBounds 22 true) (a.put none v) (w.setRow g XF) := by
  obtain ⟨h1, h2, h3, h4, h5⟩ := h
  have e28 : (listed.setIfInBounds 22 true).getD 21 false = listed.getD 21 false := by rw [listed_set (by omega), if_neg (by omega)]
  have e29 : (listed.setIfInBounds 22 true).getD 22 false = true := by rw [listed_set (by omega), if_pos rfl]
  refine ⟨below_setRow h1 hW _, by simpa using h2, h3, by rw [e28]; exact fun _ => h28, fun _ => ⟨g, hg, hW, ?_⟩⟩
  rw [e29]
  exact hB.row _
theorem tmps54 (a : Array Value) (h : a.size = 54) : a = #[a.getD 0 undef, a.getD 1 undef, a.getD 2 undef, a.getD 3 undef, a.getD 4 undef, a.getD 5 undef, a.getD 6 undef, a.getD 7 undef, a.getD 8 undef, a.getD 9 undef, a.getD 10 undef, a.getD 11 undef, a.getD 12 undef, a.getD 13 undef, a.getD 14 undef, a.getD 15 undef, a.getD 16 undef, a.getD 17 undef, a.getD 18 undef, a.getD 19 undef, a.getD 20 undef, a.getD 21 undef, a.getD 22 undef, a.getD 23 undef, a.getD 24 undef, a.getD 25 undef, a.getD 26 undef, a.getD 27 undef, a.getD 28 undef, a.getD 29 undef, a.getD 30 undef, a.getD 31 undef, a.getD 32 undef, a.getD 33 undef, a.getD 34 undef, a.getD 35 undef, a.getD 36 undef, a.getD 37 undef, a.getD 38 undef, a.getD 39 undef, a.getD 40 undef, a.getD 41 undef, a.getD 42 undef, a.getD 43 undef, a.getD 44 undef, a.getD 45 undef, a.getD 46 undef, a.getD 47 undef, a.getD 48 undef, a.getD 49 undef, a.getD 50 undef, a.getD 51 undef, a.getD 52 undef, a.getD 53 undef] := by
  have e : a = ((List.range 54).map fun i => a.getD i undef).toArray := Array.ext (by simp [h]) (fun i h1 h2 => by simp [Array.getD, h1])
  exact e
def VSn (bd off cap P N : Nat) (S : ByteArray) (zs : List Int) (XF : Array Value) (i : Nat) (v : Value) (w : World) : Prop := match i with
  | 0 => v = .slice (some ⟨bd, off, none⟩) 512 cap
  | 1 => v = .pointer (some ⟨bd, off + 8, none⟩)
  | 2 => v = .int .u8 (P : Int)
  | 3 => v = .int .i64 (P : Int)
  | 4 => v = .slice (some ⟨bd, off, none⟩) 512 cap
  | 5 => v = .slice (some ⟨bd, off, none⟩) 512 cap
  | 6 => v = .pointer (some ⟨bd, off + 9, none⟩)
  | 7 => v = .int .u8 (N : Int)
  | 8 => v = .int .u8 (10 + (N : Int))
  | 9 => v = .slice (some ⟨bd, off + 10, none⟩) N (cap - 10)
  | 10 => v = .string S
  | 11 => v = .slice (some ⟨bd, off, none⟩) 512 cap
  | 12 => v = .slice (some ⟨bd, off + 40, none⟩) 8 (cap - 40)
  | 13 => v = .int .i64 (mg zs 40 8)
  | 14 => v = .slice (some ⟨bd, off, none⟩) 512 cap
  | 15 => v = .slice (some ⟨bd, off + 48, none⟩) 8 (cap - 48)
  | 16 => v = .int .i64 (mg zs 48 8)
  | 17 => v = .slice (some ⟨bd, off, none⟩) 512 cap
  | 18 => v = .slice (some ⟨bd, off + 56, none⟩) 64 (cap - 56)
  | 19 => v = .agg (cellsI (rootI (mS (mR zs 56)) (gwords (mR zs 56) 12) (mP (mR zs 56)) (mQ (mR zs 56))))
  | 20 => v = .agg XF
  | _ => True
theorem at_one (zs : List Int) (h : ∀ z ∈ zs, 0 ≤ z ∧ z < 256) (k : Nat) (hk : k < zs.length) : zs.getD k 0 = ((unle ((zs.drop k).take 1) : Nat) : Int) := by
  have e : (zs.drop k).take 1 = [zs.getD k 0] := by
    rw [List.drop_eq_getElem_cons hk, List.take_succ_cons, List.take_zero, List.getD_eq_getElem?_getD, List.getElem?_eq_getElem hk, Option.getD_some]
  have hb := bytes_cut h k 1 (zs.getD k 0) (by rw [e]; simp)
  rw [e]
  simp only [unle]
  omega
theorem encM_bd (zs : List Int) : ∀ z ∈ encM zs, 0 ≤ z ∧ z < 256 := by
  intro z hz
  unfold encM encS at hz
  split at hz
  · unfold sealed at hz
    rw [List.mem_append] at hz
    rcases hz with hz | hz
    · exact pad_bd _ (bytesS_bd _ _ _ _ _ _ _ _) z hz
    · exact le_few _ _ z hz
  · cases hz
set_option maxRecDepth 100000 in
set_option maxHeartbeats 4000000 in
theorem specDS_any (v : Value) (zs : List Int) (w : World) (h : Rd .u8 w v zs) (hbd : ∀ z ∈ zs, 0 ≤ z ∧ z < 256) :
    Calls Tryz.prog 13 #[v] w fun e w' => e = .returned (.tuple #[.agg (decSn zs), .int .i64 (codeDS zs)]) ∧ Below w.heap.size w w' := by
  by_cases hz : zs.length = 512
  · have HB := hide hbd
    have HZ0 := hide hz
    obtain ⟨bd, off, cap, rfl, hbw, hcl, hcm, hcell⟩ := h.partsC (by omega)
    unfold maxLen at hcm
    obtain ⟨N, hN⟩ : ∃ N : Nat, N = nlen zs := ⟨_, rfl⟩
    obtain ⟨P, hP⟩ : ∃ P : Nat, P = unle ((zs.drop 8).take 1) := ⟨_, rfl⟩
    have hPz : zs.getD 8 0 = (P : Int) := by rw [hP]; exact at_one zs hbd 8 (by omega)
    have hNz : zs.getD 9 0 = (N : Int) := by rw [hN]; exact at_one zs hbd 9 (by omega)
    have hN5 : N < 256 := by rw [hN]; exact nlen_lt zs hbd
    have hP5 : P < 256 := by
      have h1 := bytes_cut hbd 8 1 (zs.getD 8 0) (by rw [List.drop_eq_getElem_cons (show 8 < zs.length by omega), List.take_succ_cons, List.getD_eq_getElem?_getD, List.getElem?_eq_getElem (show 8 < zs.length by omega)]; simp)
      rw [hPz] at h1
      omega
    have c9w := hcell 9 (by omega)
    rw [hNz] at c9w
    have hq : ((zs.length : Int) != 512) = false := by simp [hz]
    obtain ⟨W, hW⟩ : ∃ W, W = w.alloc (.cells #[.int .i64 0, .string ⟨#[]⟩, .int .i64 0, .int .i64 0, .int .i64 0, .int .i64 0, .int .i64 0, .int .i64 0, .int .i64 0, .int .i64 0, .int .i64 0, .int .i64 0, .int .i64 0, .int .i64 0, .int .i64 0, .int .i64 0, .int .i64 0, .int .i64 0, .int .i64 0] 41) := ⟨_, rfl⟩
    have hWs : w.heap.size < W.heap.size := by rw [hW]; simp
    have KW := hide (show Blk W w.heap.size noSn 41 ∧ Below w.heap.size w W from by rw [hW]; exact ⟨Blk.new _ _ _, (Below.refl _ _).alloc (Nat.le_refl _) _⟩)
    have c9 : W.cell? ⟨bd, off + 9, none⟩ = some (.int .u8 (N : Int)) := (KW.out.2.cell (p := ⟨bd, off + 9, none⟩) hbw).trans c9w
    have HRW := hide (fun (w' : World) (hb : Below W.heap.size W w') => (h.below KW.out.2).below hb)
    rw [hz] at hq hcl
    rw [hz]
    have HW9 := hide hW
    rw [hW] at c9
    by_cases hN6 : N ≤ 26
    · obtain ⟨XF, hXF⟩ : ∃ XF, XF = snapM zs := ⟨_, rfl⟩
      have HXF := hide hXF
      have HXZ := hide (show XF.size = 19 from by rw [hXF]; exact snapC_size _ _ _ _ _ _ _ _ (gwords_len _ _))
      have HX1 := hide (show XF.all (·.oneCell') = true from by rw [hXF]; exact snapC_one _ _ _ _ _ _ _ _)
      have HPN := hide (And.intro hP hN)
      have HZZ := hide (And.intro hPz hNz)
      clear h hbd hXF hcell hW hz c9w hP hN hPz hNz
      have hg9 : ¬ (26 : Int) < (N : Int) := by omega
      go_enter Tryz.func13, Tryz.ntmps13
      go_wp2
      rw [← HW9.out]
      clear c9
      refine wp_region_noPanic ?_
      refine wp_region_any (by kernel_rfl) ?_
      refine wpAny_invSB [(0, .slice (some ⟨bd, off, none⟩) 512 cap), (2, .pointer (some ⟨w.heap.size, 0, none⟩)), (3, .int .i64 0)] (SSn W XF) (VSn bd off cap P N (nmS zs) zs XF) 54 [] (by kernel_rfl) ?hstep ?hfin _ _ (by rfl) (by rfl) ⟨(Below.refl _ _).drew, by rfl, by rfl, (fun h => by cases h), (fun h => by cases h)⟩ (by intro t v h; simp at h; rcases h with ⟨rfl, rfl⟩ | ⟨rfl, rfl⟩ | ⟨rfl, rfl⟩ <;> rfl)
      case hstep =>
        intro i o listed ac wz hi h0 hall hI
        have f0 : ac.tmps.getD 0 undef = .slice (some ⟨bd, off, none⟩) 512 cap := hI.fix 0 _ (by simp)
        have hS := hI.held
        match i, hi with
        | 0, hi =>
          obtain rfl := Option.some.inj hi
          refine ⟨by rfl, ?_⟩
          clear hall h0
          go_simp
          exact ⟨_, rfl, rfl, hS.keep (Below.refl _ _) 0 17 _ (by omega) (by omega) (by omega)⟩
        | 1, hi =>
          obtain rfl := Option.some.inj hi
          have va : ac.tmps.getD 17 undef = .slice (some ⟨bd, off, none⟩) 512 cap := hI.at hall 0 17 rfl rfl (by rfl)
          refine ⟨by rfl, ?_⟩
          clear hall h0
          go_simp
          exact ⟨_, rfl, rfl, hS.keep (Below.refl _ _) 1 18 _ (by omega) (by omega) (by omega)⟩
        | 2, hi =>
          obtain rfl := Option.some.inj hi
          have va : ac.tmps.getD 18 undef = .pointer (some ⟨bd, off + 8, none⟩) := hI.at hall 1 18 rfl rfl (by rfl)
          have c8 : wz.cell? ⟨bd, off + 8, none⟩ = some (.int .u8 (P : Int)) := by
            obtain ⟨b6, o6, c6, e6, _, _, _, hc6⟩ := (HRW.out wz hS.1).partsC (by rw [HZ0.out]; omega)
            injection e6 with e6 e7 e8
            injection e6 with e6
            injection e6 with e6 e9 e10
            subst e6 e9 e8
            exact (hc6 8 (by rw [HZ0.out]; omega)).trans (by rw [HZZ.out.1])
          refine ⟨by rfl, ?_⟩
          clear hall h0
          go_simp
          exact ⟨_, rfl, rfl, hS.keep (Below.refl _ _) 2 19 _ (by omega) (by omega) (by omega)⟩
        | 3, hi =>
          obtain rfl := Option.some.inj hi
          have va : ac.tmps.getD 19 undef = .int .u8 (P : Int) := hI.at hall 2 19 rfl rfl (by rfl)
          refine ⟨by rfl, ?_⟩
          clear hall h0
          go_simp
          exact ⟨_, rfl, congrArg (Value.int .i64) (show IntKind.i64.wrap (P : Int) = (P : Int) by first | (rw [IntKind.wrap_i64]; omega) | (rw [IntKind.wrap_u8]; omega)), hS.keep (Below.refl _ _) 3 20 _ (by omega) (by omega) (by omega)⟩
        | 4, hi =>
          obtain rfl := Option.some.inj hi
          refine ⟨by rfl, ?_⟩
          clear hall h0
          go_simp
          exact ⟨_, rfl, rfl, hS.keep (Below.refl _ _) 4 21 _ (by omega) (by omega) (by omega)⟩
        | 5, hi =>
          obtain rfl := Option.some.inj hi
          refine ⟨by rfl, ?_⟩
          clear hall h0
          go_simp
          exact ⟨_, rfl, rfl, hS.keep (Below.refl _ _) 5 22 _ (by omega) (by omega) (by omega)⟩
        | 6, hi =>
          obtain rfl := Option.some.inj hi
          have va : ac.tmps.getD 22 undef = .slice (some ⟨bd, off, none⟩) 512 cap := hI.at hall 5 22 rfl rfl (by rfl)
          refine ⟨by rfl, ?_⟩
          clear hall h0
          go_simp
          exact ⟨_, rfl, rfl, hS.keep (Below.refl _ _) 6 23 _ (by omega) (by omega) (by omega)⟩
        | 7, hi =>
          obtain rfl := Option.some.inj hi
          have va : ac.tmps.getD 23 undef = .pointer (some ⟨bd, off + 9, none⟩) := hI.at hall 6 23 rfl rfl (by rfl)
          have c8 : wz.cell? ⟨bd, off + 9, none⟩ = some (.int .u8 (N : Int)) := by
            obtain ⟨b6, o6, c6, e6, _, _, _, hc6⟩ := (HRW.out wz hS.1).partsC (by rw [HZ0.out]; omega)
            injection e6 with e6 e7 e8
            injection e6 with e6
            injection e6 with e6 e9 e10
            subst e6 e9 e8
            exact (hc6 9 (by rw [HZ0.out]; omega)).trans (by rw [HZZ.out.2])
          refine ⟨by rfl, ?_⟩
          clear hall h0
          go_simp
          exact ⟨_, rfl, rfl, hS.keep (Below.refl _ _) 7 24 _ (by omega) (by omega) (by omega)⟩
        | 8, hi =>
          obtain rfl := Option.some.inj hi
          have va : ac.tmps.getD 24 undef = .int .u8 (N : Int) := hI.at hall 7 24 rfl rfl (by rfl)
          refine ⟨by rfl, ?_⟩
          clear hall h0
          go_simp
          exact ⟨_, rfl, congrArg (Value.int .u8) (show IntKind.u8.wrap (10 + (N : Int)) = 10 + (N : Int) by first | (rw [IntKind.wrap_i64]; omega) | (rw [IntKind.wrap_u8]; omega)), hS.keep (Below.refl _ _) 8 25 _ (by omega) (by omega) (by omega)⟩
        | 9, hi =>
          obtain rfl := Option.some.inj hi
          have va : ac.tmps.getD 21 undef = .slice (some ⟨bd, off, none⟩) 512 cap := hI.at hall 4 21 rfl rfl (by rfl)
          have vb : ac.tmps.getD 25 undef = .int .u8 (10 + (N : Int)) := hI.at hall 8 25 rfl rfl (by rfl)
          have hq1 : (10 : Int) + (N : Int) ≤ (cap : Int) := by omega
          have hq2 : ¬ cap = 10 := by omega
          have hq3 : (0 : Int) ≤ 10 + (N : Int) := by omega
          have hq4 : (10 : Int) ≤ max (10 + (N : Int)) 0 := by omega
          have hq5 : ((10 : Int) + (N : Int)).toNat - 10 = N := by omega
          refine ⟨by rfl, ?_⟩
          clear hall h0
          go_simp
          exact ⟨_, rfl, rfl, hS.keep (Below.refl _ _) 9 26 _ (by omega) (by omega) (by omega)⟩
        | 10, hi =>
          obtain rfl := Option.some.inj hi
          have va : ac.tmps.getD 26 undef = .slice (some ⟨bd, off + 10, none⟩) N (cap - 10) := hI.at hall 9 26 rfl rfl (by rfl)
          have hr : Rd .u8 wz (.slice (some ⟨bd, off + 10, none⟩) N (cap - 10)) ((zs.drop 10).take N) := by
            by_cases hN0 : 0 < N
            · exact Rd.cut2 10 N (HRW.out wz hS.1) hN0 (by rw [HZ0.out]; omega)
            · have hN1 : N = 0 := by omega
              rw [hN1, List.take_zero]
              exact ⟨_, _, rfl, by simp [maxLen], fun h => absurd rfl h, Nat.zero_le _, by unfold maxLen; omega⟩
          have hcv := conv_rdF hr
          refine ⟨by rfl, ?_⟩
          clear hall h0
          go_simp
          exact ⟨_, rfl, (show Value.string (strOfNums ((zs.drop 10).take N)) = Value.string (nmS zs) by rw [HPN.out.2]; rfl), hS.keep (Below.refl _ _) 10 27 _ (by omega) (by omega) (by omega)⟩
        | 11, hi =>
          obtain rfl := Option.some.inj hi
          refine ⟨by rfl, ?_⟩
          clear hall h0
          go_simp
          exact ⟨_, rfl, rfl, hS.keep (Below.refl _ _) 11 28 _ (by omega) (by omega) (by omega)⟩
        | 12, hi =>
          obtain rfl := Option.some.inj hi
          have va : ac.tmps.getD 28 undef = .slice (some ⟨bd, off, none⟩) 512 cap := hI.at hall 11 28 rfl rfl (by rfl)
          have hq1 : (48 : Int) ≤ (cap : Int) := by omega
          have hq2 : ¬ cap = 40 := by omega
          refine ⟨by rfl, ?_⟩
          clear hall h0
          go_simp
          exact ⟨_, rfl, rfl, hS.keep (Below.refl _ _) 12 29 _ (by omega) (by omega) (by omega)⟩
        | 13, hi =>
          obtain rfl := Option.some.inj hi
          have va : ac.tmps.getD 29 undef = .slice (some ⟨bd, off + 40, none⟩) 8 (cap - 40) := hI.at hall 12 29 rfl rfl (by rfl)
          refine ⟨by rfl, ?_⟩
          clear hall h0
          go_simp
          have hr := Rd.cut2 40 8 (HRW.out wz hS.1) (by omega) (by rw [HZ0.out]; omega)
          refine (get_any _ ((zs.drop 40).take 8) _ hr (by rw [List.length_take]; omega) (bytes_cut HB.out 40 8)).mono ?_
          rintro e w' ⟨rfl, rfl⟩
          exact ⟨_, rfl, rfl, hS.keep (Below.refl _ _) 13 30 _ (by omega) (by omega) (by omega), fun _ _ h => h⟩
        | 14, hi =>
          obtain rfl := Option.some.inj hi
          refine ⟨by rfl, ?_⟩
          clear hall h0
          go_simp
          exact ⟨_, rfl, rfl, hS.keep (Below.refl _ _) 14 31 _ (by omega) (by omega) (by omega)⟩
        | 15, hi =>
          obtain rfl := Option.some.inj hi
          have va : ac.tmps.getD 31 undef = .slice (some ⟨bd, off, none⟩) 512 cap := hI.at hall 14 31 rfl rfl (by rfl)
          have hq1 : (56 : Int) ≤ (cap : Int) := by omega
          have hq2 : ¬ cap = 48 := by omega
          refine ⟨by rfl, ?_⟩
          clear hall h0
          go_simp
          exact ⟨_, rfl, rfl, hS.keep (Below.refl _ _) 15 32 _ (by omega) (by omega) (by omega)⟩
        | 16, hi =>
          obtain rfl := Option.some.inj hi
          have va : ac.tmps.getD 32 undef = .slice (some ⟨bd, off + 48, none⟩) 8 (cap - 48) := hI.at hall 15 32 rfl rfl (by rfl)
          refine ⟨by rfl, ?_⟩
          clear hall h0
          go_simp
          have hr := Rd.cut2 48 8 (HRW.out wz hS.1) (by omega) (by rw [HZ0.out]; omega)
          refine (get_any _ ((zs.drop 48).take 8) _ hr (by rw [List.length_take]; omega) (bytes_cut HB.out 48 8)).mono ?_
          rintro e w' ⟨rfl, rfl⟩
          exact ⟨_, rfl, rfl, hS.keep (Below.refl _ _) 16 33 _ (by omega) (by omega) (by omega), fun _ _ h => h⟩
        | 17, hi =>
          obtain rfl := Option.some.inj hi
          refine ⟨by rfl, ?_⟩
          clear hall h0
          go_simp
          exact ⟨_, rfl, rfl, hS.keep (Below.refl _ _) 17 34 _ (by omega) (by omega) (by omega)⟩
        | 18, hi =>
          obtain rfl := Option.some.inj hi
          have va : ac.tmps.getD 34 undef = .slice (some ⟨bd, off, none⟩) 512 cap := hI.at hall 17 34 rfl rfl (by rfl)
          have hq1 : (120 : Int) ≤ (cap : Int) := by omega
          have hq2 : ¬ cap = 56 := by omega
          refine ⟨by rfl, ?_⟩
          clear hall h0
          go_simp
          exact ⟨_, rfl, rfl, hS.keep (Below.refl _ _) 18 35 _ (by omega) (by omega) (by omega)⟩
        | 19, hi =>
          obtain rfl := Option.some.inj hi
          have va : ac.tmps.getD 35 undef = .slice (some ⟨bd, off + 56, none⟩) 64 (cap - 56) := hI.at hall 18 35 rfl rfl (by rfl)
          refine ⟨by rfl, ?_⟩
          clear hall h0
          go_simp
          have hr := Rd.cut2 56 64 (HRW.out wz hS.1) (by omega) (by rw [HZ0.out]; omega)
          refine (rootOf_any _ (mR zs 56) _ hr (bytes_cut HB.out 56 64) (by unfold mR; rw [List.length_take, List.length_drop, HZ0.out]; rfl)).mono ?_
          rintro e w' ⟨rfl, hb⟩
          exact ⟨_, rfl, rfl, hS.keep hb 19 36 _ (by omega) (by omega) (by omega), fun _ _ h => h⟩
        | 20, hi =>
          obtain rfl := Option.some.inj hi
          have v0 : ac.tmps.getD 20 undef = .int .i64 (P : Int) := hI.at hall 3 20 rfl rfl (by rfl)
          have v1 : ac.tmps.getD 27 undef = .string (nmS zs) := hI.at hall 10 27 rfl rfl (by rfl)
          have v2 : ac.tmps.getD 30 undef = .int .i64 (mg zs 40 8) := hI.at hall 13 30 rfl rfl (by rfl)
          have v3 : ac.tmps.getD 33 undef = .int .i64 (mg zs 48 8) := hI.at hall 16 33 rfl rfl (by rfl)
          have v4 : ac.tmps.getD 36 undef = .agg (cellsI (rootI (mS (mR zs 56)) (gwords (mR zs 56) 12) (mP (mR zs 56)) (mQ (mR zs 56)))) := hI.at hall 19 36 rfl rfl (by rfl)
          refine ⟨by rfl, wp_buildV 41 _ rfl XF ?_ ⟨_, rfl, rfl, hS.keep (Below.refl _ _) 20 37 _ (by omega) (by omega) (by omega), fun _ _ h => h⟩⟩
          have hl : ∀ k : Nat, ac.eval (.tmp k) = ac.tmps.getD k undef := fun k => by first | rfl | simp [Act.eval]
          simp only [List.map_toArray, List.map_cons, List.map_nil, hl, v0, v1, v2, v3, v4]
          rw [HXF.out, HPN.out.1]
          exact build_sn _ _ _ _ _ _ _ _ (gwords_len _ _)
        | 21, hi =>
          obtain rfl := Option.some.inj hi
          refine ⟨by rfl, ?_⟩
          have HM := hide (hS.made h0)
          clear hall h0 hS
          go_simp
          exact ⟨_, rfl, trivial, HM.out, fun _ _ h => h⟩
        | 22, hi =>
          obtain rfl := Option.some.inj hi
          have v27 : ac.tmps.getD 37 undef = .agg XF := hI.at hall 20 37 rfl rfl (by rfl)
          have h28 : listed.getD 21 false = true := listed_of hall 21 (by rfl)
          obtain ⟨g, k1, k2, k3⟩ := hS.2.2.2.2 h28
          refine ⟨by rfl, ?_⟩
          refine wp_store_row 41 _ _ rfl g XF (by exact k1) (by exact v27) 41 _ k3 (by rw [HXZ.out]; exact info19) (by split <;> (first | rfl | (rw [HXZ.out]; rfl))) HX1.out ?_
          exact ⟨undef, rfl, trivial, hS.put g k1 k2 _ k3 _ h28, fun _ _ h => h⟩
      case hfin =>
        intro listed ac wz hl hI
        refine NoPanic.normal ?_
        have f0 : ac.tmps.getD 0 undef = .slice (some ⟨bd, off, none⟩) 512 cap := hI.fix 0 _ (by simp)
        have f2 : ac.tmps.getD 2 undef = .pointer (some ⟨w.heap.size, 0, none⟩) := hI.fix 2 _ (by simp)
        have f3 : ac.tmps.getD 3 undef = .int .i64 0 := hI.fix 3 _ (by simp)
        obtain ⟨hBz, _, _, _, h5⟩ := hI.held
        obtain ⟨g, f4, hgW, hgB⟩ := h5 (hl 21 (by decide))
        rw [if_pos (hl 22 (by decide))] at hgB
        have hsz := hI.sz
        have hdf := hI.df
        clear hI hl h5
        obtain ⟨tm, dfs⟩ := ac
        simp only at f0 f2 f3 f4 hsz hdf
        subst hdf
        have hT := tmps54 tm hsz
        rw [f0, f2, f3, f4] at hT
        generalize tm.getD 1 undef = t1 at hT
        generalize tm.getD 5 undef = t5 at hT
        generalize tm.getD 6 undef = t6 at hT
        generalize tm.getD 7 undef = t7 at hT
        generalize tm.getD 8 undef = t8 at hT
        generalize tm.getD 9 undef = t9 at hT
        generalize tm.getD 10 undef = t10 at hT
        generalize tm.getD 11 undef = t11 at hT
        generalize tm.getD 12 undef = t12 at hT
        generalize tm.getD 13 undef = t13 at hT
        generalize tm.getD 14 undef = t14 at hT
        generalize tm.getD 15 undef = t15 at hT
        generalize tm.getD 16 undef = t16 at hT
        generalize tm.getD 17 undef = t17 at hT
        generalize tm.getD 18 undef = t18 at hT
        generalize tm.getD 19 undef = t19 at hT
        generalize tm.getD 20 undef = t20 at hT
        generalize tm.getD 21 undef = t21 at hT
        generalize tm.getD 22 undef = t22 at hT
        generalize tm.getD 23 undef = t23 at hT
        generalize tm.getD 24 undef = t24 at hT
        generalize tm.getD 25 undef = t25 at hT
        generalize tm.getD 26 undef = t26 at hT
        generalize tm.getD 27 undef = t27 at hT
        generalize tm.getD 28 undef = t28 at hT
        generalize tm.getD 29 undef = t29 at hT
        generalize tm.getD 30 undef = t30 at hT
        generalize tm.getD 31 undef = t31 at hT
        generalize tm.getD 32 undef = t32 at hT
        generalize tm.getD 33 undef = t33 at hT
        generalize tm.getD 34 undef = t34 at hT
        generalize tm.getD 35 undef = t35 at hT
        generalize tm.getD 36 undef = t36 at hT
        generalize tm.getD 37 undef = t37 at hT
        generalize tm.getD 38 undef = t38 at hT
        generalize tm.getD 39 undef = t39 at hT
        generalize tm.getD 40 undef = t40 at hT
        generalize tm.getD 41 undef = t41 at hT
        generalize tm.getD 42 undef = t42 at hT
        generalize tm.getD 43 undef = t43 at hT
        generalize tm.getD 44 undef = t44 at hT
        generalize tm.getD 45 undef = t45 at hT
        generalize tm.getD 46 undef = t46 at hT
        generalize tm.getD 47 undef = t47 at hT
        generalize tm.getD 48 undef = t48 at hT
        generalize tm.getD 49 undef = t49 at hT
        generalize tm.getD 50 undef = t50 at hT
        generalize tm.getD 51 undef = t51 at hT
        generalize tm.getD 52 undef = t52 at hT
        generalize tm.getD 53 undef = t53 at hT
        clear hsz f0 f2 f3 f4
        subst hT
        have hgl := hgB.lt
        have HBz := hide hBz
        have KG := hide hgB
        clear hBz hgB
        have HE := hide (fun w => specS_any (plS zs) (nmS zs) (mg zs 40 8) (mg zs 48 8) (mS (mR zs 56)) (gwords (mR zs 56) 12) (mP (mR zs 56)) (mQ (mR zs 56)) w (gwords_len _ _) (by have := (nmS_size zs HB.out (by rw [HZ0.out]; omega)).1; unfold maxLen; rw [HPN.out.2] at hN5; omega))
        obtain ⟨E, hE⟩ : ∃ E, E = encM zs := ⟨_, rfl⟩
        obtain ⟨RF, hRF⟩ : ∃ RF, RF = rightM zs := ⟨_, rfl⟩
        obtain ⟨cF, hcF⟩ : ∃ cF, cF = codeS (plS zs) (nmS zs) (mg zs 40 8) (mg zs 48 8) (mS (mR zs 56)) (gwords (mR zs 56) 12) (mP (mR zs 56)) (mQ (mR zs 56)) := ⟨_, rfl⟩
        have HEl := hide (show (∀ z ∈ E, 0 ≤ z ∧ z < 256) ∧ (cF = if RF = true then 0 else 7) from by
          refine ⟨?_, by rw [hcF, hRF]; rfl⟩
          rw [hE]
          exact encM_bd zs)
        have HOk := hide (show okSn zs = (RF && decide (E = zs)) from by unfold okSn; rw [decide_eq_true HZ0.out, decide_eq_true (show nlen zs ≤ 26 by rw [← HPN.out.2]; exact hN6), Bool.true_and, Bool.true_and, hRF, hE])
        have HDec := hide (show decSn zs = if okSn zs = true then XF else noSn from by unfold decSn; rw [HXF.out])
        have HEnc := hide (show ∀ w, Calls Tryz.prog 25 #[.agg XF] w fun e w' => ∃ v', e = .returned (.tuple #[v', .int .i64 cF]) ∧ w'.ownsRow w.heap.size 5 1 v' E.length (E.map (Value.int .u8)) ∧ Below w.heap.size w w' from by rw [HXF.out, hE, hcF]; exact HE.out)
        clear hE hRF hcF HE
        go_wp2_with (first | (refine wpList_load_row rfl 41 _ rfl g rfl 41 XF (0, 0) _ KG.out Tryz.underlying41 rfl (by rw [HXZ.out]; exact info19) ?_) | (go_at_call 25; fail))
        refine (HEnc.out _).mono ?_
        rintro e w5 ⟨v5, rfl, o5, b5⟩
        have K5 := hide (show Blk w5 g XF 41 ∧ Blk w5 w.heap.size noSn 41 ∧ Below w.heap.size w w5 ∧ Rd .u8 w5 v5 E ∧ Below W.heap.size W w5 from by
          have hWr := HBz.out
          refine ⟨KG.out.below b5 hgl, ?_, ?_, Rd.own o5, hWr.trans (b5.mono hWr.size)⟩
          · exact ((KW.out.1).below (hWr.trans (b5.mono hWr.size)) (by omega))
          · exact KW.out.2.trans ((hWr.trans (b5.mono hWr.size)).mono (by omega)))
        clear o5 b5
        cases hrf : RF with
        | false =>
          have hc7 : cF = 7 := by rw [HEl.out.2, hrf]; rfl
          rw [hc7]
          have HF := hide (show decSn zs = noSn ∧ codeDS zs = 21 from by
            have ho : okSn zs = false := by rw [HOk.out, hrf]; rfl
            exact ⟨by rw [HDec.out, ho]; rfl, by unfold codeDS; rw [ho]; rfl⟩)
          clear hc7
          go_wp2_with (refine wpList_store_row rfl 41 _ _ rfl w.heap.size noSn rfl rfl 41 _ K5.out.2.1 info19 rfl noSn_one ?_)
          refine bodyPost_ret (v := .tuple #[.agg noSn, .int .i64 21]) ?_ rfl ⟨by rw [HF.out.1, HF.out.2], below_setRow K5.out.2.2.1 (Nat.le_refl _) _⟩
          exact results_row_tmp rfl _ _ w.heap.size 41 noSn (0, 0) _ _ rfl rfl (K5.out.2.1.row _) Tryz.underlying41 rfl info19
        | true =>
          have hc0 : cF = 0 := by rw [HEl.out.2, hrf]; rfl
          rw [hc0]
          clear hc0
          have v1 : (convert 22 9 (.slice (some ⟨bd, off, none⟩) 512 cap)).run Tryz.prog w5 = .ok (.string (strOfNums zs)) w5 := by
            obtain ⟨b6, o6, c6, e6, _, _, _, hc6⟩ := (HRW.out w5 K5.out.2.2.2.2).partsC (by rw [HZ0.out]; omega)
            injection e6 with e6 e7 e8
            injection e6 with e6
            injection e6 with e6 e9 e10
            subst e6 e9 e8
            exact run_convert_bytes_arg (P := Tryz.prog) w5 22 5 Tryz.underlying22 Tryz.underlying5 bd off 512 cap zs HZ0.out (fun i hi => hc6 i (by rw [HZ0.out]; exact hi)) 9 Tryz.underlying9
          by_cases hEz : E = zs
          · obtain ⟨g5, of5, cp5, rfl, _, _, _, hc5⟩ := K5.out.2.2.2.1.partsC (by rw [hEz, HZ0.out]; omega)
            have v2 := run_convert_bytes_arg (P := Tryz.prog) w5 22 5 Tryz.underlying22 Tryz.underlying5 g5 of5 E.length cp5 E rfl (fun i hi => hc5 i hi) 9 Tryz.underlying9
            have HF := hide (show decSn zs = XF ∧ codeDS zs = 0 from by
              have ho : okSn zs = true := by rw [HOk.out, hrf, decide_eq_true hEz]; rfl
              exact ⟨by rw [HDec.out, ho]; rfl, by unfold codeDS; rw [ho]; rfl⟩)
            rw [hEz] at v2 ⊢
            rw [HZ0.out] at v2 ⊢
            clear hc5 hEz
            generalize strOfNums zs = S at v1 v2
            go_wp2_with (first | (refine wpList_load_row rfl 41 _ rfl g rfl 41 XF (0, 0) _ K5.out.1 Tryz.underlying41 rfl (by rw [HXZ.out]; exact info19) ?_) | (refine wpList_store_row rfl 41 _ _ rfl w.heap.size XF rfl rfl 41 _ K5.out.2.1 (by rw [HXZ.out]; exact info19) (by rw [HXZ.out]; rfl) HX1.out ?_))
            refine bodyPost_ret (v := .tuple #[.agg XF, .int .i64 0]) ?_ rfl ⟨by rw [HF.out.1, HF.out.2], below_setRow K5.out.2.2.1 (Nat.le_refl _) _⟩
            exact results_row_tmp rfl _ _ w.heap.size 41 XF (0, 0) _ _ rfl rfl (K5.out.2.1.row _) Tryz.underlying41 rfl (by rw [HXZ.out]; exact info19)
          · have HF := hide (show decSn zs = noSn ∧ codeDS zs = 21 from by
              have ho : okSn zs = false := by rw [HOk.out, hrf, decide_eq_false hEz]; rfl
              exact ⟨by rw [HDec.out, ho]; rfl, by unfold codeDS; rw [ho]; rfl⟩)
            have hne : ¬ (strOfNums E).toList = (strOfNums zs).toList := fun h => hEz (strOf_injF HEl.out.1 HB.out h)
            obtain ⟨a5, cp5, rfl⟩ : ∃ a cp, v5 = .slice a E.length cp := by obtain ⟨a, cp, h1, _⟩ := K5.out.2.2.2.1; exact ⟨a, cp, h1⟩
            have v2 := conv_rdF K5.out.2.2.2.1
            clear hEz
            generalize strOfNums zs = S1 at v1 hne
            generalize strOfNums E = S2 at v2 hne
            have hne1 : (S2.toList == S1.toList) = false := by simpa using hne
            clear hne
            go_wp2_with (refine wpList_store_row rfl 41 _ _ rfl w.heap.size noSn rfl rfl 41 _ K5.out.2.1 info19 rfl noSn_one ?_)
            refine bodyPost_ret (v := .tuple #[.agg noSn, .int .i64 21]) ?_ rfl ⟨by rw [HF.out.1, HF.out.2], below_setRow K5.out.2.2.1 (Nat.le_refl _) _⟩
            exact results_row_tmp rfl _ _ w.heap.size 41 noSn (0, 0) _ _ rfl rfl (K5.out.2.1.row _) Tryz.underlying41 rfl info19
    · have HF := hide (show decSn zs = noSn ∧ codeDS zs = 21 from by
        have ho : okSn zs = false := by unfold okSn; rw [decide_eq_false (show ¬ nlen zs ≤ 26 by rw [← hN]; exact hN6), Bool.false_and, Bool.and_false]
        exact ⟨by unfold decSn; rw [ho]; rfl, by unfold codeDS; rw [ho]; rfl⟩)
      rw [HF.out.1, HF.out.2]
      have hg9 : (26 : Int) < (N : Int) := by omega
      rw [HW9.out] at KW
      clear h hbd hcell hW hz c9w hP hN hPz hNz HRW hWs
      go_enter Tryz.func13, Tryz.ntmps13
      go_wp2_with (refine wpList_store_row rfl 41 _ _ rfl w.heap.size noSn rfl rfl 41 _ KW.out.1 info19 rfl noSn_one ?_)
      refine bodyPost_ret (v := .tuple #[.agg noSn, .int .i64 21]) ?_ rfl ⟨rfl, below_setRow KW.out.2 (Nat.le_refl _) _⟩
      exact results_row_tmp rfl _ _ w.heap.size 41 noSn (0, 0) _ _ rfl rfl (KW.out.1.row _) Tryz.underlying41 rfl info19
  · have hq : ((zs.length : Int) != 512) = true := by simp; omega
    obtain ⟨a, cap, rfl⟩ : ∃ a cap, v = .slice a zs.length cap := by obtain ⟨a, cap, h1, _⟩ := h; exact ⟨a, cap, h1⟩
    have HF := hide (show decSn zs = noSn ∧ codeDS zs = 21 from by
      have ho : okSn zs = false := by unfold okSn; rw [decide_eq_false hz]; rfl
      exact ⟨by unfold decSn; rw [ho]; rfl, by unfold codeDS; rw [ho]; rfl⟩)
    rw [HF.out.1, HF.out.2]
    clear hz
    have KW := hide (show Blk (w.alloc (.cells noSn 41)) w.heap.size noSn 41 ∧ Below w.heap.size w (w.alloc (.cells noSn 41)) from ⟨Blk.new _ _ _, (Below.refl _ _).alloc (Nat.le_refl _) _⟩)
    go_enter Tryz.func13, Tryz.ntmps13
    go_wp2_with (refine wpList_store_row rfl 41 _ _ rfl w.heap.size noSn rfl rfl 41 _ KW.out.1 info19 rfl noSn_one ?_)
    refine bodyPost_ret (v := .tuple #[.agg noSn, .int .i64 21]) ?_ rfl ⟨rfl, below_setRow KW.out.2 (Nat.le_refl _) _⟩
    exact results_row_tmp rfl _ _ w.heap.size 41 noSn (0, 0) _ _ rfl rfl (KW.out.1.row _) Tryz.underlying41 rfl info19
end Go.Proofs.YtfkmnmopkblopaaGreatDoor
