/- The model's DecodeSnap. Two snapshots that are the same, compared by the laws' own eqSnap. The law on DecodeSnap, walked: it answers true and turns nothing that was there. The law on EncodeSnap, walked: it answers true and turns nothing that was there. What a struct that came in is opened with. A root that came in, opened: fifteen integers. A snapshot that came in, opened; the letters out of what the start lays. -/
import Derived.Test.YtkaennkfieebmaaDoorKsA
import Derived.Test.YtkaennkfieebmaaDoorKfH
import Derived.Test.YtkaennkfieebmaaDoorKfG
import Derived.Test.YtkaennkfieebmaaDoorKfA
import Derived.Laws.BytesArg
import Derived.Test.YtkaennkfieebmaaDoorKfE
import Derived.Test.YtkaennkfieebmaaDoorRootA
import Derived.ProofKit
import Derived.OpenShut
import Derived.Test.YtkaennkfieebmaaDoorDoor
import Derived.OpenVars
namespace Go.Proofs.YtkaennkfieebmaaDoor
set_option linter.unusedVariables false
set_option linter.unusedSimpArgs false
open Go.RowKit

theorem build_sn12 (x0 : Int) (nm : ByteArray) (x2 x3 s1 a0 a1 a2 a3 a4 a5 a6 a7 a8 a9 a10 a11 p1 q1 : Int) :
    Tryd.prog.built 27 [(0, .int .i64 x0), (1, .string nm), (2, .int .i64 x2), (3, .int .i64 x3), (4, .agg (cellsI (rootI s1 [a0, a1, a2, a3, a4, a5, a6, a7, a8, a9, a10, a11] p1 q1)))] = some (snapC x0 nm x2 x3 s1 [a0, a1, a2, a3, a4, a5, a6, a7, a8, a9, a10, a11] p1 q1) := by kernel_rfl
theorem build_sn (x0 : Int) (nm : ByteArray) (x2 x3 s1 : Int) (ds1 : List Int) (p1 q1 : Int) (h1 : ds1.length = 12) :
    Tryd.prog.built 27 [(0, .int .i64 x0), (1, .string nm), (2, .int .i64 x2), (3, .int .i64 x3), (4, .agg (cellsI (rootI s1 ds1 p1 q1)))] = some (snapC x0 nm x2 x3 s1 ds1 p1 q1) := by
  match ds1, h1 with
  | [a0, a1, a2, a3, a4, a5, a6, a7, a8, a9, a10, a11], _ => exact build_sn12 _ _ _ _ _ _ _ _ _ _ _ _ _ _ _ _ _ _ _
/-- What the region of the model's DecodeSnap holds: the snapshot's cell, once it is made and once it is filled. -/
def SSn (W : World) (XF : Array Value) (listed : Array Bool) (a : Act) (w : World) : Prop :=
  Below W.heap.size W w ∧ listed.size = 23 ∧ a.tmps.size = 54 ∧ (listed.getD 22 false = true → listed.getD 21 false = true) ∧ (listed.getD 21 false = true → ∃ g, a.tmps.getD 4 undef = .pointer (some ⟨g, 0, none⟩) ∧ W.heap.size ≤ g ∧ Blk w g (if listed.getD 22 false = true then XF else noSn) 27)
theorem SSn.keep {W : World} {XF : Array Value} {listed : Array Bool} {a : Act} {w w' : World} (h : SSn W XF listed a w) (hb : Below w.heap.size w w') (i d : Nat) (v : Value) (hi : i < 21) (hd : d ≠ 4) (hd2 : d < 54) : SSn W XF (listed.setIfInBounds i true) (a.put (some d) v) w' := by
  obtain ⟨h1, h2, h3, h4, h5⟩ := h
  have e28 : (listed.setIfInBounds i true).getD 21 false = listed.getD 21 false := by rw [listed_set (by omega), if_neg (by omega)]
  have e29 : (listed.setIfInBounds i true).getD 22 false = listed.getD 22 false := by rw [listed_set (by omega), if_neg (by omega)]
  refine ⟨h1.trans (hb.mono h1.size), by simpa using h2, by simpa [Act.put] using h3, by rw [e28, e29]; exact h4, fun h => ?_⟩
  rw [e28] at h
  obtain ⟨g, k1, k2, k3⟩ := h5 h
  refine ⟨g, ?_, k2, ?_⟩
  · rw [getD_put (by omega), if_neg (by omega)]
    exact k1
  · rw [e29]
    exact k3.below hb k3.lt
theorem SSn.made {W : World} {XF : Array Value} {listed : Array Bool} {a : Act} {w : World} (h : SSn W XF listed a w) (hn : listed.getD 21 true = false) : SSn W XF (listed.setIfInBounds 21 true) (a.put (some 4) (.pointer (some ⟨w.heap.size, 0, none⟩))) (w.alloc (.cells noSn 27)) := by
  obtain ⟨h1, h2, h3, h4, h5⟩ := h
  have h28 : listed.getD 21 false = false := by
    rw [Array.getD_eq_getD_getElem?, Array.getElem?_eq_getElem (by omega)] at hn ⊢
    exact hn
  have h29 : listed.getD 22 false = false := by
    cases e : listed.getD 22 false with
    | false => rfl
    | true => have := h4 e; rw [h28] at this; cases this
  have e29 : (listed.setIfInBounds 21 true).getD 22 false = false := by rw [listed_set (by omega), if_neg (by omega)]; exact h29
  refine ⟨h1.alloc h1.size _, by simpa using h2, by simpa [Act.put] using h3, by rw [e29]; exact (fun h => by cases h), fun _ => ⟨w.heap.size, ?_, h1.size, ?_⟩⟩
  · rw [getD_put (by omega), if_pos rfl]
  · rw [e29]
    exact Blk.new w noSn 27
theorem SSn.put {W : World} {XF : Array Value} {listed : Array Bool} {a : Act} {w : World} (h : SSn W XF listed a w) (g : Nat) (hg : a.tmps.getD 4 undef = .pointer (some ⟨g, 0, none⟩)) (hW : W.heap.size ≤ g) (C : Array Value) (hB : Blk w g C 27) (v : Value) (h28 : listed.getD 21 false = true) : SSn W XF (listed.setIfInBounds 22 true) (a.put none v) (w.setRow g XF) := by
  obtain ⟨h1, h2, h3, h4, h5⟩ := h
  have e28 : (listed.setIfInBounds 22 true).getD 21 false = listed.getD 21 false := by rw [listed_set (by omega), if_neg (by omega)]
  have e29 : (listed.setIfInBounds 22 true).getD 22 false = true := by rw [listed_set (by omega), if_pos rfl]
  refine ⟨below_setRow h1 hW _, by simpa using h2, h3, by rw [e28]; exact fun _ => h28, fun _ => ⟨g, hg, hW, ?_⟩⟩
  rw [e29]
  exact hB.row _
theorem tmps54 (a : Array Value) (h : a.size = 54) : a = #[a.getD 0 undef, a.getD 1 undef, a.getD 2 undef, a.getD 3 undef, a.getD 4 undef, a.getD 5 undef, a.getD 6 undef, a.getD 7 undef, a.getD 8 undef, a.getD 9 undef, a.getD 10 undef, a.getD 11 undef, a.getD 12 undef, a.getD 13 undef, a.getD 14 undef, a.getD 15 undef, a.getD 16 undef, a.getD 17 undef, a.getD 18 undef, a.getD 19 undef, a.getD 20 undef, a.getD 21 undef, a.getD 22 undef, a.getD 23 undef, a.getD 24 undef, a.getD 25 undef, a.getD 26 undef, a.getD 27 undef, a.getD 28 undef, a.getD 29 undef, a.getD 30 undef, a.getD 31 undef, a.getD 32 undef, a.getD 33 undef, a.getD 34 undef, a.getD 35 undef, a.getD 36 undef, a.getD 37 undef, a.getD 38 undef, a.getD 39 undef, a.getD 40 undef, a.getD 41 undef, a.getD 42 undef, a.getD 43 undef, a.getD 44 undef, a.getD 45 undef, a.getD 46 undef, a.getD 47 undef, a.getD 48 undef, a.getD 49 undef, a.getD 50 undef, a.getD 51 undef, a.getD 52 undef, a.getD 53 undef] := by
  have e : a = ((List.range 54).map fun i => a.getD i undef).toArray := Array.ext (by simp [h]) (fun i h1 h2 => by simp [Array.getD, h1])
  exact e
def VSn (bd off cap P N : Nat) (S : ByteArray) (zs : List Int) (XF : Array Value) (i : Nat) (v : Value) (w : World) : Prop := match i with
  | 0 => v = .slice (some ⟨bd, off, none⟩) 512 cap
  | 1 => v = .pointer (some ⟨bd, off + 8, none⟩)
  | 2 => v = .int .u8 (P : Int)
  | 3 => v = .int .i64 (P : Int)
  | 4 => v = .slice (some ⟨bd, off, none⟩) 512 cap
  | 5 => v = .slice (some ⟨bd, off, none⟩) 512 cap
  | 6 => v = .pointer (some ⟨bd, off + 9, none⟩)
  | 7 => v = .int .u8 (N : Int)
  | 8 => v = .int .u8 (10 + (N : Int))
  | 9 => v = .slice (some ⟨bd, off + 10, none⟩) N (cap - 10)
  | 10 => v = .string S
  | 11 => v = .slice (some ⟨bd, off, none⟩) 512 cap
  | 12 => v = .slice (some ⟨bd, off + 40, none⟩) 8 (cap - 40)
  | 13 => v = .int .i64 (mg zs 40 8)
  | 14 => v = .slice (some ⟨bd, off, none⟩) 512 cap
  | 15 => v = .slice (some ⟨bd, off + 48, none⟩) 8 (cap - 48)
  | 16 => v = .int .i64 (mg zs 48 8)
  | 17 => v = .slice (some ⟨bd, off, none⟩) 512 cap
  | 18 => v = .slice (some ⟨bd, off + 56, none⟩) 64 (cap - 56)
  | 19 => v = .agg (cellsI (rootI (mS (mR zs 56)) (gwords (mR zs 56) 12) (mP (mR zs 56)) (mQ (mR zs 56))))
  | 20 => v = .agg XF
  | _ => True
theorem at_one (zs : List Int) (h : ∀ z ∈ zs, 0 ≤ z ∧ z < 256) (k : Nat) (hk : k < zs.length) : zs.getD k 0 = ((unle ((zs.drop k).take 1) : Nat) : Int) := by
  have e : (zs.drop k).take 1 = [zs.getD k 0] := by
    rw [List.drop_eq_getElem_cons hk, List.take_succ_cons, List.take_zero, List.getD_eq_getElem?_getD, List.getElem?_eq_getElem hk, Option.getD_some]
  have hb := bytes_cut h k 1 (zs.getD k 0) (by rw [e]; simp)
  rw [e]
  simp only [unle]
  omega
theorem encM_bd (zs : List Int) : ∀ z ∈ encM zs, 0 ≤ z ∧ z < 256 := by
  intro z hz
  unfold encM encS at hz
  split at hz
  · unfold sealed at hz
    rw [List.mem_append] at hz
    rcases hz with hz | hz
    · exact pad_bd _ (bytesS_bd _ _ _ _ _ _ _ _) z hz
    · exact le_few _ _ z hz
  · cases hz
set_option maxRecDepth 100000 in
set_option maxHeartbeats 4000000 in
theorem specDS_any (v : Value) (zs : List Int) (w : World) (h : Rd .u8 w v zs) (hbd : ∀ z ∈ zs, 0 ≤ z ∧ z < 256) :
    Calls Tryd.prog 5 #[v] w fun e w' => e = .returned (.tuple #[.agg (decSn zs), .int .i64 (codeDS zs)]) ∧ Below w.heap.size w w' := by
  by_cases hz : zs.length = 512
  · have HB := hide hbd
    have HZ0 := hide hz
    obtain ⟨bd, off, cap, rfl, hbw, hcl, hcm, hcell⟩ := h.partsC (by omega)
    unfold maxLen at hcm
    obtain ⟨N, hN⟩ : ∃ N : Nat, N = nlen zs := ⟨_, rfl⟩
    obtain ⟨P, hP⟩ : ∃ P : Nat, P = unle ((zs.drop 8).take 1) := ⟨_, rfl⟩
    have hPz : zs.getD 8 0 = (P : Int) := by rw [hP]; exact at_one zs hbd 8 (by omega)
    have hNz : zs.getD 9 0 = (N : Int) := by rw [hN]; exact at_one zs hbd 9 (by omega)
    have hN5 : N < 256 := by rw [hN]; exact nlen_lt zs hbd
    have hP5 : P < 256 := by
      have h1 := bytes_cut hbd 8 1 (zs.getD 8 0) (by rw [List.drop_eq_getElem_cons (show 8 < zs.length by omega), List.take_succ_cons, List.getD_eq_getElem?_getD, List.getElem?_eq_getElem (show 8 < zs.length by omega)]; simp)
      rw [hPz] at h1
      omega
    have c9w := hcell 9 (by omega)
    rw [hNz] at c9w
    have hq : ((zs.length : Int) != 512) = false := by simp [hz]
    obtain ⟨W, hW⟩ : ∃ W, W = w.alloc (.cells #[.int .i64 0, .string ⟨#[]⟩, .int .i64 0, .int .i64 0, .int .i64 0, .int .i64 0, .int .i64 0, .int .i64 0, .int .i64 0, .int .i64 0, .int .i64 0, .int .i64 0, .int .i64 0, .int .i64 0, .int .i64 0, .int .i64 0, .int .i64 0, .int .i64 0, .int .i64 0] 27) := ⟨_, rfl⟩
    have hWs : w.heap.size < W.heap.size := by rw [hW]; simp
    have KW := hide (show Blk W w.heap.size noSn 27 ∧ Below w.heap.size w W from by rw [hW]; exact ⟨Blk.new _ _ _, (Below.refl _ _).alloc (Nat.le_refl _) _⟩)
    have c9 : W.cell? ⟨bd, off + 9, none⟩ = some (.int .u8 (N : Int)) := (KW.out.2.cell (p := ⟨bd, off + 9, none⟩) hbw).trans c9w
    have HRW := hide (fun (w' : World) (hb : Below W.heap.size W w') => (h.below KW.out.2).below hb)
    rw [hz] at hq hcl
    rw [hz]
    have HW9 := hide hW
    rw [hW] at c9
    by_cases hN6 : N ≤ 26
    · obtain ⟨XF, hXF⟩ : ∃ XF, XF = snapM zs := ⟨_, rfl⟩
      have HXF := hide hXF
      have HXZ := hide (show XF.size = 19 from by rw [hXF]; exact snapC_size _ _ _ _ _ _ _ _ (gwords_len _ _))
      have HX1 := hide (show XF.all (·.oneCell') = true from by rw [hXF]; exact snapC_one _ _ _ _ _ _ _ _)
      have HPN := hide (And.intro hP hN)
      have HZZ := hide (And.intro hPz hNz)
      clear h hbd hXF hcell hW hz c9w hP hN hPz hNz
      have hg9 : ¬ (26 : Int) < (N : Int) := by omega
      go_enter Tryd.func5, Tryd.ntmps5
      go_wp2
      rw [← HW9.out]
      clear c9
      refine wp_region_noPanic ?_
      refine wp_region_any (by kernel_rfl) ?_
      refine wpAny_invSB [(0, .slice (some ⟨bd, off, none⟩) 512 cap), (2, .pointer (some ⟨w.heap.size, 0, none⟩)), (3, .int .i64 0)] (SSn W XF) (VSn bd off cap P N (nmS zs) zs XF) 54 [] (by kernel_rfl) ?hstep ?hfin _ _ (by rfl) (by rfl) ⟨(Below.refl _ _).drew, by rfl, by rfl, (fun h => by cases h), (fun h => by cases h)⟩ (by intro t v h; simp at h; rcases h with ⟨rfl, rfl⟩ | ⟨rfl, rfl⟩ | ⟨rfl, rfl⟩ <;> rfl)
      case hstep =>
        intro i o listed ac wz hi h0 hall hI
        have f0 : ac.tmps.getD 0 undef = .slice (some ⟨bd, off, none⟩) 512 cap := hI.fix 0 _ (by simp)
        have hS := hI.held
        match i, hi with
        | 0, hi =>
          obtain rfl := Option.some.inj hi
          refine ⟨by rfl, ?_⟩
          clear hall h0
          go_simp
          exact ⟨_, rfl, rfl, hS.keep (Below.refl _ _) 0 17 _ (by omega) (by omega) (by omega)⟩
        | 1, hi =>
          obtain rfl := Option.some.inj hi
          have va : ac.tmps.getD 17 undef = .slice (some ⟨bd, off, none⟩) 512 cap := hI.at hall 0 17 rfl rfl (by rfl)
          refine ⟨by rfl, ?_⟩
          clear hall h0
          go_simp
          exact ⟨_, rfl, rfl, hS.keep (Below.refl _ _) 1 18 _ (by omega) (by omega) (by omega)⟩
        | 2, hi =>
          obtain rfl := Option.some.inj hi
          have va : ac.tmps.getD 18 undef = .pointer (some ⟨bd, off + 8, none⟩) := hI.at hall 1 18 rfl rfl (by rfl)
          have c8 : wz.cell? ⟨bd, off + 8, none⟩ = some (.int .u8 (P : Int)) := by
            obtain ⟨b6, o6, c6, e6, _, _, _, hc6⟩ := (HRW.out wz hS.1).partsC (by rw [HZ0.out]; omega)
            injection e6 with e6 e7 e8
            injection e6 with e6
            injection e6 with e6 e9 e10
            subst e6 e9 e8
            exact (hc6 8 (by rw [HZ0.out]; omega)).trans (by rw [HZZ.out.1])
          refine ⟨by rfl, ?_⟩
          clear hall h0
          go_simp
          exact ⟨_, rfl, rfl, hS.keep (Below.refl _ _) 2 19 _ (by omega) (by omega) (by omega)⟩
        | 3, hi =>
          obtain rfl := Option.some.inj hi
          have va : ac.tmps.getD 19 undef = .int .u8 (P : Int) := hI.at hall 2 19 rfl rfl (by rfl)
          refine ⟨by rfl, ?_⟩
          clear hall h0
          go_simp
          exact ⟨_, rfl, congrArg (Value.int .i64) (show IntKind.i64.wrap (P : Int) = (P : Int) by first | (rw [IntKind.wrap_i64]; omega) | (rw [IntKind.wrap_u8]; omega)), hS.keep (Below.refl _ _) 3 20 _ (by omega) (by omega) (by omega)⟩
        | 4, hi =>
          obtain rfl := Option.some.inj hi
          refine ⟨by rfl, ?_⟩
          clear hall h0
          go_simp
          exact ⟨_, rfl, rfl, hS.keep (Below.refl _ _) 4 21 _ (by omega) (by omega) (by omega)⟩
        | 5, hi =>
          obtain rfl := Option.some.inj hi
          refine ⟨by rfl, ?_⟩
          clear hall h0
          go_simp
          exact ⟨_, rfl, rfl, hS.keep (Below.refl _ _) 5 22 _ (by omega) (by omega) (by omega)⟩
        | 6, hi =>
          obtain rfl := Option.some.inj hi
          have va : ac.tmps.getD 22 undef = .slice (some ⟨bd, off, none⟩) 512 cap := hI.at hall 5 22 rfl rfl (by rfl)
          refine ⟨by rfl, ?_⟩
          clear hall h0
          go_simp
          exact ⟨_, rfl, rfl, hS.keep (Below.refl _ _) 6 23 _ (by omega) (by omega) (by omega)⟩
        | 7, hi =>
          obtain rfl := Option.some.inj hi
          have va : ac.tmps.getD 23 undef = .pointer (some ⟨bd, off + 9, none⟩) := hI.at hall 6 23 rfl rfl (by rfl)
          have c8 : wz.cell? ⟨bd, off + 9, none⟩ = some (.int .u8 (N : Int)) := by
            obtain ⟨b6, o6, c6, e6, _, _, _, hc6⟩ := (HRW.out wz hS.1).partsC (by rw [HZ0.out]; omega)
            injection e6 with e6 e7 e8
            injection e6 with e6
            injection e6 with e6 e9 e10
            subst e6 e9 e8
            exact (hc6 9 (by rw [HZ0.out]; omega)).trans (by rw [HZZ.out.2])
          refine ⟨by rfl, ?_⟩
          clear hall h0
          go_simp
          exact ⟨_, rfl, rfl, hS.keep (Below.refl _ _) 7 24 _ (by omega) (by omega) (by omega)⟩
        | 8, hi =>
          obtain rfl := Option.some.inj hi
          have va : ac.tmps.getD 24 undef = .int .u8 (N : Int) := hI.at hall 7 24 rfl rfl (by rfl)
          refine ⟨by rfl, ?_⟩
          clear hall h0
          go_simp
          exact ⟨_, rfl, congrArg (Value.int .u8) (show IntKind.u8.wrap (10 + (N : Int)) = 10 + (N : Int) by first | (rw [IntKind.wrap_i64]; omega) | (rw [IntKind.wrap_u8]; omega)), hS.keep (Below.refl _ _) 8 25 _ (by omega) (by omega) (by omega)⟩
        | 9, hi =>
          obtain rfl := Option.some.inj hi
          have va : ac.tmps.getD 21 undef = .slice (some ⟨bd, off, none⟩) 512 cap := hI.at hall 4 21 rfl rfl (by rfl)
          have vb : ac.tmps.getD 25 undef = .int .u8 (10 + (N : Int)) := hI.at hall 8 25 rfl rfl (by rfl)
          have hq1 : (10 : Int) + (N : Int) ≤ (cap : Int) := by omega
          have hq2 : ¬ cap = 10 := by omega
          have hq3 : (0 : Int) ≤ 10 + (N : Int) := by omega
          have hq4 : (10 : Int) ≤ max (10 + (N : Int)) 0 := by omega
          have hq5 : ((10 : Int) + (N : Int)).toNat - 10 = N := by omega
          refine ⟨by rfl, ?_⟩
          clear hall h0
          go_simp
          exact ⟨_, rfl, rfl, hS.keep (Below.refl _ _) 9 26 _ (by omega) (by omega) (by omega)⟩
        | 10, hi =>
          obtain rfl := Option.some.inj hi
          have va : ac.tmps.getD 26 undef = .slice (some ⟨bd, off + 10, none⟩) N (cap - 10) := hI.at hall 9 26 rfl rfl (by rfl)
          have hr : Rd .u8 wz (.slice (some ⟨bd, off + 10, none⟩) N (cap - 10)) ((zs.drop 10).take N) := by
            by_cases hN0 : 0 < N
            · exact Rd.cut2 10 N (HRW.out wz hS.1) hN0 (by rw [HZ0.out]; omega)
            · have hN1 : N = 0 := by omega
              rw [hN1, List.take_zero]
              exact ⟨_, _, rfl, by simp [maxLen], fun h => absurd rfl h, Nat.zero_le _, by unfold maxLen; omega⟩
          have hcv := conv_rdF hr
          refine ⟨by rfl, ?_⟩
          clear hall h0
          go_simp
          exact ⟨_, rfl, (show Value.string (strOfNums ((zs.drop 10).take N)) = Value.string (nmS zs) by rw [HPN.out.2]; rfl), hS.keep (Below.refl _ _) 10 27 _ (by omega) (by omega) (by omega)⟩
        | 11, hi =>
          obtain rfl := Option.some.inj hi
          refine ⟨by rfl, ?_⟩
          clear hall h0
          go_simp
          exact ⟨_, rfl, rfl, hS.keep (Below.refl _ _) 11 28 _ (by omega) (by omega) (by omega)⟩
        | 12, hi =>
          obtain rfl := Option.some.inj hi
          have va : ac.tmps.getD 28 undef = .slice (some ⟨bd, off, none⟩) 512 cap := hI.at hall 11 28 rfl rfl (by rfl)
          have hq1 : (48 : Int) ≤ (cap : Int) := by omega
          have hq2 : ¬ cap = 40 := by omega
          refine ⟨by rfl, ?_⟩
          clear hall h0
          go_simp
          exact ⟨_, rfl, rfl, hS.keep (Below.refl _ _) 12 29 _ (by omega) (by omega) (by omega)⟩
        | 13, hi =>
          obtain rfl := Option.some.inj hi
          have va : ac.tmps.getD 29 undef = .slice (some ⟨bd, off + 40, none⟩) 8 (cap - 40) := hI.at hall 12 29 rfl rfl (by rfl)
          refine ⟨by rfl, ?_⟩
          clear hall h0
          go_simp
          have hr := Rd.cut2 40 8 (HRW.out wz hS.1) (by omega) (by rw [HZ0.out]; omega)
          refine (get_any _ ((zs.drop 40).take 8) _ hr (by rw [List.length_take]; omega) (bytes_cut HB.out 40 8)).mono ?_
          rintro e w' ⟨rfl, rfl⟩
          exact ⟨_, rfl, rfl, hS.keep (Below.refl _ _) 13 30 _ (by omega) (by omega) (by omega), fun _ _ h => h⟩
        | 14, hi =>
          obtain rfl := Option.some.inj hi
          refine ⟨by rfl, ?_⟩
          clear hall h0
          go_simp
          exact ⟨_, rfl, rfl, hS.keep (Below.refl _ _) 14 31 _ (by omega) (by omega) (by omega)⟩
        | 15, hi =>
          obtain rfl := Option.some.inj hi
          have va : ac.tmps.getD 31 undef = .slice (some ⟨bd, off, none⟩) 512 cap := hI.at hall 14 31 rfl rfl (by rfl)
          have hq1 : (56 : Int) ≤ (cap : Int) := by omega
          have hq2 : ¬ cap = 48 := by omega
          refine ⟨by rfl, ?_⟩
          clear hall h0
          go_simp
          exact ⟨_, rfl, rfl, hS.keep (Below.refl _ _) 15 32 _ (by omega) (by omega) (by omega)⟩
        | 16, hi =>
          obtain rfl := Option.some.inj hi
          have va : ac.tmps.getD 32 undef = .slice (some ⟨bd, off + 48, none⟩) 8 (cap - 48) := hI.at hall 15 32 rfl rfl (by rfl)
          refine ⟨by rfl, ?_⟩
          clear hall h0
          go_simp
          have hr := Rd.cut2 48 8 (HRW.out wz hS.1) (by omega) (by rw [HZ0.out]; omega)
          refine (get_any _ ((zs.drop 48).take 8) _ hr (by rw [List.length_take]; omega) (bytes_cut HB.out 48 8)).mono ?_
          rintro e w' ⟨rfl, rfl⟩
          exact ⟨_, rfl, rfl, hS.keep (Below.refl _ _) 16 33 _ (by omega) (by omega) (by omega), fun _ _ h => h⟩
        | 17, hi =>
          obtain rfl := Option.some.inj hi
          refine ⟨by rfl, ?_⟩
          clear hall h0
          go_simp
          exact ⟨_, rfl, rfl, hS.keep (Below.refl _ _) 17 34 _ (by omega) (by omega) (by omega)⟩
        | 18, hi =>
          obtain rfl := Option.some.inj hi
          have va : ac.tmps.getD 34 undef = .slice (some ⟨bd, off, none⟩) 512 cap := hI.at hall 17 34 rfl rfl (by rfl)
          have hq1 : (120 : Int) ≤ (cap : Int) := by omega
          have hq2 : ¬ cap = 56 := by omega
          refine ⟨by rfl, ?_⟩
          clear hall h0
          go_simp
          exact ⟨_, rfl, rfl, hS.keep (Below.refl _ _) 18 35 _ (by omega) (by omega) (by omega)⟩
        | 19, hi =>
          obtain rfl := Option.some.inj hi
          have va : ac.tmps.getD 35 undef = .slice (some ⟨bd, off + 56, none⟩) 64 (cap - 56) := hI.at hall 18 35 rfl rfl (by rfl)
          refine ⟨by rfl, ?_⟩
          clear hall h0
          go_simp
          have hr := Rd.cut2 56 64 (HRW.out wz hS.1) (by omega) (by rw [HZ0.out]; omega)
          refine (rootOf_any _ (mR zs 56) _ hr (bytes_cut HB.out 56 64) (by unfold mR; rw [List.length_take, List.length_drop, HZ0.out]; rfl)).mono ?_
          rintro e w' ⟨rfl, hb⟩
          exact ⟨_, rfl, rfl, hS.keep hb 19 36 _ (by omega) (by omega) (by omega), fun _ _ h => h⟩
        | 20, hi =>
          obtain rfl := Option.some.inj hi
          have v0 : ac.tmps.getD 20 undef = .int .i64 (P : Int) := hI.at hall 3 20 rfl rfl (by rfl)
          have v1 : ac.tmps.getD 27 undef = .string (nmS zs) := hI.at hall 10 27 rfl rfl (by rfl)
          have v2 : ac.tmps.getD 30 undef = .int .i64 (mg zs 40 8) := hI.at hall 13 30 rfl rfl (by rfl)
          have v3 : ac.tmps.getD 33 undef = .int .i64 (mg zs 48 8) := hI.at hall 16 33 rfl rfl (by rfl)
          have v4 : ac.tmps.getD 36 undef = .agg (cellsI (rootI (mS (mR zs 56)) (gwords (mR zs 56) 12) (mP (mR zs 56)) (mQ (mR zs 56)))) := hI.at hall 19 36 rfl rfl (by rfl)
          refine ⟨by rfl, wp_buildV 27 _ rfl XF ?_ ⟨_, rfl, rfl, hS.keep (Below.refl _ _) 20 37 _ (by omega) (by omega) (by omega), fun _ _ h => h⟩⟩
          have hl : ∀ k : Nat, ac.eval (.tmp k) = ac.tmps.getD k undef := fun k => by first | rfl | simp [Act.eval]
          simp only [List.map_toArray, List.map_cons, List.map_nil, hl, v0, v1, v2, v3, v4]
          rw [HXF.out, HPN.out.1]
          exact build_sn _ _ _ _ _ _ _ _ (gwords_len _ _)
        | 21, hi =>
          obtain rfl := Option.some.inj hi
          refine ⟨by rfl, ?_⟩
          have HM := hide (hS.made h0)
          clear hall h0 hS
          go_simp
          exact ⟨_, rfl, trivial, HM.out, fun _ _ h => h⟩
        | 22, hi =>
          obtain rfl := Option.some.inj hi
          have v27 : ac.tmps.getD 37 undef = .agg XF := hI.at hall 20 37 rfl rfl (by rfl)
          have h28 : listed.getD 21 false = true := listed_of hall 21 (by rfl)
          obtain ⟨g, k1, k2, k3⟩ := hS.2.2.2.2 h28
          refine ⟨by rfl, ?_⟩
          refine wp_store_row 27 _ _ rfl g XF (by exact k1) (by exact v27) 27 _ k3 (by rw [HXZ.out]; exact info19) (by split <;> (first | rfl | (rw [HXZ.out]; rfl))) HX1.out ?_
          exact ⟨undef, rfl, trivial, hS.put g k1 k2 _ k3 _ h28, fun _ _ h => h⟩
      case hfin =>
        intro listed ac wz hl hI
        refine NoPanic.normal ?_
        have f0 : ac.tmps.getD 0 undef = .slice (some ⟨bd, off, none⟩) 512 cap := hI.fix 0 _ (by simp)
        have f2 : ac.tmps.getD 2 undef = .pointer (some ⟨w.heap.size, 0, none⟩) := hI.fix 2 _ (by simp)
        have f3 : ac.tmps.getD 3 undef = .int .i64 0 := hI.fix 3 _ (by simp)
        obtain ⟨hBz, _, _, _, h5⟩ := hI.held
        obtain ⟨g, f4, hgW, hgB⟩ := h5 (hl 21 (by decide))
        rw [if_pos (hl 22 (by decide))] at hgB
        have hsz := hI.sz
        have hdf := hI.df
        clear hI hl h5
        obtain ⟨tm, dfs⟩ := ac
        simp only at f0 f2 f3 f4 hsz hdf
        subst hdf
        have hT := tmps54 tm hsz
        rw [f0, f2, f3, f4] at hT
        generalize tm.getD 1 undef = t1 at hT
        generalize tm.getD 5 undef = t5 at hT
        generalize tm.getD 6 undef = t6 at hT
        generalize tm.getD 7 undef = t7 at hT
        generalize tm.getD 8 undef = t8 at hT
        generalize tm.getD 9 undef = t9 at hT
        generalize tm.getD 10 undef = t10 at hT
        generalize tm.getD 11 undef = t11 at hT
        generalize tm.getD 12 undef = t12 at hT
        generalize tm.getD 13 undef = t13 at hT
        generalize tm.getD 14 undef = t14 at hT
        generalize tm.getD 15 undef = t15 at hT
        generalize tm.getD 16 undef = t16 at hT
        generalize tm.getD 17 undef = t17 at hT
        generalize tm.getD 18 undef = t18 at hT
        generalize tm.getD 19 undef = t19 at hT
        generalize tm.getD 20 undef = t20 at hT
        generalize tm.getD 21 undef = t21 at hT
        generalize tm.getD 22 undef = t22 at hT
        generalize tm.getD 23 undef = t23 at hT
        generalize tm.getD 24 undef = t24 at hT
        generalize tm.getD 25 undef = t25 at hT
        generalize tm.getD 26 undef = t26 at hT
        generalize tm.getD 27 undef = t27 at hT
        generalize tm.getD 28 undef = t28 at hT
        generalize tm.getD 29 undef = t29 at hT
        generalize tm.getD 30 undef = t30 at hT
        generalize tm.getD 31 undef = t31 at hT
        generalize tm.getD 32 undef = t32 at hT
        generalize tm.getD 33 undef = t33 at hT
        generalize tm.getD 34 undef = t34 at hT
        generalize tm.getD 35 undef = t35 at hT
        generalize tm.getD 36 undef = t36 at hT
        generalize tm.getD 37 undef = t37 at hT
        generalize tm.getD 38 undef = t38 at hT
        generalize tm.getD 39 undef = t39 at hT
        generalize tm.getD 40 undef = t40 at hT
        generalize tm.getD 41 undef = t41 at hT
        generalize tm.getD 42 undef = t42 at hT
        generalize tm.getD 43 undef = t43 at hT
        generalize tm.getD 44 undef = t44 at hT
        generalize tm.getD 45 undef = t45 at hT
        generalize tm.getD 46 undef = t46 at hT
        generalize tm.getD 47 undef = t47 at hT
        generalize tm.getD 48 undef = t48 at hT
        generalize tm.getD 49 undef = t49 at hT
        generalize tm.getD 50 undef = t50 at hT
        generalize tm.getD 51 undef = t51 at hT
        generalize tm.getD 52 undef = t52 at hT
        generalize tm.getD 53 undef = t53 at hT
        clear hsz f0 f2 f3 f4
        subst hT
        have hgl := hgB.lt
        have HBz := hide hBz
        have KG := hide hgB
        clear hBz hgB
        have HE := hide (fun w => specS_any (plS zs) (nmS zs) (mg zs 40 8) (mg zs 48 8) (mS (mR zs 56)) (gwords (mR zs 56) 12) (mP (mR zs 56)) (mQ (mR zs 56)) w (gwords_len _ _) (by have := (nmS_size zs HB.out (by rw [HZ0.out]; omega)).1; unfold maxLen; rw [HPN.out.2] at hN5; omega))
        obtain ⟨E, hE⟩ : ∃ E, E = encM zs := ⟨_, rfl⟩
        obtain ⟨RF, hRF⟩ : ∃ RF, RF = rightM zs := ⟨_, rfl⟩
        obtain ⟨cF, hcF⟩ : ∃ cF, cF = codeS (plS zs) (nmS zs) (mg zs 40 8) (mg zs 48 8) (mS (mR zs 56)) (gwords (mR zs 56) 12) (mP (mR zs 56)) (mQ (mR zs 56)) := ⟨_, rfl⟩
        have HEl := hide (show (∀ z ∈ E, 0 ≤ z ∧ z < 256) ∧ (cF = if RF = true then 0 else 7) from by
          refine ⟨?_, by rw [hcF, hRF]; rfl⟩
          rw [hE]
          exact encM_bd zs)
        have HOk := hide (show okSn zs = (RF && decide (E = zs)) from by unfold okSn; rw [decide_eq_true HZ0.out, decide_eq_true (show nlen zs ≤ 26 by rw [← HPN.out.2]; exact hN6), Bool.true_and, Bool.true_and, hRF, hE])
        have HDec := hide (show decSn zs = if okSn zs = true then XF else noSn from by unfold decSn; rw [HXF.out])
        have HEnc := hide (show ∀ w, Calls Tryd.prog 15 #[.agg XF] w fun e w' => ∃ v', e = .returned (.tuple #[v', .int .i64 cF]) ∧ w'.ownsRow w.heap.size 5 1 v' E.length (E.map (Value.int .u8)) ∧ Below w.heap.size w w' from by rw [HXF.out, hE, hcF]; exact HE.out)
        clear hE hRF hcF HE
        go_wp2_with (first | (refine wpList_load_row rfl 27 _ rfl g rfl 27 XF (0, 0) _ KG.out Tryd.underlying27 rfl (by rw [HXZ.out]; exact info19) ?_) | (go_at_call 15; fail))
        refine (HEnc.out _).mono ?_
        rintro e w5 ⟨v5, rfl, o5, b5⟩
        have K5 := hide (show Blk w5 g XF 27 ∧ Blk w5 w.heap.size noSn 27 ∧ Below w.heap.size w w5 ∧ Rd .u8 w5 v5 E ∧ Below W.heap.size W w5 from by
          have hWr := HBz.out
          refine ⟨KG.out.below b5 hgl, ?_, ?_, Rd.own o5, hWr.trans (b5.mono hWr.size)⟩
          · exact ((KW.out.1).below (hWr.trans (b5.mono hWr.size)) (by omega))
          · exact KW.out.2.trans ((hWr.trans (b5.mono hWr.size)).mono (by omega)))
        clear o5 b5
        cases hrf : RF with
        | false =>
          have hc7 : cF = 7 := by rw [HEl.out.2, hrf]; rfl
          rw [hc7]
          have HF := hide (show decSn zs = noSn ∧ codeDS zs = 21 from by
            have ho : okSn zs = false := by rw [HOk.out, hrf]; rfl
            exact ⟨by rw [HDec.out, ho]; rfl, by unfold codeDS; rw [ho]; rfl⟩)
          clear hc7
          go_wp2_with (refine wpList_store_row rfl 27 _ _ rfl w.heap.size noSn rfl rfl 27 _ K5.out.2.1 info19 rfl noSn_one ?_)
          refine bodyPost_ret (v := .tuple #[.agg noSn, .int .i64 21]) ?_ rfl ⟨by rw [HF.out.1, HF.out.2], below_setRow K5.out.2.2.1 (Nat.le_refl _) _⟩
          exact results_row_tmp rfl _ _ w.heap.size 27 noSn (0, 0) _ _ rfl rfl (K5.out.2.1.row _) Tryd.underlying27 rfl info19
        | true =>
          have hc0 : cF = 0 := by rw [HEl.out.2, hrf]; rfl
          rw [hc0]
          clear hc0
          have v1 : (convert 22 9 (.slice (some ⟨bd, off, none⟩) 512 cap)).run Tryd.prog w5 = .ok (.string (strOfNums zs)) w5 := by
            obtain ⟨b6, o6, c6, e6, _, _, _, hc6⟩ := (HRW.out w5 K5.out.2.2.2.2).partsC (by rw [HZ0.out]; omega)
            injection e6 with e6 e7 e8
            injection e6 with e6
            injection e6 with e6 e9 e10
            subst e6 e9 e8
            exact run_convert_bytes_arg (P := Tryd.prog) w5 22 5 Tryd.underlying22 Tryd.underlying5 bd off 512 cap zs HZ0.out (fun i hi => hc6 i (by rw [HZ0.out]; exact hi)) 9 Tryd.underlying9
          by_cases hEz : E = zs
          · obtain ⟨g5, of5, cp5, rfl, _, _, _, hc5⟩ := K5.out.2.2.2.1.partsC (by rw [hEz, HZ0.out]; omega)
            have v2 := run_convert_bytes_arg (P := Tryd.prog) w5 22 5 Tryd.underlying22 Tryd.underlying5 g5 of5 E.length cp5 E rfl (fun i hi => hc5 i hi) 9 Tryd.underlying9
            have HF := hide (show decSn zs = XF ∧ codeDS zs = 0 from by
              have ho : okSn zs = true := by rw [HOk.out, hrf, decide_eq_true hEz]; rfl
              exact ⟨by rw [HDec.out, ho]; rfl, by unfold codeDS; rw [ho]; rfl⟩)
            rw [hEz] at v2 ⊢
            rw [HZ0.out] at v2 ⊢
            clear hc5 hEz
            generalize strOfNums zs = S at v1 v2
            go_wp2_with (first | (refine wpList_load_row rfl 27 _ rfl g rfl 27 XF (0, 0) _ K5.out.1 Tryd.underlying27 rfl (by rw [HXZ.out]; exact info19) ?_) | (refine wpList_store_row rfl 27 _ _ rfl w.heap.size XF rfl rfl 27 _ K5.out.2.1 (by rw [HXZ.out]; exact info19) (by rw [HXZ.out]; rfl) HX1.out ?_))
            refine bodyPost_ret (v := .tuple #[.agg XF, .int .i64 0]) ?_ rfl ⟨by rw [HF.out.1, HF.out.2], below_setRow K5.out.2.2.1 (Nat.le_refl _) _⟩
            exact results_row_tmp rfl _ _ w.heap.size 27 XF (0, 0) _ _ rfl rfl (K5.out.2.1.row _) Tryd.underlying27 rfl (by rw [HXZ.out]; exact info19)
          · have HF := hide (show decSn zs = noSn ∧ codeDS zs = 21 from by
              have ho : okSn zs = false := by rw [HOk.out, hrf, decide_eq_false hEz]; rfl
              exact ⟨by rw [HDec.out, ho]; rfl, by unfold codeDS; rw [ho]; rfl⟩)
            have hne : ¬ (strOfNums E).toList = (strOfNums zs).toList := fun h => hEz (strOf_injF HEl.out.1 HB.out h)
            obtain ⟨a5, cp5, rfl⟩ : ∃ a cp, v5 = .slice a E.length cp := by obtain ⟨a, cp, h1, _⟩ := K5.out.2.2.2.1; exact ⟨a, cp, h1⟩
            have v2 := conv_rdF K5.out.2.2.2.1
            clear hEz
            generalize strOfNums zs = S1 at v1 hne
            generalize strOfNums E = S2 at v2 hne
            have hne1 : (S2.toList == S1.toList) = false := by simpa using hne
            clear hne
            go_wp2_with (refine wpList_store_row rfl 27 _ _ rfl w.heap.size noSn rfl rfl 27 _ K5.out.2.1 info19 rfl noSn_one ?_)
            refine bodyPost_ret (v := .tuple #[.agg noSn, .int .i64 21]) ?_ rfl ⟨by rw [HF.out.1, HF.out.2], below_setRow K5.out.2.2.1 (Nat.le_refl _) _⟩
            exact results_row_tmp rfl _ _ w.heap.size 27 noSn (0, 0) _ _ rfl rfl (K5.out.2.1.row _) Tryd.underlying27 rfl info19
    · have HF := hide (show decSn zs = noSn ∧ codeDS zs = 21 from by
        have ho : okSn zs = false := by unfold okSn; rw [decide_eq_false (show ¬ nlen zs ≤ 26 by rw [← hN]; exact hN6), Bool.false_and, Bool.and_false]
        exact ⟨by unfold decSn; rw [ho]; rfl, by unfold codeDS; rw [ho]; rfl⟩)
      rw [HF.out.1, HF.out.2]
      have hg9 : (26 : Int) < (N : Int) := by omega
      rw [HW9.out] at KW
      clear h hbd hcell hW hz c9w hP hN hPz hNz HRW hWs
      go_enter Tryd.func5, Tryd.ntmps5
      go_wp2_with (refine wpList_store_row rfl 27 _ _ rfl w.heap.size noSn rfl rfl 27 _ KW.out.1 info19 rfl noSn_one ?_)
      refine bodyPost_ret (v := .tuple #[.agg noSn, .int .i64 21]) ?_ rfl ⟨rfl, below_setRow KW.out.2 (Nat.le_refl _) _⟩
      exact results_row_tmp rfl _ _ w.heap.size 27 noSn (0, 0) _ _ rfl rfl (KW.out.1.row _) Tryd.underlying27 rfl info19
  · have hq : ((zs.length : Int) != 512) = true := by simp; omega
    obtain ⟨a, cap, rfl⟩ : ∃ a cap, v = .slice a zs.length cap := by obtain ⟨a, cap, h1, _⟩ := h; exact ⟨a, cap, h1⟩
    have HF := hide (show decSn zs = noSn ∧ codeDS zs = 21 from by
      have ho : okSn zs = false := by unfold okSn; rw [decide_eq_false hz]; rfl
      exact ⟨by unfold decSn; rw [ho]; rfl, by unfold codeDS; rw [ho]; rfl⟩)
    rw [HF.out.1, HF.out.2]
    clear hz
    have KW := hide (show Blk (w.alloc (.cells noSn 27)) w.heap.size noSn 27 ∧ Below w.heap.size w (w.alloc (.cells noSn 27)) from ⟨Blk.new _ _ _, (Below.refl _ _).alloc (Nat.le_refl _) _⟩)
    go_enter Tryd.func5, Tryd.ntmps5
    go_wp2_with (refine wpList_store_row rfl 27 _ _ rfl w.heap.size noSn rfl rfl 27 _ KW.out.1 info19 rfl noSn_one ?_)
    refine bodyPost_ret (v := .tuple #[.agg noSn, .int .i64 21]) ?_ rfl ⟨rfl, below_setRow KW.out.2 (Nat.le_refl _) _⟩
    exact results_row_tmp rfl _ _ w.heap.size 27 noSn (0, 0) _ _ rfl rfl (KW.out.1.row _) Tryd.underlying27 rfl info19
end Go.Proofs.YtkaennkfieebmaaDoor

namespace Go.Proofs.YtkaennkfieebmaaDoor
set_option linter.unusedVariables false
set_option linter.unusedSimpArgs false
open Go.RowKit

set_option maxRecDepth 100000 in
set_option maxHeartbeats 2000000 in
theorem eqSnap_same (pl : Int) (nm : ByteArray) (ge cl s : Int) (ds : List Int) (p q : Int) (w : World) (hd : ds.length = 12) :
    Calls Tryd.prog 8 #[.agg (snapC pl nm ge cl s ds p q), .agg (snapC pl nm ge cl s ds p q)] w fun e w' => e = .returned (.bool true) ∧ Below w.heap.size w w' := by
  have HD := hide hd
  have HLen1 := hide (show (cellsI (rootI s ds p q)).size = 15 from by rw [cellsI_size]; exact rootI_len _ _ _ _ hd)
  obtain ⟨W, hW⟩ : ∃ W, W = (w.alloc (.cells (snapC pl nm ge cl s ds p q) 27)).alloc (.cells (snapC pl nm ge cl s ds p q) 27) := ⟨_, rfl⟩
  have KK := hide (show Blk W w.heap.size (snapC pl nm ge cl s ds p q) 27 ∧ Blk W (w.heap.size + 1) (snapC pl nm ge cl s ds p q) 27 ∧ Below w.heap.size w W from by
    rw [hW]
    refine ⟨(Blk.new w _ _).alloc _, ?_, ((Below.refl _ _).alloc (Nat.le_refl _) _).alloc (by simp) _⟩
    have h := Blk.new (w.alloc (.cells (snapC pl nm ge cl s ds p q) 27)) (snapC pl nm ge cl s ds p q) 27
    rw [World.size_alloc] at h
    exact h)
  have HW9 := hide hW
  clear hd hW
  go_enter Tryd.func8, Tryd.ntmps8
  have ca0 : W.cell? ⟨w.heap.size, 0, none⟩ = some (.int .i64 pl) := (KK.out.1.cell 0).trans rfl
  have cb0 : W.cell? ⟨w.heap.size + 1, 0, none⟩ = some (.int .i64 pl) := (KK.out.2.1.cell 0).trans rfl
  have ca1 : W.cell? ⟨w.heap.size, 1, none⟩ = some (.string nm) := (KK.out.1.cell 1).trans rfl
  have cb1 : W.cell? ⟨w.heap.size + 1, 1, none⟩ = some (.string nm) := (KK.out.2.1.cell 1).trans rfl
  have ca2 : W.cell? ⟨w.heap.size, 2, none⟩ = some (.int .i64 ge) := (KK.out.1.cell 2).trans rfl
  have cb2 : W.cell? ⟨w.heap.size + 1, 2, none⟩ = some (.int .i64 ge) := (KK.out.2.1.cell 2).trans rfl
  have ca3 : W.cell? ⟨w.heap.size, 3, none⟩ = some (.int .i64 cl) := (KK.out.1.cell 3).trans rfl
  have cb3 : W.cell? ⟨w.heap.size + 1, 3, none⟩ = some (.int .i64 cl) := (KK.out.2.1.cell 3).trans rfl
  rw [HW9.out] at KK ca0 cb0 ca1 cb1 ca2 cb2 ca3 cb3
  have R1 := hide (snap_range pl nm ge cl s ds p q KK.out.1)
  have R2 := hide (snap_range pl nm ge cl s ds p q KK.out.2.1)
  have hss : (nm.toList == nm.toList) = true := by simp
  go_wp2_with (first
    | (refine wpList_load_mid rfl 25 _ rfl w.heap.size 4 rfl ((rootI s ds p q).map (Value.int .i64)) _ R1.out Tryd.underlying25 rfl (by rw [List.length_map, ← cellsI_size, HLen1.out]; exact info15) ?_)
    | (refine wpList_load_mid rfl 25 _ rfl (w.heap.size + 1) 4 rfl ((rootI s ds p q).map (Value.int .i64)) _ R2.out Tryd.underlying25 rfl (by rw [List.length_map, ← cellsI_size, HLen1.out]; exact info15) ?_)
    | (go_at_call 22; fail))
  refine (eqRoot_same s ds p q _ HD.out).mono ?_
  rintro e w1 ⟨rfl, b1⟩
  have B3 := hide (KK.out.2.2.trans (b1.mono KK.out.2.2.size))
  clear b1 R1 R2 KK ca0 cb0 ca1 cb1 ca2 cb2 ca3 cb3
  go_wp2
  go_ret
  exact ⟨rfl, B3.out⟩
end Go.Proofs.YtkaennkfieebmaaDoor

namespace Go.Proofs.YtkaennkfieebmaaDoor
set_option linter.unusedVariables false
set_option linter.unusedSimpArgs false
open Go.RowKit

set_option maxRecDepth 100000 in
set_option maxHeartbeats 2000000 in
theorem lawDecS (v0 : Value) (ws : List Int) (w : World) (h : Rd .u8 w v0 ws) (hbd : ∀ z ∈ ws, 0 ≤ z ∧ z < 256) (hg : ErrT w) (hL : LetS w) :
    Calls Tryd.prog 3 #[v0] w fun e w' => e = .returned (.bool true) ∧ Below w.heap.size w w' := by
  have hm := h.len
  unfold maxLen at hm
  have hsh : ∃ a cap, v0 = .slice a ws.length cap := by obtain ⟨a, cap, h1, _⟩ := h; exact ⟨a, cap, h1⟩
  obtain ⟨a0, cap0, rfl⟩ := hsh
  have H := hide (And.intro h hg)
  have HLt := hide hL
  have HB := hide hbd
  clear h hg hbd hL
  by_cases hbig : (1048576 : Int) < (ws.length : Int)
  · go_enter Tryd.func3, Tryd.ntmps3
    go_wp2
    go_ret
    exact ⟨rfl, Below.refl _ _⟩
  · have hsm : ws.length ≤ 1048576 := by omega
    clear hbig
    have HS := hide (fun (v : Value) (w : World) (hr : Rd .u8 w v ws) => specDS_any v ws w hr HB.out)
    have HI := hide (fun (v : Value) (w : World) (hr : Rd .u8 w v ws) (hg : ErrT w) (hL : LetS w) => implDS_same v ws w hr HB.out hsm hg hL)
    have HR := hide (decSn_sn ws HB.out)
    generalize decSn ws = R at HS HI HR
    generalize codeDS ws = c at HS HI
    obtain ⟨pl, nm, ge, cl, s, ds, p, q, hd1, hnm, hR⟩ := HR.out
    have HZ := hide (show R.size = 19 from by rw [hR]; exact snapC_size _ _ _ _ _ _ _ _ hd1)
    have HO := hide (show R.all (·.oneCell') = true from by rw [hR]; exact snapC_one _ _ _ _ _ _ _ _)
    have HQ := hide (show ∀ w : World, Calls Tryd.prog 8 #[.agg R, .agg R] w fun e w' => e = .returned (.bool true) ∧ Below w.heap.size w w' from fun w => by rw [hR]; exact eqSnap_same pl nm ge cl s ds p q w hd1)
    have hcc : (c != c) = false := by simp
    clear hR hd1 hnm HR
    go_enter Tryd.func3, Tryd.ntmps3
    go_wp2_with fail
    refine (toByteS_any _ ws _ H.out.1 (by omega)).mono ?_
    rintro e w1 ⟨v1, rfl, o1, b1⟩
    have R1 := hide (Rd.own o1)
    have B1 := hide b1
    clear o1 b1
    go_wp2_with fail
    refine (HS.out v1 _ R1.out).mono ?_
    rintro e w2 ⟨rfl, b2⟩
    have B2 := hide (B1.out.trans (b2.mono B1.out.size))
    clear b2 R1 B1
    have K2 := hide (show Blk ((w2.alloc (.cells #[.int .i64 0, .string ⟨#[]⟩, .int .i64 0, .int .i64 0, .int .i64 0, .int .i64 0, .int .i64 0, .int .i64 0, .int .i64 0, .int .i64 0, .int .i64 0, .int .i64 0, .int .i64 0, .int .i64 0, .int .i64 0, .int .i64 0, .int .i64 0, .int .i64 0, .int .i64 0] 27)).setRow w2.heap.size R) w2.heap.size R 27 ∧ Below w.heap.size w ((w2.alloc (.cells #[.int .i64 0, .string ⟨#[]⟩, .int .i64 0, .int .i64 0, .int .i64 0, .int .i64 0, .int .i64 0, .int .i64 0, .int .i64 0, .int .i64 0, .int .i64 0, .int .i64 0, .int .i64 0, .int .i64 0, .int .i64 0, .int .i64 0, .int .i64 0, .int .i64 0, .int .i64 0] 27)).setRow w2.heap.size R) from ⟨(Blk.new w2 #[.int .i64 0, .string ⟨#[]⟩, .int .i64 0, .int .i64 0, .int .i64 0, .int .i64 0, .int .i64 0, .int .i64 0, .int .i64 0, .int .i64 0, .int .i64 0, .int .i64 0, .int .i64 0, .int .i64 0, .int .i64 0, .int .i64 0, .int .i64 0, .int .i64 0, .int .i64 0] 27).row _, below_setRow (B2.out.alloc B2.out.size _) B2.out.size _⟩)
    go_wp2_with (first | (refine wpList_store_row rfl 27 _ _ rfl w2.heap.size R rfl rfl 27 _ (Blk.new w2 #[.int .i64 0, .string ⟨#[]⟩, .int .i64 0, .int .i64 0, .int .i64 0, .int .i64 0, .int .i64 0, .int .i64 0, .int .i64 0, .int .i64 0, .int .i64 0, .int .i64 0, .int .i64 0, .int .i64 0, .int .i64 0, .int .i64 0, .int .i64 0, .int .i64 0, .int .i64 0] 27) (by rw [HZ.out]; exact info19) (by rw [HZ.out]; rfl) HO.out ?_) | (go_at_call 6; fail))
    generalize hW3 : ((w2.alloc (.cells #[.int .i64 0, .string ⟨#[]⟩, .int .i64 0, .int .i64 0, .int .i64 0, .int .i64 0, .int .i64 0, .int .i64 0, .int .i64 0, .int .i64 0, .int .i64 0, .int .i64 0, .int .i64 0, .int .i64 0, .int .i64 0, .int .i64 0, .int .i64 0, .int .i64 0, .int .i64 0] 27)).setRow w2.heap.size R) = w3 at K2 ⊢
    clear hW3
    refine (toByteS_any _ ws _ (H.out.1.below K2.out.2) (by omega)).mono ?_
    rintro e w4 ⟨x0, rfl, o4, b4⟩
    have X4 := hide o4
    have K4 := hide (And.intro (K2.out.1.below b4 K2.out.1.lt) (K2.out.2.trans (b4.mono K2.out.2.size)))
    clear o4 b4 K2
    go_wp2_with fail
    refine (HI.out x0 _ (Rd.own X4.out) (H.out.2.below K4.out.2) (HLt.out.below K4.out.2)).mono ?_
    rintro e w5 ⟨rfl, b5⟩
    have X5 := hide (own_below X4.out b5)
    have K5 := hide (And.intro (K4.out.1.below b5 K4.out.1.lt) (K4.out.2.trans (b5.mono K4.out.2.size)))
    clear b5 K4 X4
    have hlt5 := K5.out.1.lt
    have K6 := hide (show Blk ((w5.alloc (.cells #[.int .i64 0, .string ⟨#[]⟩, .int .i64 0, .int .i64 0, .int .i64 0, .int .i64 0, .int .i64 0, .int .i64 0, .int .i64 0, .int .i64 0, .int .i64 0, .int .i64 0, .int .i64 0, .int .i64 0, .int .i64 0, .int .i64 0, .int .i64 0, .int .i64 0, .int .i64 0] 27)).setRow w5.heap.size R) w5.heap.size R 27 ∧ Blk ((w5.alloc (.cells #[.int .i64 0, .string ⟨#[]⟩, .int .i64 0, .int .i64 0, .int .i64 0, .int .i64 0, .int .i64 0, .int .i64 0, .int .i64 0, .int .i64 0, .int .i64 0, .int .i64 0, .int .i64 0, .int .i64 0, .int .i64 0, .int .i64 0, .int .i64 0, .int .i64 0, .int .i64 0] 27)).setRow w5.heap.size R) w2.heap.size R 27 ∧ Below w.heap.size w ((w5.alloc (.cells #[.int .i64 0, .string ⟨#[]⟩, .int .i64 0, .int .i64 0, .int .i64 0, .int .i64 0, .int .i64 0, .int .i64 0, .int .i64 0, .int .i64 0, .int .i64 0, .int .i64 0, .int .i64 0, .int .i64 0, .int .i64 0, .int .i64 0, .int .i64 0, .int .i64 0, .int .i64 0] 27)).setRow w5.heap.size R) ∧ Below w5.heap.size w5 ((w5.alloc (.cells #[.int .i64 0, .string ⟨#[]⟩, .int .i64 0, .int .i64 0, .int .i64 0, .int .i64 0, .int .i64 0, .int .i64 0, .int .i64 0, .int .i64 0, .int .i64 0, .int .i64 0, .int .i64 0, .int .i64 0, .int .i64 0, .int .i64 0, .int .i64 0, .int .i64 0, .int .i64 0] 27)).setRow w5.heap.size R) from ⟨(Blk.new w5 #[.int .i64 0, .string ⟨#[]⟩, .int .i64 0, .int .i64 0, .int .i64 0, .int .i64 0, .int .i64 0, .int .i64 0, .int .i64 0, .int .i64 0, .int .i64 0, .int .i64 0, .int .i64 0, .int .i64 0, .int .i64 0, .int .i64 0, .int .i64 0, .int .i64 0, .int .i64 0] 27).row _, (setRow_block _ _ _ _ (by omega)).trans (K5.out.1.alloc _), below_setRow (K5.out.2.alloc K5.out.2.size _) K5.out.2.size _, below_setRow ((Below.refl _ _).alloc (Nat.le_refl _) _) (Nat.le_refl _) _⟩)
    go_wp2_with (first | (refine wpList_store_row rfl 27 _ _ rfl w5.heap.size R rfl rfl 27 _ (Blk.new w5 #[.int .i64 0, .string ⟨#[]⟩, .int .i64 0, .int .i64 0, .int .i64 0, .int .i64 0, .int .i64 0, .int .i64 0, .int .i64 0, .int .i64 0, .int .i64 0, .int .i64 0, .int .i64 0, .int .i64 0, .int .i64 0, .int .i64 0, .int .i64 0, .int .i64 0, .int .i64 0] 27) (by rw [HZ.out]; exact info19) (by rw [HZ.out]; rfl) HO.out ?_) | (refine wpList_load_row rfl 27 _ rfl w5.heap.size rfl 27 R (0, 0) _ K6.out.1 Tryd.underlying27 rfl (by rw [HZ.out]; exact info19) ?_) | (refine wpList_load_row rfl 27 _ rfl w2.heap.size rfl 27 R (0, 0) _ K6.out.2.1 Tryd.underlying27 rfl (by rw [HZ.out]; exact info19) ?_) | (go_at_call 8; fail))
    have X6 := hide (own_below X5.out K6.out.2.2.2)
    have B6 := hide K6.out.2.2.1
    generalize hW6 : ((w5.alloc (.cells #[.int .i64 0, .string ⟨#[]⟩, .int .i64 0, .int .i64 0, .int .i64 0, .int .i64 0, .int .i64 0, .int .i64 0, .int .i64 0, .int .i64 0, .int .i64 0, .int .i64 0, .int .i64 0, .int .i64 0, .int .i64 0, .int .i64 0, .int .i64 0, .int .i64 0, .int .i64 0] 27)).setRow w5.heap.size R) = w6 at X6 B6 ⊢
    clear hW6 K6 X5
    refine (HQ.out _).mono ?_
    rintro e w7 ⟨rfl, b7⟩
    have X7 := hide (own_below X6.out b7)
    have B7 := hide (B6.out.trans (b7.mono B6.out.size))
    clear b7 X6 B6
    go_wp2_with fail
    refine (toByteS_any _ ws _ (H.out.1.below B7.out) (by omega)).mono ?_
    rintro e w8 ⟨t0, rfl, o8, b8⟩
    have T8 := hide (Rd.own o8)
    have X8 := hide (own_below X7.out b8)
    have B8 := hide (B7.out.trans (b8.mono B7.out.size))
    clear o8 b8 X7 B7
    go_wp2_with fail
    refine (eqByteS_same x0 t0 ws _ (Rd.own X8.out) T8.out).mono ?_
    rintro e w9 ⟨rfl, b9⟩
    have B9 := hide (B8.out.trans (b9.mono B8.out.size))
    clear b9 X8 B8 T8
    go_wp2
    go_ret
    exact ⟨rfl, B9.out⟩
end Go.Proofs.YtkaennkfieebmaaDoor

namespace Go.Proofs.YtkaennkfieebmaaDoor
set_option linter.unusedVariables false
set_option linter.unusedSimpArgs false
open Go.RowKit

end Go.Proofs.YtkaennkfieebmaaDoor

namespace Go.Proofs.YtkaennkfieebmaaDoor
set_option linter.unusedVariables false
set_option linter.unusedSimpArgs false
open Go.ChangeShapes Go.WideShapes Go.ChangeAt Go.RowKit

theorem cells1 : Tryd.prog.cellsOf 3 = 1 := by kernel_rfl
theorem cells12 : Tryd.prog.cellsOf 23 = 12 := by kernel_rfl
theorem take_one {l : List Value} {o : Nat} {c : Value} (h : (l.drop o).take 1 = [c]) : l[o]? = some c := by
  have h2 : ((l.drop o).take 1)[0]? = some c := by rw [h]; rfl
  simpa using h2

theorem ints_of_cells : ∀ (l : List Value), (∀ i, i < l.length → ∃ a, l[i]? = some (.int .i64 a)) → ∃ rs : List Int, l = rs.map (Value.int .i64)
  | [], _ => ⟨[], rfl⟩
  | c :: l, h => by
    obtain ⟨a, ha⟩ := h 0 (by simp)
    obtain ⟨rs, hrs⟩ := ints_of_cells l (fun i hi => by have := h (i + 1) (by simpa using hi); simpa using this)
    simp at ha
    exact ⟨a :: rs, by rw [ha, hrs]; rfl⟩

end Go.Proofs.YtkaennkfieebmaaDoor

namespace Go.Proofs.YtkaennkfieebmaaDoor
set_option linter.unusedVariables false
set_option linter.unusedSimpArgs false
open Go.ChangeShapes Go.WideShapes Go.ChangeAt Go.RowKit

end Go.Proofs.YtkaennkfieebmaaDoor

namespace Go.Proofs.YtkaennkfieebmaaDoor
set_option linter.unusedVariables false
set_option linter.unusedSimpArgs false
open Go.ChangeShapes Go.WideShapes Go.ChangeAt Go.RowKit

theorem cellsStr : Tryd.prog.cellsOf 9 = 1 := by kernel_rfl
theorem cellsU8 : Tryd.prog.cellsOf 5 = 1 := by kernel_rfl
theorem d_let : Tryd.prog.globalNamed "loop.example/s02533/impl.snapLetters" = some 0 := by kernel_rfl
theorem d_lett : (Tryd.prog.globals[0]?).map (·.type) = some 47 := by kernel_rfl
theorem d_letu : Tryd.prog.underlying 47 = some (.array 8 5) := by kernel_rfl
theorem letS_of {W : World} (h : laidMet Tryd.prog [("loop.example/s02533/impl.snapLetters", Rows.laid_loop_example_s02533_impl_snapLetters)] W) : LetS W := by
  obtain ⟨ps, ⟨g, t, cs, fuel, p, q, h1, h2, h3, h4, _, _⟩, _⟩ := h
  obtain rfl := Option.some.inj (d_let.symm.trans h1)
  obtain rfl := Option.some.inj (d_lett.symm.trans h2)
  obtain ⟨xs, m, _, hx, hlen, hxl, hel⟩ := DataW.trod_array d_letu h4
  have hx1 : Rows.laid_loop_example_s02533_impl_snapLetters = DataW.agg (xs.map (·.1)) := congrArg Prod.fst hx
  unfold Rows.laid_loop_example_s02533_impl_snapLetters at hx1
  injection hx1 with hx2
  intro j v hv
  rw [Nat.zero_add, World.var?_cell d_let h3 j]
  have hj : j < 8 := by
    rcases Nat.lt_or_ge j 8 with h | h
    · exact h
    · rw [List.getElem?_eq_none (by simp [snapLet]; omega)] at hv; cases hv
  have he := hel j hj
  rw [cellsU8, Nat.mul_one, List.getElem?_eq_getElem (by omega)] at he
  obtain ⟨a, ea, hxa, _⟩ := DataW.trod_int Tryd.underlying5 he
  have hc := take_one ea
  have hd : (xs.map (·.1))[j]? = some (.lit (.int .u8 a)) := by
    rw [List.getElem?_map, List.getElem?_eq_getElem (by omega), hxa]; rfl
  rw [← hx2] at hd
  rw [show cs[j]? = cs.toList[j]? from by simp, hc, ← hv]
  match j, hj with
  | 0, _ | 1, _ | 2, _ | 3, _ | 4, _ | 5, _ | 6, _ | 7, _ =>
    simp at hd
    subst hd
    rfl
/-- A world that meets both conditions. -/
noncomputable def laidWorldS (os : Os) : World :=
  let w0 := laidWorld os
  { w0 with heap := w0.heap.modify 0 fun
      | .cells _ t frozen => .cells #[.int .u8 115, .int .u8 110, .int .u8 97, .int .u8 112, .int .u8 115, .int .u8 104, .int .u8 111, .int .u8 116] t frozen
      | o => o }
end Go.Proofs.YtkaennkfieebmaaDoor
