/- The program's readWords. -/
import Derived.Test.YtnljpaohkkdjjaaGreatDoorPlX
import Derived.Test.YtnljpaohkkdjjaaGreatDoorNestA
namespace Go.Proofs.YtnljpaohkkdjjaaGreatDoor
set_option linter.unusedVariables false
set_option linter.unusedSimpArgs false
open Go.RowKit

/-- The slice value v reads in w as these strings. -/
def RdW (w : World) (v : Value) (ys : List ByteArray) : Prop := ∃ a cap, v = .slice a ys.length cap ∧ (0 < ys.length → ∃ b off, a = some ⟨b, off, none⟩ ∧ b < w.heap.size ∧ ∀ (i : Nat) (y : ByteArray), ys[i]? = some y → w.cell? ⟨b, off + i, none⟩ = some (.string y))
theorem RdW.below {w w' : World} {v : Value} {ys : List ByteArray} (h : RdW w v ys) (hb : Below w.heap.size w w') : RdW w' v ys := by
  obtain ⟨a, cap, rfl, hc⟩ := h
  refine ⟨a, cap, rfl, fun hn => ?_⟩
  obtain ⟨b, off, rfl, hlt, hcell⟩ := hc hn
  exact ⟨b, off, rfl, Nat.lt_of_lt_of_le hlt hb.size, fun i y hy => (hb.cell (p := ⟨b, off + i, none⟩) hlt).trans (hcell i y hy)⟩
/-- What is said, as an element of a list. -/
def neS (y : Int × List UInt8) : NE := ([.int .i64 y.1], y.2.map fun b => (b.toNat : Int))
theorem bytes_neS (t : List UInt8) : Lib.byteCells t = (t.map fun b => (b.toNat : Int)).map (Value.int .u8) := by
  unfold Lib.byteCells; rw [List.map_map]; rfl
theorem infoS2 : (Tryz.prog.info? 70).map (fun i => (i.zero, i.size, i.bytes)) = some (some (.agg #[.int .i64 0, .slice none 0 0]), 2, 32) := by kernel_rfl
/-- What readWords answers. -/
def SaysR (x : Except Int (List (Int × List UInt8))) (lo : Nat) (v ev : Value) (w : World) : Prop := match x with
  | .ok S => ev = .nilIface ∧ ∃ vs, OwnN w lo 70 1 v (S.map neS) vs
  | .error c => v = .slice none 0 0 ∧ ∃ m, Flt w lo m ev c
theorem says_no {x : Except Int (List (Int × List UInt8))} {c : Int} (h : x = .error c) {lo m : Nat} {ev : Value} {w : World} (hf : Flt w lo m ev c) : SaysR x lo (.slice none 0 0) ev w := by subst h; exact ⟨rfl, m, hf⟩
theorem says_yes {x : Except Int (List (Int × List UInt8))} {S : List (Int × List UInt8)} (h : x = .ok S) {lo : Nat} {v : Value} {vs : List Value} {w : World} (ho : OwnN w lo 70 1 v (S.map neS) vs) : SaysR x lo v .nilIface w := by subst h; exact ⟨rfl, vs, ho⟩
/-- Words read one behind another. -/
structure RsI (f : List UInt8) (xs : List (List UInt8)) (w : World) (k : Nat) (S : List (Int × List UInt8)) (vs : List Value) (v : Value) (wr : World) : Prop where
  own : OwnN wr w.heap.size 70 1 v (S.map neS) vs
  bel : Below w.heap.size w wr
  len : S.length = k
  all : sayAll f xs = (sayAll (f.drop k) (xs.drop k)).map (S ++ ·)
theorem say_step {f : List UInt8} {xs : List (List UInt8)} {k : Nat} {S : List (Int × List UInt8)} {g : UInt8} {x : List UInt8} (h : sayAll f xs = (sayAll (f.drop k) (xs.drop k)).map (S ++ ·)) (hf : f[k]? = some g) (hx : xs[k]? = some x) :
    sayAll f xs = match sayF g x with | .ok y => (sayAll (f.drop (k + 1)) (xs.drop (k + 1))).map ((S ++ [y]) ++ ·) | .error c => .error c := by
  obtain ⟨h1, h2⟩ := List.getElem?_eq_some_iff.1 hf
  obtain ⟨h3, h4⟩ := List.getElem?_eq_some_iff.1 hx
  rw [h, List.drop_eq_getElem_cons h1, List.drop_eq_getElem_cons h3, h2, h4]
  simp only [sayAll]
  cases sayF g x with
  | error c => rfl
  | ok y =>
    simp only []
    cases sayAll (f.drop (k + 1)) (xs.drop (k + 1)) with
    | error c => rfl
    | ok T => simp [Except.map]
theorem say_end {f : List UInt8} {xs : List (List UInt8)} {k : Nat} {S : List (Int × List UInt8)} (h : sayAll f xs = (sayAll (f.drop k) (xs.drop k)).map (S ++ ·)) (hk : f.length ≤ k) : sayAll f xs = .ok S := by
  rw [h, List.drop_eq_nil_of_le hk]
  simp [sayAll, Except.map]
theorem rs_bad {f : List UInt8} {xs : List (List UInt8)} {w wr : World} {k : Nat} {S : List (Int × List UInt8)} {vs : List Value} {v : Value} {g : UInt8} {x : List UInt8} {c : Int} (h : RsI f xs w k S vs v wr) (hf : f[k]? = some g) (hx : xs[k]? = some x) (hs : sayF g x = .error c) : sayAll f xs = .error c := by
  rw [say_step h.all hf hx, hs]
theorem rs_push {f : List UInt8} {xs : List (List UInt8)} {w wr w2 w' : World} {k n : Nat} {S : List (Int × List UInt8)} {vs : List Value} {v v' u : Value} {g : UInt8} {x : List UInt8} {y : Int × List UInt8} (h : RsI f xs w k S vs v wr) (hf : f[k]? = some g) (hx : xs[k]? = some x) (hs : sayF g x = .ok y)
    (hn : n = S.length) (hb : Below wr.heap.size wr w2) (hu : w2.ownsRow wr.heap.size 5 1 u y.2.length (Lib.byteCells y.2))
    (ho : w'.ownsRow w.heap.size 70 2 v' (n + 1) (cellsN vs (S.map neS) ++ [.int .i64 y.1, u])) (hg : w2.grownBy w' v.ownBlock) : RsI f xs w (k + 1) (S ++ [y]) (vs ++ [u]) v' w' := by
  have hO := h.own.below hb
  refine ⟨?_, ?_, by simp [h.len], by rw [say_step h.all hf hx, hs]⟩
  · rw [List.map_append]
    refine hO.push (by decide) (neS y) u rfl ?_ (fun i u' b hi hb' he => ?_) (by rw [List.length_map, ← hn]; exact ho) hg
    · have := own_mono hu h.bel.size
      rw [bytes_neS] at this
      simpa [neS] using this
    · obtain ⟨l, hl⟩ : ∃ l, (S.map neS)[i]? = some l := ⟨_, List.getElem?_eq_getElem (by rw [← h.own.len]; exact (List.getElem?_eq_some_iff.1 hi).1)⟩
      have h1 := ((h.own.dat i u' l hi hl).lt b hb').2
      have h2 := (hu.lt b he).1
      omega
  · refine (h.bel.trans (hb.mono h.bel.size)).grown hg (Nat.le_trans h.bel.size hb.size) (fun r hr => ?_)
    exact (h.own.row.lt r hr).1
theorem two_cells (W : World) (a b : Value) (t : TypeId) (n : Nat) (hn : W.heap.size = n) : ∀ j u, [a, b][j]? = some u → (W.alloc (.cells #[a, b] t)).cell? ((⟨n, 0, none⟩ : Addr).add j) = some u := by
  subst hn
  intro j u hj
  rw [Addr.add_mid, (Blk.new W #[a, b] t).cell]
  rw [Nat.zero_add]
  match j, hj with
  | 0, hj => simpa using hj
  | 1, hj => simpa using hj
theorem two_one {z : Int} {a : Option Addr} {k c : Nat} : ∀ u ∈ [Value.int .i64 z, .slice a k c], u.oneCell' = true := by
  intro u hu
  simp at hu
  rcases hu with rfl | rfl <;> rfl
set_option maxRecDepth 100000 in
set_option maxHeartbeats 4000000 in
theorem rwords_any (f : List UInt8) (xs : List (List UInt8)) (vw vc : Value) (w : World) (hw : RdW w vw (xs.map mk)) (hc : Rd .i64 w vc (f.map codeF)) (hx : ∀ x ∈ xs, x.length ≤ 1048576) (hxl : xs.length ≤ 4096) (hfl : f.length ≤ 4096) (hv : ErrV w) :
    Calls Tryz.prog 25 #[vw, vc] w fun e w' => ∃ v ev, e = .returned (.tuple #[v, ev]) ∧ SaysR (if xs.length = f.length then sayAll f xs else .error 26) w.heap.size v ev w' ∧ Below w.heap.size w w' := by
  obtain ⟨wa, wc, rfl, hwc⟩ := hw
  obtain ⟨ca, cc, rfl, _, hcc, _⟩ := hc
  rw [List.length_map] at hwc ⊢
  rw [List.length_map] at hcc ⊢
  obtain ⟨nx, hnx⟩ : ∃ nx, nx = xs.length := ⟨_, rfl⟩
  obtain ⟨nf, hnf⟩ : ∃ nf, nf = f.length := ⟨_, rfl⟩
  rw [← hnx] at hwc hxl ⊢
  rw [← hnf] at hcc hfl ⊢
  have HWC := hide hwc
  have HCC := hide hcc
  have HNX := hide hnx
  have HNF := hide hnf
  have HX := hide hx
  have HV := hide hv
  clear hwc hcc hnx hnf hx hv
  by_cases hne : nx = nf
  · subst hne
    rw [if_pos rfl]
    obtain ⟨i0, hi, hz0, hz1, hz2⟩ := info_parts infoS2
    go_enter Tryz.func25, Tryz.ntmps25
    go_wp2_with (refine wpList_make_own _ rfl _ _ 59 rfl w.heap.size 70 i0 (.agg #[.int .i64 0, .slice none 0 0]) 2 Tryz.underlying59 hi hz0 hz1 .i64 .i64 _ nx rfl rfl rfl (by rw [hz2]; omega) (by unfold maxLen; omega) (Nat.le_refl _) ?_; intro w1 o1 g1)
    have R0 := hide (show RsI f xs w 0 [] [] (.slice (some ⟨w.heap.size, 0, none⟩) 0 nx) w1 from ⟨⟨rfl, fun l h => (by cases h), o1, fun i u l h => (by simp at h), fun i j u u' b h => (by simp at h)⟩, (Below.refl _ _).grown g1 (Nat.le_refl _) (fun k h => by cases h), rfl, by simp only [List.drop_zero, List.nil_append]; cases sayAll f xs <;> rfl⟩)
    clear o1 g1
    go_loopw [6, 24] (fun v i wr => ∃ (k : Nat) (S : List (Int × List UInt8)) (vs : List Value), k ≤ nx ∧ i = .int .i64 (k : Int) ∧ Hid (RsI f xs w k S vs v wr)) (fun _ i _ => nx - (intOf i).toNat)
    case atStart => exact ⟨0, [], [], Nat.zero_le _, rfl, R0⟩
    case round =>
      obtain ⟨k, S, vs, hk, rfl, HR⟩ := hrel
      have HO := hide (show wr.ownsRow w.heap.size 70 2 u6 k (cellsN vs (S.map neS)) from by have h := HR.out.own.row; rw [List.length_map, HR.out.len] at h; exact h)
      obtain ⟨va, vcap, rfl⟩ := own_shape HO.out
      have HB := hide HR.out.bel.size
      by_cases hlt : k < nx
      · obtain ⟨x, hx⟩ : ∃ x, xs[k]? = some x := ⟨_, List.getElem?_eq_getElem (by rw [← HNX.out]; exact hlt)⟩
        obtain ⟨g, hg⟩ : ∃ g, f[k]? = some g := ⟨_, List.getElem?_eq_getElem (by rw [← HNF.out]; exact hlt)⟩
        obtain ⟨wb, woff, rfl, hwb, hwcell⟩ := HWC.out (by omega)
        obtain ⟨cb, coff, rfl, hcb, hccell⟩ := HCC.out (by intro e; have := congrArg List.length e; rw [List.length_map, ← HNF.out] at this; simp at this; omega)
        have c1 : wr.cell? ⟨wb, woff + k, none⟩ = some (.string (mk x)) := (HR.out.bel.cell (p := ⟨wb, woff + k, none⟩) hwb).trans (hwcell k (mk x) (by simp [hx]))
        have c2 : wr.cell? ⟨cb, coff + k, none⟩ = some (.int .i64 (codeF g)) := (HR.out.bel.cell (p := ⟨cb, coff + k, none⟩) hcb).trans ((hccell k hlt).trans (by simp [List.getD, hg]))
        have HXX := hide hx
        have HGG := hide hg
        have hms : (mk x).size ≤ 1048576 := by rw [mk_size]; exact HX.out x (List.mem_of_getElem? hx)
        clear hx hg hwcell hccell hwb hcb R0
        go_wp2_with (go_at_call 38; fail)
        refine (rword_any g (mk x) wr hms (HV.out.below HR.out.bel)).mono ?_
        rintro e w2 ⟨n, v, ev, rfl, ⟨va2, vk2, vc2, rfl⟩, hev, hsay, b2⟩
        rw [mk_toList] at hsay
        have B2 := hide b2
        have BB := hide (HR.out.bel.trans (b2.mono HR.out.bel.size))
        clear b2 c1 c2 hms
        cases hS : sayF g x with
        | error c =>
          rw [hS] at hsay
          have HBAD := hide (rs_bad HR.out HGG.out HXX.out hS)
          obtain ⟨m, hm⟩ := hsay
          have HM := hide hm
          obtain ⟨t', x', rfl⟩ := hm.iface
          clear hm hS hev
          go_wp2_with fail
          go_ret2
          exact ⟨_, _, rfl, says_no HBAD.out ((HM.out.mono HB.out).below (by first | exact (Below.refl _ _).alloc (Nat.le_refl _) _)), BB.out.alloc BB.out.size _⟩
        | ok y =>
          rw [hS] at hsay
          obtain ⟨rfl, rfl, hu⟩ := hsay
          have HU := hide hu
          have HS := hide hS
          clear hu hS hev
          have B4 := hide (show Below w2.heap.size w2 ((w2.alloc (.cells #[.int .i64 y.1, .slice va2 vk2 vc2] 70)).alloc (.cells #[.int .i64 y.1, .slice va2 vk2 vc2] 70)) from ((Below.refl _ _).alloc (Nat.le_refl _) _).alloc (by simp) _)
          have B5 := hide (B2.out.trans (B4.out.mono B2.out.size))
          go_wp2_with (at_builtin; refine wpList_append_own _ rfl (.tmp 41) (.tmp 43) 59 rfl w.heap.size 70 i0 (.agg #[.int .i64 0, .slice none 0 0]) 2 32 Tryz.underlying59 hi hz0 hz1 hz2 rfl (by decide) _ k _ rfl (own_below HO.out B5.out) ⟨w2.heap.size + 1, 0, none⟩ 1 1 [.int .i64 y.1, .slice va2 vk2 vc2] rfl rfl (two_cells _ _ _ _ _ (by simp)) two_one (by unfold maxLen; omega) (by omega) (Nat.le_trans HB.out B5.out.size) ?_; intro v3 w3 o3 g3 _; have R3 := hide (rs_push HR.out HGG.out HXX.out HS.out HR.out.len.symm B5.out (own_below HU.out B4.out) o3 g3); clear o3 g3)
          go_roundw
          case rel => exact ⟨k + 1, _, _, by omega, by go_num, R3⟩
          case measure => simp [intOf]; omega
      · have HE := hide (say_end HR.out.all (by rw [← HNF.out]; omega))
        go_wp2
        go_ret2
        exact ⟨_, _, rfl, says_yes HE.out HR.out.own, HR.out.bel⟩
  · rw [if_neg hne]
    have hne2 : ¬ (nx : Int) = (nf : Int) := by omega
    have hne3 : ¬ nf = nx := by omega
    go_enter Tryz.func25, Tryz.ntmps25
    go_wp2
    go_ret2
    exact ⟨_, _, rfl, says_no rfl (m := 0) ⟨w.heap.size, rfl, Nat.le_refl _, by simp⟩, (Below.refl _ _).alloc (Nat.le_refl _) _⟩
end Go.Proofs.YtnljpaohkkdjjaaGreatDoor
