/- The model's crash, walked. The model's write: mathematics. -/
import Derived.Test.YthghibopnnjboaaZi18
namespace Go.Proofs.Ythghibopnnjboaa
set_option linter.unusedVariables false
set_option linter.unusedSimpArgs false
open Go.RowKit

theorem infoW2 : (Try.prog.info? 92).map (fun i => (i.zero, i.size, i.bytes)) = some (some (.agg #[.int .i64 0, .slice none 0 0]), 2, 32) := by kernel_rfl
theorem OwnN.keptK {W W' : World} {base : Nat} {e : TypeId} {m : Nat} {v : Value} {L : List NE} {vs : List Value} {row : Option Nat} (h : OwnN W base e m v L vs) (hg : W.grownBy W' row) (h1 : ∀ r, row = some r → v.ownBlock ≠ some r) (h2 : ∀ r, row = some r → ∀ u ∈ vs, u.ownBlock ≠ some r) : OwnN W' base e m v L vs := by
  have keep : ∀ {sz n : Nat} {e : TypeId} {x : Value} {xs : List Value}, W.ownsRow base e sz x n xs → (∀ r, row = some r → x.ownBlock ≠ some r) → W'.ownsRow base e sz x n xs := fun {sz n e x xs} ho hx => ho.kept hg (by
    cases hv : x.ownBlock with
    | none => exact .inl rfl
    | some k => exact .inr (fun e' => hx k e'.symm hv))
  exact ⟨h.len, h.pre, keep h.row h1, fun i u l hu hl => keep (h.dat i u l hu hl) (fun r e' => h2 r e' u (List.mem_of_getElem? hu)), h.one⟩
theorem grown_setCK (w : World) (b i : Nat) (v : Value) : w.grownBy (w.setCell ⟨b, i, none⟩ v) (some b) :=
  ⟨rfl, rfl, rfl, by simp [World.setCell], fun k _ hk => Below.heap_setCell _ _ _ _ (fun e => hk (by simp [e]))⟩
theorem own_setD {w : World} {base d j n sz : Nat} {e : TypeId} {v u : Value} {xs : List Value} (h : w.ownsRow base e sz v n xs) (hne : v.ownBlock ≠ some d) : (w.setCell ⟨d, j, none⟩ u).ownsRow base e sz v n xs :=
  h.kept (grown_setCK w d j u) (.inr hne)
theorem ownN_setD {w : World} {base d j m : Nat} {e : TypeId} {v u : Value} {L : List NE} {vs : List Value} (h : OwnN w base e m v L vs) (h1 : v.ownBlock ≠ some d) (h2 : ∀ x ∈ vs, x.ownBlock ≠ some d) : OwnN (w.setCell ⟨d, j, none⟩ u) base e m v L vs :=
  h.keptK (grown_setCK w d j u) (fun r e => by cases e; exact h1) (fun r e x hx => by cases e; exact h2 x hx)
theorem blk_apart {W : World} {base d : Nat} {e t : TypeId} {sz n : Nat} {v : Value} {xs : List Value} {C : Array Value} (h : W.ownsRow base e sz v n xs) (k : Blk W d C t) (hne : e ≠ t) : v.ownBlock ≠ some d := by
  rcases h.2 with ⟨rfl, _⟩ | ⟨g, cap, cur, rfl, _, hg, _⟩
  · intro e; cases e
  · intro e
    have e1 : g = d := Option.some.inj e
    subst e1
    have k2 : W.heap[g]? = some (.cells C t (0, 0)) := k
    rw [hg] at k2
    injection k2 with k2
    injection k2 with _ k2 _
    exact hne k2
set_option maxRecDepth 100000 in
set_option maxHeartbeats 4000000 in
theorem crashM_any {W : World} {base d : Nat} {vi vc vw : Value} {I : List Int} {C : List (Nat × List Int)} {cs : List Value} {fuse : Int} {off : Bool} {H : List NE} {hs : List Value} (h : DvM W base d vi vc vw I C cs fuse off H hs) (hd : base ≤ d) (vch : Value) (ch : List Int) (hc : Rd .u8 W vch ch) (hbd : ∀ z ∈ ch, 0 ≤ z ∧ z < 256) :
    Calls Try.prog 50 #[.pointer (some ⟨d, 0, none⟩), vch] W fun e w' => ∃ vi', e = .returned (.tuple #[]) ∧ DvM w' base d vi' (.slice none 0 0) vw (mkW I (keptTo ch C C.length)) [] [] (-1) false H hs ∧ Below base W w' ∧ ∀ k, k < W.heap.size → k ≠ d → w'.heap[k]? = W.heap[k]? := by
  obtain ⟨i0, hi, hz0, hz1, hz2⟩ := info_parts infoW2
  have HV := hide h
  have HCh := hide (And.intro hc hbd)
  have hm := hc.len
  unfold maxLen at hm
  obtain ⟨va, vcap, rfl⟩ : ∃ a cap, vch = .slice a ch.length cap := by obtain ⟨a, cap, e, _⟩ := hc; exact ⟨a, cap, e⟩
  have hrow := h.cac.row
  rw [List.length_map] at hrow
  obtain ⟨ca, cc, rfl⟩ := shape_rowK hrow
  have hn2 := h.n2
  have c1 := ((h.blk.alloc (.cells #[] 92)).cell 1).trans (show _ = some (.slice ca C.length cc) from rfl)
  obtain ⟨CL, hCL⟩ : ∃ CL, CL = C.length := ⟨_, rfl⟩
  rw [← hCL] at c1 hn2
  have HCL := hide hCL
  have K0 := hide (show Kr W (W.alloc (.cells #[] 92)) W.heap.size (.slice (some ⟨W.heap.size, 0, none⟩) 0 0) [] [] from ⟨rfl, ⟨by simp [cellsN], .inr ⟨W.heap.size, 0, #[], rfl, Nat.le_refl _, heap_alloc_new W _, Nat.le_refl _, by simp, by simp, by simp [cellsN]⟩⟩, fun i u c hu => by simp at hu⟩)
  have B0 := hide (show Below W.heap.size W (W.alloc (.cells #[] 92)) from (Below.refl _ _).alloc (Nat.le_refl _) _)
  clear h hc hbd hrow hCL
  go_enter Try.func50, Try.ntmps50
  go_wp2
  go_loopw [4, 13] (fun kv iv wx => ∃ (i : Nat) (us : List Value) (ka : Option Addr) (kc KL : Nat), i ≤ CL ∧ iv = .int .i64 (i : Int) ∧ KL = (keptTo ch C i).length ∧ kv = .slice ka KL kc ∧ Kr W wx W.heap.size kv (keptTo ch C i) us ∧ Below W.heap.size W wx) (fun _ iv _ => CL - (intOf iv).toNat)
  case atStart => exact ⟨0, [], _, _, 0, by omega, rfl, rfl, rfl, K0.out, B0.out⟩
  case round =>
    clear K0 B0 c1
    obtain ⟨i, us, ka, kc, KL, hiC, rfl, hKL, rfl, hk, hb⟩ := hrel
    have HK := hide (And.intro hk hb)
    have HKL := hide hKL
    have hKLb : KL ≤ 100000 := by rw [hKL]; have := keptTo_len ch C i; omega
    clear hk hb hKL
    by_cases hlt : i < CL
    · have hI : (i : Int) < (CL : Int) := by omega
      obtain ⟨c, hcx⟩ : ∃ c, C[i]? = some c := ⟨_, List.getElem?_eq_getElem (by have := HCL.out; omega)⟩
      obtain ⟨at1, dd⟩ := c
      obtain ⟨b, off, u, hca, hbl, hu, hrd, hrg⟩ := RdN.at (i := i) (l := neW (at1, dd)) (show RdN W 1 (.slice ca (C.map neW).length cc) (C.map neW) cs by rw [List.length_map]; exact HV.out.cac.rd) (by rw [List.getElem?_map, hcx]; rfl)
      subst hca
      obtain ⟨da, dc, rfl⟩ : ∃ da dc, u = .slice da dd.length dc := by obtain ⟨a, c, e, _⟩ := hrd; exact ⟨a, c, e⟩
      obtain ⟨dl, hdl⟩ : ∃ dl, dl = dd.length := ⟨_, rfl⟩
      have ce0 := (HK.out.2.cell (p := ⟨b, off + i * 2, none⟩) hbl).trans (show W.cell? ⟨b, off + i * 2, none⟩ = some (.int .i64 (at1 : Int)) by have := hrg 0 (.int .i64 (at1 : Int)) rfl; simpa using this)
      have ce1 := (HK.out.2.cell (p := ⟨b, off + i * 2 + 1, none⟩) hbl).trans (show W.cell? ⟨b, off + i * 2 + 1, none⟩ = some (.slice da dd.length dc) by have := hrg 1 (.slice da dd.length dc) rfl; simpa using this)
      rw [← hdl] at ce1
      have HD := hide (And.intro (show Rd .u8 W (.slice da dd.length dc) dd from hrd) (And.intro hdl hcx))
      have B3 := hide (show Below wr.heap.size wr (wr.alloc (.cells #[.int .i64 (at1 : Int), .slice da dl dc] 92)) from (Below.refl _ _).alloc (Nat.le_refl _) _)
      obtain ⟨W3, hW3⟩ : ∃ W3, W3 = wr.alloc (.cells #[.int .i64 (at1 : Int), .slice da dl dc] 92) := ⟨_, rfl⟩
      have K3 := hide (show Blk W3 wr.heap.size #[.int .i64 (at1 : Int), .slice da dl dc] 92 from by rw [hW3]; exact Blk.new wr _ _)
      have HW3 := hide hW3
      clear hrd hrg hu hdl hcx hW3
      go_upto_region 4 with fail
      rw [← HW3.out]
      obtain ⟨q, hq⟩ : ∃ q : Nat, (i : Int) / 8 = (q : Int) := ⟨i / 8, by omega⟩
      obtain ⟨r, hr⟩ : ∃ r : Nat, (i : Int) % 8 = (r : Int) := ⟨i % 8, by omega⟩
      have hqn : i / 8 = q := by omega
      have hrn : i % 8 = r := by omega
      have hr8 : r < 8 := by omega
      go_cut [34] from 14 to 39 (fun sv wx => sv = .bool (keeps ch i) ∧ wx = W3)
      case first =>
        by_cases hql : q < ch.length
        · have hqI : (q : Int) < (ch.length : Int) := by omega
          obtain ⟨bc, oc, cc2, hsv, hbc, _, _, hcell⟩ := HCh.out.1.partsC (by omega)
          injection hsv with e1 e2 e3
          subst e1
          subst e3
          clear e2
          have hbz := HCh.out.2 _ (List.getElem_mem hql)
          obtain ⟨x, hx, hx2⟩ : ∃ x : Nat, ch.getD q 0 = (x : Int) ∧ x < 256 := ⟨(ch.getD q 0).toNat, by simp [List.getD, hql]; omega, by simp [List.getD, hql]; omega⟩
          have cx : W3.cell? ⟨bc, oc + q, none⟩ = some (.int .u8 (x : Int)) := by rw [HW3.out, ← hx]; exact ((HK.out.2.trans (B3.out.mono HK.out.2.size)).cell (p := ⟨bc, oc + q, none⟩) hbc).trans (hcell q hql)
          have HKP := hide (show keeps ch i = decide ((x / 2 ^ r) % 2 = 1) by unfold keeps; rw [hqn, hrn, hx, Int.toNat_natCast]; simp [hql])
          clear hcell hbz hx hqn hrn
          have hcase : r = 0 ∨ r = 1 ∨ r = 2 ∨ r = 3 ∨ r = 4 ∨ r = 5 ∨ r = 6 ∨ r = 7 := by omega
          rcases hcase with rfl | rfl | rfl | rfl | rfl | rfl | rfl | rfl
          all_goals
            go_wp2_with fail
            go_meet
            refine ⟨?_, rfl⟩
            rw [HKP.out]
            refine congrArg Value.bool ?_
            rw [Bool.eq_iff_iff]
            simp
            try omega
        · have hqI : ¬ ((q : Int) < (ch.length : Int)) := by omega
          have HKP := hide (show keeps ch i = false by unfold keeps; rw [hqn]; simp [hql])
          clear hqn hrn
          go_wp2_with fail
          go_meet
          exact ⟨by rw [HKP.out], rfl⟩
      case rest =>
        obtain ⟨rfl, hwc⟩ := hcut
        rw [hwc]
        clear hwc hq hr hqn hrn hr8 ce0 ce1
        have hbW : Below W.heap.size W W3 := by rw [HW3.out]; exact HK.out.2.trans (B3.out.mono HK.out.2.size)
        have hkW : Kr W W3 W.heap.size (.slice ka KL kc) (keptTo ch C i) us := by rw [HW3.out]; exact HK.out.1.below B3.out
        cases hkp : keeps ch i with
        | false =>
          have HR := hide (And.intro hkW hbW)
          have HN := hide (keptTo_no HD.out.2.2 hkp)
          clear hkW hbW hkp
          go_wp2
          go_roundw
          case rel => exact ⟨i + 1, us, ka, kc, KL, by omega, by go_num, by rw [HN.out]; exact HKL.out, rfl, by rw [HN.out]; exact HR.out.1, HR.out.2⟩
          case measure => simp [intOf]; omega
        | true =>
          have HN := hide (keptTo_yes HD.out.2.2 hkp)
          have cb0 := (K3.out.cell 0).trans (show _ = some (.int .i64 (at1 : Int)) from rfl)
          have cb1 := (K3.out.cell 1).trans (show _ = some (.slice da dl dc) from rfl)
          have BA := hide (show Below W3.heap.size W3 (W3.alloc (.cells #[.int .i64 (at1 : Int), .slice da dl dc] 92)) from (Below.refl _ _).alloc (Nat.le_refl _) _)
          have RA := hide (show (W3.alloc (.cells #[.int .i64 (at1 : Int), .slice da dl dc] 92)).ownsRow W.heap.size 92 2 (.slice ka KL kc) KL (cellsN us ((keptTo ch C i).map neW)) by have := own_below hkW.row BA.out; rw [← HKL.out] at this; exact this)
          have CN := hide (cells_newK W3 #[.int .i64 (at1 : Int), .slice da dl dc] 92)
          have hsz := hbW.size
          have HR := hide (And.intro hkW hbW)
          clear hkW hbW hkp
          go_wp2_with (first
            | (at_builtin; refine wpList_append_own_at _ rfl (.tmp 35) (.tmp 37) 77 rfl W.heap.size 92 i0 (.agg #[.int .i64 0, .slice none 0 0]) 2 32 Try.underlying77 hi hz0 hz1 hz2 rfl (by decide) (.slice ka KL kc) KL (cellsN us ((keptTo ch C i).map neW)) rfl RA.out ⟨W3.heap.size, 0, none⟩ 1 1 [.int .i64 (at1 : Int), .slice da dl dc] rfl rfl CN.out (by intro y hy; simp at hy; rcases hy with rfl | rfl <;> rfl) (by unfold maxLen; omega) (by omega) (by simp; omega) ?_; intro v4 w4 o4 g4 _ _; obtain ⟨ka4, kc4, rfl⟩ := shape_rowK o4; have O4 := hide (And.intro o4 g4); clear o4 g4)
            | fail)
          have HF := hide (show Kr W w4 W.heap.size (.slice ka4 (KL + 1) kc4) (keptTo ch C i ++ [(at1, dd)]) (us ++ [.slice da dl dc]) ∧ Below W.heap.size W w4 from ⟨HR.out.1.push (at1, dd) (.slice da dl dc) (by rw [HD.out.2.1]; exact HD.out.1) (by rw [← HKL.out]; exact O4.out.1), (HR.out.2.trans (BA.out.mono hsz)).grown O4.out.2 (by simp; omega) (fun r e => (RA.out.lt r e).1)⟩)
          go_roundw
          case rel => exact ⟨i + 1, us ++ [.slice da dl dc], ka4, kc4, KL + 1, by omega, by go_num, by rw [HN.out, List.length_append, ← HKL.out]; rfl, rfl, by rw [HN.out]; exact HF.out.1, HF.out.2⟩
          case measure => simp [intOf]; omega
    · have hlt2 : i = CL := by omega
      subst hlt2
      have q1 : ¬ ((i : Int) < (i : Int)) := by omega
      obtain ⟨ia, ic, hvi⟩ := shape_rowK HV.out.img
      subst hvi
      have hdW := HV.out.blk.lt
      have c0 := (HK.out.2.cell (p := ⟨d, 0, none⟩) hdW).trans ((HV.out.blk.cell 0).trans (show _ = some (.slice ia I.length ic) from rfl))
      have HMk := hide (make_any (.slice ia I.length ic) (.slice ka KL kc) I (keptTo ch C i) us wr ((Rd.own HV.out.img).below HK.out.2) (HK.out.1.rd HK.out.2) (fun c hc => HV.out.ok c (keptTo_mem ch C i c hc)) HV.out.n1 (by rw [← HKL.out]; exact hKLb))
      go_wp2_with fail
      refine HMk.out.mono ?_
      rintro e w1 ⟨v1, rfl, o1, b1⟩
      obtain ⟨a1, k1, rfl⟩ := shape_rowK o1
      have hbw : Below W.heap.size W w1 := HK.out.2.trans (b1.mono HK.out.2.size)
      have kB : Blk w1 d #[.slice ia I.length ic, .slice ca C.length cc, .int .i64 fuse, .bool off, vw] 80 := HV.out.blk.below hbw hdW
      have y0 := (kB.cell 0).trans (show _ = some (.slice ia I.length ic) from rfl)
      have y1 := (kB.cell 1).trans (show _ = some (.slice ca C.length cc) from rfl)
      have y2 := (kB.cell 2).trans (show _ = some (.int .i64 fuse) from rfl)
      have y3 := (kB.cell 3).trans (show _ = some (.bool off) from rfl)
      have f0 := kB.frozen 0
      have f1 := kB.frozen 1
      have f2 := kB.frozen 2
      have f3 := kB.frozen 3
      have hWb : base ≤ W.heap.size := by omega
      have HE := hide (show ∃ vi', DvM ((((w1.setCell ⟨d, 0, none⟩ (.slice a1 I.length k1)).setCell ⟨d, 1, none⟩ (.slice none 0 0)).setCell ⟨d, 2, none⟩ (.int .i64 (-1))).setCell ⟨d, 3, none⟩ (.bool false)) base d vi' (.slice none 0 0) vw (mkW I (keptTo ch C C.length)) [] [] (-1) false H hs ∧ Below base W ((((w1.setCell ⟨d, 0, none⟩ (.slice a1 I.length k1)).setCell ⟨d, 1, none⟩ (.slice none 0 0)).setCell ⟨d, 2, none⟩ (.int .i64 (-1))).setCell ⟨d, 3, none⟩ (.bool false)) ∧ ∀ k, k < W.heap.size → k ≠ d → ((((w1.setCell ⟨d, 0, none⟩ (.slice a1 I.length k1)).setCell ⟨d, 1, none⟩ (.slice none 0 0)).setCell ⟨d, 2, none⟩ (.int .i64 (-1))).setCell ⟨d, 3, none⟩ (.bool false)).heap[k]? = W.heap[k]? from by
        have hml : (mkW I (keptTo ch C C.length)).length = I.length := mkW_len _ _ (fun c hc => HV.out.ok c (keptTo_mem ch C _ c hc))
        have hna : (Value.slice a1 I.length k1).ownBlock ≠ some d := blk_apart o1 kB (by decide)
        have hw := HV.out.who.below hbw
        have hnw : vw.ownBlock ≠ some d := blk_apart hw.row kB (by decide)
        have hnx : ∀ x ∈ hs, x.ownBlock ≠ some d := fun x hx => by
          obtain ⟨j, hj⟩ := List.getElem?_of_mem hx
          have hlt : j < H.length := by rw [← hw.len]; exact (List.getElem?_eq_some_iff.1 hj).1
          exact blk_apart (hw.dat j x _ hj (List.getElem?_eq_getElem hlt)) kB (by decide)
        rw [HCL.out] at o1
        have ho : w1.ownsRow base 5 1 (.slice a1 I.length k1) (mkW I (keptTo ch C C.length)).length ((mkW I (keptTo ch C C.length)).map (Value.int .u8)) := by rw [hml]; exact own_mono o1 (Nat.le_trans hWb HK.out.2.size)
        refine ⟨.slice a1 I.length k1, ⟨(((kB.set 0 _).set 1 _).set 2 _).set 3 _, own_setD (own_setD (own_setD (own_setD ho hna) hna) hna) hna, OwnN.nil _ _ _ _, ownN_setD (ownN_setD (ownN_setD (ownN_setD hw hnw hnx) hnw hnx) hnw hnx) hnw hnx, fun c hc => (by cases hc), by rw [hml]; exact HV.out.n1, by simp⟩, ?_, fun k hk hkd => (Below.heap_setCell _ _ _ k hkd).trans ((Below.heap_setCell _ _ _ k hkd).trans ((Below.heap_setCell _ _ _ k hkd).trans ((Below.heap_setCell _ _ _ k hkd).trans (hbw.block k hk))))⟩
        exact ((((hbw.mono hWb).setCell (p := ⟨d, 0, none⟩) hd _).setCell (p := ⟨d, 1, none⟩) hd _).setCell (p := ⟨d, 2, none⟩) hd _).setCell (p := ⟨d, 3, none⟩) hd _)
      clear o1 b1 kB hbw
      go_wp2
      go_end0
      obtain ⟨vi', h1, h2, h3⟩ := HE.out
      exact ⟨vi', rfl, h1, h2, h3⟩
end Go.Proofs.Ythghibopnnjboaa

namespace Go.Proofs.Ythghibopnnjboaa
set_option linter.unusedVariables false
set_option linter.unusedSimpArgs false
open Go.RowKit

/-- Sector j of the bytes D, written to block B; the cache behind j of them; what the fuse is then; how many of four are cached. -/
def secW (B : Nat) (D : List Int) (j : Nat) : Nat × List Int := (B * 512 + j * 128, (D.drop (j * 128)).take 128)
def wrC (C : List (Nat × List Int)) (B : Nat) (D : List Int) (j : Nat) : List (Nat × List Int) := C ++ (List.range j).map (secW B D)
def fuJ (fuse : Int) (j : Nat) : Int := if fuse < 0 then fuse else fuse - j
def maJ (fuse : Int) : Nat := if fuse < 0 then 4 else min 4 fuse.toNat
theorem wrC_zero (C : List (Nat × List Int)) (B : Nat) (D : List Int) : wrC C B D 0 = C := by simp [wrC]
theorem wrC_succ (C : List (Nat × List Int)) (B : Nat) (D : List Int) (j : Nat) : wrC C B D (j + 1) = wrC C B D j ++ [secW B D j] := by simp [wrC, List.range_succ]
theorem wrC_len (C : List (Nat × List Int)) (B : Nat) (D : List Int) (j : Nat) : (wrC C B D j).length = C.length + j := by simp [wrC]
theorem secW_len (B : Nat) (D : List Int) (j : Nat) (hD : D.length = 512) (hj : j < 4) : (secW B D j).2.length = 128 := by simp only [secW, List.length_take, List.length_drop]; omega
theorem wrC_ok {C : List (Nat × List Int)} {B : Nat} {D I : List Int} {j : Nat} (h : ∀ c ∈ C, c.1 + c.2.length ≤ I.length) (hD : D.length = 512) (hB : B * 512 + 512 ≤ I.length) (hj : j ≤ 4) : ∀ c ∈ wrC C B D j, c.1 + c.2.length ≤ I.length := by
  intro c hc
  rcases List.mem_append.1 hc with hc | hc
  · exact h c hc
  · obtain ⟨i, hi, rfl⟩ := List.mem_map.1 hc
    rw [List.mem_range] at hi
    have := secW_len B D i hD (by omega)
    rw [this]
    show B * 512 + i * 128 + 128 ≤ _
    omega
theorem maJ_stop {fuse : Int} {j : Nat} (hj : j < 4) (hle : 0 ≤ fuse → (j : Int) ≤ fuse) (h0 : fuJ fuse j = 0) : maJ fuse = j := by
  unfold fuJ at h0
  unfold maJ
  split at h0
  · omega
  · rename_i h
    rw [if_neg h]
    omega
theorem maJ_all {fuse : Int} (hle : 0 ≤ fuse → (4 : Int) ≤ fuse) : maJ fuse = 4 := by
  unfold maJ
  split
  · rfl
  · omega
theorem fuJ_next {fuse : Int} {j : Nat} (h : 0 < fuJ fuse j) : fuJ fuse j - 1 = fuJ fuse (j + 1) ∧ (0 ≤ fuse → ((j + 1 : Nat) : Int) ≤ fuse) := by
  unfold fuJ at h ⊢
  split at h
  · omega
  · rename_i h1
    rw [if_neg h1]
    omega
theorem fuJ_neg {fuse : Int} {j : Nat} (h : fuJ fuse j < 0) (hle : 0 ≤ fuse → (j : Int) ≤ fuse) : fuJ fuse (j + 1) = fuJ fuse j ∧ (0 ≤ fuse → ((j + 1 : Nat) : Int) ≤ fuse) := by
  unfold fuJ at h ⊢
  split at h
  · rename_i h1
    rw [if_pos h1, if_pos h1]
    exact ⟨rfl, fun h2 => by omega⟩
  · rename_i h1
    omega
end Go.Proofs.Ythghibopnnjboaa
