/- A sector write built of its parts. The program's write, walked: four sectors, or fewer and the power fails. -/
import Derived.Test.YthghibopnnjboaaZi33
import Derived.Great.Walk
namespace Go.Proofs.Ythghibopnnjboaa
set_option linter.unusedVariables false
set_option linter.unusedSimpArgs false
open Go.RowKit

theorem fold_setK (off : Nat) : ∀ (vs : List Value) (n : Nat) (L : List Value), off + n + vs.length ≤ L.length → (vs.zipIdx n).foldl (fun (cs : Array Value) (p : Value × Nat) => cs.setIfInBounds (off + p.2) p.1) L.toArray = (L.take (off + n) ++ vs ++ L.drop (off + n + vs.length)).toArray
  | [], n, L, h => by simp
  | v :: vs, n, L, h => by
    have hlt : off + n < L.length := by simp at h; omega
    rw [List.zipIdx_cons, List.foldl_cons, List.setIfInBounds_toArray, fold_setK off vs (n + 1) _ (by simp at h ⊢; omega)]
    congr 1
    have e : L.set (off + n) v = L.take (off + n) ++ v :: L.drop (off + n + 1) := by rw [List.set_eq_take_append_cons_drop, if_pos hlt]
    have hl : (L.take (off + n)).length = off + n := by simp; omega
    rw [show off + (n + 1) = off + n + 1 by omega, e]
    have e1 : (L.take (off + n) ++ v :: L.drop (off + n + 1)).take (off + n + 1) = L.take (off + n) ++ [v] := by
      rw [List.take_append, hl, show off + n + 1 - (off + n) = 1 by omega, List.take_of_length_le (by omega)]
      rfl
    have e2 : (L.take (off + n) ++ v :: L.drop (off + n + 1)).drop (off + n + 1 + vs.length) = L.drop (off + n + (v :: vs).length) := by
      rw [List.drop_append, hl, List.drop_of_length_le (by omega), List.nil_append, show off + n + 1 + vs.length - (off + n) = vs.length + 1 by omega, List.drop_succ_cons, List.drop_drop]
      congr 1
      simp
      omega
    rw [e1, e2]
    simp
theorem fill_oneK (p : Nat → Option (Nat × Nat)) (i off : Nat) (v : Value) (vs L : List Value) (rest : List (Nat × Value)) (hp : p i = some (off, vs.length)) (hv : v.cells = vs.toArray) (hl : off + vs.length ≤ L.length) :
    Instr.fill p L.toArray ((i, v) :: rest) = Instr.fill p (L.take off ++ vs ++ L.drop (off + vs.length)).toArray rest := by
  have hf : (vs.toArray.zipIdx.foldl (fun (cs : Array Value) (p : Value × Nat) => cs.setIfInBounds (off + p.2) p.1) L.toArray) = (L.take off ++ vs ++ L.drop (off + vs.length)).toArray := by
    rw [← Array.foldl_toList, Array.toList_zipIdx]
    exact fold_setK off vs 0 L (by omega)
  rw [Instr.fill, hp]
  simp only [hv]
  rw [if_neg (by simp; omega)]
  rw [← hf]
def placesW : List (Nat × Nat) := [(0, 1), (1, 128)]
def zeroW : List Value := .int .i64 0 :: (List.replicate 128 (0 : Int)).map (Value.int .u8)
theorem built_partsW (parts : List (Nat × Value)) : Try.prog.built 95 parts = Instr.fill (placesW.toArray[·]?) zeroW.toArray parts := by kernel_rfl
theorem built_sw (at1 : Nat) (P : List Int) (hP : P.length = 128) : Try.prog.built 95 [(0, .int .i64 (at1 : Int)), (1, .agg (P.map (Value.int .u8)).toArray)] = some (secX at1 P) := by
  rw [built_partsW]
  rw [fill_oneK _ 0 0 (.int .i64 (at1 : Int)) [.int .i64 (at1 : Int)] zeroW _ rfl rfl (by simp [zeroW])]
  have e1 : zeroW.take 0 ++ [Value.int .i64 (at1 : Int)] ++ zeroW.drop (0 + [Value.int .i64 (at1 : Int)].length) = [Value.int .i64 (at1 : Int)] ++ (List.replicate 128 (0 : Int)).map (Value.int .u8) := rfl
  rw [e1]
  rw [fill_oneK _ 1 1 (.agg (P.map (Value.int .u8)).toArray) (P.map (Value.int .u8)) _ _ (by rw [List.length_map, hP]; rfl) rfl (by simp [hP])]
  have e2 : ([Value.int .i64 (at1 : Int)] ++ (List.replicate 128 (0 : Int)).map (Value.int .u8)).take 1 ++ P.map (Value.int .u8) ++ ([Value.int .i64 (at1 : Int)] ++ (List.replicate 128 (0 : Int)).map (Value.int .u8)).drop (1 + (P.map (Value.int .u8)).length) = [Value.int .i64 (at1 : Int)] ++ P.map (Value.int .u8) := by
    rw [List.length_map, hP]
    rw [List.drop_of_length_le (by simp)]
    simp
  rw [e2, Instr.fill]
  rfl
/-- Cached writes by the place of their bytes; the sectors of a block. -/
def byC (C : List (Nat × List Int)) : List (Nat × List Int) := C.map fun c => (c.1 * 128, c.2)
def secS (B : Nat) (D : List Int) (j : Nat) : Nat × List Int := (B * 4 + j, (D.drop (j * 128)).take 128)
def wrS (C : List (Nat × List Int)) (B : Nat) (D : List Int) (j : Nat) : List (Nat × List Int) := C ++ (List.range j).map (secS B D)
theorem wrS_zero (C : List (Nat × List Int)) (B : Nat) (D : List Int) : wrS C B D 0 = C := by simp [wrS]
theorem wrS_succ (C : List (Nat × List Int)) (B : Nat) (D : List Int) (j : Nat) : wrS C B D (j + 1) = wrS C B D j ++ [secS B D j] := by simp [wrS, List.range_succ]
theorem wrS_len (C : List (Nat × List Int)) (B : Nat) (D : List Int) (j : Nat) : (wrS C B D j).length = C.length + j := by simp [wrS]
theorem byC_wrS (C : List (Nat × List Int)) (B : Nat) (D : List Int) (j : Nat) : byC (wrS C B D j) = wrC (byC C) B D j := by
  unfold byC wrS wrC
  rw [List.map_append, List.map_map]
  congr 1
  apply List.map_congr_left
  intro i _
  show ((B * 4 + i) * 128, _) = (B * 512 + i * 128, _)
  rw [show (B * 4 + i) * 128 = B * 512 + i * 128 by omega]
  rfl
theorem byC_snoc (C : List (Nat × List Int)) (c : Nat × List Int) : byC (C ++ [c]) = byC C ++ [(c.1 * 128, c.2)] := by simp [byC]
theorem byC_len (C : List (Nat × List Int)) : (byC C).length = C.length := by simp [byC]
theorem mkW_push (L : List Int) (C : List (Nat × List Int)) (c : Nat × List Int) : mkW L (C ++ [c]) = splice (mkW L C) c.1 c.2 := by unfold mkW; rw [List.foldl_append]; rfl
theorem fuJ_add (f : Int) (j : Nat) (h : fuJ f j ≠ 0) (hle : 0 ≤ f → (j : Int) ≤ f) : fuJ (fuJ f j) 1 = fuJ f (j + 1) ∧ (0 ≤ f → ((j + 1 : Nat) : Int) ≤ f) := by
  unfold fuJ at h ⊢
  by_cases h1 : f < 0
  · rw [if_pos h1] at h ⊢
    rw [if_pos h1, if_pos h1]
    exact ⟨rfl, fun h2 => by omega⟩
  · rw [if_neg h1] at h ⊢
    have := hle (by omega)
    rw [if_neg (by omega), if_neg h1]
    exact ⟨by omega, fun _ => by omega⟩
end Go.Proofs.Ythghibopnnjboaa

namespace Go.Proofs.Ythghibopnnjboaa
set_option linter.unusedVariables false
set_option linter.unusedSimpArgs false
open Go.RowKit

/-- What a write leaves, and how it ends. -/
def WrPost (W : World) (base d : Nat) (vf ve : Value) (n : Nat) (F : List Int) (C : List (Nat × List Int)) (fuse : Int) (off : Bool) (B : Nat) (D : List Int) (e : Ending) (w' : World) : Prop :=
  ∃ vc', ((maJ fuse = 4 ∧ e = .returned (.tuple #[])) ∨ (¬ (maJ fuse = 4) ∧ e = .panicked [{ v := powerV, recovered := false }])) ∧ Dev w' base d vf ve vc' n F (mkW F (byC (wrS C B D (maJ fuse)))) (wrS C B D (maJ fuse)) (fuJ fuse (maJ fuse)) (ofJ off fuse) ∧ Below base W w' ∧ KpY TyP W w'
theorem KpB.own {T : TypeId → Prop} {B : Nat → Prop} {W W' : World} {base : Nat} {e : TypeId} {sz n : Nat} {v : Value} {xs : List Value} (h : KpB T B W W') (ho : W.ownsRow base e sz v n xs) (hT : ¬ T e) (hB : ∀ b, v.ownBlock = some b → ¬ B b) : W'.ownsRow base e sz v n xs := by
  refine ⟨ho.1, ?_⟩
  rcases ho.2 with hn | ⟨g, cap, cur, rfl, hb, hgg, rest⟩
  · exact .inl hn
  · refine .inr ⟨g, cap, cur, rfl, hb, ?_, rest⟩
    rw [h g (Array.getElem?_eq_some_iff.1 hgg).1 (hB g rfl) (fun c t s hc => by rw [hgg] at hc; injection hc with hc; injection hc with _ hc _; rw [← hc]; exact hT)]
    exact hgg
theorem KpB.below {T : TypeId → Prop} {B : Nat → Prop} {W W' W2 : World} (h : KpB T B W W') (hb : Below W'.heap.size W' W2) : KpB T B W W2 := h.trans (fun b hb' _ _ => hb.block b hb')
set_option maxRecDepth 100000 in
set_option maxHeartbeats 8000000 in
theorem writeP_any {W : World} {base d : Nat} {vf ve vc : Value} {n : Nat} {F : List Int} {C : List (Nat × List Int)} {fuse : Int} {off : Bool} (h : Dev W base d vf ve vc n F (mkW F (byC C)) C fuse off) (hd : base ≤ d) (B : Nat) (hB : B * 4 + 4 ≤ n) (vd : Value) (D : List Int) (hD : Rd .u8 W vd D) (hl : D.length = 512) (hC : C.length + 4 ≤ 100000) (hfu : fuse < 9223372036854775808) :
    Calls Try.prog 56 #[.pointer (some ⟨d, 0, none⟩), .int .i64 (B : Int), vd] W (WrPost W base d vf ve n F C fuse off B D) := by
  have hn8 := h.n1
  have hbW : base ≤ W.heap.size := by have := h.blk.lt; omega
  have HV := hide h
  have HD := hide (And.intro hD hl)
  obtain ⟨CL0, hCL0⟩ : ∃ CL0, CL0 = C.length := ⟨_, rfl⟩
  rw [← hCL0] at hC
  have HCL0 := hide hCL0
  obtain ⟨Z, hZ⟩ : ∃ Z : Array Value, Z = zSec := ⟨_, rfl⟩
  have HAl := hide (show ∀ (ρ : Operand → Value) (o : Oper) (w : World), o.op = .alloc 76 → (execOp ρ o).run Try.prog w = .ok (.value (.pointer (some ⟨w.heap.size, 0, none⟩))) (w.alloc (.cells Z 76)) from fun ρ o w ho => by rw [hZ]; exact run_allocSec ρ o ho w)
  have hZs : Z.size = 128 := by rw [hZ]; simp [zSec]
  have HZ := hide hZs
  have hBb : B ≤ 2048 := by omega
  clear hZ hZs h hD hl hCL0
  go_enter Try.func56, Try.ntmps56
  go_wp2_with fail
  refine (sectorsOf_any vd 4 D W HD.out.1 (by rw [HD.out.2]) (by omega)).mono ?_
  rintro e W1 ⟨vs, rfl, o1, b1⟩
  obtain ⟨gs, sc, rfl⟩ := place_rowK o1 (by omega)
  have H1 := hide (And.intro o1 b1)
  have V1 := hide (HV.out.below b1)
  have hgs : W.heap.size ≤ gs := (o1.lt gs rfl).1
  have HgE := hide (show ∀ b, (Value.slice (some ⟨gs, 0, none⟩) 4 sc).ownBlock = some b → ¬ (ve.ownBlock = some b) from fun b e1 e2 => by
    have e3 : gs = b := Option.some.inj e1
    have := (HV.out.see.lt b e2).2
    omega)
  have hsw := b1.size
  clear o1 b1
  go_wp2
  go_loopw [14] (fun iv wx => ∃ (j CL : Nat) (ca : Option Addr) (cc : Nat), j ≤ 4 ∧ iv = .int .i64 (j : Int) ∧ CL = (wrS C B D j).length ∧ Dev wx base d vf ve (.slice ca CL cc) n F (mkW F (byC (wrS C B D j))) (wrS C B D j) (fuJ fuse j) off ∧ (0 ≤ fuse → (j : Int) ≤ fuse) ∧ Below base W1 wx ∧ KpB TyQ (fun b => ve.ownBlock = some b) W1 wx) (fun iv _ => 4 - (intOf iv).toNat)
  case atStart =>
    obtain ⟨ca, cc, e⟩ := shape_rowK V1.out.cac
    subst e
    refine ⟨0, C.length, ca, cc, by omega, rfl, by rw [wrS_zero], ?_, fun h => by omega, Below.refl _ _, (KpY.refl _ _).toB _⟩
    rw [wrS_zero]
    have := V1.out
    unfold fuJ
    split <;> simpa using this
  case round =>
    obtain ⟨j, CL, ca, cc, hj, rfl, hCL, hv, hf, hb, hy⟩ := hrel
    have hfj : fuJ fuse j < 9223372036854775808 := Int.lt_of_le_of_lt (fuJ_le _ _) hfu
    obtain ⟨f, hfe⟩ : ∃ f, f = fuJ fuse j := ⟨_, rfl⟩
    rw [← hfe] at hv hfj
    have HFe := hide hfe
    have HCL := hide hCL
    have hCLb : CL ≤ 99996 + j := by rw [hCL, wrS_len, ← HCL0.out]; omega
    have HF := hide hf
    have HX := hide (And.intro hv (And.intro hb hy))
    clear hv hf hb hy hCL hfe
    by_cases hlt : j < 4
    · have hjI : (j : Int) < 4 := by omega
      obtain ⟨P, hP⟩ : ∃ P : List Int, P = (D.drop (j * 128)).take 128 := ⟨_, rfl⟩
      have hPl : P.length = 128 := by rw [hP]; exact part_len (n := 4) (by rw [HD.out.2]) hlt
      have HR := hide (show wr.rangeAt gs (j * 128) (P.map (Value.int .u8)) from by
        have ho : wr.ownsRow W.heap.size 76 128 (.slice (some ⟨gs, 0, none⟩) 4 sc) 4 (D.map (Value.int .u8)) := HX.out.2.2.own H1.out.1 (by unfold TyQ; decide) HgE.out
        have hr := part_range (w := wr) (b := gs) (off := 0) (n := 4) (zs := D) (by rw [HD.out.2]) (fun i hi => by
          rw [Nat.zero_add, ho.cellAt i hi, List.getElem?_map, List.getElem?_eq_getElem (by rw [HD.out.2]; omega)]
          simp [List.getD, show i < D.length by rw [HD.out.2]; omega]) j hlt
        rw [Nat.zero_add] at hr
        rw [hP]
        exact hr)
      obtain ⟨W3, hW3⟩ : ∃ W3, W3 = (wr.alloc (.cells Z 76)).setRow wr.heap.size (P.map (Value.int .u8)).toArray := ⟨_, rfl⟩
      have B3 := hide (show Below wr.heap.size wr W3 from by rw [hW3]; exact below_setRow ((Below.refl _ _).alloc (Nat.le_refl _) _) (Nat.le_refl _) _)
      have K3 := hide (show Blk W3 wr.heap.size (P.map (Value.int .u8)).toArray 76 from by rw [hW3]; exact (Blk.new wr Z 76).row _)
      have KN := hide (Blk.new wr Z 76)
      have HW3 := hide hW3
      have H1c := hide (show (P.map (Value.int .u8)).toArray.all (·.oneCell') = true by simp [Value.oneCell'])
      have HPl := hide hPl
      have HP := hide hP
      have HSZ := hide (show Z.size = (P.map (Value.int .u8)).toArray.size by rw [HZ.out]; simp [hPl])
      have HIN := hide (show (Try.prog.info? 76).map (·.size) = some (P.map (Value.int .u8)).toArray.size by rw [infoSec]; simp [hPl])
      clear hP hPl hW3
      go_upto_region 4 with (first
        | (refine wpList_load_mid rfl 76 _ rfl gs (j * 128) rfl (P.map (Value.int .u8)) _ HR.out Try.underlying76 rfl (by rw [List.length_map, HPl.out]; exact infoSec) ?_)
        | (refine Great.wpList_allocTo rfl (some 8) rfl (.pointer (some ⟨wr.heap.size, 0, none⟩)) (.cells Z 76) (HAl.out _ _ _ rfl) ?_)
        | (refine wpList_store_row rfl 76 _ _ rfl wr.heap.size (P.map (Value.int .u8)).toArray rfl rfl 76 Z KN.out HIN.out HSZ.out H1c.out ?_)
        | fail)
      rw [← HW3.out]
      obtain ⟨at1, hat1⟩ : ∃ at1 : Nat, at1 = B * 4 + j := ⟨_, rfl⟩
      have hatI : (B : Int) * 4 + (j : Int) = (at1 : Int) := by omega
      have hatn : at1 < n := by omega
      have hatb : at1 ≤ 100000 := by omega
      have HB := hide (built_sw at1 P HPl.out)
      have HL3 := hide (show W3.rangeAt wr.heap.size 0 (P.map (Value.int .u8)) from by have := range_allK K3.out; simpa using this)
      have V3 := hide (HX.out.1.below B3.out)
      have HAt := hide hat1
      have hsz3 := HX.out.2.1.size
      have L3 := hide (show Below base W1 W3 from HX.out.2.1.trans (B3.out.mono (by omega)))
      have Y3 := hide (HX.out.2.2.below B3.out)
      clear hat1
      go_wp2_with (first
        | (refine wpList_load_mid rfl 76 _ rfl wr.heap.size 0 rfl (P.map (Value.int .u8)) _ HL3.out Try.underlying76 rfl (by rw [List.length_map, HPl.out]; exact infoSec) ?_)
        | (refine wpList_buildTo rfl 95 _ rfl (some 24) rfl (secX at1 P) (by simp only [List.map_toArray, List.map_cons, List.map_nil]; exact HB.out) ?_)
        | fail)
      by_cases h0 : f = 0
      · refine (cacheSec_dies V3.out hd (secX at1 P) h0).mono ?_
        rintro e w5 ⟨rfl, v5, l5, y5⟩
        have hma : maJ fuse = j := maJ_stop hlt HF.out (by rw [← HFe.out]; exact h0)
        have h4 : ¬ (maJ fuse = 4) := by rw [hma]; omega
        have e2 : ofJ off fuse = true := by unfold ofJ; rw [hma]; simp; omega
        have HE := hide (show WrPost W base d vf ve n F C fuse off B D (.panicked [{ v := powerV, recovered := false }]) w5 from
          ⟨_, .inr ⟨h4, rfl⟩, by rw [e2, hma, ← HFe.out]; exact v5, (H1.out.2.mono hbW).trans (L3.out.trans l5), ((KpY.refl _ _).below H1.out.2).trans ((Y3.out.trans (y5.toB _)).toY V1.out.see)⟩)
        clear v5 l5 y5 hma h4 e2
        go_wp2
        exact ⟨rfl, HE.out⟩
      · refine (cacheSec_any V3.out hd at1 P HPl.out hatn (by rw [← HCL.out]; omega) h0 hfj).mono ?_
        rintro e w5 ⟨vc5, rfl, v5, l5, y5⟩
        obtain ⟨ca5, cc5, e5⟩ := shape_rowK v5.cac
        subst e5
        have hfa := fuJ_add fuse j (by rw [← HFe.out]; exact h0) HF.out
        have hsec : (at1, P) = secS B D j := by rw [HAt.out, HP.out]; rfl
        have hCn : wrS C B D j ++ [(at1, P)] = wrS C B D (j + 1) := by rw [hsec, wrS_succ]
        have hEn : splice (mkW F (byC (wrS C B D j))) (at1 * 128) P = mkW F (byC (wrS C B D (j + 1))) := by rw [← hCn, byC_snoc, mkW_push]
        rw [hCn, hEn, HFe.out, hfa.1] at v5
        have Z5 := hide (show Dev w5 base d vf ve (.slice ca5 (wrS C B D (j + 1)).length cc5) n F (mkW F (byC (wrS C B D (j + 1)))) (wrS C B D (j + 1)) (fuJ fuse (j + 1)) off ∧ Below base W1 w5 ∧ KpB TyQ (fun b => ve.ownBlock = some b) W1 w5 from ⟨by rw [← hCn]; rw [← hCn] at v5; exact v5, L3.out.trans l5, Y3.out.trans y5⟩)
        have HF1 := hide hfa.2
        clear v5 l5 y5 hfa hsec hCn hEn
        go_wp2
        go_roundw
        case rel => exact ⟨j + 1, _, ca5, cc5, by omega, by go_num, rfl, Z5.out.1, HF1.out, Z5.out.2.1, Z5.out.2.2⟩
        case measure => simp [intOf]; omega
    · have hj4 : j = 4 := by omega
      have q4 : ¬ ((j : Int) < 4) := by omega
      have HM := hide (maJ_all (fun h => by have := HF.out h; omega) : maJ fuse = 4)
      have HJ := hide hj4
      have HE := hide (show WrPost W base d vf ve n F C fuse off B D (.returned (.tuple #[])) wr from by
        have e2 : ofJ off fuse = off := by unfold ofJ; rw [HM.out]; simp
        have hv := HX.out.1
        rw [HFe.out, hj4] at hv
        exact ⟨_, .inl ⟨HM.out, rfl⟩, by rw [e2, HM.out]; exact hv, (H1.out.2.mono hbW).trans HX.out.2.1, ((KpY.refl _ _).below H1.out.2).trans (HX.out.2.2.toY V1.out.see)⟩)
      clear hj4
      go_wp2
      go_end0
      exact HE.out
end Go.Proofs.Ythghibopnnjboaa
