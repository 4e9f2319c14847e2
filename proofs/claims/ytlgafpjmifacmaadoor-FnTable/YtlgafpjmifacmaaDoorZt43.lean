/- The law on tables, walked. -/
import Derived.Test.YtlgafpjmifacmaaDoorZt42
import Derived.BigQuiet
import Derived.Deep.RegionHeld3
import Derived.Deep.MidRow
import Derived.Deep.Cut
import Derived.Deep.CutRange
namespace Go.Proofs.YtlgafpjmifacmaaDoor
set_option linter.unusedVariables false
set_option linter.unusedSimpArgs false
open Go.RowKit

theorem yieldsIf_neqT {P : Program} {ops : Array Oper} {S : World → Prop} {o : Oper} {a : Act} (hw : Region.wanted o (yielded ops a.tmps) = true) (t u : TypeId) (x y : Operand) (ho : o.op = .binOp .neq t x y u)
    (cs ds : Array Value) (hx : a.eval x = .agg cs) (hy : a.eval y = .agg ds) (hm : P.eqGuardType P.depth t = false) (b : Bool) (hE : ∀ w, (Op.equalIn 10000 t (.agg cs) (.agg ds)).run P w = .ok b w) : YieldsIf P ops S o (.bool (!b)) a :=
  .inl ⟨hw, fun w hw' => by simp [execOp, ho, hx, hy, run_eqGuard_agg w _ _ _ _ _ _ hm, run_neq_struct, hE w, Result.andThen]⟩
theorem encTab_bd (zs : List Int) (n : Nat) : ∀ z ∈ encTab zs n, 0 ≤ z ∧ z < 256 := by
  intro z h
  unfold encTab at h
  split at h
  · rw [List.mem_flatten] at h
    obtain ⟨l, hl, hz⟩ := h
    rw [List.mem_map] at hl
    obtain ⟨k, _, rfl⟩ := hl
    exact bytesIno_bd _ _ _ _ _ _ _ _ _ _ _ _ _ z hz
  · cases h
/-- What stands while the law goes on: the drawn list, its bytes, all that is older. -/
structure FT (w W : World) (v3 v4 : Value) (n : Nat) (zs : List Int) : Prop where
  lst : W.ownsRow w.heap.size 44 24 v3 n (zs.map (Value.int .i64))
  enc : W.ownsRow w.heap.size 5 1 v4 (encTab zs n).length ((encTab zs n).map (Value.int .u8))
  low : Below w.heap.size w W
theorem FT.below {w W W' : World} {v3 v4 : Value} {n : Nat} {zs : List Int} (h : FT w W v3 v4 n zs) (hb : Below W.heap.size W W') : FT w W' v3 v4 n zs :=
  ⟨own_below h.lst hb, own_below h.enc hb, h.low.trans (hb.mono h.low.size)⟩
theorem row_cells {w : World} {base n k g cap : Nat} {zs : List Int} (h : w.ownsRow base 44 24 (.slice (some ⟨g, 0, none⟩) n cap) n (zs.map (Value.int .i64))) (hk : k < n * 24) : w.cell? ⟨g, k, none⟩ = some (.int .i64 (zs.getD k 0)) := by
  obtain ⟨b, off, e, _, hc⟩ := (RdT.own h).get (by omega)
  have e2 := Option.some.inj e
  injection e2 with e3 e4
  subst e3
  subst e4
  have := hc k hk
  rwa [Nat.zero_add] at this
theorem row_rng {w : World} {base n k g cap : Nat} {zs : List Int} (h : w.ownsRow base 44 24 (.slice (some ⟨g, 0, none⟩) n cap) n (zs.map (Value.int .i64))) (hz : zs.length = n * 24) (hk : k < n) : w.rangeAt g (k * 24) ((rowT zs k).map (Value.int .i64)) := by
  have := range_row (w := w) (b := g) (off := 0) hz hk (fun i hi => by rw [Nat.zero_add]; exact row_cells h hi)
  rwa [Nat.zero_add] at this

noncomputable def tailL : Code := (sndC (sndC (sndC (sndC (sndC (sndC (sndC (sndC (sndC (Tryd.f5.body.getD .skip))))))))))
noncomputable def tailM : Code := (sndC (sndC (sndC (sndC (sndC (sndC (sndC (sndC (Tryd.f5.body.getD .skip)))))))))
set_option maxRecDepth 1000000 in
set_option maxHeartbeats 40000000 in
theorem tab_tail (w wr : World) (a3 : Option Addr) (c3 : Nat) (a4 : Option Addr) (c4 n : Nat) (zs : List Int) (L : Nat) (hF : FT w wr (.slice a3 n c3) (.slice a4 (encTab zs n).length c4) n zs) (hz : zs.length = n * 24) (hn : n ≤ 1002) (hg : ErrT w) (hL : L = 0 → 1000 < n) (x0 x1 x2 x6 x7 x9 x10 x11 x12 x13 x14 x15 x16 x17 x18 x19 x20 x21 x22 x23 x24 x25 x26 x27 x28 x29 x30 x31 x32 x33 x34 x35 x36 x37 x38 x39 x40 x41 x42 x43 x44 x45 x46 x47 x48 x49 x50 x51 x52 x53 x54 x55 x56 x57 x58 x59 x60 x61 x62 x63 x64 x65 x66 x67 x68 x69 x70 x71 x72 x73 x74 x75 x76 x77 x78 x79 x80 x81 x82 x83 x84 x85 x86 x87 x88 x89 x90 x91 x92 x93 x94 x95 x96 x97 x98 x99 x100 x101 x102 x103 x104 x105 x106 x107 x108 x109 x110 x111 x112 x113 x114 x115 x116 x117 x118 x119 x120 x121 x122 x123 x124 x125 x126 x127 x128 x129 x130 x131 x132 x133 x134 x135 x136 x137 x138 x139 x140 x141 x142 x143 x144 x145 x146 : Value)
    (K5 : Act → World → Prop) (hK5 : ∀ a w', Code.wp Tryd.prog (sndC tailL) (bodyPost Tryd.prog Tryd.f5 (fun e w' => e = .returned (.bool true) ∧ Below w.heap.size w w')) a w' → K5 a w') (K4 : Act → World → Prop) (hK4 : ∀ a w', Code.wp Tryd.prog (sndC (fstC tailL)) (Exit.then K5 (bodyPost Tryd.prog Tryd.f5 (fun e w' => e = .returned (.bool true) ∧ Below w.heap.size w w'))) a w' → K4 a w') :
    Code.wp Tryd.prog (fstC (fstC tailL)) (Exit.then K4 (Exit.then K5 (bodyPost Tryd.prog Tryd.f5 (fun e w' => e = .returned (.bool true) ∧ Below w.heap.size w w')))) ⟨#[x0, x1, x2, .slice a3 n c3, .slice a4 (encTab zs n).length c4, .int .i64 (codeTab zs n), x6, x7, .int .i64 (L : Int), x9, x10, x11, x12, x13, x14, x15, x16, x17, x18, x19, x20, x21, x22, x23, x24, x25, x26, x27, x28, x29, x30, x31, x32, x33, x34, x35, x36, x37, x38, x39, x40, x41, x42, x43, x44, x45, x46, x47, x48, x49, x50, x51, x52, x53, x54, x55, x56, x57, x58, x59, x60, x61, x62, x63, x64, x65, x66, x67, x68, x69, x70, x71, x72, x73, x74, x75, x76, x77, x78, x79, x80, x81, x82, x83, x84, x85, x86, x87, x88, x89, x90, x91, x92, x93, x94, x95, x96, x97, x98, x99, x100, x101, x102, x103, x104, x105, x106, x107, x108, x109, x110, x111, x112, x113, x114, x115, x116, x117, x118, x119, x120, x121, x122, x123, x124, x125, x126, x127, x128, x129, x130, x131, x132, x133, x134, x135, x136, x137, x138, x139, x140, x141, x142, x143, x144, x145, x146], []⟩ wr := by
  have H := hide (And.intro hF hg)
  clear hF hg
  conv => arg 2; whnf
  conv at hK4 => enter [a, w', 1, 2]; whnf
  conv at hK5 => enter [a, w', 1, 2]; whnf
  cases hok : okTab zs n with
  | false =>
    rw [(codeTab_not hok).1]
    have HO := hide hok
    clear hok
    by_cases hL0 : L = 0
    · subst hL0
      have hq := hL rfl
      have hq2 : decide ((1000 : Int) < (n : Int)) = true := by simp; omega
      go_wp2
      go_ret
      exact ⟨rfl, H.out.1.low⟩
    · have hq : decide ((0 : Int) < (L : Int)) = true := by simp; omega
      go_wp2
      go_ret
      exact ⟨rfl, H.out.1.low⟩
  | true =>
    have hcode : codeTab zs n = 0 := by unfold codeTab; rw [if_pos hok]
    rw [hcode]
    obtain ⟨hN2, hN, hT, _⟩ := okTab_le hz hok
    have hel : (encTab zs n).length ≤ 128128 ∧ 256 ≤ (encTab zs n).length := by
      have := enc_num zs n hz hok
      omega
    obtain ⟨hel1, hel2⟩ := hel
    have TB := hide (table_back zs n hz hok)
    have TA := hide (table_again zs n hz hok)
    have TR := hide (fun k hk => table_row zs n k hz hk)
    have HZl := hide (tabZ_len zs n hz)
    have HB := hide (encTab_bd zs n)
    clear hcode hok hT
    generalize hNN : tabN zs n = N at *
    generalize tabZ zs n = Z at *
    have HNN := hide hNN
    clear hNN
    go_wp2_with fail
    refine (cpT_any _ (encTab zs n) _ (Rd.own H.out.1.enc) (by omega)).mono ?_
    rintro e w1 ⟨vb, rfl, o1, b1⟩
    have F1 := hide (H.out.1.below b1)
    have R1 := hide (Rd.own o1)
    clear o1 b1
    go_wp2_with fail
    refine (implDT_any vb (encTab zs n) _ R1.out HB.out (by omega) (H.out.2.below F1.out.low)).mono ?_
    rintro e w2 ⟨vk, rfl, o2, b2⟩
    rw [TB.out.1]
    rw [TB.out.2.1, TB.out.2.2] at o2
    have F2 := hide (F1.out.below b2)
    have O2 := hide (own_mono o2 F1.out.low.size)
    clear o2 b2 F1 R1
    obtain ⟨gk, ck, rfl⟩ := place_row O2.out (by omega)
    go_wp2_with fail
    refine (implTab_any _ N Z _ (RdT.own O2.out) (by omega) (H.out.2.below F2.out.low)).mono ?_
    rintro e w3 ⟨vg, rfl, o3, b3⟩
    rw [TA.out.1]
    rw [TA.out.2] at o3
    have F3 := hide (F2.out.below b3)
    have O3 := hide (own_below O2.out b3)
    have G3 := hide (Rd.own o3)
    clear o3 b3 F2 O2
    go_wp2_with fail
    refine (smB_any vg _ (encTab zs n) _ G3.out (Rd.own F3.out.enc)).mono ?_
    rintro e w4 ⟨rfl, rfl⟩
    clear G3
    have hge : decide ((256 : Int) ≤ ((encTab zs n).length : Int)) = true := by simp; omega
    go_wp2
    go_loopw [115] (fun i wr => ∃ k : Nat, k ≤ N ∧ i = .int .i64 (k : Int) ∧ FT w wr (.slice a3 n c3) (.slice a4 (encTab zs n).length c4) n zs ∧ wr.ownsRow w.heap.size 44 24 (.slice (some ⟨gk, 0, none⟩) N ck) N (Z.map (Value.int .i64))) (fun i _ => N - (intOf i).toNat)
    case atStart => exact ⟨0, Nat.zero_le _, rfl, F3.out, O3.out⟩
    case round =>
      clear F3 O3
      obtain ⟨k, hk, rfl, hf, ho⟩ := hrel
      have F5 := hide hf
      have O5 := hide ho
      clear hf ho
      by_cases hlt : k < N
      · have HRk := hide (row_rng O5.out HZl.out hlt)
        have HN := hide (rowT_len Z k N HZl.out hlt)
        have hRow := TR.out k hlt
        have HZ := hide (show (cellsI (rowT Z k)).size = 24 from by rw [cellsI_size]; exact HN.out)
        have HKn := hide (show Blk (wr.alloc (.cells (cellsI (List.replicate 24 0)) 44)) wr.heap.size (cellsI (List.replicate 24 0)) 44 ∧ Below wr.heap.size wr (wr.alloc (.cells (cellsI (List.replicate 24 0)) 44)) from ⟨Blk.new _ _ _, (Below.refl _ _).alloc (Nat.le_refl _) _⟩)
        generalize hrr : rowT Z k = r at *
        have HRR := hide hrr
        clear hrr
        go_wp2_with (first | (refine wpList_load_mid rfl 44 _ rfl gk (k * 24) rfl (r.map (Value.int .i64)) _ HRk.out Tryd.underlying44 rfl (by rw [List.length_map, HN.out]; exact info24) ?_) | (refine wpList_store_new wr.heap.size wr rfl 44 _ _ rfl wr.heap.size (cellsI r) rfl rfl 44 (cellsI (List.replicate 24 0)) HKn.out.1 (by rw [HZ.out]; exact info24) (by rw [HZ.out]; rfl) (cellsI_one _) HKn.out.2 (Nat.le_refl _) ?_; intro w8 k8 b8; have F8 := hide (F5.out.below b8); have O8 := hide (own_below O5.out b8); have K8 := hide k8; clear k8 b8) | fail)
        by_cases hkn : k < n
        · have hr := hRow.1 hkn
          subst hr
          obtain ⟨g3, c5, e3⟩ := place_row F8.out.lst (by omega)
          injection e3 with e4 e5 e6
          subst e4
          subst e6
          have HRl := hide (row_rng F8.out.lst hz hkn)
          clear hRow
          generalize rowT zs k = r at *
          refine wp_region_noPanic ?_
          refine wp_region_held_drew (S := fun w' => Blk w' wr.heap.size (cellsI r) 44 ∧ w'.rangeAt g3 (k * 24) (r.map (Value.int .i64))) (by kernel_rfl) ⟨K8.out, HRl.out⟩ (fun hH => ?_)
          refine wpAnyH_take (i := 0) (oi := _) (v := .int .i64 (k : Int)) rfl (by as_aux_lemma => kernel_rfl) (by as_aux_lemma => kernel_rfl) (by as_aux_lemma => kernel_rfl) (fun _ _ _ h => h) (Or.inl ⟨by rfl, fun w' hw' => by go_simp⟩) hH ?_
          try simp only [Act.put, List.getElem_toArray, List.getElem_cons_zero, List.getElem_cons_succ, List.setIfInBounds_toArray, List.set_cons_zero, List.set_cons_succ]
          refine wpAnyH_take (i := 1) (oi := _) (v := .slice (some ⟨g3, 0, none⟩) n c3) rfl (by as_aux_lemma => kernel_rfl) (by as_aux_lemma => kernel_rfl) (by as_aux_lemma => kernel_rfl) (fun _ _ _ h => h) (Or.inl ⟨by rfl, fun w' hw' => by go_simp⟩) hH ?_
          try simp only [Act.put, List.getElem_toArray, List.getElem_cons_zero, List.getElem_cons_succ, List.setIfInBounds_toArray, List.set_cons_zero, List.set_cons_succ]
          refine wpAnyH_take (i := 2) (oi := _) (v := .int .i64 (n : Int)) rfl (by as_aux_lemma => kernel_rfl) (by as_aux_lemma => kernel_rfl) (by as_aux_lemma => kernel_rfl) (fun _ _ _ h => h) (Or.inl ⟨by rfl, fun w' hw' => by go_simp⟩) hH ?_
          try simp only [Act.put, List.getElem_toArray, List.getElem_cons_zero, List.getElem_cons_succ, List.setIfInBounds_toArray, List.set_cons_zero, List.set_cons_succ]
          refine wpAnyH_take (i := 3) (oi := _) (v := .bool true) rfl (by as_aux_lemma => kernel_rfl) (by as_aux_lemma => kernel_rfl) (by as_aux_lemma => kernel_rfl) (fun _ _ _ h => h) (Or.inl ⟨by rfl, fun w' hw' => by have hq : decide ((k : Int) < (n : Int)) = true := (by simp; omega); go_simp⟩) hH ?_
          try simp only [Act.put, List.getElem_toArray, List.getElem_cons_zero, List.getElem_cons_succ, List.setIfInBounds_toArray, List.set_cons_zero, List.set_cons_succ]
          refine wpAnyH_take (i := 4) (oi := _) (v := .bool true) rfl (by as_aux_lemma => kernel_rfl) (by as_aux_lemma => kernel_rfl) (by as_aux_lemma => kernel_rfl) (fun _ _ _ h => h) (Or.inl ⟨by rfl, fun w' hw' => by go_simp⟩) hH ?_
          try simp only [Act.put, List.getElem_toArray, List.getElem_cons_zero, List.getElem_cons_succ, List.setIfInBounds_toArray, List.set_cons_zero, List.set_cons_succ]
          refine wpAnyH_take (i := 5) (oi := _) (v := .slice (some ⟨g3, 0, none⟩) n c3) rfl (by as_aux_lemma => kernel_rfl) (by as_aux_lemma => kernel_rfl) (by as_aux_lemma => kernel_rfl) (fun _ _ _ h => h) (Or.inl ⟨by rfl, fun w' hw' => by go_simp⟩) hH ?_
          try simp only [Act.put, List.getElem_toArray, List.getElem_cons_zero, List.getElem_cons_succ, List.setIfInBounds_toArray, List.set_cons_zero, List.set_cons_succ]
          refine wpAnyH_take (i := 6) (oi := _) (v := .int .i64 (k : Int)) rfl (by as_aux_lemma => kernel_rfl) (by as_aux_lemma => kernel_rfl) (by as_aux_lemma => kernel_rfl) (fun _ _ _ h => h) (Or.inl ⟨by rfl, fun w' hw' => by go_simp⟩) hH ?_
          try simp only [Act.put, List.getElem_toArray, List.getElem_cons_zero, List.getElem_cons_succ, List.setIfInBounds_toArray, List.set_cons_zero, List.set_cons_succ]
          refine wpAnyH_take (i := 7) (oi := _) (v := .pointer (some ⟨g3, k * 24, none⟩)) rfl (by as_aux_lemma => kernel_rfl) (by as_aux_lemma => kernel_rfl) (by as_aux_lemma => kernel_rfl) (fun _ _ _ h => h) (Or.inl ⟨by rfl, fun w' hw' => by go_simp⟩) hH ?_
          try simp only [Act.put, List.getElem_toArray, List.getElem_cons_zero, List.getElem_cons_succ, List.setIfInBounds_toArray, List.set_cons_zero, List.set_cons_succ]
          refine wpAnyH_take (i := 8) (oi := _) (v := .agg (cellsI r)) rfl (by as_aux_lemma => kernel_rfl) (by as_aux_lemma => kernel_rfl) (by as_aux_lemma => kernel_rfl) (fun _ _ _ h => h) (yieldsIf_load_mid (by rfl) 44 _ rfl g3 (k * 24) rfl (r.map (Value.int .i64)) _ (fun w' h => h.2) Tryd.underlying44 rfl (by rw [List.length_map, HN.out]; exact info24)) hH ?_
          try simp only [Act.put, List.getElem_toArray, List.getElem_cons_zero, List.getElem_cons_succ, List.setIfInBounds_toArray, List.set_cons_zero, List.set_cons_succ]
          refine wpAnyH_take (i := 9) (oi := _) (v := .agg (cellsI r)) rfl (by as_aux_lemma => kernel_rfl) (by as_aux_lemma => kernel_rfl) (by as_aux_lemma => kernel_rfl) (fun _ _ _ h => h) (yieldsIf_load_mid (by rfl) 44 _ rfl wr.heap.size 0 rfl (r.map (Value.int .i64)) _ (fun w' h => row_range h.1) Tryd.underlying44 rfl (by rw [List.length_map, HN.out]; exact info24)) hH ?_
          try simp only [Act.put, List.getElem_toArray, List.getElem_cons_zero, List.getElem_cons_succ, List.setIfInBounds_toArray, List.set_cons_zero, List.set_cons_succ]
          refine wpAnyH_take (i := 10) (oi := _) (v := .bool false) rfl (by as_aux_lemma => kernel_rfl) (by as_aux_lemma => kernel_rfl) (by as_aux_lemma => kernel_rfl) (fun _ _ _ h => h) (yieldsIf_neqT (by rfl) 44 _ _ _ rfl (cellsI r) (cellsI r) rfl rfl guardIno true (fun w => eqInoS w r HN.out)) hH ?_
          try simp only [Act.put, List.getElem_toArray, List.getElem_cons_zero, List.getElem_cons_succ, List.setIfInBounds_toArray, List.set_cons_zero, List.set_cons_succ]
          refine wpAnyH_take (i := 11) (oi := _) (v := .bool false) rfl (by as_aux_lemma => kernel_rfl) (by as_aux_lemma => kernel_rfl) (by as_aux_lemma => kernel_rfl) (fun _ _ _ h => h) (Or.inl ⟨by rfl, fun w' hw' => by go_simp⟩) hH ?_
          try simp only [Act.put, List.getElem_toArray, List.getElem_cons_zero, List.getElem_cons_succ, List.setIfInBounds_toArray, List.set_cons_zero, List.set_cons_succ]
          refine wpAnyH_take (i := 12) (oi := _) (v := .bool false) rfl (by as_aux_lemma => kernel_rfl) (by as_aux_lemma => kernel_rfl) (by as_aux_lemma => kernel_rfl) (fun _ _ _ h => h) (Or.inl ⟨by rfl, fun w' hw' => by go_simp⟩) hH ?_
          try simp only [Act.put, List.getElem_toArray, List.getElem_cons_zero, List.getElem_cons_succ, List.setIfInBounds_toArray, List.set_cons_zero, List.set_cons_succ]
          refine wpAnyH_take (i := 13) (oi := _) (v := .int .i64 (k : Int)) rfl (by as_aux_lemma => kernel_rfl) (by as_aux_lemma => kernel_rfl) (by as_aux_lemma => kernel_rfl) (fun _ _ _ h => h) (Or.inl ⟨by rfl, fun w' hw' => by go_simp⟩) hH ?_
          try simp only [Act.put, List.getElem_toArray, List.getElem_cons_zero, List.getElem_cons_succ, List.setIfInBounds_toArray, List.set_cons_zero, List.set_cons_succ]
          refine wpAnyH_take (i := 14) (oi := _) (v := .slice (some ⟨g3, 0, none⟩) n c3) rfl (by as_aux_lemma => kernel_rfl) (by as_aux_lemma => kernel_rfl) (by as_aux_lemma => kernel_rfl) (fun _ _ _ h => h) (Or.inl ⟨by rfl, fun w' hw' => by go_simp⟩) hH ?_
          try simp only [Act.put, List.getElem_toArray, List.getElem_cons_zero, List.getElem_cons_succ, List.setIfInBounds_toArray, List.set_cons_zero, List.set_cons_succ]
          refine wpAnyH_take (i := 15) (oi := _) (v := .int .i64 (n : Int)) rfl (by as_aux_lemma => kernel_rfl) (by as_aux_lemma => kernel_rfl) (by as_aux_lemma => kernel_rfl) (fun _ _ _ h => h) (Or.inl ⟨by rfl, fun w' hw' => by go_simp⟩) hH ?_
          try simp only [Act.put, List.getElem_toArray, List.getElem_cons_zero, List.getElem_cons_succ, List.setIfInBounds_toArray, List.set_cons_zero, List.set_cons_succ]
          refine wpAnyH_take (i := 16) (oi := _) (v := .bool false) rfl (by as_aux_lemma => kernel_rfl) (by as_aux_lemma => kernel_rfl) (by as_aux_lemma => kernel_rfl) (fun _ _ _ h => h) (Or.inl ⟨by rfl, fun w' hw' => by have hq : decide ((n : Int) ≤ (k : Int)) = false := (by simp; omega); go_simp⟩) hH ?_
          try simp only [Act.put, List.getElem_toArray, List.getElem_cons_zero, List.getElem_cons_succ, List.setIfInBounds_toArray, List.set_cons_zero, List.set_cons_succ]
          refine wpAnyH_take (i := 17) (oi := _) (v := .bool false) rfl (by as_aux_lemma => kernel_rfl) (by as_aux_lemma => kernel_rfl) (by as_aux_lemma => kernel_rfl) (fun _ _ _ h => h) (Or.inl ⟨by rfl, fun w' hw' => by go_simp⟩) hH ?_
          try simp only [Act.put, List.getElem_toArray, List.getElem_cons_zero, List.getElem_cons_succ, List.setIfInBounds_toArray, List.set_cons_zero, List.set_cons_succ]
          refine wpAnyH_take (i := 18) (oi := _) (v := undef) rfl (by as_aux_lemma => kernel_rfl) (by as_aux_lemma => kernel_rfl) (by as_aux_lemma => kernel_rfl) (fun _ _ _ h => h) (Or.inr ⟨by rfl, rfl⟩) hH ?_
          try simp only [Act.put, List.getElem_toArray, List.getElem_cons_zero, List.getElem_cons_succ, List.setIfInBounds_toArray, List.set_cons_zero, List.set_cons_succ]
          refine wpAnyH_take (i := 19) (oi := _) (v := undef) rfl (by as_aux_lemma => kernel_rfl) (by as_aux_lemma => kernel_rfl) (by as_aux_lemma => kernel_rfl) (fun _ _ _ h => h) (Or.inr ⟨by rfl, rfl⟩) hH ?_
          try simp only [Act.put, List.getElem_toArray, List.getElem_cons_zero, List.getElem_cons_succ, List.setIfInBounds_toArray, List.set_cons_zero, List.set_cons_succ]
          refine wpAnyH_take (i := 20) (oi := _) (v := undef) rfl (by as_aux_lemma => kernel_rfl) (by as_aux_lemma => kernel_rfl) (by as_aux_lemma => kernel_rfl) (fun _ _ _ h => h) (Or.inr ⟨by rfl, rfl⟩) hH ?_
          try simp only [Act.put, List.getElem_toArray, List.getElem_cons_zero, List.getElem_cons_succ, List.setIfInBounds_toArray, List.set_cons_zero, List.set_cons_succ]
          refine wpAnyH_take (i := 21) (oi := _) (v := .bool false) rfl (by as_aux_lemma => kernel_rfl) (by as_aux_lemma => kernel_rfl) (by as_aux_lemma => kernel_rfl) (fun _ _ _ h => h) (Or.inl ⟨by rfl, fun w' hw' => by go_simp⟩) hH ?_
          try simp only [Act.put, List.getElem_toArray, List.getElem_cons_zero, List.getElem_cons_succ, List.setIfInBounds_toArray, List.set_cons_zero, List.set_cons_succ]
          refine wpAnyH_take (i := 22) (oi := _) (v := .bool false) rfl (by as_aux_lemma => kernel_rfl) (by as_aux_lemma => kernel_rfl) (by as_aux_lemma => kernel_rfl) (fun _ _ _ h => h) (Or.inl ⟨by rfl, fun w' hw' => by go_simp⟩) hH ?_
          try simp only [Act.put, List.getElem_toArray, List.getElem_cons_zero, List.getElem_cons_succ, List.setIfInBounds_toArray, List.set_cons_zero, List.set_cons_succ]
          refine wpAnyH_done (by kernel_rfl) (NoPanic.normal ?_) _
          clear hH
          go_wp2
          go_roundw
          case rel => exact ⟨k + 1, by omega, by go_num, F8.out.below ((Below.refl _ _).drew), own_below O8.out ((Below.refl _ _).drew)⟩
          case measure => simp [intOf]; omega
        · have hr := hRow.2 (by omega)
          subst hr
          clear hRow
          refine wp_region_noPanic ?_
          refine wp_region_held_drew (S := fun w' => Blk w' wr.heap.size (cellsI (List.replicate 24 0)) 44) (by kernel_rfl) K8.out (fun hH => ?_)
          refine wpAnyH_take (i := 0) (oi := _) (v := .int .i64 (k : Int)) rfl (by as_aux_lemma => kernel_rfl) (by as_aux_lemma => kernel_rfl) (by as_aux_lemma => kernel_rfl) (fun _ _ _ h => h) (Or.inl ⟨by rfl, fun w' hw' => by go_simp⟩) hH ?_
          try simp only [Act.put, List.getElem_toArray, List.getElem_cons_zero, List.getElem_cons_succ, List.setIfInBounds_toArray, List.set_cons_zero, List.set_cons_succ]
          refine wpAnyH_take (i := 1) (oi := _) (v := .slice a3 n c3) rfl (by as_aux_lemma => kernel_rfl) (by as_aux_lemma => kernel_rfl) (by as_aux_lemma => kernel_rfl) (fun _ _ _ h => h) (Or.inl ⟨by rfl, fun w' hw' => by go_simp⟩) hH ?_
          try simp only [Act.put, List.getElem_toArray, List.getElem_cons_zero, List.getElem_cons_succ, List.setIfInBounds_toArray, List.set_cons_zero, List.set_cons_succ]
          refine wpAnyH_take (i := 2) (oi := _) (v := .int .i64 (n : Int)) rfl (by as_aux_lemma => kernel_rfl) (by as_aux_lemma => kernel_rfl) (by as_aux_lemma => kernel_rfl) (fun _ _ _ h => h) (Or.inl ⟨by rfl, fun w' hw' => by go_simp⟩) hH ?_
          try simp only [Act.put, List.getElem_toArray, List.getElem_cons_zero, List.getElem_cons_succ, List.setIfInBounds_toArray, List.set_cons_zero, List.set_cons_succ]
          refine wpAnyH_take (i := 3) (oi := _) (v := .bool false) rfl (by as_aux_lemma => kernel_rfl) (by as_aux_lemma => kernel_rfl) (by as_aux_lemma => kernel_rfl) (fun _ _ _ h => h) (Or.inl ⟨by rfl, fun w' hw' => by have hq : decide ((k : Int) < (n : Int)) = false := (by simp; omega); go_simp⟩) hH ?_
          try simp only [Act.put, List.getElem_toArray, List.getElem_cons_zero, List.getElem_cons_succ, List.setIfInBounds_toArray, List.set_cons_zero, List.set_cons_succ]
          refine wpAnyH_take (i := 4) (oi := _) (v := .bool false) rfl (by as_aux_lemma => kernel_rfl) (by as_aux_lemma => kernel_rfl) (by as_aux_lemma => kernel_rfl) (fun _ _ _ h => h) (Or.inl ⟨by rfl, fun w' hw' => by go_simp⟩) hH ?_
          try simp only [Act.put, List.getElem_toArray, List.getElem_cons_zero, List.getElem_cons_succ, List.setIfInBounds_toArray, List.set_cons_zero, List.set_cons_succ]
          refine wpAnyH_take (i := 5) (oi := _) (v := undef) rfl (by as_aux_lemma => kernel_rfl) (by as_aux_lemma => kernel_rfl) (by as_aux_lemma => kernel_rfl) (fun _ _ _ h => h) (Or.inr ⟨by rfl, rfl⟩) hH ?_
          try simp only [Act.put, List.getElem_toArray, List.getElem_cons_zero, List.getElem_cons_succ, List.setIfInBounds_toArray, List.set_cons_zero, List.set_cons_succ]
          refine wpAnyH_take (i := 6) (oi := _) (v := undef) rfl (by as_aux_lemma => kernel_rfl) (by as_aux_lemma => kernel_rfl) (by as_aux_lemma => kernel_rfl) (fun _ _ _ h => h) (Or.inr ⟨by rfl, rfl⟩) hH ?_
          try simp only [Act.put, List.getElem_toArray, List.getElem_cons_zero, List.getElem_cons_succ, List.setIfInBounds_toArray, List.set_cons_zero, List.set_cons_succ]
          refine wpAnyH_take (i := 7) (oi := _) (v := undef) rfl (by as_aux_lemma => kernel_rfl) (by as_aux_lemma => kernel_rfl) (by as_aux_lemma => kernel_rfl) (fun _ _ _ h => h) (Or.inr ⟨by rfl, rfl⟩) hH ?_
          try simp only [Act.put, List.getElem_toArray, List.getElem_cons_zero, List.getElem_cons_succ, List.setIfInBounds_toArray, List.set_cons_zero, List.set_cons_succ]
          refine wpAnyH_take (i := 8) (oi := _) (v := undef) rfl (by as_aux_lemma => kernel_rfl) (by as_aux_lemma => kernel_rfl) (by as_aux_lemma => kernel_rfl) (fun _ _ _ h => h) (Or.inr ⟨by rfl, rfl⟩) hH ?_
          try simp only [Act.put, List.getElem_toArray, List.getElem_cons_zero, List.getElem_cons_succ, List.setIfInBounds_toArray, List.set_cons_zero, List.set_cons_succ]
          refine wpAnyH_take (i := 9) (oi := _) (v := undef) rfl (by as_aux_lemma => kernel_rfl) (by as_aux_lemma => kernel_rfl) (by as_aux_lemma => kernel_rfl) (fun _ _ _ h => h) (Or.inr ⟨by rfl, rfl⟩) hH ?_
          try simp only [Act.put, List.getElem_toArray, List.getElem_cons_zero, List.getElem_cons_succ, List.setIfInBounds_toArray, List.set_cons_zero, List.set_cons_succ]
          refine wpAnyH_take (i := 10) (oi := _) (v := undef) rfl (by as_aux_lemma => kernel_rfl) (by as_aux_lemma => kernel_rfl) (by as_aux_lemma => kernel_rfl) (fun _ _ _ h => h) (Or.inr ⟨by rfl, rfl⟩) hH ?_
          try simp only [Act.put, List.getElem_toArray, List.getElem_cons_zero, List.getElem_cons_succ, List.setIfInBounds_toArray, List.set_cons_zero, List.set_cons_succ]
          refine wpAnyH_take (i := 11) (oi := _) (v := .bool false) rfl (by as_aux_lemma => kernel_rfl) (by as_aux_lemma => kernel_rfl) (by as_aux_lemma => kernel_rfl) (fun _ _ _ h => h) (Or.inl ⟨by rfl, fun w' hw' => by go_simp⟩) hH ?_
          try simp only [Act.put, List.getElem_toArray, List.getElem_cons_zero, List.getElem_cons_succ, List.setIfInBounds_toArray, List.set_cons_zero, List.set_cons_succ]
          refine wpAnyH_take (i := 12) (oi := _) (v := .bool false) rfl (by as_aux_lemma => kernel_rfl) (by as_aux_lemma => kernel_rfl) (by as_aux_lemma => kernel_rfl) (fun _ _ _ h => h) (Or.inl ⟨by rfl, fun w' hw' => by go_simp⟩) hH ?_
          try simp only [Act.put, List.getElem_toArray, List.getElem_cons_zero, List.getElem_cons_succ, List.setIfInBounds_toArray, List.set_cons_zero, List.set_cons_succ]
          refine wpAnyH_take (i := 13) (oi := _) (v := .int .i64 (k : Int)) rfl (by as_aux_lemma => kernel_rfl) (by as_aux_lemma => kernel_rfl) (by as_aux_lemma => kernel_rfl) (fun _ _ _ h => h) (Or.inl ⟨by rfl, fun w' hw' => by go_simp⟩) hH ?_
          try simp only [Act.put, List.getElem_toArray, List.getElem_cons_zero, List.getElem_cons_succ, List.setIfInBounds_toArray, List.set_cons_zero, List.set_cons_succ]
          refine wpAnyH_take (i := 14) (oi := _) (v := .slice a3 n c3) rfl (by as_aux_lemma => kernel_rfl) (by as_aux_lemma => kernel_rfl) (by as_aux_lemma => kernel_rfl) (fun _ _ _ h => h) (Or.inl ⟨by rfl, fun w' hw' => by go_simp⟩) hH ?_
          try simp only [Act.put, List.getElem_toArray, List.getElem_cons_zero, List.getElem_cons_succ, List.setIfInBounds_toArray, List.set_cons_zero, List.set_cons_succ]
          refine wpAnyH_take (i := 15) (oi := _) (v := .int .i64 (n : Int)) rfl (by as_aux_lemma => kernel_rfl) (by as_aux_lemma => kernel_rfl) (by as_aux_lemma => kernel_rfl) (fun _ _ _ h => h) (Or.inl ⟨by rfl, fun w' hw' => by go_simp⟩) hH ?_
          try simp only [Act.put, List.getElem_toArray, List.getElem_cons_zero, List.getElem_cons_succ, List.setIfInBounds_toArray, List.set_cons_zero, List.set_cons_succ]
          refine wpAnyH_take (i := 16) (oi := _) (v := .bool true) rfl (by as_aux_lemma => kernel_rfl) (by as_aux_lemma => kernel_rfl) (by as_aux_lemma => kernel_rfl) (fun _ _ _ h => h) (Or.inl ⟨by rfl, fun w' hw' => by go_simp; omega⟩) hH ?_
          try simp only [Act.put, List.getElem_toArray, List.getElem_cons_zero, List.getElem_cons_succ, List.setIfInBounds_toArray, List.set_cons_zero, List.set_cons_succ]
          refine wpAnyH_take (i := 17) (oi := _) (v := .bool true) rfl (by as_aux_lemma => kernel_rfl) (by as_aux_lemma => kernel_rfl) (by as_aux_lemma => kernel_rfl) (fun _ _ _ h => h) (Or.inl ⟨by rfl, fun w' hw' => by go_simp⟩) hH ?_
          try simp only [Act.put, List.getElem_toArray, List.getElem_cons_zero, List.getElem_cons_succ, List.setIfInBounds_toArray, List.set_cons_zero, List.set_cons_succ]
          refine wpAnyH_take (i := 18) (oi := _) (v := .agg (cellsI (List.replicate 24 0))) rfl (by as_aux_lemma => kernel_rfl) (by as_aux_lemma => kernel_rfl) (by as_aux_lemma => kernel_rfl) (fun _ _ _ h => h) (yieldsIf_load_mid (by rfl) 44 _ rfl wr.heap.size 0 rfl ((List.replicate 24 (0 : Int)).map (Value.int .i64)) _ (fun w' h => row_range h) Tryd.underlying44 rfl info24) hH ?_
          try simp only [Act.put, List.getElem_toArray, List.getElem_cons_zero, List.getElem_cons_succ, List.setIfInBounds_toArray, List.set_cons_zero, List.set_cons_succ]
          refine wpAnyH_take (i := 19) (oi := _) (v := .agg (cellsI (List.replicate 24 0))) rfl (by as_aux_lemma => kernel_rfl) (by as_aux_lemma => kernel_rfl) (by as_aux_lemma => kernel_rfl) (fun _ _ _ h => h) (Or.inl ⟨by rfl, fun w' hw' => by go_simp; rfl⟩) hH ?_
          try simp only [Act.put, List.getElem_toArray, List.getElem_cons_zero, List.getElem_cons_succ, List.setIfInBounds_toArray, List.set_cons_zero, List.set_cons_succ]
          refine wpAnyH_take (i := 20) (oi := _) (v := .bool false) rfl (by as_aux_lemma => kernel_rfl) (by as_aux_lemma => kernel_rfl) (by as_aux_lemma => kernel_rfl) (fun _ _ _ h => h) (yieldsIf_neqT (by rfl) 44 _ _ _ rfl (cellsI (List.replicate 24 0)) (cellsI (List.replicate 24 0)) rfl rfl guardIno true (fun w => eqInoS w (List.replicate 24 0) rfl)) hH ?_
          try simp only [Act.put, List.getElem_toArray, List.getElem_cons_zero, List.getElem_cons_succ, List.setIfInBounds_toArray, List.set_cons_zero, List.set_cons_succ]
          refine wpAnyH_take (i := 21) (oi := _) (v := .bool false) rfl (by as_aux_lemma => kernel_rfl) (by as_aux_lemma => kernel_rfl) (by as_aux_lemma => kernel_rfl) (fun _ _ _ h => h) (Or.inl ⟨by rfl, fun w' hw' => by go_simp⟩) hH ?_
          try simp only [Act.put, List.getElem_toArray, List.getElem_cons_zero, List.getElem_cons_succ, List.setIfInBounds_toArray, List.set_cons_zero, List.set_cons_succ]
          refine wpAnyH_take (i := 22) (oi := _) (v := .bool false) rfl (by as_aux_lemma => kernel_rfl) (by as_aux_lemma => kernel_rfl) (by as_aux_lemma => kernel_rfl) (fun _ _ _ h => h) (Or.inl ⟨by rfl, fun w' hw' => by go_simp⟩) hH ?_
          try simp only [Act.put, List.getElem_toArray, List.getElem_cons_zero, List.getElem_cons_succ, List.setIfInBounds_toArray, List.set_cons_zero, List.set_cons_succ]
          refine wpAnyH_done (by kernel_rfl) (NoPanic.normal ?_) _
          clear hH
          go_wp2
          go_roundw
          case rel => exact ⟨k + 1, by omega, by go_num, F8.out.below ((Below.refl _ _).drew), own_below O8.out ((Below.refl _ _).drew)⟩
          case measure => simp [intOf]; omega
      · obtain rfl : k = N := by omega
        go_wp2
        go_ret
        exact ⟨rfl, F5.out.low⟩
set_option maxRecDepth 1000000 in
set_option maxHeartbeats 40000000 in
theorem tab_mid (w wr : World) (a3 : Option Addr) (c3 : Nat) (a4 : Option Addr) (c4 n : Nat) (zs : List Int) (L : Nat) (hF : FT w wr (.slice a3 n c3) (.slice a4 (encTab zs n).length c4) n zs) (hz : zs.length = n * 24) (hn : n ≤ 1002) (hg : ErrT w) (hL : L = 0 → 1000 < n) (hL2 : L ≠ 0 → 2 ≤ L ∧ L ≤ 1000 ∧ (L < n → zs.getD (L * 24) 0 = 0)) (x0 x1 x2 x6 x7 x9 x10 x11 x12 x13 x14 x15 x16 x17 x18 x19 x20 x21 x22 x23 x24 x25 x26 x27 x28 x29 x30 x31 x32 x33 x34 x35 x36 x37 x38 x39 x40 x41 x42 x43 x44 x45 x46 x47 x48 x49 x50 x51 x52 x53 x54 x55 x56 x57 x58 x59 x60 x61 x62 x63 x64 x65 x66 x67 x68 x69 x70 x71 x72 x73 x74 x75 x76 x77 x78 x79 x80 x81 x82 x83 x84 x85 x86 x87 x88 x89 x90 x91 x92 x93 x94 x95 x96 x97 x98 x99 x100 x101 x102 x103 x104 x105 x106 x107 x108 x109 x110 x111 x112 x113 x114 x115 x116 x117 x118 x119 x120 x121 x122 x123 x124 x125 x126 x127 x128 x129 x130 x131 x132 x133 x134 x135 x136 x137 x138 x139 x140 x141 x142 x143 x144 x145 x146 : Value)
    (K5 : Act → World → Prop) (hK5 : ∀ a w', Code.wp Tryd.prog (sndC tailM) (bodyPost Tryd.prog Tryd.f5 (fun e w' => e = .returned (.bool true) ∧ Below w.heap.size w w')) a w' → K5 a w') (K4 : Act → World → Prop) (hK4 : ∀ a w', Code.wp Tryd.prog (sndC (fstC tailM)) (Exit.then K5 (bodyPost Tryd.prog Tryd.f5 (fun e w' => e = .returned (.bool true) ∧ Below w.heap.size w w'))) a w' → K4 a w') :
    Code.wp Tryd.prog (fstC (fstC tailM)) (Exit.then K4 (Exit.then K5 (bodyPost Tryd.prog Tryd.f5 (fun e w' => e = .returned (.bool true) ∧ Below w.heap.size w w')))) ⟨#[x0, x1, x2, .slice a3 n c3, .slice a4 (encTab zs n).length c4, .int .i64 (codeTab zs n), x6, x7, .int .i64 (L : Int), x9, x10, x11, x12, x13, x14, x15, x16, x17, x18, x19, x20, x21, x22, x23, x24, x25, x26, x27, x28, x29, x30, x31, x32, x33, x34, x35, x36, x37, x38, x39, x40, x41, x42, x43, x44, x45, x46, x47, x48, x49, x50, x51, x52, x53, x54, x55, x56, x57, x58, x59, x60, x61, x62, x63, x64, x65, x66, x67, x68, x69, x70, x71, x72, x73, x74, x75, x76, x77, x78, x79, x80, x81, x82, x83, x84, x85, x86, x87, x88, x89, x90, x91, x92, x93, x94, x95, x96, x97, x98, x99, x100, x101, x102, x103, x104, x105, x106, x107, x108, x109, x110, x111, x112, x113, x114, x115, x116, x117, x118, x119, x120, x121, x122, x123, x124, x125, x126, x127, x128, x129, x130, x131, x132, x133, x134, x135, x136, x137, x138, x139, x140, x141, x142, x143, x144, x145, x146], []⟩ wr := by
  have H := hide (And.intro hF hg)
  clear hF hg
  conv => arg 2; whnf
  conv at hK4 => enter [a, w', 1, 2]; whnf
  conv at hK5 => enter [a, w', 1, 2]; whnf
  by_cases hL0 : L = 0
  · subst hL0
    go_upto_region 16 with fail
    exact tab_tail w _ a3 c3 a4 c4 n zs 0 H.out.1 hz hn H.out.2 hL _ _ _ _ _ _ _ _ _ _ _ _ _ _ _ _ _ _ _ _ _ _ _ _ _ _ _ _ _ _ _ _ _ _ _ _ _ _ _ _ _ _ _ _ _ _ _ _ _ _ _ _ _ _ _ _ _ _ _ _ _ _ _ _ _ _ _ _ _ _ _ _ _ _ _ _ _ _ _ _ _ _ _ _ _ _ _ _ _ _ _ _ _ _ _ _ _ _ _ _ _ _ _ _ _ _ _ _ _ _ _ _ _ _ _ _ _ _ _ _ _ _ _ _ _ _ _ _ _ _ _ _ _ _ _ _ _ _ _ _ _ _ _ _ (by assumption) _ (by assumption)
  · obtain ⟨h2, h3, h4⟩ := hL2 hL0
    have q1 : ((L : Int) != 0) = true := by simp; omega
    have q2 : decide ((L : Int) < 2) = false := by simp; omega
    have q3 : decide ((1000 : Int) < (L : Int)) = false := by simp; omega
    by_cases hLn : L < n
    · have q4 : decide ((L : Int) < (n : Int)) = true := by simp; omega
      obtain ⟨g3, c5, e3⟩ := place_row H.out.1.lst (by omega)
      injection e3 with e4 e5 e6
      subst e4
      subst e6
      have cL := row_cells (k := L * 24) H.out.1.lst (by omega)
      rw [h4 hLn] at cL
      clear h4 hL2
      go_upto_region 16 with fail
      exact tab_tail w _ (some ⟨g3, 0, none⟩) c3 a4 c4 n zs L H.out.1 hz hn H.out.2 hL _ _ _ _ _ _ _ _ _ _ _ _ _ _ _ _ _ _ _ _ _ _ _ _ _ _ _ _ _ _ _ _ _ _ _ _ _ _ _ _ _ _ _ _ _ _ _ _ _ _ _ _ _ _ _ _ _ _ _ _ _ _ _ _ _ _ _ _ _ _ _ _ _ _ _ _ _ _ _ _ _ _ _ _ _ _ _ _ _ _ _ _ _ _ _ _ _ _ _ _ _ _ _ _ _ _ _ _ _ _ _ _ _ _ _ _ _ _ _ _ _ _ _ _ _ _ _ _ _ _ _ _ _ _ _ _ _ _ _ _ _ _ _ _ (by assumption) _ (by assumption)
    · have q4 : decide ((L : Int) < (n : Int)) = false := by simp; omega
      clear h4 hL2
      go_upto_region 16 with fail
      exact tab_tail w _ a3 c3 a4 c4 n zs L H.out.1 hz hn H.out.2 hL _ _ _ _ _ _ _ _ _ _ _ _ _ _ _ _ _ _ _ _ _ _ _ _ _ _ _ _ _ _ _ _ _ _ _ _ _ _ _ _ _ _ _ _ _ _ _ _ _ _ _ _ _ _ _ _ _ _ _ _ _ _ _ _ _ _ _ _ _ _ _ _ _ _ _ _ _ _ _ _ _ _ _ _ _ _ _ _ _ _ _ _ _ _ _ _ _ _ _ _ _ _ _ _ _ _ _ _ _ _ _ _ _ _ _ _ _ _ _ _ _ _ _ _ _ _ _ _ _ _ _ _ _ _ _ _ _ _ _ _ _ _ _ _ (by assumption) _ (by assumption)
set_option maxRecDepth 1000000 in
set_option maxHeartbeats 40000000 in
theorem lawTable (v0 : Value) (cs : List Int) (w : World) (h : Rd .u8 w v0 cs) (hbd : ∀ z ∈ cs, 0 ≤ z ∧ z < 256) (hg : ErrT w) :
    Calls Tryd.prog 5 #[v0] w fun e w' => e = .returned (.bool true) ∧ Below w.heap.size w w' := by
  obtain ⟨i0, hi, hz0, hz1, hz2⟩ := info_parts infoT24
  have hm := h.len
  unfold maxLen at hm
  obtain ⟨a0, cap0, rfl⟩ : ∃ a cap, v0 = .slice a cs.length cap := by obtain ⟨a, cap, e, _⟩ := h; exact ⟨a, cap, e⟩
  have H := hide (And.intro h (And.intro hbd hg))
  clear h hbd hg
  by_cases hbig : (1048576 : Int) < (cs.length : Int)
  · go_enter Tryd.func5, Tryd.ntmps5
    go_wp2
    go_ret
    exact ⟨rfl, Below.refl _ _⟩
  · have hsm : cs.length ≤ 1048576 := by omega
    go_enter Tryd.func5, Tryd.ntmps5
    go_wp2_with fail
    refine (drawET_any _ cs _ H.out.1 H.out.2.1 hsm).mono ?_
    rintro e w1 ⟨v3, n, zs, rfl, o1, hn, b1⟩
    have hz : zs.length = n * 24 := by have := o1.1; simpa using this
    have HZL := hide hz
    obtain ⟨a3, c3, rfl⟩ := shape_row o1
    have O1 := hide (And.intro o1 b1)
    clear o1 b1
    go_wp2_with (first | (at_builtin; refine wpList_append_copy w1 rfl (.tmp 22) (.tmp 23) 27 rfl 44 i0 (.agg (cellsI (List.replicate 24 0))) 24 192 Tryd.underlying27 hi hz0 hz1 hz2 rfl (by decide) rfl a3 n c3 (zs.map (Value.int .i64)) rfl (by rw [List.length_map, HZL.out]) (RdT.own O1.out.1).src (ints_oneCell _ _) (by unfold maxLen; omega) (by omega) ?_; intro v1 w2 o1 b1; have O2 := hide (And.intro o1 (And.intro (own_below O1.out.1 b1) (O1.out.2.trans (b1.mono O1.out.2.size)))); clear o1 b1) | fail)
    refine (implTab_any v1 n zs _ (RdT.own O2.out.1) (by omega) (H.out.2.2.below O2.out.2.2)).mono ?_
    rintro e w3 ⟨v4, rfl, o3, b3⟩
    obtain ⟨a4, c4, rfl⟩ := shape_row o3
    have F3 := hide (show FT w w3 (.slice a3 n c3) (.slice a4 (encTab zs n).length c4) n zs from ⟨own_below O2.out.2.1 b3, own_mono o3 O2.out.2.2.size, O2.out.2.2.trans (b3.mono O2.out.2.2.size)⟩)
    clear o3 b3 O2
    go_wp2_with fail
    refine (specTab_any _ n zs _ (RdT.own F3.out.lst)).mono ?_
    rintro e w4 ⟨v5, rfl, o4, b4⟩
    have F4 := hide (F3.out.below b4)
    clear o4 b4 F3
    have hcc : (codeTab zs n != codeTab zs n) = false := by simp
    go_wp2_with (first | (at_builtin; refine wpList_append_copy w4 rfl (.tmp 36) (.tmp 37) 27 rfl 44 i0 (.agg (cellsI (List.replicate 24 0))) 24 192 Tryd.underlying27 hi hz0 hz1 hz2 rfl (by decide) rfl a3 n c3 (zs.map (Value.int .i64)) rfl (by rw [List.length_map, HZL.out]) (RdT.own F4.out.lst).src (ints_oneCell _ _) (by unfold maxLen; omega) (by omega) ?_; intro v1 w2 o1 b1; have O5 := hide o1; have F5 := hide (F4.out.below b1); clear o1 b1) | fail)
    refine (implLow_any v1 n zs _ (RdT.own O5.out)).mono ?_
    rintro e w6 ⟨rfl, hw6⟩
    rw [hw6]
    clear hw6 w6 O5
    have LF := hide (low_facts zs n)
    generalize lowG zs n 999 2 = L at LF ⊢
    go_wp2
    go_loopw [9] (fun i wr => ∃ j : Nat, 2 ≤ j ∧ i = .int .i64 (j : Int) ∧ FT w wr (.slice a3 n c3) (.slice a4 (encTab zs n).length c4) n zs) (fun i _ => n - (intOf i).toNat)
    case atStart => exact ⟨2, by omega, rfl, F5.out⟩
    case round =>
      clear F5
      obtain ⟨j, hj, rfl, hf⟩ := hrel
      have F6 := hide hf
      clear hf
      by_cases hjn : j < n
      · have q1 : decide ((j : Int) < (n : Int)) = true := by simp; omega
        by_cases hjL : j < L
        · have q2 : decide ((j : Int) < (L : Int)) = true := by simp; omega
          obtain ⟨g3, c5, e3⟩ := place_row F6.out.lst (by omega)
          injection e3 with e4 e5 e6
          subst e4
          subst e6
          have cJ := row_cells (k := j * 24) F6.out.lst (by omega)
          have hJ := LF.out.1 j hj hjn hjL
          generalize zs.getD (j * 24) 0 = z at cJ hJ
          have q3 : (z == 0) = false := by simpa using hJ
          go_wp2
          go_roundw
          case rel => exact ⟨j + 1, by omega, by go_num, F6.out⟩
          case measure => simp [intOf]; omega
        · have q2 : decide ((j : Int) < (L : Int)) = false := by simp; omega
          go_upto_region 14 with fail
          exact tab_mid w _ a3 c3 a4 c4 n zs L F6.out hz hn H.out.2.2 LF.out.2.2 LF.out.2.1 _ _ _ _ _ _ _ _ _ _ _ _ _ _ _ _ _ _ _ _ _ _ _ _ _ _ _ _ _ _ _ _ _ _ _ _ _ _ _ _ _ _ _ _ _ _ _ _ _ _ _ _ _ _ _ _ _ _ _ _ _ _ _ _ _ _ _ _ _ _ _ _ _ _ _ _ _ _ _ _ _ _ _ _ _ _ _ _ _ _ _ _ _ _ _ _ _ _ _ _ _ _ _ _ _ _ _ _ _ _ _ _ _ _ _ _ _ _ _ _ _ _ _ _ _ _ _ _ _ _ _ _ _ _ _ _ _ _ _ _ _ _ _ _ (by assumption) _ (by assumption)
      · have q1 : decide ((j : Int) < (n : Int)) = false := by simp; omega
        go_upto_region 14 with fail
        exact tab_mid w _ a3 c3 a4 c4 n zs L F6.out hz hn H.out.2.2 LF.out.2.2 LF.out.2.1 _ _ _ _ _ _ _ _ _ _ _ _ _ _ _ _ _ _ _ _ _ _ _ _ _ _ _ _ _ _ _ _ _ _ _ _ _ _ _ _ _ _ _ _ _ _ _ _ _ _ _ _ _ _ _ _ _ _ _ _ _ _ _ _ _ _ _ _ _ _ _ _ _ _ _ _ _ _ _ _ _ _ _ _ _ _ _ _ _ _ _ _ _ _ _ _ _ _ _ _ _ _ _ _ _ _ _ _ _ _ _ _ _ _ _ _ _ _ _ _ _ _ _ _ _ _ _ _ _ _ _ _ _ _ _ _ _ _ _ _ _ _ _ _ (by assumption) _ (by assumption)
end Go.Proofs.YtlgafpjmifacmaaDoor
