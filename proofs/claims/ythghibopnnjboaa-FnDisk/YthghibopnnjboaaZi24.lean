/- The model's Do, walked: reading. -/
import Derived.Test.YthghibopnnjboaaZi23
namespace Go.Proofs.Ythghibopnnjboaa
set_option linter.unusedVariables false
set_option linter.unusedSimpArgs false
open Go.RowKit

set_option maxRecDepth 100000 in
set_option maxHeartbeats 8000000 in
theorem doM_read {W : World} {base d : Nat} {vi vc vw : Value} {s : DS} {cs : List Value} {H : List NE} {hs : List Value} (h : DvM W base d vi vc vw s.F s.C cs s.fu s.off H hs) (hd : base ≤ d) (m : Nat) (hm : s.F.length = m * 512) (hC : s.C.length + 4 ≤ 100000) (hfu : s.fu < 9223372036854775808) (k A : Int) (vd : Value) (D : List Int) (w0 : World) (hD : Rd .u8 w0 vd D) (hw0 : Below w0.heap.size w0 W) (hw1 : w0.heap.size ≤ base) (hbd : ∀ z ∈ D, 0 ≤ z ∧ z < 256) (q : Nat) (hq : H.length + 1 ≤ q) (hq2 : q ≤ 100000) (hk : k = 1) (ho : s.off = false) (hA : 0 ≤ A ∧ A < m) :
    Calls Try.prog 32 #[.pointer (some ⟨d, 0, none⟩), .agg #[.int .i64 k, .int .i64 A, vd]] W (DoPost W base d q (doS m k A D s)) := by
  obtain ⟨i1, hi1, hy0, hy1, hy2⟩ := info_parts infoU8
  subst hk
  obtain ⟨a, rfl⟩ : ∃ a : Nat, A = (a : Int) := ⟨A.toNat, by omega⟩
  have hbW : base ≤ W.heap.size := by have := h.blk.lt; omega
  obtain ⟨va0, vcap, rfl⟩ : ∃ a cap, vd = .slice a D.length cap := by obtain ⟨a, cap, e, _⟩ := hD; exact ⟨a, cap, e⟩
  have HS := hide (doStart (k := 1) (A := (a : Int)) (vd := .slice va0 D.length vcap) h hbW (show H.length ≤ q by omega))
  obtain ⟨W2, hW2⟩ : ∃ W2, W2 = (W.alloc (.cells #[.int .i64 1, .int .i64 (a : Int), .slice va0 D.length vcap] 30)).alloc (.cells #[.int .i64 0, .slice none 0 0] 55) := ⟨_, rfl⟩
  rw [← hW2] at HS
  have HW2 := hide hW2
  have HD := hide (And.intro hD (And.intro hw0 hbd))
  have HM := hide hm
  have hdl : D.length ≤ 9223372036854775807 := by have := hD.len; unfold maxLen at this; omega
  have hn1 := h.n1
  obtain ⟨DL, hDL⟩ : ∃ DL, DL = D.length := ⟨_, rfl⟩
  rw [← hDL] at HS HW2 hdl ⊢
  have HDL := hide hDL
  rw [show doS m 1 (a : Int) D s = (s, 0, ((mkW s.F s.C).drop (a * 512)).take 512) from by unfold doS; rw [if_neg (by decide), if_neg (by decide), if_neg (by rw [ho]; decide), if_pos rfl, if_pos (by omega), Int.toNat_natCast]]
  clear h hD hw0 hm hbd hW2 hDL
  have b0 := (HS.out.box.cell 0).trans (show _ = some (.int .i64 1) from rfl)
  have b1 := (HS.out.box.cell 1).trans (show _ = some (.int .i64 (a : Int)) from rfl)
  have b2 := (HS.out.box.cell 2).trans (show _ = some (.slice va0 DL vcap) from rfl)
  have d3 := (HS.out.dev.blk.cell 3).trans (show _ = some (.bool s.off) from rfl)
  go_enter Try.func32, Try.ntmps32
  go_upto_region 1 with fail
  rw [← HW2.out]
  rw [ho] at d3
  have HO := hide ho
  clear ho
  have hri := HS.out.dev.img
  obtain ⟨ia, ic, hie⟩ := shape_rowK hri
  subst hie
  have d0 := (HS.out.dev.blk.cell 0).trans (show _ = some (.slice ia s.F.length ic) from rfl)
  obtain ⟨FL, hFL⟩ : ∃ FL, FL = s.F.length := ⟨_, rfl⟩
  rw [← hFL] at d0 hn1
  have hdiv : (FL : Int) / 512 = (m : Int) := by have := HM.out; omega
  have HFL := hide hFL
  clear hri hFL
  have qA : ¬ ((a : Int) < 0) := by omega
  have qB : ¬ ((m : Int) ≤ (a : Int)) := by omega
  have hab : a ≤ 2048 := by omega
  obtain ⟨lo, hlo⟩ : ∃ lo : Nat, (a : Int) * 512 = (lo : Int) := ⟨a * 512, by omega⟩
  obtain ⟨hi2, hhi⟩ : ∃ hi2 : Nat, ((a : Int) + 1) * 512 = (hi2 : Int) := ⟨a * 512 + 512, by omega⟩
  have HLO := hide (show lo = a * 512 ∧ hi2 = a * 512 + 512 ∧ hi2 ≤ FL from ⟨by omega, by omega, by have := HM.out; have := HFL.out; omega⟩)
  have Hl := hide hlo
  have Hh := hide hhi
  clear hlo hhi
  obtain ⟨wd, hwd⟩ : ∃ wd, wd = W2.drew := ⟨_, rfl⟩
  have bdr : Below W2.heap.size W2 wd := by rw [hwd]; exact (Below.refl _ _).drew
  have HSd := hide (HS.out.belowK bdr (Nat.le_trans hbW HS.out.low.size))
  have HWd := hide hwd
  clear hwd bdr
  have S0 := hide ((HSd.out.box.cell 1).trans (show _ = some (.int .i64 (a : Int)) from rfl))
  go_upto_region 17 with fail
  refine wp_region_noPanic ?_
  refine wp_region_heldL (fun w' => w'.cell? ⟨W.heap.size, 1, none⟩ = some (.int .i64 (a : Int))) 13 (by kernel_rfl) ?_
  rw [← HWd.out]
  refine wpAnyL_take (i := 1) (oi := _) (v := .pointer (some ⟨d, 0, none⟩)) rfl (by kernel_rfl) (by kernel_rfl) (by kernel_rfl) (by kernel_rfl) (fun _ _ _ h => h) (Or.inl ⟨by rfl, fun w' hw' => by go_simp⟩) S0.out ?_
  try simp only [Act.put, List.getElem_toArray, List.getElem_cons_zero, List.getElem_cons_succ, List.setIfInBounds_toArray, List.set_cons_zero, List.set_cons_succ]
  refine wpAnyL_take (i := 3) (oi := _) (v := .pointer (some ⟨W.heap.size, 1, none⟩)) rfl (by kernel_rfl) (by kernel_rfl) (by kernel_rfl) (by kernel_rfl) (fun _ _ _ h => h) (Or.inl ⟨by rfl, fun w' hw' => by go_simp⟩) S0.out ?_
  try simp only [Act.put, List.getElem_toArray, List.getElem_cons_zero, List.getElem_cons_succ, List.setIfInBounds_toArray, List.set_cons_zero, List.set_cons_succ]
  refine wpAnyL_take (i := 4) (oi := _) (v := .int .i64 (a : Int)) rfl (by kernel_rfl) (by kernel_rfl) (by kernel_rfl) (by kernel_rfl) (fun _ _ _ h => h) (Or.inl ⟨by rfl, fun w' hw' => by have hw2 : w'.cell? ⟨W.heap.size, 1, none⟩ = some (.int .i64 (a : Int)) := hw'; go_simp⟩) S0.out ?_
  try simp only [Act.put, List.getElem_toArray, List.getElem_cons_zero, List.getElem_cons_succ, List.setIfInBounds_toArray, List.set_cons_zero, List.set_cons_succ]
  refine wpAnyL_take (i := 5) (oi := _) (v := .int .i64 (lo : Int)) rfl (by kernel_rfl) (by kernel_rfl) (by kernel_rfl) (by kernel_rfl) (fun _ _ _ h => h) (Or.inl ⟨by rfl, fun w' hw' => by have hx : IntKind.i64.wrap ((a : Int) * 512) = (lo : Int) := (wrapK _ (by omega) (by omega)).trans Hl.out; go_simp⟩) S0.out ?_
  try simp only [Act.put, List.getElem_toArray, List.getElem_cons_zero, List.getElem_cons_succ, List.setIfInBounds_toArray, List.set_cons_zero, List.set_cons_succ]
  refine wpAnyL_take (i := 6) (oi := _) (v := .pointer (some ⟨W.heap.size, 1, none⟩)) rfl (by kernel_rfl) (by kernel_rfl) (by kernel_rfl) (by kernel_rfl) (fun _ _ _ h => h) (Or.inl ⟨by rfl, fun w' hw' => by go_simp⟩) S0.out ?_
  try simp only [Act.put, List.getElem_toArray, List.getElem_cons_zero, List.getElem_cons_succ, List.setIfInBounds_toArray, List.set_cons_zero, List.set_cons_succ]
  refine wpAnyL_take (i := 7) (oi := _) (v := .int .i64 (a : Int)) rfl (by kernel_rfl) (by kernel_rfl) (by kernel_rfl) (by kernel_rfl) (fun _ _ _ h => h) (Or.inl ⟨by rfl, fun w' hw' => by have hw2 : w'.cell? ⟨W.heap.size, 1, none⟩ = some (.int .i64 (a : Int)) := hw'; go_simp⟩) S0.out ?_
  try simp only [Act.put, List.getElem_toArray, List.getElem_cons_zero, List.getElem_cons_succ, List.setIfInBounds_toArray, List.set_cons_zero, List.set_cons_succ]
  refine wpAnyL_take (i := 8) (oi := _) (v := .int .i64 ((a : Int) + 1)) rfl (by kernel_rfl) (by kernel_rfl) (by kernel_rfl) (by kernel_rfl) (fun _ _ _ h => h) (Or.inl ⟨by rfl, fun w' hw' => by have hx := wrapK ((a : Int) + 1) (by omega) (by omega); go_simp⟩) S0.out ?_
  try simp only [Act.put, List.getElem_toArray, List.getElem_cons_zero, List.getElem_cons_succ, List.setIfInBounds_toArray, List.set_cons_zero, List.set_cons_succ]
  refine wpAnyL_take (i := 9) (oi := _) (v := .int .i64 (hi2 : Int)) rfl (by kernel_rfl) (by kernel_rfl) (by kernel_rfl) (by kernel_rfl) (fun _ _ _ h => h) (Or.inl ⟨by rfl, fun w' hw' => by have hx : IntKind.i64.wrap (((a : Int) + 1) * 512) = (hi2 : Int) := (wrapK _ (by omega) (by omega)).trans Hh.out; go_simp⟩) S0.out ?_
  try simp only [Act.put, List.getElem_toArray, List.getElem_cons_zero, List.getElem_cons_succ, List.setIfInBounds_toArray, List.set_cons_zero, List.set_cons_succ]
  have hbd2 : base ≤ wd.heap.size := Nat.le_trans hbW HSd.out.low.size
  refine wpAnyL_two (i := 0) (j := 2) (by kernel_rfl) rfl rfl ?_ ?_
  · intro K hK
    go_simp
    have BA := hide (show Below wd.heap.size wd (wd.alloc (.cells #[] 5)) from (Below.refl _ _).alloc (Nat.le_refl _) _)
    have DA := hide (HSd.out.belowK BA.out hbd2)
    refine hK.out _ _ (fun _ => (DA.out.box.cell 1).trans (show _ = some (Value.int .i64 (a : Int)) from rfl)) ?_
    clear hK K
    try simp only [Act.put, List.getElem_toArray, List.getElem_cons_zero, List.getElem_cons_succ, List.setIfInBounds_toArray, List.set_cons_zero, List.set_cons_succ]
    refine wpAnyL_one (i := 2) (by kernel_rfl) rfl (fun K hK => ?_)
    go_simp
    refine (seenM_any DA.out.dev).mono ?_
    rintro e wZ ⟨v1, rfl, o1, l1⟩
    have hml : (mkW s.F s.C).length = s.F.length := mkW_len _ _ HSd.out.dev.ok
    obtain ⟨a1, e1, rfl⟩ := shape_rowK o1
    obtain ⟨sa, sc, hsr, hsl⟩ := slice_pieceK (show Rd .u8 wZ (.slice a1 s.F.length e1) (mkW s.F s.C) by have := Rd.own o1; exact this) lo hi2 (by have := HLO.out; omega) (by rw [hml, ← HFL.out]; exact HLO.out.2.2)
    rw [show hi2 - lo = 512 by have := HLO.out; omega] at hsr hsl
    rw [← HFL.out] at hsl
    obtain ⟨P, hP⟩ : ∃ P : List Int, P = ((mkW s.F s.C).drop lo).take 512 := ⟨_, rfl⟩
    rw [← hP] at hsr
    have hPl : P.length = 512 := by rw [hP, List.length_take, List.length_drop, hml]; have := HLO.out; have := HFL.out; omega
    have HP := hide (And.intro hP hPl)
    have RP := hide (show 0 < 512 → ∃ bd off, sa = some ⟨bd, off, none⟩ ∧ bd < wZ.heap.size ∧ ∀ (j : Nat) (u : Value), (P.map (Value.int .u8))[j]? = some u → wZ.cell? ⟨bd, off + j, none⟩ = some u by
      have h1 : Rd .u8 wZ (.slice sa P.length sc) P := by rw [hPl]; exact hsr
      have h2 := h1.srcM
      rw [hPl] at h2
      exact h2)
    clear hP hPl hsr hml o1
    have BZ := hide (BA.out.trans (l1.mono BA.out.size))
    have DZ := hide (HSd.out.belowK BZ.out hbd2)
    have SZ := hide ((DZ.out.box.cell 1).trans (show _ = some (.int .i64 (a : Int)) from rfl))
    have OE := hide (own_below (own_emptyM wd 5 1) l1)
    clear l1
    rw [← HFL.out]
    refine hK.out _ _ (fun _ => SZ.out) ?_
    clear hK K
    try simp only [Act.put, List.getElem_toArray, List.getElem_cons_zero, List.getElem_cons_succ, List.setIfInBounds_toArray, List.set_cons_zero, List.set_cons_succ]
    refine wpAnyL_take (i := 10) (oi := _) (v := .slice sa 512 sc) rfl (by kernel_rfl) (by kernel_rfl) (by kernel_rfl) (by kernel_rfl) (fun _ _ _ h => h) (Or.inl ⟨by rfl, fun w' hw' => by go_simp⟩) SZ.out ?_
    try simp only [Act.put, List.getElem_toArray, List.getElem_cons_zero, List.getElem_cons_succ, List.setIfInBounds_toArray, List.set_cons_zero, List.set_cons_succ]
    refine wpAnyL_one (i := 11) (by kernel_rfl) rfl (fun K hK => ?_)
    rw [if_pos (by rfl)]
    obtain ⟨bP, oP, rfl, hbP, hcP⟩ := RP.out (by omega)
    refine wp_append_own _ (.tmp 52) (.tmp 62) 22 rfl wd.heap.size 5 i1 (.int .u8 0) 1 1 Try.underlying22 hi1 hy0 hy1 hy2 rfl (by decide) (.slice (some ⟨wd.heap.size, 0, none⟩) 0 0) 0 [] rfl OE.out ⟨bP, oP, none⟩ 512 sc (P.map (Value.int .u8)) rfl (by rw [List.length_map, HP.out.2]) (fun j u hj => by rw [Addr.add_mid]; exact hcP j u hj) (ints_oneCell _ _) (by unfold maxLen; omega) (by omega) (BZ.out.size) ?_
    intro v4 w4 o4 g4 _
    rw [Nat.zero_add, List.nil_append] at o4
    obtain ⟨a4, c4, rfl⟩ := shape_rowK o4
    have B4 := hide (show Below wd.heap.size wd w4 from BZ.out.grown g4 BZ.out.size (fun r e => by cases e; exact Nat.le_refl _))
    have D4 := hide (HSd.out.belowK B4.out hbd2)
    have S4 := hide ((D4.out.box.cell 1).trans (show _ = some (.int .i64 (a : Int)) from rfl))
    have O4 := hide (show w4.ownsRow W.heap.size 5 1 (.slice a4 512 c4) (((mkW s.F s.C).drop (a * 512)).take 512).length ((((mkW s.F s.C).drop (a * 512)).take 512).map (Value.int .u8)) from by rw [← HLO.out.1, ← HP.out.1, HP.out.2]; exact own_mono o4 HSd.out.low.size)
    clear o4 g4 hsl hcP
    refine hK.out _ _ (fun _ => S4.out) ?_
    clear hK K
    try simp only [Act.put, List.getElem_toArray, List.getElem_cons_zero, List.getElem_cons_succ, List.setIfInBounds_toArray, List.set_cons_zero, List.set_cons_succ]
    refine wpAnyL_take (i := 12) (oi := _) (v := .agg #[.int .i64 0, .slice a4 512 c4]) rfl (by kernel_rfl) (by kernel_rfl) (by kernel_rfl) (by kernel_rfl) (fun _ _ _ h => h) (Or.inl ⟨by rfl, fun w' hw' => by go_simp⟩) S4.out ?_
    try simp only [Act.put, List.getElem_toArray, List.getElem_cons_zero, List.getElem_cons_succ, List.setIfInBounds_toArray, List.set_cons_zero, List.set_cons_succ]
    refine wpAnyL_one (i := 13) (by kernel_rfl) rfl (fun K hK => ?_)
    rw [if_pos (by rfl)]
    refine wp_store_row 55 _ _ rfl (W.heap.size + 1) #[.int .i64 0, .slice a4 512 c4] rfl rfl 55 _ D4.out.ans infoA2 rfl (oneA _ _ rfl rfl) ?_
    refine hK.out _ _ (fun h => absurd rfl h) ?_
    clear hK K
    try simp only [Act.put, List.getElem_toArray, List.getElem_cons_zero, List.getElem_cons_succ, List.setIfInBounds_toArray, List.set_cons_zero, List.set_cons_succ]
    refine wpAnyL_done (by kernel_rfl) (NoPanic.normal ?_) _
    go_wp2
    refine bodyPost_ret (v := .agg #[.int .i64 (0), .slice a4 512 c4]) ?_ rfl (doEnd D4.out hbW (0) (.slice a4 512 c4) (((mkW s.F s.C).drop (a * 512)).take 512) (O4.out))
    exact results_cell_row rfl _ _ (W.heap.size + 1) 55 #[.int .i64 (0), .slice a4 512 c4] (0, 0) _ rfl (D4.out.ans.row _) Try.underlying55 rfl infoA2
  · intro K hK
    go_simp
    refine (seenM_any HSd.out.dev).mono ?_
    rintro e wZ ⟨v1, rfl, o1, l1⟩
    have hml : (mkW s.F s.C).length = s.F.length := mkW_len _ _ HSd.out.dev.ok
    obtain ⟨a1, e1, rfl⟩ := shape_rowK o1
    obtain ⟨sa, sc, hsr, hsl⟩ := slice_pieceK (show Rd .u8 wZ (.slice a1 s.F.length e1) (mkW s.F s.C) by have := Rd.own o1; exact this) lo hi2 (by have := HLO.out; omega) (by rw [hml, ← HFL.out]; exact HLO.out.2.2)
    rw [show hi2 - lo = 512 by have := HLO.out; omega] at hsr hsl
    rw [← HFL.out] at hsl
    obtain ⟨P, hP⟩ : ∃ P : List Int, P = ((mkW s.F s.C).drop lo).take 512 := ⟨_, rfl⟩
    rw [← hP] at hsr
    have hPl : P.length = 512 := by rw [hP, List.length_take, List.length_drop, hml]; have := HLO.out; have := HFL.out; omega
    have HP := hide (And.intro hP hPl)
    have RP := hide (show 0 < 512 → ∃ bd off, sa = some ⟨bd, off, none⟩ ∧ bd < wZ.heap.size ∧ ∀ (j : Nat) (u : Value), (P.map (Value.int .u8))[j]? = some u → wZ.cell? ⟨bd, off + j, none⟩ = some u by
      have h1 : Rd .u8 wZ (.slice sa P.length sc) P := by rw [hPl]; exact hsr
      have h2 := h1.srcM
      rw [hPl] at h2
      exact h2)
    clear hP hPl hsr hml o1
    have BZ := hide l1
    have DZ := hide (HSd.out.belowK BZ.out hbd2)
    have SZ := hide ((DZ.out.box.cell 1).trans (show _ = some (.int .i64 (a : Int)) from rfl))
    clear l1
    rw [← HFL.out]
    refine hK.out _ _ (fun _ => SZ.out) ?_
    clear hK K
    try simp only [Act.put, List.getElem_toArray, List.getElem_cons_zero, List.getElem_cons_succ, List.setIfInBounds_toArray, List.set_cons_zero, List.set_cons_succ]
    refine wpAnyL_take (i := 10) (oi := _) (v := .slice sa 512 sc) rfl (by kernel_rfl) (by kernel_rfl) (by kernel_rfl) (by kernel_rfl) (fun _ _ _ h => h) (Or.inl ⟨by rfl, fun w' hw' => by go_simp⟩) SZ.out ?_
    try simp only [Act.put, List.getElem_toArray, List.getElem_cons_zero, List.getElem_cons_succ, List.setIfInBounds_toArray, List.set_cons_zero, List.set_cons_succ]
    refine wpAnyL_one (i := 0) (by kernel_rfl) rfl (fun K hK => ?_)
    go_simp
    have BA := hide (show Below wd.heap.size wd (wZ.alloc (.cells #[] 5)) from BZ.out.alloc BZ.out.size _)
    have DA := hide (HSd.out.belowK BA.out hbd2)
    have OE := hide (own_mono (own_emptyM wZ 5 1) BZ.out.size)
    have bZZ : Below wZ.heap.size wZ (wZ.alloc (.cells #[] 5)) := (Below.refl _ _).alloc (Nat.le_refl _) _
    have BX := hide bZZ
    clear bZZ
    refine hK.out _ _ (fun _ => (DA.out.box.cell 1).trans (show _ = some (Value.int .i64 (a : Int)) from rfl)) ?_
    clear hK K
    try simp only [Act.put, List.getElem_toArray, List.getElem_cons_zero, List.getElem_cons_succ, List.setIfInBounds_toArray, List.set_cons_zero, List.set_cons_succ]
    refine wpAnyL_one (i := 11) (by kernel_rfl) rfl (fun K hK => ?_)
    rw [if_pos (by rfl)]
    obtain ⟨bP, oP, rfl, hbP, hcP⟩ := RP.out (by omega)
    refine wp_append_own _ (.tmp 52) (.tmp 62) 22 rfl wd.heap.size 5 i1 (.int .u8 0) 1 1 Try.underlying22 hi1 hy0 hy1 hy2 rfl (by decide) (.slice (some ⟨wZ.heap.size, 0, none⟩) 0 0) 0 [] rfl OE.out ⟨bP, oP, none⟩ 512 sc (P.map (Value.int .u8)) rfl (by rw [List.length_map, HP.out.2]) (fun j u hj => by rw [Addr.add_mid]; exact (BX.out.cell (p := ⟨bP, oP + j, none⟩) hbP).trans (hcP j u hj)) (ints_oneCell _ _) (by unfold maxLen; omega) (by omega) (BA.out.size) ?_
    intro v4 w4 o4 g4 _
    rw [Nat.zero_add, List.nil_append] at o4
    obtain ⟨a4, c4, rfl⟩ := shape_rowK o4
    have B4 := hide (show Below wd.heap.size wd w4 from BA.out.grown g4 BA.out.size (fun r e => by cases e; exact BZ.out.size))
    have D4 := hide (HSd.out.belowK B4.out hbd2)
    have S4 := hide ((D4.out.box.cell 1).trans (show _ = some (.int .i64 (a : Int)) from rfl))
    have O4 := hide (show w4.ownsRow W.heap.size 5 1 (.slice a4 512 c4) (((mkW s.F s.C).drop (a * 512)).take 512).length ((((mkW s.F s.C).drop (a * 512)).take 512).map (Value.int .u8)) from by rw [← HLO.out.1, ← HP.out.1, HP.out.2]; exact own_mono o4 HSd.out.low.size)
    clear o4 g4 hsl hcP
    refine hK.out _ _ (fun _ => S4.out) ?_
    clear hK K
    try simp only [Act.put, List.getElem_toArray, List.getElem_cons_zero, List.getElem_cons_succ, List.setIfInBounds_toArray, List.set_cons_zero, List.set_cons_succ]
    refine wpAnyL_take (i := 12) (oi := _) (v := .agg #[.int .i64 0, .slice a4 512 c4]) rfl (by kernel_rfl) (by kernel_rfl) (by kernel_rfl) (by kernel_rfl) (fun _ _ _ h => h) (Or.inl ⟨by rfl, fun w' hw' => by go_simp⟩) S4.out ?_
    try simp only [Act.put, List.getElem_toArray, List.getElem_cons_zero, List.getElem_cons_succ, List.setIfInBounds_toArray, List.set_cons_zero, List.set_cons_succ]
    refine wpAnyL_one (i := 13) (by kernel_rfl) rfl (fun K hK => ?_)
    rw [if_pos (by rfl)]
    refine wp_store_row 55 _ _ rfl (W.heap.size + 1) #[.int .i64 0, .slice a4 512 c4] rfl rfl 55 _ D4.out.ans infoA2 rfl (oneA _ _ rfl rfl) ?_
    refine hK.out _ _ (fun h => absurd rfl h) ?_
    clear hK K
    try simp only [Act.put, List.getElem_toArray, List.getElem_cons_zero, List.getElem_cons_succ, List.setIfInBounds_toArray, List.set_cons_zero, List.set_cons_succ]
    refine wpAnyL_done (by kernel_rfl) (NoPanic.normal ?_) _
    go_wp2
    refine bodyPost_ret (v := .agg #[.int .i64 (0), .slice a4 512 c4]) ?_ rfl (doEnd D4.out hbW (0) (.slice a4 512 c4) (((mkW s.F s.C).drop (a * 512)).take 512) (O4.out))
    exact results_cell_row rfl _ _ (W.heap.size + 1) 55 #[.int .i64 (0), .slice a4 512 c4] (0, 0) _ rfl (D4.out.ans.row _) Try.underlying55 rfl infoA2
end Go.Proofs.Ythghibopnnjboaa
