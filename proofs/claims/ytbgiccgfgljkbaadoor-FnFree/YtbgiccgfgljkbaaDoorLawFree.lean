/- The law on free blocks and planes, walked. -/
import Derived.Test.YtbgiccgfgljkbaaDoorFreeD
import Derived.Test.YtbgiccgfgljkbaaDoorFreeE
import Derived.Test.YtbgiccgfgljkbaaDoorLawMapP
import Derived.Test.YtbgiccgfgljkbaaDoorDrawB
import Derived.Test.YtbgiccgfgljkbaaDoorMapC
import Derived.Deep.RegionHeld3
namespace Go.Proofs.YtbgiccgfgljkbaaDoor
set_option linter.unusedVariables false
set_option linter.unusedSimpArgs false
open Go.RowKit

/-- A row of integers at hand: where it lies, and its cells as they are appended. -/
theorem row_at {w : World} {base n : Nat} {v : Value} {L : List Int} (h : w.ownsRow base 3 1 v n (L.map (Value.int .i64))) (hn : 0 < n) : ∃ g cap, v = .slice (some ⟨g, 0, none⟩) n cap ∧ n ≤ cap ∧ cap ≤ maxLen ∧ base ≤ g ∧ g < w.heap.size := by
  have hh := h
  rcases h.2 with ⟨_, h0⟩ | ⟨g, cap, cur, rfl, hb, hg, h3, h4, _⟩
  · omega
  · exact ⟨g, cap, rfl, h3, h4, hb, (hh.lt g rfl).2⟩
theorem row_news {w w' : World} {base n g cap : Nat} {L : List Int} (h : w.ownsRow base 3 1 (.slice (some ⟨g, 0, none⟩) n cap) n (L.map (Value.int .i64))) (hb : Below w.heap.size w w') : ∀ j u, (L.map (Value.int .i64))[j]? = some u → w'.cell? ((⟨g, 0, none⟩ : Addr).add j) = some u := by
  intro j u hu
  have hl := h.1
  have hj : j < L.length := by
    rcases Nat.lt_or_ge j L.length with h1 | h1
    · exact h1
    · rw [List.getElem?_eq_none (by simp; omega)] at hu; cases hu
  simp at hl
  rw [add_zero_at, hb.cell (p := ⟨g, j, none⟩) (h.lt g rfl).2, h.cellAt j (by omega)]
  exact hu
theorem ints_one (L : List Int) : ∀ u ∈ L.map (Value.int .i64), u.oneCell' = true := by
  intro u hu
  rw [List.mem_map] at hu
  obtain ⟨z, _, rfl⟩ := hu
  rfl

/-- What stands while the law goes on: the source, what was there, the drawn words, their counts. -/
structure St (w : World) (v0 : Value) (zn base n : Nat) (v3 : Value) (ws : List Int) (C : Nat) (R : List Int) (W : World) : Prop where
  src : Src W w.heap.size v0 zn
  old : Below w.heap.size w W
  row : W.ownsRow base 3 1 v3 n (ws.map (Value.int .i64))
  cnt : Blk W C (cellsI R) 25
theorem St.below {w : World} {v0 : Value} {zn base n : Nat} {v3 : Value} {ws : List Int} {C : Nat} {R : List Int} {W W' : World} (h : St w v0 zn base n v3 ws C R W) (hb : Below W.heap.size W W') : St w v0 zn base n v3 ws C R W' :=
  ⟨h.src.below hb h.src.lt, h.old.trans (hb.mono h.old.size), own_below h.row hb, h.cnt.below hb h.cnt.lt⟩
theorem St.drew {w : World} {v0 : Value} {zn base n : Nat} {v3 : Value} {ws : List Int} {C : Nat} {R : List Int} {W : World} (h : St w v0 zn base n v3 ws C R W) : St w v0 zn base n v3 ws C R W.drew := h.below ((Below.refl _ _).drew)
/-- A copy by append to an empty slice: it lies in new memory. -/
theorem copy_below {W W' : World} {t : TypeId} {x : Value} {k : Nat} (hx : x = .slice (some ⟨W.heap.size, 0, none⟩) 0 k) (hg : (W.alloc (.cells #[] t)).grownBy W' x.ownBlock) : Below W.heap.size W W' := by
  subst hx
  exact ((Below.refl _ _).alloc (Nat.le_refl _) _).grown hg (by simp) (fun k e => by simp [Value.ownBlock] at e; omega)
/-- The counts' cells. -/
theorem cnt_cell {W W' : World} {C k : Nat} {R : List Int} {t : TypeId} (h : Blk W C (cellsI R) t) (hb : Below W.heap.size W W') (hk : k < R.length) : W'.cell? ⟨C, k, none⟩ = some (.int .i64 (R.getD k 0)) :=
  (hb.cell (p := ⟨C, k, none⟩) h.lt).trans ((h.cell k).trans (cellsI_get R k hk))

theorem bs_yes (ws : List Int) (p k : Nat) (h2 : 2 ≤ k) (h : bitN (natW ws k) p = 1) : bsTo ws p (k + 1) = bsTo ws p k ++ [(k : Int)] := by
  show bsTo ws p k ++ (if 2 ≤ k ∧ bitN (natW ws k) p = 1 then [(k : Int)] else []) = _
  rw [if_pos ⟨h2, h⟩]
theorem bs_no (ws : List Int) (p k : Nat) (h : ¬ bitN (natW ws k) p = 1) : bsTo ws p (k + 1) = bsTo ws p k := by
  show bsTo ws p k ++ (if 2 ≤ k ∧ bitN (natW ws k) p = 1 then [(k : Int)] else []) = _
  rw [if_neg (fun e => h e.2), List.append_nil]
theorem bs_two (ws : List Int) (p : Nat) : bsTo ws p 2 = [] := by
  show ([] ++ (if 2 ≤ 0 ∧ bitN (natW ws 0) p = 1 then [((0 : Nat) : Int)] else [])) ++ (if 2 ≤ 1 ∧ bitN (natW ws 1) p = 1 then [((1 : Nat) : Int)] else []) = []
  rw [if_neg (by omega), if_neg (by omega)]; rfl
theorem bit_shr (y p : Nat) : ((y : Int) / 2 ^ p).tmod 2 = ((bitN y p : Nat) : Int) := by
  have e : (y : Int) / 2 ^ p = ((y / 2 ^ p : Nat) : Int) := by simp
  rw [e, Int.tmod_eq_emod_of_nonneg (Int.natCast_nonneg _)]; unfold bitN; generalize y / 2 ^ p = q; omega
theorem rowP_get0 (ws : List Int) (k p : Nat) (h : p < 32) : (rowP ws k 0).getD p 0 = (plN ws p k : Int) := by
  simp [rowP, List.getD, h]
theorem nil_rd (w : World) : Rd .i64 w (.slice none 0 0) [] := ⟨none, 0, rfl, by simp, fun h => absurd rfl h, by simp, by simp⟩
theorem row_cell {w : World} {base n : Nat} {g cap : Nat} {L : List Int} (h : w.ownsRow base 3 1 (.slice (some ⟨g, 0, none⟩) n cap) n (L.map (Value.int .i64))) (k : Nat) (hk : k < n) : w.cell? ⟨g, k, none⟩ = some (.int .i64 (L.getD k 0)) := by
  have hl := h.1
  simp at hl
  rw [h.cellAt k (by omega), List.getElem?_map, List.getD_eq_getElem?_getD, List.getElem?_eq_getElem (by omega)]; rfl

set_option maxRecDepth 100000 in
set_option maxHeartbeats 8000000 in
theorem lawFree (v0 : Value) (zs : List Int) (w : World) (h : Rd .u8 w v0 zs) (hbd : ∀ z ∈ zs, 0 ≤ z ∧ z < 256) (hg : ErrT w) :
    Calls Tryd.prog 5 #[v0] w fun e w' => e = .returned (.bool true) ∧ Below w.heap.size w w' := by
  have hm := h.len
  unfold maxLen at hm
  have hsh : ∃ a cap, v0 = .slice a zs.length cap := by obtain ⟨a, cap, h1, _⟩ := h; exact ⟨a, cap, h1⟩
  have hne : 0 < zs.length → ∀ c, v0.ownBlock = some c → c ≠ w.heap.size := by
    intro hp c hc
    obtain ⟨b, off, cap, rfl, hb, _⟩ := h.partsC hp
    simp [Value.ownBlock] at hc
    omega
  obtain ⟨a0, cap0, rfl⟩ := hsh
  by_cases hbig : (1048576 : Int) < (zs.length : Int)
  · go_enter Tryd.func5, Tryd.ntmps5
    go_wp2
    go_ret
    exact ⟨rfl, Below.refl _ _⟩
  · have hsm : zs.length ≤ 1048576 := by omega
    have H := hide (And.intro h (And.intro hbd hg))
    obtain ⟨i0, hi, hz0, hz1, hzb⟩ := info_parts infoI64
    have HNe := hide hne
    clear hbig hm h hbd hg hne
    go_enter Tryd.func5, Tryd.ntmps5
    go_wp2_with (go_at_call 16; fail)
    refine (draw_any _ zs _ H.out.1 hsm).mono ?_
    rintro e w1 ⟨rfl, hs1, hb1, hz1s⟩
    have K1 := hide (And.intro hs1 (And.intro hb1 (show w.heap.size + 1 ≤ w1.heap.size from by omega)))
    clear hs1 hb1 hz1s
    go_wp2_with (go_at_call 18; fail)
    refine (N_any w.heap.size 150 _ zs _ K1.out.1 (H.out.1.below K1.out.2.1) H.out.2.1 hsm (by omega) (by omega) HNe.out).mono ?_
    rintro e w2 ⟨r2, rfl, hr2, hs2, hd2⟩
    have K2 := hide (And.intro hs2 (And.intro (hd2.under K1.out.2.1 (Nat.le_refl _)) (show w.heap.size + 1 ≤ w2.heap.size from by rw [hd2.2]; exact K1.out.2.2)))
    clear hs2 hd2 K1
    obtain ⟨n, hn⟩ : ∃ n : Nat, (64 : Int) + (r2 : Int) = (n : Int) ∧ 64 ≤ n ∧ n ≤ 213 := ⟨64 + r2, by omega, by omega, by omega⟩
    obtain ⟨hneq, hn1, hn2⟩ := hn
    go_wp2_with (go_at_call 17; fail)
    clear hneq hr2
    refine (drawWords_any w.heap.size n _ zs w _ K2.out.1 H.out.1 K2.out.2.1 (Nat.le_refl _) H.out.2.1 hsm hn1 (by omega) HNe.out).mono ?_
    rintro e w3 ⟨v3, ws, rfl, hwl, hrt, ho3, hs3, hb3, hz3⟩
    obtain ⟨g3, cap3, rfl, hc3, hc3m, hg3, hg3l⟩ := row_at ho3 (by omega)
    have K3 := hide (And.intro hs3 (And.intro hb3 (And.intro ho3 (show w.heap.size + 1 ≤ w2.heap.size from K2.out.2.2))))
    have HWS := hide (And.intro hwl hrt)
    unfold maxLen at hc3m
    clear hs3 hb3 ho3 K2 hwl hrt
    have hnm : (n : Int) - 2 = ((n - 2 : Nat) : Int) := by omega
    go_wp2_with (go_at_call 18; fail)
    refine (N_any w.heap.size (n - 2) _ zs _ K3.out.1 (H.out.1.below K3.out.2.1) H.out.2.1 hsm (by omega) (by omega) HNe.out).mono ?_
    rintro e w4 ⟨r4, rfl, hr4, hs4, hd4⟩
    have K4 := hide (show Src w4 w.heap.size (.slice a0 zs.length cap0) zs.length ∧ Below w.heap.size w w4 ∧ w4.ownsRow w2.heap.size 3 1 (.slice (some ⟨g3, 0, none⟩) n cap3) n (ws.map (Value.int .i64)) from ⟨hs4, hd4.under K3.out.2.1 (Nat.le_refl _), hd4.own K3.out.2.2.1 (by have := K3.out.2.2.2; omega)⟩)
    have hz4 : w3.heap.size = w4.heap.size := hd4.2.symm
    have hz2 : w.heap.size + 1 ≤ w2.heap.size := K3.out.2.2.2
    clear hs4 hd4 K3 hnm
    rw [hz4] at hg3l hz3
    clear hz4
    obtain ⟨c, hceq, hc2, hcn⟩ : ∃ c : Nat, (2 : Int) + (r4 : Int) = (c : Int) ∧ 2 ≤ c ∧ c < n := ⟨2 + r4, by omega, by omega, by omega⟩
    have hs4 := K4.out.2.1.size
    go_wp2_with (first
      | (at_builtin; go_loud (refine wpList_append_own _ rfl (.tmp 46) (.tmp 47) 22 rfl w4.heap.size 3 i0 (.int .i64 0) 1 8 Tryd.underlying22 hi hz0 hz1 hzb rfl (by decide) _ 0 [] rfl (empty_own w4 _) ⟨g3, 0, none⟩ n cap3 (ws.map (Value.int .i64)) rfl (by rw [List.length_map, HWS.out.1, Nat.mul_one]) (row_news K4.out.2.2 ((Below.refl _ _).alloc (Nat.le_refl _) _)) (ints_one ws) (by unfold maxLen; omega) (by omega) (by simp) ?_); intro v5 w5 hown5 hgr5 _)
      | (go_at_call 9; fail))
    have O5 := hide (And.intro hown5 (copy_below rfl hgr5))
    have hR := row_at (L := ws) (by simpa using hown5) (by omega)
    obtain ⟨g5, cap5, rfl, _⟩ := hR
    clear hown5 hgr5 hceq
    have HC := hide (show codeM ws = 0 ∧ cntM ws = cntI ws.length (freeN ws ws.length) (usedN ws ws.length) (rowP ws ws.length 0) ∧ (cntM ws).length = 35 from ⟨by simp [codeM, HWS.out.2], by simp [cntM, HWS.out.2], cntM_len ws⟩)
    refine (implC_any _ ws _ (Rd.own (by simpa [HWS.out.1] using O5.out.1)) (H.out.2.2.below (K4.out.2.1.trans (O5.out.2.mono hs4)))).mono ?_
    rintro e w6 ⟨rfl, hb6⟩
    rw [HC.out.1]
    obtain ⟨R, hR⟩ : ∃ R, R = cntM ws := ⟨_, rfl⟩
    rw [← hR] at HC ⊢
    have HRe := hide hR
    clear hR
    have HZ := hide (show (cellsI R).size = 35 from by rw [cellsI_size]; exact HC.out.2.2)
    have B46 := hide (show Below w4.heap.size w4 w6 from O5.out.2.trans (hb6.mono O5.out.2.size))
    obtain ⟨W6, hW6', J6⟩ := first35 w6
    have HW6 := hide hW6'
    have ST0 := hide (show St w (.slice a0 zs.length cap0) zs.length w2.heap.size n (.slice (some ⟨g3, 0, none⟩) n cap3) ws w6.heap.size R (W6.setRow w6.heap.size (cellsI R)) from by
      have hb : Below w6.heap.size w6 (W6.setRow w6.heap.size (cellsI R)) := below_setRow J6.out.2.1 (Nat.le_refl _) _
      have hb4 : Below w4.heap.size w4 (W6.setRow w6.heap.size (cellsI R)) := B46.out.trans (hb.mono B46.out.size)
      exact ⟨K4.out.1.below hb4 (by omega), K4.out.2.1.trans (hb4.mono hs4), own_below K4.out.2.2 hb4, J6.out.1.row _⟩)
    clear hW6' hb6
    go_wp2_with (refine wpList_store_row rfl 25 _ _ rfl w6.heap.size (cellsI R) rfl rfl 25 _ (Blk.new w6 (cellsI (List.replicate 35 0)) 25) (by rw [HZ.out]; exact info35) (by rw [HZ.out]; rfl) (cellsI_one _) ?_)
    rw [← HW6.out]
    generalize (W6.setRow w6.heap.size (cellsI R)) = W7 at ST0 ⊢
    have hs46 := B46.out.size
    clear HW6 J6 O5 K4 B46 W6
    obtain ⟨F, hF⟩ : ∃ F : Nat, F = freeN ws ws.length := ⟨_, rfl⟩
    have hFl : F ≤ 2048 := by rw [hF]; have := freeN_le ws ws.length; rw [HWS.out.1] at this ⊢; omega
    have HCF := hide (show ∀ w', Below W7.heap.size W7 w' → w'.cell? ⟨w6.heap.size, 1, none⟩ = some (.int .i64 (F : Int)) from fun w' hw' => by
      rw [cnt_cell ST0.out.cnt hw' (by rw [HC.out.2.2]; omega), HC.out.2.1, hF]; rfl)
    have HFr := hide (show (freesM ws c).length = F ∧ fbB ws c F = true ∧ fbB ws c ((F : Int) + 1) = true from by
      refine ⟨by rw [hF]; exact frees_all ws c HWS.out.2 hc2 (by rw [HWS.out.1]; exact hcn), ?_, ?_⟩
      · simp [fbB, insB, HWS.out.2, HWS.out.1]; omega
      · simp [fbB, insB, HWS.out.2, HWS.out.1]; omega)
    have HA1 := hide (show freeL ws c F = freesM ws c ∧ freeK ws c F = lastOf ws.length c (freesM ws c) ∧ codeF ws c F = 0 from by
      have h1 : okF ws c F = true := by simp [okF, HFr.out.2.1, HFr.out.1]
      have h2 : freeL ws c F = freesM ws c := by rw [freeL, if_pos h1]; exact List.take_of_length_le (by simp [HFr.out.1])
      exact ⟨h2, by rw [freeK, if_pos h1, h2], by simp [codeF, HFr.out.2.1, h1]⟩)
    have HA2 := hide (show freeL ws c ((F : Int) + 1) = [] ∧ freeK ws c ((F : Int) + 1) = 0 ∧ codeF ws c ((F : Int) + 1) = 9 from by
      have h1 : okF ws c ((F : Int) + 1) = false := by simp [okF, HFr.out.2.2, HFr.out.1]
      exact ⟨by simp [freeL, h1], by simp [freeK, h1], by simp [codeF, HFr.out.2.2, h1]⟩)
    have HFe := hide hF
    clear hF
    refine wp_region_noPanic ?_
    refine wp_region_held_drew (S := fun w' => Below W7.heap.size W7 w') (by kernel_rfl) ((Below.refl _ _).drew) (fun hH => ?_)
    refine wpAnyH_take (i := 1) (oi := _) (v := .slice (some ⟨g3, 0, none⟩) n cap3) rfl (by kernel_rfl) (by kernel_rfl) (by kernel_rfl) (fun _ _ _ h => h) (Or.inl ⟨by rfl, fun w' hw' => by rfl⟩) hH ?_
    try simp only [Act.put, List.setIfInBounds_toArray, List.set_cons_zero, List.set_cons_succ]
    refine wpAnyH_take (i := 3) (oi := _) (v := .int .i64 (c : Int)) rfl (by kernel_rfl) (by kernel_rfl) (by kernel_rfl) (fun _ _ _ h => h) (Or.inl ⟨by rfl, fun w' hw' => by rfl⟩) hH ?_
    try simp only [Act.put, List.setIfInBounds_toArray, List.set_cons_zero, List.set_cons_succ]
    refine wpAnyH_take (i := 4) (oi := _) (v := .pointer (some ⟨w6.heap.size, 1, none⟩)) rfl (by kernel_rfl) (by kernel_rfl) (by kernel_rfl) (fun _ _ _ h => h) (Or.inl ⟨by rfl, fun w' hw' => by go_simp⟩) hH ?_
    try simp only [Act.put, List.setIfInBounds_toArray, List.set_cons_zero, List.set_cons_succ]
    refine wpAnyH_take (i := 5) (oi := _) (v := .int .i64 (F : Int)) rfl (by kernel_rfl) (by kernel_rfl) (by kernel_rfl) (fun _ _ _ h => h) (Or.inl ⟨by rfl, fun w' hw' => by have hc := HCF.out w' hw'; go_simp⟩) hH ?_
    try simp only [Act.put, List.setIfInBounds_toArray, List.set_cons_zero, List.set_cons_succ]
    refine wpAnyH_ready (rs := [0]) (by kernel_rfl) (by simp) ?_
    refine AllReadyH.cons (o := _) rfl (fun K hK => ?_) AllReadyH.nil
    go_simp
    refine hK.out _ _ ((Below.refl W7.heap.size W7).drew.alloc (Nat.le_refl _) _) (fun hH2 => ?_)
    clear hK K hH
    try simp only [Act.put, List.setIfInBounds_toArray, List.set_cons_zero, List.set_cons_succ]
    refine wpAnyH_ready (rs := [2]) (by kernel_rfl) (by simp) ?_
    refine AllReadyH.cons (o := _) rfl (fun K hK => ?_) AllReadyH.nil
    rw [if_pos (by rfl)]
    refine wp_append_own _ (.tmp 53) (.tmp 54) 22 rfl W7.heap.size 3 i0 (.int .i64 0) 1 8 Tryd.underlying22 hi hz0 hz1 hzb rfl (by decide) _ 0 [] rfl (empty_own W7.drew _) ⟨g3, 0, none⟩ n cap3 (ws.map (Value.int .i64)) rfl (by rw [List.length_map, HWS.out.1, Nat.mul_one]) (row_news ST0.out.row hH2) (ints_one ws) (by unfold maxLen; omega) (by omega) (by simp) ?_
    intro v8 w8 hown8 hgr8 _
    have hb8 : Below W7.heap.size W7 w8 := ((Below.refl _ _).drew).trans (copy_below (W := W7.drew) rfl hgr8)
    obtain ⟨g8, cap8, rfl, _⟩ := row_at (L := ws) (by simpa using hown8) (by omega)
    have O8 := hide (And.intro hown8 hb8)
    refine hK.out _ _ hb8 (fun hH3 => ?_)
    clear hK K hown8 hgr8 hb8 hH2
    try simp only [Act.put, List.setIfInBounds_toArray, List.set_cons_zero, List.set_cons_succ]
    refine wpAnyH_ready (rs := [6]) (by kernel_rfl) (by simp) ?_
    refine AllReadyH.cons (o := _) rfl (fun K hK => ?_) AllReadyH.nil
    go_simp
    refine (implF_any _ ws c F _ (Rd.own (by simpa [HWS.out.1] using O8.out.1)) (H.out.2.2.below (ST0.out.old.trans (O8.out.2.mono ST0.out.old.size)))).mono ?_
    rintro e w9 ⟨vF, rfl, hoF, hb9⟩
    rw [HA1.out.1] at hoF
    rw [HA1.out.2.1, HA1.out.2.2]
    have hb79 : Below W7.heap.size W7 w9 := O8.out.2.trans (hb9.mono O8.out.2.size)
    have ST1 := hide (show St w (.slice a0 zs.length cap0) zs.length w2.heap.size n (.slice (some ⟨g3, 0, none⟩) n cap3) ws w6.heap.size R w9 from ST0.out.below hb79)
    have RF := hide (show w9.ownsRow w8.heap.size 3 1 vF (freesM ws c).length ((freesM ws c).map (Value.int .i64)) from hoF)
    obtain ⟨aF, capF, rfl⟩ := own_shape hoF
    obtain ⟨kx, hkx⟩ : ∃ kx, kx = lastOf ws.length c (freesM ws c) := ⟨_, rfl⟩
    rw [← hkx]
    have hkb := last_in ws c hc2 (by rw [HWS.out.1]; exact hcn) (by rw [HWS.out.1]; omega)
    rw [← hkx, HWS.out.1] at hkb
    rw [HFr.out.1] at RF ⊢
    refine hK.out _ _ hb79 (fun hH4 => ?_)
    clear hK K hb9 hb79 hoF hH3 hkx
    try simp only [Act.put, List.setIfInBounds_toArray, List.set_cons_zero, List.set_cons_succ]
    refine wpAnyH_take (i := 7) (oi := _) (v := .tuple #[.slice aF F capF, .int .i64 kx, .int .i64 0]) rfl (by kernel_rfl) (by kernel_rfl) (by kernel_rfl) (fun _ _ _ h => h) (Or.inl ⟨by rfl, fun w' hw' => by rfl⟩) hH4 ?_
    try simp only [Act.put, List.setIfInBounds_toArray, List.set_cons_zero, List.set_cons_succ]
    refine wpAnyH_take (i := 8) (oi := _) (v := .slice aF F capF) rfl (by kernel_rfl) (by kernel_rfl) (by kernel_rfl) (fun _ _ _ h => h) (Or.inl ⟨by rfl, fun w' hw' => by go_simp⟩) hH4 ?_
    try simp only [Act.put, List.setIfInBounds_toArray, List.set_cons_zero, List.set_cons_succ]
    refine wpAnyH_take (i := 9) (oi := _) (v := .int .i64 kx) rfl (by kernel_rfl) (by kernel_rfl) (by kernel_rfl) (fun _ _ _ h => h) (Or.inl ⟨by rfl, fun w' hw' => by go_simp⟩) hH4 ?_
    try simp only [Act.put, List.setIfInBounds_toArray, List.set_cons_zero, List.set_cons_succ]
    refine wpAnyH_take (i := 10) (oi := _) (v := .int .i64 0) rfl (by kernel_rfl) (by kernel_rfl) (by kernel_rfl) (fun _ _ _ h => h) (Or.inl ⟨by rfl, fun w' hw' => by go_simp⟩) hH4 ?_
    try simp only [Act.put, List.setIfInBounds_toArray, List.set_cons_zero, List.set_cons_succ]
    refine wpAnyH_ready (rs := [11]) (by kernel_rfl) (by simp) ?_
    refine AllReadyH.cons (o := _) rfl (fun K hK => ?_) AllReadyH.nil
    go_simp
    refine hK.out _ _ hH4 (fun hH4a => ?_)
    clear hK K hH4
    try simp only [Act.put, List.setIfInBounds_toArray, List.set_cons_zero, List.set_cons_succ]
    refine wpAnyH_ready (rs := [12]) (by kernel_rfl) (by simp) ?_
    refine AllReadyH.cons (o := _) rfl (fun K hK => ?_) AllReadyH.nil
    go_simp
    refine hK.out _ _ hH4a (fun hH4b => ?_)
    clear hK K hH4a
    try simp only [Act.put, List.setIfInBounds_toArray, List.set_cons_zero, List.set_cons_succ]
    refine wpAnyH_ready (rs := [13]) (by kernel_rfl) (by simp) ?_
    refine AllReadyH.cons (o := _) rfl (fun K hK => ?_) AllReadyH.nil
    go_simp
    refine hK.out _ _ hH4b (fun hH4c => ?_)
    clear hK K hH4b
    try simp only [Act.put, List.setIfInBounds_toArray, List.set_cons_zero, List.set_cons_succ]
    refine wpAnyH_done (by kernel_rfl) (NoPanic.normal ?_) _
    clear hH4c
    have hlt9 := ST1.out.cnt.lt
    have HCF1 := hide (show ∀ w', Below w9.heap.size w9 w' → w'.cell? ⟨w6.heap.size, 1, none⟩ = some (.int .i64 (F : Int)) from fun w' hw' => by
      rw [cnt_cell ST1.out.cnt hw' (by rw [HC.out.2.2]; omega), HC.out.2.1, HFe.out]; rfl)
    clear HCF ST0 O8 HA1
    go_wp2
    refine wp_region_noPanic ?_
    refine wp_region_held_drew (S := fun w' => Below w9.heap.size w9 w') (by kernel_rfl) ((Below.refl _ _).drew) (fun hH => ?_)
    refine wpAnyH_take (i := 1) (oi := _) (v := .slice (some ⟨g3, 0, none⟩) n cap3) rfl (by kernel_rfl) (by kernel_rfl) (by kernel_rfl) (fun _ _ _ h => h) (Or.inl ⟨by rfl, fun w' hw' => by rfl⟩) hH ?_
    try simp only [Act.put, List.setIfInBounds_toArray, List.set_cons_zero, List.set_cons_succ]
    refine wpAnyH_take (i := 3) (oi := _) (v := .int .i64 (c : Int)) rfl (by kernel_rfl) (by kernel_rfl) (by kernel_rfl) (fun _ _ _ h => h) (Or.inl ⟨by rfl, fun w' hw' => by rfl⟩) hH ?_
    try simp only [Act.put, List.setIfInBounds_toArray, List.set_cons_zero, List.set_cons_succ]
    refine wpAnyH_take (i := 4) (oi := _) (v := .pointer (some ⟨w6.heap.size, 1, none⟩)) rfl (by kernel_rfl) (by kernel_rfl) (by kernel_rfl) (fun _ _ _ h => h) (Or.inl ⟨by rfl, fun w' hw' => by go_simp⟩) hH ?_
    try simp only [Act.put, List.setIfInBounds_toArray, List.set_cons_zero, List.set_cons_succ]
    refine wpAnyH_take (i := 5) (oi := _) (v := .int .i64 (F : Int)) rfl (by kernel_rfl) (by kernel_rfl) (by kernel_rfl) (fun _ _ _ h => h) (Or.inl ⟨by rfl, fun w' hw' => by have hc := HCF1.out w' hw'; go_simp⟩) hH ?_
    try simp only [Act.put, List.setIfInBounds_toArray, List.set_cons_zero, List.set_cons_succ]
    refine wpAnyH_take (i := 6) (oi := _) (v := .int .i64 ((F : Int) + 1)) rfl (by kernel_rfl) (by kernel_rfl) (by kernel_rfl) (fun _ _ _ h => h) (Or.inl ⟨by rfl, fun w' hw' => by go_simp; exact wraps_i64 _ (by omega) (by omega)⟩) hH ?_
    try simp only [Act.put, List.setIfInBounds_toArray, List.set_cons_zero, List.set_cons_succ]
    refine wpAnyH_ready (rs := [0]) (by kernel_rfl) (by simp) ?_
    refine AllReadyH.cons (o := _) rfl (fun K hK => ?_) AllReadyH.nil
    go_simp
    refine hK.out _ _ ((Below.refl w9.heap.size w9).drew.alloc (Nat.le_refl _) _) (fun hH2 => ?_)
    clear hK K hH
    try simp only [Act.put, List.setIfInBounds_toArray, List.set_cons_zero, List.set_cons_succ]
    refine wpAnyH_ready (rs := [2]) (by kernel_rfl) (by simp) ?_
    refine AllReadyH.cons (o := _) rfl (fun K hK => ?_) AllReadyH.nil
    rw [if_pos (by rfl)]
    refine wp_append_own _ (.tmp 64) (.tmp 65) 22 rfl w9.heap.size 3 i0 (.int .i64 0) 1 8 Tryd.underlying22 hi hz0 hz1 hzb rfl (by decide) _ 0 [] rfl (empty_own w9.drew _) ⟨g3, 0, none⟩ n cap3 (ws.map (Value.int .i64)) rfl (by rw [List.length_map, HWS.out.1, Nat.mul_one]) (row_news ST1.out.row hH2) (ints_one ws) (by unfold maxLen; omega) (by omega) (by simp) ?_
    intro v10 w10 hown10 hgr10 _
    have hb10 : Below w9.heap.size w9 w10 := ((Below.refl _ _).drew).trans (copy_below (W := w9.drew) rfl hgr10)
    obtain ⟨g10, cap10, rfl, _⟩ := row_at (L := ws) (by simpa using hown10) (by omega)
    have O10 := hide (And.intro hown10 hb10)
    refine hK.out _ _ hb10 (fun hH3 => ?_)
    clear hK K hown10 hgr10 hb10 hH2
    try simp only [Act.put, List.setIfInBounds_toArray, List.set_cons_zero, List.set_cons_succ]
    refine wpAnyH_ready (rs := [7]) (by kernel_rfl) (by simp) ?_
    refine AllReadyH.cons (o := _) rfl (fun K hK => ?_) AllReadyH.nil
    go_simp
    refine (implF_any _ ws c ((F : Int) + 1) _ (Rd.own (by simpa [HWS.out.1] using O10.out.1)) (H.out.2.2.below (ST1.out.old.trans (O10.out.2.mono ST1.out.old.size)))).mono ?_
    rintro e w11 ⟨vG, rfl, hoG, hb11⟩
    rw [HA2.out.1] at hoG
    rw [HA2.out.2.1, HA2.out.2.2]
    have hb911 : Below w9.heap.size w9 w11 := O10.out.2.trans (hb11.mono O10.out.2.size)
    have ST2 := hide (show St w (.slice a0 zs.length cap0) zs.length w2.heap.size n (.slice (some ⟨g3, 0, none⟩) n cap3) ws w6.heap.size R w11 from ST1.out.below hb911)
    have RF2 := hide (own_below RF.out hb911)
    obtain ⟨aG, capG, rfl⟩ := own_shape hoG
    refine hK.out _ _ hb911 (fun hH4 => ?_)
    clear hK K hb11 hb911 hoG hH3
    try simp only [Act.put, List.setIfInBounds_toArray, List.set_cons_zero, List.set_cons_succ]
    refine wpAnyH_take (i := 8) (oi := _) (v := .tuple #[.slice aG 0 capG, .int .i64 0, .int .i64 9]) rfl (by kernel_rfl) (by kernel_rfl) (by kernel_rfl) (fun _ _ _ h => h) (Or.inl ⟨by rfl, fun w' hw' => by rfl⟩) hH4 ?_
    try simp only [Act.put, List.setIfInBounds_toArray, List.set_cons_zero, List.set_cons_succ]
    refine wpAnyH_take (i := 9) (oi := _) (v := .slice aG 0 capG) rfl (by kernel_rfl) (by kernel_rfl) (by kernel_rfl) (fun _ _ _ h => h) (Or.inl ⟨by rfl, fun w' hw' => by go_simp⟩) hH4 ?_
    try simp only [Act.put, List.setIfInBounds_toArray, List.set_cons_zero, List.set_cons_succ]
    refine wpAnyH_take (i := 10) (oi := _) (v := .int .i64 0) rfl (by kernel_rfl) (by kernel_rfl) (by kernel_rfl) (fun _ _ _ h => h) (Or.inl ⟨by rfl, fun w' hw' => by go_simp⟩) hH4 ?_
    try simp only [Act.put, List.setIfInBounds_toArray, List.set_cons_zero, List.set_cons_succ]
    refine wpAnyH_take (i := 11) (oi := _) (v := .int .i64 9) rfl (by kernel_rfl) (by kernel_rfl) (by kernel_rfl) (fun _ _ _ h => h) (Or.inl ⟨by rfl, fun w' hw' => by go_simp⟩) hH4 ?_
    try simp only [Act.put, List.setIfInBounds_toArray, List.set_cons_zero, List.set_cons_succ]
    refine wpAnyH_ready (rs := [12]) (by kernel_rfl) (by simp) ?_
    refine AllReadyH.cons (o := _) rfl (fun K hK => ?_) AllReadyH.nil
    go_simp
    refine hK.out _ _ hH4 (fun hH4a => ?_)
    clear hK K hH4
    try simp only [Act.put, List.setIfInBounds_toArray, List.set_cons_zero, List.set_cons_succ]
    refine wpAnyH_ready (rs := [13]) (by kernel_rfl) (by simp) ?_
    refine AllReadyH.cons (o := _) rfl (fun K hK => ?_) AllReadyH.nil
    go_simp
    refine hK.out _ _ hH4a (fun hH4b => ?_)
    clear hK K hH4a
    try simp only [Act.put, List.setIfInBounds_toArray, List.set_cons_zero, List.set_cons_succ]
    refine wpAnyH_ready (rs := [14]) (by kernel_rfl) (by simp) ?_
    refine AllReadyH.cons (o := _) rfl (fun K hK => ?_) AllReadyH.nil
    go_simp
    refine hK.out _ _ hH4b (fun hH4c => ?_)
    clear hK K hH4b
    try simp only [Act.put, List.setIfInBounds_toArray, List.set_cons_zero, List.set_cons_succ]
    refine wpAnyH_done (by kernel_rfl) (NoPanic.normal ?_) _
    clear hH4c
    clear ST1 O10 HA2 HCF1 RF
    have q1 := cnt_cell ST2.out.cnt (Below.refl _ _) (k := 1) (by rw [HC.out.2.2]; omega)
    have q2 := cnt_cell ST2.out.cnt (Below.refl _ _) (k := 2) (by rw [HC.out.2.2]; omega)
    rw [show R.getD 1 0 = (F : Int) from by rw [HC.out.2.1, HFe.out]; rfl] at q1
    obtain ⟨U, hU⟩ : ∃ U : Nat, U = usedN ws ws.length := ⟨_, rfl⟩
    rw [show R.getD 2 0 = (U : Int) from by rw [HC.out.2.1, hU]; rfl] at q2
    have hFU : F + U = n := by rw [hU, HFe.out, free_used, HWS.out.1]
    have hFU' : (F : Int) + (U : Int) = (n : Int) := by omega
    clear hU
    go_wp2
    clear q1 q2 hFU' hkb
    go_loopw [112] (fun i wr => ∃ k nq : Nat, k ≤ F ∧ i = .int .i64 k ∧ wr = w11.drewN nq) (fun i _ => F - (intOf i).toNat)
    case atStart => exact ⟨0, 0, by omega, rfl, rfl⟩
    case round =>
      obtain ⟨k, nq, hk, rfl, rfl⟩ := hrel
      by_cases hlt : k < F
      · obtain ⟨gF, capF', eF, _, _, _, _⟩ := row_at RF2.out (by omega)
        injection eF with eF1 eF2 eF3
        subst eF1 eF3
        have cFk := fun j (hj : j < F) => (RF2.out.cellAt j (by omega)).trans (show ((freesM ws c).map (Value.int .i64))[j]? = some (.int .i64 ((freesM ws c).getD j 0)) from by
          rw [List.getElem?_map, List.getD_eq_getElem?_getD, List.getElem?_eq_getElem (by rw [HFr.out.1]; exact hj)]; rfl)
        obtain ⟨b, hb1, hb2, hb3, hb4, hb5⟩ := frees_at ws c k hc2 (by rw [HWS.out.1]; exact hcn) (by rw [HFr.out.1]; exact hlt)
        rw [HWS.out.1] at hb3 hb5
        have cb := (cFk k hlt)
        rw [hb1] at cb
        have cwb := (ST2.out.row.cellAt b (by omega)).trans (show (ws.map (Value.int .i64))[b]? = some (.int .i64 0) from by
          rw [List.getElem?_map, List.getElem?_eq_getElem (by rw [HWS.out.1]; exact hb3)]
          rw [List.getD_eq_getElem?_getD, List.getElem?_eq_getElem (by rw [HWS.out.1]; exact hb3), Option.getD_some] at hb4
          rw [hb4]; rfl)
        by_cases hk0 : 0 < k
        · have ck := cFk (k - 1) (by omega)
          obtain ⟨b', hb1', hb2', hb3', _, _⟩ := frees_at ws c (k - 1) hc2 (by rw [HWS.out.1]; exact hcn) (by rw [HFr.out.1]; omega)
          rw [HWS.out.1] at hb3'
          have hp := hb5 hk0
          rw [hb1'] at hp ck
          have hp2 : ¬ ((b : Int) - (c : Int)) % (n : Int) ≤ ((b' : Int) - (c : Int)) % (n : Int) := by
            unfold posI at hp
            rw [Int.add_emod_right, Int.add_emod_right] at hp
            omega
          have hp3 : decide (((b : Int) - (c : Int)) % (n : Int) ≤ ((b' : Int) - (c : Int)) % (n : Int)) = false := decide_eq_false hp2
          have hk0' : (0 : Int) < (k : Int) := by omega
          have hk0d : decide ((0 : Int) < (k : Int)) = true := by simpa using hk0'
          clear cFk hb1 hb4 hb5 hb1' hp
          go_wp2
          go_quiet (fail)
          go_wp2
          go_roundw
          case rel => exact ⟨k + 1, _, by omega, by go_num, rfl⟩
          case measure => simp [intOf]; omega
        · have hk0d : decide ((0 : Int) < (k : Int)) = false := by simp; omega
          clear cFk hb1 hb4 hb5
          go_wp2
          go_quiet (fail)
          go_wp2
          go_roundw
          case rel => exact ⟨k + 1, _, by omega, by go_num, rfl⟩
          case measure => simp [intOf]; omega
      · have ek : k = F := by omega
        subst ek
        go_wp2_with (go_at_call 18; fail)
        have ST3 := hide (ST2.out.below (below_drewN (Below.refl _ _) nq))
        generalize w11.drewN nq = w12 at ST3 ⊢
        clear RF2 ST2 hlt
        refine (N_any w.heap.size 32 _ zs _ ST3.out.src (H.out.1.below ST3.out.old) H.out.2.1 hsm (by omega) (by omega) HNe.out).mono ?_
        rintro e w13 ⟨p, rfl, hp, hs13, hd13⟩
        have hw6 : w.heap.size + 1 ≤ w6.heap.size := by omega
        have ST4 := hide (show St w (.slice a0 zs.length cap0) zs.length w2.heap.size n (.slice (some ⟨g3, 0, none⟩) n cap3) ws w6.heap.size R w13 from
          ⟨hs13, hd13.under ST3.out.old (Nat.le_refl _), hd13.own ST3.out.row (by omega), (hd13.1.block w6.heap.size ST3.out.cnt.lt (by simp; omega)).trans ST3.out.cnt⟩)
        clear hs13 hd13 ST3
        have h0 := empty_own w13 3
        have hb0 : Below w13.heap.size w13 (w13.alloc (.cells #[] 3)) := (Below.refl _ _).alloc (Nat.le_refl _) _
        have K5 := hide (And.intro h0 hb0)
        clear h0 hb0
        go_wp2
        have hyl := fun b (hb : b < n) => right_word ws HWS.out.2 b (by rw [HWS.out.1]; exact hb)
        have HY := hide hyl
        have HBy := hide (bs_yes ws p)
        have HBn := hide (bs_no ws p)
        have HBl := hide (bs_len ws p)
        clear hyl
        go_loopw [18, 19] (fun o i wr => ∃ k : Nat, 2 ≤ k ∧ k ≤ n ∧ i = .int .i64 k ∧ wr.ownsRow w13.heap.size 3 1 o (bsTo ws p k).length ((bsTo ws p k).map (Value.int .i64)) ∧ Below w13.heap.size w13 wr ∧ ∃ g cap, o = .slice (some ⟨g, 0, none⟩) (bsTo ws p k).length cap) (fun _ i _ => n - (intOf i).toNat)
        case atStart => exact ⟨2, by omega, by omega, rfl, by rw [bs_two]; exact K5.out.1, K5.out.2, by rw [bs_two]; exact ⟨_, _, rfl⟩⟩
        case round =>
          obtain ⟨j, hj2, hjn, rfl, hown, hb, hsome⟩ := hrel
          have K6 := hide (And.intro hown (And.intro hb hsome))
          have hsb := hb.size
          have hbl := HBl.out j
          clear hown hb hsome K5
          by_cases hlt : j < n
          · obtain ⟨y, hy, hy2⟩ := HY.out j hlt
            have cw := (K6.out.2.1.cell (p := ⟨g3, j, none⟩) (ST4.out.row.lt g3 rfl).2).trans (row_cell ST4.out.row j hlt)
            rw [hy] at cw
            have hnw : natW ws j = y := by unfold natW; rw [hy]; rfl
            have HB := hide (bit_shr y p)
            have hbit := bitN_lt y p
            by_cases hq : bitN y p = 1
            · have hq' : (((y : Int) / 2 ^ p).tmod 2 == 1) = true := by rw [HB.out, hq]; rfl
              have HB1 := hide (HBy.out j hj2 (by rw [hnw]; exact hq))
              obtain ⟨fl, hfl⟩ : ∃ fl, fl = (bsTo ws p j).length := ⟨_, rfl⟩
              rw [← hfl] at K6 hbl
              have HL := hide hfl.symm
              clear hq hnw hy hbit hfl
              go_wp2_with (at_builtin; go_loud (refine wpList_append_own _ rfl (.tmp 164) (.tmp 166) 22 rfl w13.heap.size 3 i0 (.int .i64 0) 1 8 Tryd.underlying22 hi hz0 hz1 hzb rfl (by decide) _ _ _ rfl (K6.out.1.alloc _) ⟨wr.heap.size, 0, none⟩ 1 1 [.int .i64 (j : Int)] rfl rfl (cell_one_new _ _ _) (one64 _) (by unfold maxLen; omega) (by omega) (by simp; omega) ?_); intro v14 w14 hown1 hgr1 _)
              have HW := hide (show w14.ownsRow w13.heap.size 3 1 v14 (bsTo ws p (j + 1)).length ((bsTo ws p (j + 1)).map (Value.int .i64)) ∧ Below w13.heap.size w13 w14 ∧ ∃ g cap, v14 = .slice (some ⟨g, 0, none⟩) (bsTo ws p (j + 1)).length cap from by
                rw [HB1.out, List.map_append, List.length_append, HL.out]
                exact ⟨hown1, (K6.out.2.1.alloc hsb _).grown hgr1 (by simp; omega) (fun r h => (K6.out.1.lt r h).1), ownsRow_succ hown1⟩)
              clear hown1 hgr1
              go_wp2
              go_roundw
              case rel => exact ⟨j + 1, by omega, by omega, by go_num, HW.out.1, HW.out.2.1, HW.out.2.2⟩
              case measure => simp [intOf]; omega
            · have hq' : (((y : Int) / 2 ^ p).tmod 2 == 1) = false := by rw [HB.out, show bitN y p = 0 from by omega]; rfl
              have HB1 := hide (HBn.out j (by rw [hnw]; exact hq))
              clear hq hnw hy hbit
              go_wp2
              go_roundw
              case rel => exact ⟨j + 1, by omega, by omega, by go_num, by rw [HB1.out]; exact K6.out.1, K6.out.2.1, by rw [HB1.out]; exact K6.out.2.2⟩
              case measure => simp [intOf]; omega
          · have ej : j = n := by omega
            subst ej
            rename World => w15
            obtain ⟨gs, caps, hos⟩ := K6.out.2.2
            subst hos
            have ST5 := hide (ST4.out.below K6.out.2.1)
            have RS := hide K6.out.1
            have hm0 := (ST5.out.row.lt g3 rfl).2
            clear K6 ST4 HBy HBn HY hlt
            have HP1 := hide (bare_plane ws p HWS.out.2 hp)
            have HP2 := hide (back_plane ws p HWS.out.2 hp)
            rw [HWS.out.1] at HP2
            have hbare : (bare ws p).length = j := by rw [bare_len, HWS.out.1]
            have HBr := hide hbare
            clear hbare
            go_wp2_with (first
              | (at_builtin; go_loud (refine wpList_append_own _ rfl (.tmp 169) (.tmp 170) 22 rfl w15.heap.size 3 i0 (.int .i64 0) 1 8 Tryd.underlying22 hi hz0 hz1 hzb rfl (by decide) _ 0 [] rfl (empty_own w15 _) ⟨g3, 0, none⟩ j _ (ws.map (Value.int .i64)) rfl (by rw [List.length_map, HWS.out.1, Nat.mul_one]) (row_news ST5.out.row ((Below.refl _ _).alloc (Nat.le_refl _) _)) (ints_one ws) (by unfold maxLen; omega) (by omega) (by simp) ?_); intro v16 w16 hown16 hgr16 _)
              | (go_at_call 13; fail))
            have O16 := hide (And.intro hown16 (copy_below rfl hgr16))
            obtain ⟨g16, cap16, rfl, _⟩ := row_at (L := ws) (by simpa using hown16) (by omega)
            clear hown16 hgr16
            refine (implP_any _ _ ws [] p _ (Rd.own (by simpa [HWS.out.1] using O16.out.1)) (nil_rd _) (H.out.2.2.below (ST5.out.old.trans (O16.out.2.mono ST5.out.old.size)))).mono ?_
            rintro e w17 ⟨vn, rfl, hon, hb17⟩
            rw [HP1.out.1] at hon
            rw [HP1.out.2]
            have hb57 : Below w15.heap.size w15 w17 := O16.out.2.trans (hb17.mono O16.out.2.size)
            have ST6 := hide (ST5.out.below hb57)
            have RS6 := hide (own_below RS.out hb57)
            have RN6 := hide (show w17.ownsRow w16.heap.size 3 1 vn j ((bare ws p).map (Value.int .i64)) from by rw [← HBr.out]; exact hon)
            obtain ⟨gn, capn, rfl, _⟩ := row_at RN6.out (by omega)
            clear hon hb17 hb57 O16 ST5 RS
            have hbs := HBl.out j
            obtain ⟨bs, hbse⟩ : ∃ bs, bs = bsTo ws p j := ⟨_, rfl⟩
            rw [← hbse] at RS6 HP2 hbs ⊢
            have HBs := hide hbse
            clear hbse HBl
            go_wp2_with (first
              | (at_builtin; (refine wpList_append_own _ rfl (.tmp 181) (.tmp 182) 22 rfl w18.heap.size 3 i0 (.int .i64 0) 1 8 Tryd.underlying22 hi hz0 hz1 hzb rfl (by decide) _ 0 [] rfl (empty_own w18 _) ⟨gs, 0, none⟩ bs.length _ (bs.map (Value.int .i64)) rfl (by rw [List.length_map, Nat.mul_one]) (row_news (own_below RS6.out (copy_below rfl hgr18)) ((Below.refl _ _).alloc (Nat.le_refl _) _)) (ints_one bs) (by unfold maxLen; omega) (by omega) (by simp) ?_); intro v19 w19 hown19 hgr19 _)
              | (at_builtin; (refine wpList_append_own _ rfl (.tmp 177) (.tmp 178) 22 rfl w17.heap.size 3 i0 (.int .i64 0) 1 8 Tryd.underlying22 hi hz0 hz1 hzb rfl (by decide) _ 0 [] rfl (empty_own w17 _) ⟨gn, 0, none⟩ j _ ((bare ws p).map (Value.int .i64)) rfl (by rw [List.length_map, HBr.out, Nat.mul_one]) (row_news RN6.out ((Below.refl _ _).alloc (Nat.le_refl _) _)) (ints_one (bare ws p)) (by unfold maxLen; omega) (by omega) (by simp) ?_); intro v18 w18 hown18 hgr18 _)
              | (go_at_call 13; fail))
            have O18 := hide (And.intro hown18 (copy_below rfl hgr18))
            rw [Nat.zero_add, List.nil_append] at hown19
            have O19 := hide (And.intro hown19 (copy_below rfl hgr19))
            obtain ⟨g18, cap18, rfl, _⟩ := row_at (L := bare ws p) (by simpa using hown18) (by omega)
            obtain ⟨a19, cap19, rfl⟩ := own_shape hown19
            clear hown18 hgr18 hown19 hgr19
            have hb79 : Below w17.heap.size w17 w19 := O18.out.2.trans (O19.out.2.mono O18.out.2.size)
            have R18 := hide (show Rd .i64 w19 (.slice (some ⟨g18, 0, none⟩) j cap18) (bare ws p) from Rd.own (own_below (show w18.ownsRow w17.heap.size 3 1 (.slice (some ⟨g18, 0, none⟩) j cap18) j ((bare ws p).map (Value.int .i64)) from by simpa using O18.out.1) O19.out.2))
            have R19 := hide (show Rd .i64 w19 (.slice a19 bs.length cap19) bs from Rd.own O19.out.1)
            have ST7 := hide (ST6.out.below hb79)
            have RN7 := hide (own_below RN6.out hb79)
            clear hb79 O18 O19 ST6 RN6 RS6
            refine (implP_any _ _ (bare ws p) bs p _ R18.out R19.out (H.out.2.2.below ST7.out.old)).mono ?_
            rintro e w20 ⟨vb, rfl, hob, hb20⟩
            rw [HP2.out.1, HWS.out.1] at hob
            rw [HP2.out.2]
            have ST8 := hide (ST7.out.below hb20)
            have RN8 := hide (own_below RN7.out hb20)
            have RB8 := hide hob
            obtain ⟨gb, capb, rfl, _⟩ := row_at hob (by omega)
            clear hob hb20 R18 R19 ST7 RN7
            have HC2 := hide (show codeM (bare ws p) = 0 ∧ cntM (bare ws p) = cntI (bare ws p).length (freeN (bare ws p) (bare ws p).length) (usedN (bare ws p) (bare ws p).length) (rowP (bare ws p) (bare ws p).length 0) ∧ (cntM (bare ws p)).length = 35 from ⟨by simp [codeM, bare_right ws p HWS.out.2], by simp [cntM, bare_right ws p HWS.out.2], cntM_len _⟩)
            have HFx := hide (show plN ws p j = bs.length + fixN p ∧ plN (bare ws p) p j = fixN p from by
              constructor
              · rw [HBs.out]; exact pl_bs ws p HWS.out.2 j (by omega)
              · have := pl_bare ws p HWS.out.2; rw [HWS.out.1] at this; exact this)
            by_cases hp0 : p = 0
            · have HFX := hide (show fixN p = 2 from by simp [fixN, hp0])
              have hp0' : ((p : Int) == 0) = true := by simp; omega
              clear hp0
              go_wp2_with (first
                | (at_builtin; (refine wpList_append_own _ rfl (.tmp 190) (.tmp 191) 22 rfl w20.heap.size 3 i0 (.int .i64 0) 1 8 Tryd.underlying22 hi hz0 hz1 hzb rfl (by decide) _ 0 [] rfl (empty_own w20 _) ⟨gn, 0, none⟩ j _ ((bare ws p).map (Value.int .i64)) rfl (by rw [List.length_map, HBr.out, Nat.mul_one]) (row_news RN8.out ((Below.refl _ _).alloc (Nat.le_refl _) _)) (ints_one (bare ws p)) (by unfold maxLen; omega) (by omega) (by simp) ?_); intro v21 w21 hown21 hgr21 _)
                | (go_at_call 9; fail))
              have O21 := hide (And.intro hown21 (copy_below rfl hgr21))
              obtain ⟨g21, cap21, rfl, _⟩ := row_at (L := bare ws p) (by simpa using hown21) (by omega)
              clear hown21 hgr21
              refine (implC_any _ (bare ws p) _ (Rd.own (show w21.ownsRow w20.heap.size 3 1 (.slice (some ⟨g21, 0, none⟩) j cap21) j ((bare ws p).map (Value.int .i64)) from by simpa using O21.out.1)) (H.out.2.2.below (ST8.out.old.trans (O21.out.2.mono ST8.out.old.size)))).mono ?_
              rintro e w22 ⟨rfl, hb22⟩
              rw [HC2.out.1]
              obtain ⟨R2, hR2⟩ : ∃ R2, R2 = cntM (bare ws p) := ⟨_, rfl⟩
              rw [← hR2] at HC2 ⊢
              have HZ2 := hide (show (cellsI R2).size = 35 from by rw [cellsI_size]; exact HC2.out.2.2)
              have hb02 : Below w20.heap.size w20 w22 := O21.out.2.trans (hb22.mono O21.out.2.size)
              obtain ⟨W22, hW22, J22⟩ := first35 w22
              have hb23 : Below w22.heap.size w22 (W22.setRow w22.heap.size (cellsI R2)) := below_setRow J22.out.2.1 (Nat.le_refl _) _
              have hb03 : Below w20.heap.size w20 (W22.setRow w22.heap.size (cellsI R2)) := hb02.trans (hb23.mono hb02.size)
              have ST9 := hide (ST8.out.below hb03)
              have RB9 := hide (own_below RB8.out hb03)
              have kD : Blk (W22.setRow w22.heap.size (cellsI R2)) w22.heap.size (cellsI R2) 25 := J22.out.1.row _
              have q1 := cnt_cell kD (Below.refl _ _) (k := 3 + p) (by rw [HC2.out.2.2]; omega)
              rw [show R2.getD (3 + p) 0 = (2 : Int) from by
                rw [HC2.out.2.1, show 3 + p = p + 3 from by omega]
                show (rowP (bare ws p) (bare ws p).length 0).getD p 0 = _
                rw [HBr.out]
                have := rowP_get0 (bare ws p) j p hp
                rw [this, HFx.out.2, HFX.out]; rfl] at q1
              have q2 := cnt_cell ST9.out.cnt (Below.refl _ _) (k := 3 + p) (by rw [HC.out.2.2]; omega)
              rw [show R.getD (3 + p) 0 = (bs.length : Int) + 2 from by
                rw [HC.out.2.1, show 3 + p = p + 3 from by omega]
                show (rowP ws ws.length 0).getD p 0 = _
                rw [HWS.out.1]
                have := rowP_get0 ws j p hp
                rw [this, HFx.out.1, HFX.out]; omega] at q2
              rw [hW22] at q1 q2
              have HW22 := hide hW22
              clear hW22 hb22 hb02 hb03 hb23 kD hR2 O21 ST8 RN8 RB8
              go_wp2_with (refine wpList_store_row rfl 25 _ _ rfl w22.heap.size (cellsI R2) rfl rfl 25 _ (Blk.new w22 (cellsI (List.replicate 35 0)) 25) (by rw [HZ2.out]; exact info35) (by rw [HZ2.out]; rfl) (cellsI_one _) ?_)
              rw [← HW22.out]
              clear q1 q2
              generalize (W22.setRow w22.heap.size (cellsI R2)) = w23 at ST9 RB9 ⊢
              clear HW22 J22
              go_loopw [233] (fun i wr => ∃ k nq : Nat, k ≤ j ∧ i = .int .i64 k ∧ wr = w23.drewN nq) (fun i _ => j - (intOf i).toNat)
              case atStart => exact ⟨0, 0, by omega, rfl, rfl⟩
              case round =>
                obtain ⟨t, nq2, ht, rfl, rfl⟩ := hrel
                by_cases hlt2 : t < j
                · have d1 := row_cell RB9.out t hlt2
                  have d2 := row_cell ST9.out.row t hlt2
                  generalize ws.getD t 0 = z at d1 d2
                  go_wp2
                  go_quiet (fail)
                  go_wp2
                  go_roundw
                  case rel => exact ⟨t + 1, _, by omega, by go_num, rfl⟩
                  case measure => simp [intOf]; omega
                · have et : t = j := by omega
                  subst et
                  go_wp2
                  go_ret
                  exact ⟨rfl, below_drewN ST9.out.old _⟩
            · have HFX := hide (show fixN p = 0 from by simp [fixN, hp0])
              have hp0' : ((p : Int) == 0) = false := by simp; omega
              clear hp0
              go_wp2_with (first
                | (at_builtin; (refine wpList_append_own _ rfl (.tmp 190) (.tmp 191) 22 rfl w20.heap.size 3 i0 (.int .i64 0) 1 8 Tryd.underlying22 hi hz0 hz1 hzb rfl (by decide) _ 0 [] rfl (empty_own w20 _) ⟨gn, 0, none⟩ j _ ((bare ws p).map (Value.int .i64)) rfl (by rw [List.length_map, HBr.out, Nat.mul_one]) (row_news RN8.out ((Below.refl _ _).alloc (Nat.le_refl _) _)) (ints_one (bare ws p)) (by unfold maxLen; omega) (by omega) (by simp) ?_); intro v21 w21 hown21 hgr21 _)
                | (go_at_call 9; fail))
              have O21 := hide (And.intro hown21 (copy_below rfl hgr21))
              obtain ⟨g21, cap21, rfl, _⟩ := row_at (L := bare ws p) (by simpa using hown21) (by omega)
              clear hown21 hgr21
              refine (implC_any _ (bare ws p) _ (Rd.own (show w21.ownsRow w20.heap.size 3 1 (.slice (some ⟨g21, 0, none⟩) j cap21) j ((bare ws p).map (Value.int .i64)) from by simpa using O21.out.1)) (H.out.2.2.below (ST8.out.old.trans (O21.out.2.mono ST8.out.old.size)))).mono ?_
              rintro e w22 ⟨rfl, hb22⟩
              rw [HC2.out.1]
              obtain ⟨R2, hR2⟩ : ∃ R2, R2 = cntM (bare ws p) := ⟨_, rfl⟩
              rw [← hR2] at HC2 ⊢
              have HZ2 := hide (show (cellsI R2).size = 35 from by rw [cellsI_size]; exact HC2.out.2.2)
              have hb02 : Below w20.heap.size w20 w22 := O21.out.2.trans (hb22.mono O21.out.2.size)
              obtain ⟨W22, hW22, J22⟩ := first35 w22
              have hb23 : Below w22.heap.size w22 (W22.setRow w22.heap.size (cellsI R2)) := below_setRow J22.out.2.1 (Nat.le_refl _) _
              have hb03 : Below w20.heap.size w20 (W22.setRow w22.heap.size (cellsI R2)) := hb02.trans (hb23.mono hb02.size)
              have ST9 := hide (ST8.out.below hb03)
              have RB9 := hide (own_below RB8.out hb03)
              have kD : Blk (W22.setRow w22.heap.size (cellsI R2)) w22.heap.size (cellsI R2) 25 := J22.out.1.row _
              have q1 := cnt_cell kD (Below.refl _ _) (k := 3 + p) (by rw [HC2.out.2.2]; omega)
              rw [show R2.getD (3 + p) 0 = (0 : Int) from by
                rw [HC2.out.2.1, show 3 + p = p + 3 from by omega]
                show (rowP (bare ws p) (bare ws p).length 0).getD p 0 = _
                rw [HBr.out]
                have := rowP_get0 (bare ws p) j p hp
                rw [this, HFx.out.2, HFX.out]; rfl] at q1
              have q2 := cnt_cell ST9.out.cnt (Below.refl _ _) (k := 3 + p) (by rw [HC.out.2.2]; omega)
              rw [show R.getD (3 + p) 0 = (bs.length : Int) + 0 from by
                rw [HC.out.2.1, show 3 + p = p + 3 from by omega]
                show (rowP ws ws.length 0).getD p 0 = _
                rw [HWS.out.1]
                have := rowP_get0 ws j p hp
                rw [this, HFx.out.1, HFX.out]; omega] at q2
              rw [hW22] at q1 q2
              have HW22 := hide hW22
              clear hW22 hb22 hb02 hb03 hb23 kD hR2 O21 ST8 RN8 RB8
              go_wp2_with (refine wpList_store_row rfl 25 _ _ rfl w22.heap.size (cellsI R2) rfl rfl 25 _ (Blk.new w22 (cellsI (List.replicate 35 0)) 25) (by rw [HZ2.out]; exact info35) (by rw [HZ2.out]; rfl) (cellsI_one _) ?_)
              rw [← HW22.out]
              clear q1 q2
              generalize (W22.setRow w22.heap.size (cellsI R2)) = w23 at ST9 RB9 ⊢
              clear HW22 J22
              go_loopw [233] (fun i wr => ∃ k nq : Nat, k ≤ j ∧ i = .int .i64 k ∧ wr = w23.drewN nq) (fun i _ => j - (intOf i).toNat)
              case atStart => exact ⟨0, 0, by omega, rfl, rfl⟩
              case round =>
                obtain ⟨t, nq2, ht, rfl, rfl⟩ := hrel
                by_cases hlt2 : t < j
                · have d1 := row_cell RB9.out t hlt2
                  have d2 := row_cell ST9.out.row t hlt2
                  generalize ws.getD t 0 = z at d1 d2
                  go_wp2
                  go_quiet (fail)
                  go_wp2
                  go_roundw
                  case rel => exact ⟨t + 1, _, by omega, by go_num, rfl⟩
                  case measure => simp [intOf]; omega
                · have et : t = j := by omega
                  subst et
                  go_wp2
                  go_ret
                  exact ⟨rfl, below_drewN ST9.out.old _⟩
end Go.Proofs.YtbgiccgfgljkbaaDoor
