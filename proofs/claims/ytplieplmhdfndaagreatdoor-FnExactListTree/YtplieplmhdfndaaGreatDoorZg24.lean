/- The program's directories: append. The program's directories: endsEmpty. -/
import Derived.Test.YtplieplmhdfndaaGreatDoorZg23
namespace Go.Proofs.YtplieplmhdfndaaGreatDoor
set_option linter.unusedVariables false
set_option linter.unusedSimpArgs false
open Go.RowKit

/-- A directory in the midst of an operation: its entries' cells, its map. -/
structure Dr {H : Type} (base : Nat) (W : World) (b mb n nn : Nat) (v : Value) (xs : List Value) (D : DataW H) : Prop where
  blk : Blk W b #[v, .map (some mb)] 116
  own : W.ownsRow base 61 3 v n xs
  ne : v.ownBlock ≠ some b
  map : W.ownsMap Tryz.prog 9 (plainElem (H := H) Tryz.prog 3) mb nn D
  nb : b ≠ mb
theorem Dr.nm {H : Type} {base : Nat} {W : World} {b mb n nn : Nat} {v : Value} {xs : List Value} {D : DataW H} (h : Dr base W b mb n nn v xs D) : v.ownBlock ≠ some mb := by
  intro e
  rcases h.own.2 with ⟨rfl, _⟩ | ⟨g, cap, cur, rfl, _, hg, _⟩
  · cases e
  · obtain rfl : g = mb := by simpa [Value.ownBlock] using e
    obtain ⟨es, ck, hb, _⟩ := h.map
    rw [hg] at hb
    cases hb
theorem mapSet {H : Type} {P : Program} {w : World} {t : TypeId} {R : Value → Option (DataW H × List MemPlace)} {mb nn b : Nat} {D : DataW H} (h : w.ownsMap P t R mb nn D) (u : Value) (hne : mb ≠ b) : (w.setCell ⟨b, 0, none⟩ u).ownsMap P t R mb nn D := by
  obtain ⟨es, ck, h1, h2⟩ := h
  exact ⟨es, ck, (heap_setCell_other w ⟨b, 0, none⟩ mb u hne).trans h1, h2⟩
/-- What else is as it was. -/
structure Fr (w w' : World) (b mb : Nat) (v v' : Value) : Prop where
  kept : ∀ k, k < w.heap.size → k ≠ b → k ≠ mb → v.ownBlock ≠ some k → w'.heap[k]? = w.heap[k]?
  fresh : ∀ k, v'.ownBlock = some k → v.ownBlock = some k ∨ w.heap.size ≤ k
  low : Below 0 w w'
set_option maxRecDepth 100000 in
set_option maxHeartbeats 2000000 in
theorem dappend_any {H : Type} (base : Nat) (w : World) (b mb n nn : Nat) (v : Value) (xs : List Value) (D : DataW H) (nm : ByteArray) (ino kd : Int) (h : Dr base w b mb n nn v xs D) (hb : base ≤ w.heap.size) (hn : n ≤ 8192) (hnn : nn < maxLen) (hnm : nm.size ≤ maxLen) :
    Calls Tryz.prog 89 #[.pointer (some ⟨b, 0, none⟩), .agg (entC nm ino kd)] w fun e w' => e = .returned (.tuple #[]) ∧ ∃ v',
      (entEq nm ino kd ⟨#[]⟩ 0 0 = true → Dr base w' b mb (n + 1) nn v' (xs ++ [.string ⟨#[]⟩, .int .i64 0, .int .i64 0]) D) ∧ (entEq nm ino kd ⟨#[]⟩ 0 0 = false → Dr base w' b mb (n + 1) (nn + 1) v' (putE (xs ++ [.string ⟨#[]⟩, .int .i64 0, .int .i64 0]) n nm ino kd) (D.put (.string nm.data.toList) (.lit (.int .i64 n)))) ∧ Fr w w' b mb v v' := by
  have hbl : b < w.heap.size := h.blk.lt
  obtain ⟨i0, hi, hz0, hz1, hz2⟩ := info_parts infoD
  have c0 : (w.alloc (.cells (entC nm ino kd) 61)).cell? ⟨b, 0, none⟩ = some v := by rw [World.cell?_alloc_lt _ _ _ hbl]; exact (h.blk.cell 0).trans rfl
  obtain ⟨la, lc, rfl⟩ := ownD_shape h.own
  have HD := hide h
  have HB2 := hide ((h.blk.alloc (.cells (entC nm ino kd) 61)).alloc (.cells #[.string ⟨#[]⟩, .int .i64 0, .int .i64 0] 61))
  have HK2 := hide ((Blk.new w (entC nm ino kd) 61).alloc (.cells #[.string ⟨#[]⟩, .int .i64 0, .int .i64 0] 61))
  have HCn := hide (show ∀ j u, ([.string ⟨#[]⟩, .int .i64 0, .int .i64 0] : List Value)[j]? = some u → ((w.alloc (.cells (entC nm ino kd) 61)).alloc (.cells #[.string ⟨#[]⟩, .int .i64 0, .int .i64 0] 61)).cell? ((⟨w.heap.size + 1, 0, none⟩ : Addr).add j) = some u from by
    have h := cells_newD (w.alloc (.cells (entC nm ino kd) 61)) #[.string ⟨#[]⟩, .int .i64 0, .int .i64 0] 61
    rw [World.size_alloc] at h
    exact h)
  have HM2 := hide ((h.map.alloc (.cells (entC nm ino kd) 61)).alloc (.cells #[.string ⟨#[]⟩, .int .i64 0, .int .i64 0] 61))
  have hml : mb < w.heap.size := h.map.lt
  clear h
  have HE := hide (fun w => eqEnt w 9998 nm ino kd ⟨#[]⟩ 0 0)
  go_enter Tryz.func89, Tryz.ntmps89
  cases hz : entEq nm ino kd ⟨#[]⟩ 0 0 with
  | true =>
    have HE2 := hide (fun w => (HE.out w).trans (by rw [hz]))
    go_wp2_with (first | (at_builtin; refine append_fresh _ rfl (.tmp 8) (.tmp 10) 98 rfl base 61 i0 (.agg #[.string ⟨#[]⟩, .int .i64 0, .int .i64 0]) 3 32 Tryz.underlying98 hi hz0 hz1 hz2 rfl (by decide) _ _ _ rfl ((HD.out.own.alloc _).alloc _) ⟨w.heap.size + 1, 0, none⟩ 1 1 [.string ⟨#[]⟩, .int .i64 0, .int .i64 0] rfl rfl HCn.out (by intro u hu; simp at hu; rcases hu with rfl | rfl <;> rfl) (by omega) (by unfold maxLen; omega) (by omega) (by simp; omega) ?_; intro v7 w7 o7 g7 f7; obtain ⟨ga, ca, rfl, hga1, hga2, hga3⟩ := own_sliceD o7 (by omega); clear hga3; have K7 := hide (show Blk w7 b #[.slice la n lc, .map (some mb)] 116 from (g7.block b (by simp; omega) (fun e => HD.out.ne e.symm)).trans HB2.out); have c7 := (K7.out.cell 0).trans (show (#[.slice la n lc, .map (some mb)] : Array Value)[0]? = some (.slice la n lc) from rfl); have fz7 := K7.out.frozen 0; have E7 := hide (show Blk w7 w.heap.size (entC nm ino kd) 61 from (g7.block w.heap.size (by simp; omega) (fun e => by have := (HD.out.own.lt _ e.symm).2; omega)).trans HK2.out); have KE := hide (E7.out.other ⟨b, 0, none⟩ (.slice (some ⟨ga, 0, none⟩) (n + 1) ca) (by show w.heap.size ≠ b; omega)); have O7 := hide o7; have G7 := hide g7; have F7 := hide f7; clear o7 g7 f7) | (refine wpList_load_row rfl 61 _ rfl w.heap.size rfl 61 (entC nm ino kd) (0, 0) _ KE.out Tryz.underlying61 rfl infoD3 ?_) | (refine wpList_neqE rfl 61 _ _ _ rfl (entC nm ino kd) (entC ⟨#[]⟩ 0 0) rfl rfl guardEnt true (HE2.out _) ?_))
    have hgab : ga ≠ b := fun e => by
      rcases F7.out ga rfl with h | h
      · exact HD.out.ne (by rw [← e]; exact h)
      · simp at h; omega
    have hgaw : ga ≠ w.heap.size := fun e => by
      rcases F7.out ga rfl with h | h
      · have := (HD.out.own.lt ga h).2; omega
      · simp at h; omega
    have H8 := hide (show Dr base (w7.setCell ⟨b, 0, none⟩ (.slice (some ⟨ga, 0, none⟩) (n + 1) ca)) b mb (n + 1) nn (.slice (some ⟨ga, 0, none⟩) (n + 1) ca) (xs ++ [.string ⟨#[]⟩, .int .i64 0, .int .i64 0]) D ∧ Fr w (w7.setCell ⟨b, 0, none⟩ (.slice (some ⟨ga, 0, none⟩) (n + 1) ca)) b mb (.slice la n lc) (.slice (some ⟨ga, 0, none⟩) (n + 1) ca) from by
      refine ⟨⟨K7.out.set 0 _, ownsRow_setCell_other O7.out (by simpa [Value.ownBlock] using hgab) _, by simpa [Value.ownBlock] using hgab, mapSet (HM2.out.kept G7.out (fun e => HD.out.nm e.symm)) _ (fun e => HD.out.nb e.symm), HD.out.nb⟩, ⟨fun k h1 h2 h3 h4 => ?_, fun k hk => ?_, ?_⟩⟩
      · rw [heap_setCell_other w7 ⟨b, 0, none⟩ k _ h2, G7.out.block k (by simp; omega) (fun e => h4 e.symm), Below.heap_alloc _ _ k (by simp; omega), Below.heap_alloc _ _ k h1]
      · rcases F7.out k hk with h | h
        · exact .inl h
        · simp at h; exact .inr (by omega)
      · exact ((((Below.refl 0 w).alloc (Nat.zero_le _) _).alloc (Nat.zero_le _) _).grown G7.out (Nat.zero_le _) (fun _ _ => Nat.zero_le _)).setCell (p := ⟨b, 0, none⟩) (Nat.zero_le _) _)
    go_end0
    exact ⟨rfl, _, H8.out.1, H8.out.2⟩
  | false =>
    have HE2 := hide (fun w => (HE.out w).trans (by rw [hz]))
    go_wp2_with (first | (at_builtin; refine append_fresh _ rfl (.tmp 8) (.tmp 10) 98 rfl base 61 i0 (.agg #[.string ⟨#[]⟩, .int .i64 0, .int .i64 0]) 3 32 Tryz.underlying98 hi hz0 hz1 hz2 rfl (by decide) _ _ _ rfl ((HD.out.own.alloc _).alloc _) ⟨w.heap.size + 1, 0, none⟩ 1 1 [.string ⟨#[]⟩, .int .i64 0, .int .i64 0] rfl rfl HCn.out (by intro u hu; simp at hu; rcases hu with rfl | rfl <;> rfl) (by omega) (by unfold maxLen; omega) (by omega) (by simp; omega) ?_; intro v7 w7 o7 g7 f7; obtain ⟨ga, ca, rfl, hga1, hga2, hga3⟩ := own_sliceD o7 (by omega); clear hga3; have K7 := hide (show Blk w7 b #[.slice la n lc, .map (some mb)] 116 from (g7.block b (by simp; omega) (fun e => HD.out.ne e.symm)).trans HB2.out); have c7 := (K7.out.cell 0).trans (show (#[.slice la n lc, .map (some mb)] : Array Value)[0]? = some (.slice la n lc) from rfl); have fz7 := K7.out.frozen 0; have E7 := hide (show Blk w7 w.heap.size (entC nm ino kd) 61 from (g7.block w.heap.size (by simp; omega) (fun e => by have := (HD.out.own.lt _ e.symm).2; omega)).trans HK2.out); have KE := hide (E7.out.other ⟨b, 0, none⟩ (.slice (some ⟨ga, 0, none⟩) (n + 1) ca) (by show w.heap.size ≠ b; omega)); have O7 := hide o7; have G7 := hide g7; have F7 := hide f7; clear o7 g7 f7) | (refine wpList_load_row rfl 61 _ rfl w.heap.size rfl 61 (entC nm ino kd) (0, 0) _ KE.out Tryz.underlying61 rfl infoD3 ?_) | (refine wpList_neqE rfl 61 _ _ _ rfl (entC nm ino kd) (entC ⟨#[]⟩ 0 0) rfl rfl guardEnt false (HE2.out _) ?_))
    have hgab : ga ≠ b := fun e => by
      rcases F7.out ga rfl with h | h
      · exact HD.out.ne (by rw [← e]; exact h)
      · simp at h; omega
    have hgaw : ga ≠ w.heap.size := fun e => by
      rcases F7.out ga rfl with h | h
      · have := (HD.out.own.lt ga h).2; omega
      · simp at h; omega
    have H8 := hide (show Dr base (w7.setCell ⟨b, 0, none⟩ (.slice (some ⟨ga, 0, none⟩) (n + 1) ca)) b mb (n + 1) nn (.slice (some ⟨ga, 0, none⟩) (n + 1) ca) (xs ++ [.string ⟨#[]⟩, .int .i64 0, .int .i64 0]) D ∧ Fr w (w7.setCell ⟨b, 0, none⟩ (.slice (some ⟨ga, 0, none⟩) (n + 1) ca)) b mb (.slice la n lc) (.slice (some ⟨ga, 0, none⟩) (n + 1) ca) from by
      refine ⟨⟨K7.out.set 0 _, ownsRow_setCell_other O7.out (by simpa [Value.ownBlock] using hgab) _, by simpa [Value.ownBlock] using hgab, mapSet (HM2.out.kept G7.out (fun e => HD.out.nm e.symm)) _ (fun e => HD.out.nb e.symm), HD.out.nb⟩, ⟨fun k h1 h2 h3 h4 => ?_, fun k hk => ?_, ?_⟩⟩
      · rw [heap_setCell_other w7 ⟨b, 0, none⟩ k _ h2, G7.out.block k (by simp; omega) (fun e => h4 e.symm), Below.heap_alloc _ _ k (by simp; omega), Below.heap_alloc _ _ k h1]
      · rcases F7.out k hk with h | h
        · exact .inl h
        · simp at h; exact .inr (by omega)
      · exact ((((Below.refl 0 w).alloc (Nat.zero_le _) _).alloc (Nat.zero_le _) _).grown G7.out (Nat.zero_le _) (fun _ _ => Nat.zero_le _)).setCell (p := ⟨b, 0, none⟩) (Nat.zero_le _) _)
    obtain ⟨w8, hw8⟩ : ∃ w8, w8 = w7.setCell ⟨b, 0, none⟩ (.slice (some ⟨ga, 0, none⟩) (n + 1) ca) := ⟨_, rfl⟩
    rw [← hw8] at H8 KE ⊢
    have hgal : ga < w8.heap.size := (H8.out.1.own.lt ga rfl).2
    clear hw8 O7 G7 F7 K7 E7 c7 fz7 hga2
    try simp only [Act.put, List.setIfInBounds_toArray, List.set_cons_zero, List.set_cons_succ, Bool.not_true, Bool.not_false]
    refine wp_region_noPanic ?_
    refine wp_region_held_drew (S := fun w' => w'.cell? ⟨b, 0, none⟩ = some (.slice (some ⟨ga, 0, none⟩) (n + 1) ca) ∧ Blk w' w.heap.size (entC nm ino kd) 61) (by kernel_rfl) ⟨(H8.out.1.blk.cell 0).trans rfl, KE.out⟩ (fun hH => ?_)
    refine wpAnyH_take (i := 0) (oi := _) (v := (.pointer (some ⟨b, 0, none⟩))) rfl (by kernel_rfl) (by kernel_rfl) (by kernel_rfl) (fun _ _ _ h => h) (Or.inl ⟨by rfl, fun w' hw' => by go_simp⟩) hH ?_
    try simp only [Act.put, List.getElem_toArray, List.getElem_cons_zero, List.getElem_cons_succ, List.setIfInBounds_toArray, List.set_cons_zero, List.set_cons_succ]
    refine wpAnyH_take (i := 1) (oi := _) (v := (.pointer (some ⟨b, 0, none⟩))) rfl (by kernel_rfl) (by kernel_rfl) (by kernel_rfl) (fun _ _ _ h => h) (Or.inl ⟨by rfl, fun w' hw' => by go_simp⟩) hH ?_
    try simp only [Act.put, List.getElem_toArray, List.getElem_cons_zero, List.getElem_cons_succ, List.setIfInBounds_toArray, List.set_cons_zero, List.set_cons_succ]
    refine wpAnyH_take (i := 2) (oi := _) (v := (.pointer (some ⟨b, 0, none⟩))) rfl (by kernel_rfl) (by kernel_rfl) (by kernel_rfl) (fun _ _ _ h => h) (Or.inl ⟨by rfl, fun w' hw' => by go_simp⟩) hH ?_
    try simp only [Act.put, List.getElem_toArray, List.getElem_cons_zero, List.getElem_cons_succ, List.setIfInBounds_toArray, List.set_cons_zero, List.set_cons_succ]
    refine wpAnyH_take (i := 3) (oi := _) (v := (.pointer (some ⟨b, 0, none⟩))) rfl (by kernel_rfl) (by kernel_rfl) (by kernel_rfl) (fun _ _ _ h => h) (Or.inl ⟨by rfl, fun w' hw' => by go_simp⟩) hH ?_
    try simp only [Act.put, List.getElem_toArray, List.getElem_cons_zero, List.getElem_cons_succ, List.setIfInBounds_toArray, List.set_cons_zero, List.set_cons_succ]
    refine wpAnyH_take (i := 4) (oi := _) (v := (.slice (some ⟨ga, 0, none⟩) (n + 1) ca)) rfl (by kernel_rfl) (by kernel_rfl) (by kernel_rfl) (fun _ _ _ h => h) (Or.inl ⟨by rfl, fun w' hw' => by have hc := hw'.1; clear hw'; go_simp⟩) hH ?_
    try simp only [Act.put, List.getElem_toArray, List.getElem_cons_zero, List.getElem_cons_succ, List.setIfInBounds_toArray, List.set_cons_zero, List.set_cons_succ]
    refine wpAnyH_take (i := 5) (oi := _) (v := (.int .i64 ((n : Int) + 1))) rfl (by kernel_rfl) (by kernel_rfl) (by kernel_rfl) (fun _ _ _ h => h) (Or.inl ⟨by rfl, fun w' hw' => by go_simp⟩) hH ?_
    try simp only [Act.put, List.getElem_toArray, List.getElem_cons_zero, List.getElem_cons_succ, List.setIfInBounds_toArray, List.set_cons_zero, List.set_cons_succ]
    refine wpAnyH_take (i := 6) (oi := _) (v := (.int .i64 (n : Int))) rfl (by kernel_rfl) (by kernel_rfl) (by kernel_rfl) (fun _ _ _ h => h) (Or.inl ⟨by rfl, fun w' hw' => by go_simp; rw [IntWalk.i64_left, IntWalk.wrap64_in _ (by omega)]⟩) hH ?_
    try simp only [Act.put, List.getElem_toArray, List.getElem_cons_zero, List.getElem_cons_succ, List.setIfInBounds_toArray, List.set_cons_zero, List.set_cons_succ]
    refine wpAnyH_take (i := 7) (oi := _) (v := (.agg (entC nm ino kd))) rfl (by kernel_rfl) (by kernel_rfl) (by kernel_rfl) (fun _ _ _ h => h) (yieldsIf_load_mid (by rfl) 61 _ rfl w.heap.size 0 rfl (entC nm ino kd).toList _ (fun w' h => ent_range h.2) Tryz.underlying61 rfl infoD3) hH ?_
    try simp only [Act.put, List.getElem_toArray, List.getElem_cons_zero, List.getElem_cons_succ, List.setIfInBounds_toArray, List.set_cons_zero, List.set_cons_succ]
    refine wpAnyH_ready (rs := [8]) (by kernel_rfl) (by simp) ?_
    refine AllReadyH.cons (o := _) rfl (fun K hK => ?_) AllReadyH.nil
    go_simp
    refine (dput_any (H := H) _ b mb ga ca (n + 1) nn base (xs ++ ([.string ⟨#[]⟩, .int .i64 0, .int .i64 0] : List Value)) D n nm ino kd (by omega) (by omega) hH.1 ((H8.out.1.blk.cell 1).trans rfl) H8.out.1.own H8.out.1.map.drew hnn hnm (fun e => hgab e.symm) HD.out.nb (fun e => H8.out.1.nm (by rw [← e]; rfl))).mono ?_
    rintro e w9 ⟨rfl, o9, m9, k9, b9⟩
    have hs9 : w8.heap.size ≤ w9.heap.size := (b9 0 (Nat.zero_le _) (Nat.zero_le _) (Nat.zero_le _)).size
    have hl8 : w.heap.size < w8.heap.size := KE.out.lt
    have hkb : w9.heap[b]? = w8.heap[b]? := k9 b (by show b < w8.heap.size; omega) (fun e => hgab e.symm) HD.out.nb
    have hkw : w9.heap[w.heap.size]? = w8.heap[w.heap.size]? := k9 w.heap.size hl8 (fun e => hgaw e.symm) (by omega)
    have H9 := hide (show Dr base w9 b mb (n + 1) (nn + 1) (.slice (some ⟨ga, 0, none⟩) (n + 1) ca) (putE (xs ++ [.string ⟨#[]⟩, .int .i64 0, .int .i64 0]) n nm ino kd) (D.put (.string nm.data.toList) (.lit (.int .i64 n))) ∧ Fr w w9 b mb (.slice la n lc) (.slice (some ⟨ga, 0, none⟩) (n + 1) ca) from by
      refine ⟨⟨hkb.trans H8.out.1.blk, o9, H8.out.1.ne, m9, HD.out.nb⟩, ⟨fun k h1 h2 h3 h4 => ?_, H8.out.2.fresh, ?_⟩⟩
      · rw [k9 k (by show k < w8.heap.size; omega) (fun e => ?_) h3]
        · exact H8.out.2.kept k h1 h2 h3 h4
        · rcases H8.out.2.fresh ga rfl with h | h
          · exact h4 (by rw [e]; exact h)
          · omega
      · exact H8.out.2.low.trans (((Below.refl 0 w8).drew).trans (b9 0 (Nat.zero_le _) (Nat.zero_le _) (Nat.zero_le _))))
    refine hK.out _ _ ⟨(World.cell?_of_block (a := ⟨b, 0, none⟩) hkb).trans ((H8.out.1.blk.cell 0).trans rfl), hkw.trans KE.out⟩ (fun hH9 => ?_)
    clear hK K
    try simp only [Act.put, List.getElem_toArray, List.getElem_cons_zero, List.getElem_cons_succ, List.setIfInBounds_toArray, List.set_cons_zero, List.set_cons_succ]
    refine wpAnyH_done (by kernel_rfl) (NoPanic.normal ?_) _
    clear hH hH9 o9 m9 k9 b9 hkb hkw
    go_wp2
    go_end0
    exact ⟨rfl, _, H9.out.1, H9.out.2⟩
end Go.Proofs.YtplieplmhdfndaaGreatDoor

namespace Go.Proofs.YtplieplmhdfndaaGreatDoor
set_option linter.unusedVariables false
set_option linter.unusedSimpArgs false
open Go.RowKit

/-- The cells of slots' entries in a row. -/
def entsI : List (ByteArray × Int × Int) → List Value
  | [] => []
  | e :: es => .string e.1 :: .int .i64 e.2.1 :: .int .i64 e.2.2 :: entsI es
theorem entsI_len : ∀ es, (entsI es).length = es.length * 3
  | [] => rfl
  | e :: es => by rw [entsI, List.length_cons, List.length_cons, List.length_cons, entsI_len es, List.length_cons]; omega
theorem entsI_append : ∀ es fs, entsI (es ++ fs) = entsI es ++ entsI fs
  | [], _ => rfl
  | e :: es, fs => by simp [entsI, entsI_append es fs]
theorem entsI_drop : ∀ (es : List (ByteArray × Int × Int)) (m : Nat), (entsI es).drop (m * 3) = entsI (es.drop m)
  | es, 0 => by simp
  | [], m + 1 => by simp [entsI]
  | e :: es, m + 1 => by
    rw [entsI, show (m + 1) * 3 = m * 3 + 1 + 1 + 1 by omega]
    simp only [List.drop_succ_cons]
    exact entsI_drop es m
theorem putE_snoc (es : List (ByteArray × Int × Int)) (nm : ByteArray) (ino kd : Int) : putE (entsI es ++ [.string ⟨#[]⟩, .int .i64 0, .int .i64 0]) es.length nm ino kd = entsI (es ++ [(nm, ino, kd)]) := by
  rw [entsI_append]
  unfold putE
  have hl := entsI_len es
  rw [List.set_append_right _ _ (by omega), List.set_append_right _ _ (by omega), List.set_append_right _ _ (by omega)]
  rw [show es.length * 3 - (entsI es).length = 0 by omega, show es.length * 3 + 1 - (entsI es).length = 1 by omega, show es.length * 3 + 1 + 1 - (entsI es).length = 2 by omega]
  rfl
/-- An entry that is zero. -/
def zE (e : ByteArray × Int × Int) : Bool := entEq e.1 e.2.1 e.2.2 ⟨#[]⟩ 0 0
theorem part_ent (w : World) (cs : Array Value) (off : Nat) (nm : ByteArray) (ino kd : Int) (h : cs.extract off (off + 3) = entC nm ino kd) : (part 61 cs off).run Tryz.prog w = .ok (.agg (entC nm ino kd)) w := by
  obtain ⟨i0, hi, hz0, hz1, hz2⟩ := info_parts infoD
  simp [part, isAgg, run_underlying Tryz.underlying61, run_sizeOf w hi, hz1, h]
def zeroes : Nat → List (ByteArray × Int × Int)
  | 0 => []
  | n + 1 => (⟨#[]⟩, 0, 0) :: zeroes n
theorem ext_ent (es : List (ByteArray × Int × Int)) (m : Nat) (e : ByteArray × Int × Int) (h : es[m]? = some e) : (entsI es).toArray.extract (m * 3) (m * 3 + 3) = entC e.1 e.2.1 e.2.2 := by
  have hm : m < es.length := (List.getElem?_eq_some_iff.1 h).1
  have he : es[m] = e := (List.getElem?_eq_some_iff.1 h).2
  apply Array.ext'
  rw [List.extract_toArray]
  show (entsI es).extract (m * 3) (m * 3 + 3) = _
  rw [List.extract_eq_take_drop, show m * 3 + 3 - m * 3 = 3 by omega, entsI_drop, List.drop_eq_getElem_cons hm, he]
  rfl
theorem eqItems_ents (w : World) (d : Nat) (es : List (ByteArray × Int × Int)) (n : Nat) (hn : es.length = n) : ∀ (is : List Nat), (∀ i ∈ is, i < n) →
    (Op.eqItems (d + 2) 61 3 (entsI es).toArray (entsI (zeroes n)).toArray is).run Tryz.prog w = .ok (is.all fun i => zE (es.getD i (⟨#[]⟩, 0, 0))) w
  | [], _ => by simp [Op.eqItems]
  | i :: is, h => by
    have hi := h i (by simp)
    have h1 : es[i]? = some (es.getD i (⟨#[]⟩, 0, 0)) := by rw [List.getD, List.getElem?_eq_getElem (by omega)]; rfl
    have h2 : ∀ (n i : Nat), i < n → (zeroes n)[i]? = some (⟨#[]⟩, 0, 0) := by
      intro n
      induction n with
      | zero => intro i hi; omega
      | succ n ih =>
        intro i hi
        cases i with
        | zero => rfl
        | succ i => exact ih i (by omega)
    exact eqItems_cons w (part_ent w _ _ _ _ _ (ext_ent es i _ h1)) (part_ent w _ _ _ _ _ (ext_ent _ i _ (h2 n i hi))) (eqEnt w d _ _ _ _ _ _) (eqItems_ents w d es n hn is (fun j hj => h j (by simp [hj])))
theorem wpList_arrayAt {P : Program} {ops : Array Oper} {rest : List Oper} {op : Oper} {a : Act} {w : World} {Q : Exit → Act → World → Prop} (hw : Region.wanted op (yielded ops a.tmps) = true) (t e : TypeId) (N : Nat) (x : Operand) (ho : op.op = .sliceToArrayPointer t x)
    (ad : Option Addr) (len cap : Nat) (hx : a.eval x = .slice ad len cap) (hu : P.underlying t = some (.array N e)) (hl : N ≤ len) (h : wpList P ops Q rest (a.put op.dst (.pointer ad)) w) : wpList P ops Q (op :: rest) a w :=
  Go.BigFrame.wpList_want hw fun K hK => by
    have hrun : (execOp a.eval op).run P w = .ok (.value (.pointer ad)) w := by
      simp [execOp, ho, hx, Instr.arrayAt, run_underlying hu, Nat.not_lt.mpr hl, Result.andThen]
    unfold Oper.wp
    rw [hrun, Oper.upon_value]
    exact hK _ _ h
theorem wpList_eqlW {P : Program} {ops : Array Oper} {rest : List Oper} {o : Oper} {a : Act} {w : World} {Q : Exit → Act → World → Prop} (hw : Region.wanted o (yielded ops a.tmps) = true) (t u : TypeId) (x y : Operand) (ho : o.op = .binOp .eql t x y u)
    (cs ds : Array Value) (hx : a.eval x = .agg cs) (hy : a.eval y = .agg ds) (hm : P.eqGuardType P.depth t = false) (b : Bool) (hE : (Op.equalIn 10000 t (.agg cs) (.agg ds)).run P w = .ok b w)
    (h : wpList P ops Q rest (a.put o.dst (.bool b)) w) : wpList P ops Q (o :: rest) a w :=
  Go.BigFrame.wpList_want hw fun K hK => by
    have hrun : (execOp a.eval o).run P w = .ok (.value (.bool b)) w := by
      simp [execOp, ho, hx, hy, run_eqGuard_agg w _ _ _ _ _ _ hm, run_eql_struct, hE, Result.andThen]
    unfold Oper.wp
    rw [hrun, Oper.upon_value]
    exact hK _ _ h
theorem guardSb : Tryz.prog.eqGuardType Tryz.prog.depth 221 = false := by kernel_rfl
theorem cellsT_ent : Tryz.prog.cellsOf 61 = 3 := by kernel_rfl
theorem info48 : (Tryz.prog.info? 221).map (·.size) = some 48 := by kernel_rfl
set_option maxRecDepth 100000 in
theorem eqBlk (w : World) (es : List (ByteArray × Int × Int)) (hn : es.length = 16) : (Op.equalIn 10000 221 (.agg (entsI es).toArray) (.agg (entsI (zeroes 16)).toArray)).run Tryz.prog w = .ok (es.all zE) w := by
  obtain ⟨i0, hi, _⟩ := info_parts infoD
  rw [run_equalIn_array w 9999 _ _ Tryz.underlying221 hi, cellsT_ent, eqItems_ents w 9997 es 16 hn (List.range 16) (by intro i hi; simpa using hi)]
  have e : ((List.range 16).all fun i => zE (es.getD i (⟨#[]⟩, 0, 0))) = es.all zE := ?_
  · rw [e]
  rw [Bool.eq_iff_iff]
  simp only [List.all_eq_true, List.mem_range]
  constructor
  · intro h e he
    obtain ⟨i, hi, rfl⟩ := List.getElem_of_mem he
    have := h i (by omega)
    rwa [List.getD, List.getElem?_eq_getElem hi] at this
  · intro h i hi
    rw [List.getD, List.getElem?_eq_getElem (by omega)]
    exact h _ (List.getElem_mem _)
set_option maxRecDepth 100000 in
set_option maxHeartbeats 1000000 in
theorem endsEmpty_big {H : Type} (base : Nat) (w : World) (b mb nn : Nat) (v : Value) (L : List (ByteArray × Int × Int)) (D : DataW H) (h : Dr base w b mb L.length nn v (entsI L) D) (hn : L.length ≤ 8192) (h16 : 16 ≤ L.length) :
    Calls Tryz.prog 90 #[.pointer (some ⟨b, 0, none⟩)] w fun e w' => e = .returned (.bool ((L.drop (L.length - 16)).all zE)) ∧ w' = w := by
  obtain ⟨g, cap, rfl, hg1, hg2, hcc⟩ := own_sliceD h.own (by omega)
  have c0 : w.cell? ⟨b, 0, none⟩ = some (.slice (some ⟨g, 0, none⟩) L.length cap) := (h.blk.cell 0).trans rfl
  have HD := hide h
  have hcap : L.length ≤ cap ∧ cap ≤ maxLen := by
    rcases h.own.2 with ⟨e, _⟩ | ⟨g', cp, cur, e, _, _, h1, h2, _⟩
    · cases e
    · injection e with _ _ e3
      subst e3
      exact ⟨h1, h2⟩
  obtain ⟨hc1, hc2⟩ := hcap
  unfold maxLen at hc2
  clear h
  obtain ⟨n, hnL⟩ : ∃ n, n = L.length := ⟨_, rfl⟩
  rw [← hnL] at c0 hc1 hn h16
  have HNL := hide hnL
  clear hnL
  have hq1 : ¬ cap = n - 16 := by omega
  have hq2 : (16 : Int) ≤ (n : Int) := by omega
  have hq3 : (n : Int) ≤ (cap : Int) := by omega
  go_enter Tryz.func90, Tryz.ntmps90
  have HRg := hide (show w.rangeAt g ((n - 16) * 3) (entsI (L.drop (n - 16))) from fun j u hj => by
    rw [← entsI_drop, List.getElem?_drop] at hj
    have h1 := hcc _ u hj
    rw [Addr.add_mid, Nat.zero_add] at h1
    exact h1)
  have HLn := hide (show (L.drop (n - 16)).length = 16 from by rw [List.length_drop, ← HNL.out]; omega)
  have HEq := hide (eqBlk w (L.drop (n - 16)) HLn.out)
  have HLC := hide (show (entsI (L.drop (n - 16))).length = 48 from by rw [entsI_len, HLn.out])
  clear hcc
  go_wp2_with (first | (refine wpList_arrayAt (by first | rfl | simp [Region.wanted, yielded]) 221 61 16 _ rfl (some ⟨g, (n - 16) * 3, none⟩) (n - (n - 16)) (cap - (n - 16)) rfl Tryz.underlying221 (by omega) ?_) | (refine wpList_load_midG (by first | rfl | simp [Region.wanted, yielded]) 221 _ rfl g ((n - 16) * 3) rfl (entsI (L.drop (n - 16))) _ HRg.out Tryz.underlying221 rfl (by rw [HLC.out]; exact info48) ?_) | (refine wpList_eqlW (by first | rfl | simp [Region.wanted, yielded]) 221 _ _ _ rfl (entsI (L.drop (n - 16))).toArray (entsI (zeroes 16)).toArray rfl rfl guardSb _ HEq.out ?_))
  go_ret
  rw [← HNL.out]
  exact ⟨rfl, rfl⟩
set_option maxRecDepth 100000 in
set_option maxHeartbeats 1000000 in
theorem endsEmpty_small {H : Type} (base : Nat) (w : World) (b mb nn n : Nat) (v : Value) (xs : List Value) (D : DataW H) (h : Dr base w b mb n nn v xs D) (h16 : n < 16) :
    Calls Tryz.prog 90 #[.pointer (some ⟨b, 0, none⟩)] w fun e w' => e = .returned (.bool false) ∧ w' = w := by
  obtain ⟨la, lc, rfl⟩ := ownD_shape h.own
  have c0 : w.cell? ⟨b, 0, none⟩ = some (.slice la n lc) := (h.blk.cell 0).trans rfl
  clear h
  have hq1 : ¬ (16 : Int) ≤ (n : Int) := by omega
  go_enter Tryz.func90, Tryz.ntmps90
  go_wp2
  go_ret
  exact ⟨rfl, rfl⟩
end Go.Proofs.YtplieplmhdfndaaGreatDoor
