/- The program's TellAns. -/
import Derived.Test.YtnljpaohkkdjjaaDoorTaF
import Derived.Lib.ConvBytes
import Derived.Lib.AtoiErrMem
namespace Go.Proofs.YtnljpaohkkdjjaaDoor
set_option linter.unusedVariables false
set_option linter.unusedSimpArgs false
open Go.RowKit

theorem Ln.past {B : Nat} {w0 w w' : World} {l : List UInt8} {v : Value} (h : Ln B w0 l v w) (hb : Below w.heap.size w w') : Ln B w0 l v w' :=
  ⟨own_below h.own hb, h.bel.trans (hb.mono h.siz), fun k o hk hn ho => by
    have h1 := h.kept k o hk hn ho
    rw [hb.block k (Array.getElem?_eq_some_iff.1 h1).1]
    exact h1, h.le⟩
theorem wp_conv_sbT {P : Program} {o : Oper} {a : Act} {w : World} {K : Act → World → Prop} {Q : Exit → Act → World → Prop} (src dst e : TypeId) (x : Operand) (ho : o.op = .convert src dst x) (s : ByteArray) (hx : a.eval x = .string s)
    (hs : P.underlying src = some .string) (hd : P.underlying dst = some (.slice e)) (he : P.underlying e = some (.int .u8))
    (h : K (a.put o.dst (.slice (some ⟨w.heap.size, 0, none⟩) s.size (grownCap w s.size 0 e))) (Go.Lib.bytesWorld w e s)) : o.wp P a w K Q := by
  unfold Oper.wp execOp
  simp only [ho, hx, Sem.run_bind, Sem.run_pure, Result.andThen_ok, Go.Lib.run_convert_string_bytes w src dst e s hs hd he]
  exact h
theorem rd_bytesT (w : World) (s : ByteArray) (hs : s.size ≤ maxLen) : Rd .u8 (Go.Lib.bytesWorld w 5 s) (.slice (some ⟨w.heap.size, 0, none⟩) s.size (grownCap w s.size 0 5)) (txI s.data.toList) := by
  have hl : (txI s.data.toList).length = s.size := by rw [txI_len]; rfl
  refine ⟨some ⟨w.heap.size, 0, none⟩, grownCap w s.size 0 5, by rw [hl], by rw [hl]; exact hs, fun _ => ⟨w.heap.size, 0, rfl, by rw [Go.Lib.bytesWorld_size]; omega, fun i hi => ?_⟩, by rw [hl]; exact grownCap_ge _ _ _ _, grownCap_le_maxLen _ _ _ _ hs⟩
  rw [hl] at hi
  rw [Nat.zero_add, Go.Lib.bytesWorld_cell w _ s i hi]
  unfold txI
  have hl : i < s.data.size := hi
  simp only [List.getD_eq_getElem?_getD, List.getElem?_map, Array.getElem?_toList, Array.getElem?_eq_getElem hl, Option.map_some, Option.getD_some]
theorem wp_append_strT {P : Program} {w : World} {o : Oper} {a : Act} {K : Act → World → Prop} {Q : Exit → Act → World → Prop} (sl x : Operand) (t u : TypeId)
    (ho : o.op = .call { callee := .builtin .append, args := #[sl, x], argTypes := #[t, u] })
    (base : Nat) (e : TypeId) (i : TypeInfo) (ht : P.underlying t = some (.slice e)) (hu : P.underlying u = some .string) (hi : P.info? e = some i) (hz : i.zero = some (.int .u8 0))
    (hsize : i.size = 1) (hby : i.bytes = 1)
    (v : Value) (n : Nat) (xs : List Value) (hs : a.eval sl = v) (hown : w.ownsRow base e 1 v n xs) (s : ByteArray) (hx : a.eval x = .string s)
    (h63 : n + s.size ≤ maxLen) (hbytes : n + s.size ≤ 140737488355328) (hbase : base ≤ w.heap.size)
    (h : ∀ v' w', w'.ownsRow base e 1 v' (n + s.size) (xs ++ Lib.strCells s) → w.grownBy w' v.ownBlock → K (a.put o.dst v') w') : o.wp P a w K Q := by
  obtain ⟨v', w', hr, h2, h3, h4⟩ := Lib.run_append_own_string (P := P) w base t u o.type e i ht hu hi hz hsize hby v n xs hown s h63 hbytes hbase
  unfold Oper.wp execOp
  simp only [ho, resolve, invoke, builtin, Sem.run_bind, Sem.run_pure, Result.andThen_ok, List.map_toArray, List.map_cons, List.map_nil, hs, hx, hr]
  exact h v' w' h2 h3
theorem blk_cellT {w : World} {b j : Nat} {C : Array Value} {t : TypeId} {fz : Nat × Nat} {v : Value} (h : w.heap[b]? = some (.cells C t fz)) (hj : C[j]? = some v) : w.cell? ⟨b, j, none⟩ = some v := (cell_of_row w b j C t fz h).trans hj
theorem one_cellD (w : World) (a : Value) (t : TypeId) : ∀ j u, [a][j]? = some u → (World.drew (w.alloc (.cells #[a] t))).cell? ((⟨w.heap.size, 0, none⟩ : Addr).add j) = some u := one_cell w a t
theorem one_keep {w w' : World} {b : Nat} {xs : List Value} (h : ∀ j u, xs[j]? = some u → w.cell? ((⟨b, 0, none⟩ : Addr).add j) = some u) (hb : Below w.heap.size w w') (hl : b < w.heap.size) : ∀ j u, xs[j]? = some u → w'.cell? ((⟨b, 0, none⟩ : Addr).add j) = some u := by
  intro j u hj
  have h1 := h j u hj
  rw [Addr.add_mid] at h1 ⊢
  exact (hb.cell (p := ⟨b, 0 + j, none⟩) hl).trans h1
theorem lit_str (l : List UInt8) : Lib.strCells (mk l) = Lib.byteCells l ∧ (mk l).size = l.length := ⟨strCells_mk l, mk_size l⟩
theorem Rd.keptT {w w' : World} {v : Value} {zs : List Int} {r : Option Nat} (h : Rd .u8 w v zs) (hg : w.grownBy w' r) (hne : ∀ b off n c, v = .slice (some ⟨b, off, none⟩) n c → some b ≠ r) : Rd .u8 w' v zs := by
  obtain ⟨a, cap, rfl, hm, hc, hcap⟩ := h
  refine ⟨a, cap, rfl, hm, fun h0 => ?_, hcap⟩
  obtain ⟨b, off, rfl, hlt, hcell⟩ := hc h0
  refine ⟨b, off, rfl, Nat.lt_of_lt_of_le hlt hg.size, fun i hi => ?_⟩
  rw [← hcell i hi]
  exact cell_sameT (hg.block b hlt (hne b off _ _ rfl))
set_option maxRecDepth 100000 in
set_option maxHeartbeats 20000000 in
theorem implTA_any (cd nn : Int) (dv : Value) (zs : List UInt8) (s0 s1 s2 s3 s4 s5 s6 s7 s8 s9 : Int) (nv : Value) (L : List EK) (q0 q1 q2 q3 q4 q5 q6 q7 q8 q9 : Int) (w : World) (hd : Rd .u8 w dv (txI zs)) (hn : RdE w nv L) (hcd : In64 cd) (hnn : In64 nn) (hss : ∀ z ∈ [s0, s1, s2, s3, s4, s5, s6, s7, s8, s9], In64 z) (hus : ∀ z ∈ [q0, q1, q2, q3, q4, q5, q6, q7, q8, q9], In64 z) (hL : ∀ e ∈ L, In64 e.2.1 ∧ In64 e.2.2) (hzl : zs.length ≤ 1048576) (hll : L.length ≤ 1048576) (hsk : sizK L ≤ 1048576)
    (htab : Lib.TabBelow Tryd.prog w.heap.size w "internal/strconv.uint64pow10" .u64 Lib.pow10Tab) :
    Calls Tryd.prog 7 #[.agg #[.int .i64 cd, .int .i64 nn, dv, .int .i64 s0, .int .i64 s1, .int .i64 s2, .int .i64 s3, .int .i64 s4, .int .i64 s5, .int .i64 s6, .int .i64 s7, .int .i64 s8, .int .i64 s9, nv, .int .i64 q0, .int .i64 q1, .int .i64 q2, .int .i64 q3, .int .i64 q4, .int .i64 q5, .int .i64 q6, .int .i64 q7, .int .i64 q8, .int .i64 q9]] w fun e w' => e = .returned (.string (mk (tellL cd nn zs [s0, s1, s2, s3, s4, s5, s6, s7, s8, s9] L [q0, q1, q2, q3, q4, q5, q6, q7, q8, q9]))) ∧ Below w.heap.size w w' := by
  obtain ⟨da, dc, rfl⟩ : ∃ a cap, dv = .slice a zs.length cap := by obtain ⟨a, cap, h1, _⟩ := hd; rw [txI_len] at h1; exact ⟨a, cap, h1⟩
  obtain ⟨na, nc, rfl⟩ : ∃ a cap, nv = .slice a L.length cap := by obtain ⟨a, cap, h1, _⟩ := hn; exact ⟨a, cap, h1⟩
  obtain ⟨i0, hi, hz0, hz1, hz2⟩ := info_parts infoBT
  have KB := hide (Blk.new w #[.int .i64 cd, .int .i64 nn, .slice da zs.length dc, .int .i64 s0, .int .i64 s1, .int .i64 s2, .int .i64 s3, .int .i64 s4, .int .i64 s5, .int .i64 s6, .int .i64 s7, .int .i64 s8, .int .i64 s9, .slice na L.length nc, .int .i64 q0, .int .i64 q1, .int .i64 q2, .int .i64 q3, .int .i64 q4, .int .i64 q5, .int .i64 q6, .int .i64 q7, .int .i64 q8, .int .i64 q9] 36)
  have BW := hide (show Below w.heap.size w (w.alloc (.cells #[.int .i64 cd, .int .i64 nn, .slice da zs.length dc, .int .i64 s0, .int .i64 s1, .int .i64 s2, .int .i64 s3, .int .i64 s4, .int .i64 s5, .int .i64 s6, .int .i64 s7, .int .i64 s8, .int .i64 s9, .slice na L.length nc, .int .i64 q0, .int .i64 q1, .int .i64 q2, .int .i64 q3, .int .i64 q4, .int .i64 q5, .int .i64 q6, .int .i64 q7, .int .i64 q8, .int .i64 q9] 36)) from (Below.refl _ _).alloc (Nat.le_refl _) _)
  go_enter Tryd.func7, Tryd.ntmps7
  go_upto_region 1 with fail
  generalize hW : w.alloc (.cells #[.int .i64 cd, .int .i64 nn, .slice da zs.length dc, .int .i64 s0, .int .i64 s1, .int .i64 s2, .int .i64 s3, .int .i64 s4, .int .i64 s5, .int .i64 s6, .int .i64 s7, .int .i64 s8, .int .i64 s9, .slice na L.length nc, .int .i64 q0, .int .i64 q1, .int .i64 q2, .int .i64 q3, .int .i64 q4, .int .i64 q5, .int .i64 q6, .int .i64 q7, .int .i64 q8, .int .i64 q9] 36) = W at KB BW ⊢
  have hbx : w.heap.size < W.heap.size := KB.out.lt
  have HD := hide hd
  have HN := hide hn
  have HT := hide htab
  clear hW hd hn htab
  obtain ⟨B, hB⟩ : ∃ B, B = w.heap.size := ⟨_, rfl⟩
  rw [← hB] at KB hbx HT ⊢
  have HBE := hide hB
  have HBW := hide (show Below B w W from by rw [hB]; exact BW.out)
  have HDx := hide (fun (w' : World) (h : Below B W w') => HD.out.below (show Below w.heap.size w w' from by rw [← hB]; exact HBW.out.trans h))
  have HNx := hide (fun (w' : World) (h : Below B W w') => HN.out.below (show Below w.heap.size w w' from by rw [← hB]; exact HBW.out.trans h))
  have HDl := hide (show ∀ b off n c, (Value.slice da zs.length dc) = .slice (some ⟨b, off, none⟩) n c → 0 < zs.length → b < B from fun b off n c e h0 => by
    obtain ⟨b', off', cap', e', hb', _⟩ := HD.out.partsC (by rw [txI_len]; exact h0)
    rw [e] at e'
    injection e' with e1 _ _
    injection e1 with e1
    injection e1 with e1 _ _
    rw [e1, hB]
    exact hb')
  clear hB
  have c0 : W.cell? ⟨B, 0, none⟩ = some (.int .i64 cd) := (KB.out.cell 0).trans rfl
  have c1 : W.cell? ⟨B, 1, none⟩ = some (.int .i64 nn) := (KB.out.cell 1).trans rfl
  have KN := hide (Blk.new W #[.int .i64 cd, .int .i64 nn] 3)
  have LN := hide (Ln.alloc (Ln.start (l := []) (v := .slice none 0 0) (World.ownsRow_nil W B 5 1) (Nat.le_of_lt hbx)) (.cells #[.int .i64 cd, .int .i64 nn] 3))
  have h2 : ∀ z ∈ [cd, nn], -9223372036854775808 ≤ z ∧ z ≤ 9223372036854775807 := fun z hz => by
    simp at hz
    rcases hz with rfl | rfl
    · exact hcd
    · exact hnn
  go_wp2_with (go_at_call 18; fail)
  refine (tellNums_any B 32 (.slice none 0 0) [] W.heap.size [cd, nn] _ LN.out.own LN.out.siz KN.out (by simp) h2 (by simp) ((HT.out.on HBW.out).on LN.out.bel)).mono ?_
  rintro e w1 ⟨v1, rfl, k1⟩
  have L1 := hide (show Ln B W (Lib.itoa cd ++ 32 :: Lib.itoa nn) v1 w1 from LN.out.call k1)
  clear k1 KN LN c0 c1
  have HK := hide (fun (w' : World) (l : List UInt8) (v : Value) (h : Ln B W l v w') => h.blk (fz := (0, 0)) KB.out (by decide))
  have l1b : (Lib.itoa cd ++ 32 :: Lib.itoa nn).length ≤ 100 := by
    have h1 := Lib.itoa_length_le cd hcd.1 hcd.2
    have h2 := Lib.itoa_length_le nn hnn.1 hnn.2
    simp
    omega
  generalize hl1 : Lib.itoa cd ++ 32 :: Lib.itoa nn = l1 at L1 l1b
  have HL1 := hide hl1
  clear hl1
  have c2 : w1.cell? ⟨B, 2, none⟩ = some (.slice da zs.length dc) := blk_cellT (HK.out _ _ _ L1.out) rfl
  go_upto_if 17 with fail
  go_cut [3] from 14 to 22 (fun t wx => Hid (Ln B W (l1 ++ (if 0 < zs.length then 32 :: 61 :: wordL zs else [])) t wx))
  case first =>
    by_cases hz : 0 < zs.length
    · have hzI : (0 : Int) < (zs.length : Int) := by omega
      go_wp2_with fail
      refine wp_region_noPanic ?_
      refine wp_region_held_drew (S := fun w' => w'.cell? ⟨B, 2, none⟩ = some (.slice da zs.length dc)) (by kernel_rfl) c2 (fun hH => ?_)
      refine wpAnyH_take (i := 0) (oi := _) (v := v1) rfl (by kernel_rfl) (by kernel_rfl) (by kernel_rfl) (fun _ _ _ h => h) (Or.inl ⟨by rfl, fun w' hw' => by go_simp⟩) hH ?_
      try simp only [Act.put, List.getElem_toArray, List.getElem_cons_zero, List.getElem_cons_succ, List.setIfInBounds_toArray, List.set_cons_zero, List.set_cons_succ]
      refine wpAnyH_take (i := 2) (oi := _) (v := .pointer (some ⟨B, 2, none⟩)) rfl (by kernel_rfl) (by kernel_rfl) (by kernel_rfl) (fun _ _ _ h => h) (Or.inl ⟨by rfl, fun w' hw' => by go_simp⟩) hH ?_
      try simp only [Act.put, List.getElem_toArray, List.getElem_cons_zero, List.getElem_cons_succ, List.setIfInBounds_toArray, List.set_cons_zero, List.set_cons_succ]
      refine wpAnyH_take (i := 3) (oi := _) (v := .slice da zs.length dc) rfl (by kernel_rfl) (by kernel_rfl) (by kernel_rfl) (fun _ _ _ h => h) (Or.inl ⟨by rfl, fun w' hw' => by go_simp⟩) hH ?_
      try simp only [Act.put, List.getElem_toArray, List.getElem_cons_zero, List.getElem_cons_succ, List.setIfInBounds_toArray, List.set_cons_zero, List.set_cons_succ]
      refine wpAnyH_ready (rs := [1]) (by kernel_rfl) (by simp) ?_
      refine AllReadyH.cons (o := _) rfl (fun K hK => ?_) AllReadyH.nil
      rw [if_pos (by rfl)]
      refine wp_append_strT (.tmp 18) (.const (.string ⟨#[32, 61]⟩)) 22 9 rfl B 5 i0 Tryd.underlying22 Tryd.underlying9 hi hz0 hz1 hz2 _ _ _ rfl L1.out.drew.own ⟨#[32, 61]⟩ rfl (by show _ + 2 ≤ maxLen; unfold maxLen; omega) (by show _ + 2 ≤ _; omega) L1.out.drew.siz ?_
      intro v2 w2 o2 g2
      have L2 := hide (Ln.app (l2 := [32, 61]) (n := 2) (xs := Lib.byteCells [32, 61]) L1.out.drew ⟨rfl, rfl⟩ o2 g2)
      refine hK.out _ _ (blk_cellT (HK.out _ _ _ L2.out) rfl) (fun h4 => ?_)
      clear hK K o2 g2 hH
      try simp only [Act.put, List.getElem_toArray, List.getElem_cons_zero, List.getElem_cons_succ, List.setIfInBounds_toArray, List.set_cons_zero, List.set_cons_succ]
      refine wpAnyH_ready (rs := [4]) (by kernel_rfl) (by simp) ?_
      refine AllReadyH.cons (o := _) rfl (fun K hK => ?_) AllReadyH.nil
      go_simp
      refine (tellWord_any B v2 (.slice da zs.length dc) (l1 ++ [32, 61]) zs w2 L2.out.own L2.out.siz (HDx.out w2 L2.out.bel) (fun b off n c e e2 => by
        have h1 := HDl.out b off n c e hz
        have h2 := (L2.out.lt e2.symm).1
        omega) (by rw [List.length_append]; simp; omega) hzl).mono ?_
      rintro e w3 ⟨v3, rfl, k3⟩
      have L3 := hide (L2.out.call k3)
      refine hK.out _ _ (blk_cellT (HK.out _ _ _ L3.out) rfl) (fun h5 => ?_)
      clear hK K k3 h4
      try simp only [Act.put, List.getElem_toArray, List.getElem_cons_zero, List.getElem_cons_succ, List.setIfInBounds_toArray, List.set_cons_zero, List.set_cons_succ]
      refine wpAnyH_take (i := 5) (oi := _) (v := v3) rfl (by kernel_rfl) (by kernel_rfl) (by kernel_rfl) (fun _ _ _ h => h) (Or.inl ⟨by rfl, fun w' hw' => by go_simp⟩) h5 ?_
      try simp only [Act.put, List.getElem_toArray, List.getElem_cons_zero, List.getElem_cons_succ, List.setIfInBounds_toArray, List.set_cons_zero, List.set_cons_succ]
      refine wpAnyH_done (by kernel_rfl) (NoPanic.normal ?_) _
      clear h5
      go_wp2_with fail
      go_meet
      have h := L3.out
      rw [List.append_assoc] at h
      rw [if_pos hz]
      exact h
    · have hzI : ¬ (0 : Int) < (zs.length : Int) := by omega
      go_wp2_with fail
      go_meet
      rw [if_neg hz, List.append_nil]
      exact L1.out
  case rest =>
  have l2b : (l1 ++ (if 0 < zs.length then 32 :: 61 :: wordL zs else [])).length ≤ 3145900 := by
    have h1 := word_len zs
    rw [List.length_append]
    split
    · simp only [List.length_cons]; omega
    · simp only [List.length_nil]; omega
  generalize hl2 : l1 ++ (if 0 < zs.length then 32 :: 61 :: wordL zs else []) = l2 at hcut l2b
  have HL2 := hide hl2
  have L2 := hcut
  clear hcut hl2 c2 L1
  have c3 : wc.cell? ⟨B, 3, none⟩ = some (.int .i64 s0) := blk_cellT (HK.out _ _ _ L2.out) rfl
  have c4 : wc.cell? ⟨B, 4, none⟩ = some (.int .i64 s1) := blk_cellT (HK.out _ _ _ L2.out) rfl
  have c5 : wc.cell? ⟨B, 5, none⟩ = some (.int .i64 s2) := blk_cellT (HK.out _ _ _ L2.out) rfl
  have c6 : wc.cell? ⟨B, 6, none⟩ = some (.int .i64 s3) := blk_cellT (HK.out _ _ _ L2.out) rfl
  have c7 : wc.cell? ⟨B, 7, none⟩ = some (.int .i64 s4) := blk_cellT (HK.out _ _ _ L2.out) rfl
  have c8 : wc.cell? ⟨B, 8, none⟩ = some (.int .i64 s5) := blk_cellT (HK.out _ _ _ L2.out) rfl
  have c9 : wc.cell? ⟨B, 9, none⟩ = some (.int .i64 s6) := blk_cellT (HK.out _ _ _ L2.out) rfl
  have c10 : wc.cell? ⟨B, 10, none⟩ = some (.int .i64 s7) := blk_cellT (HK.out _ _ _ L2.out) rfl
  have c11 : wc.cell? ⟨B, 11, none⟩ = some (.int .i64 s8) := blk_cellT (HK.out _ _ _ L2.out) rfl
  have c12 : wc.cell? ⟨B, 12, none⟩ = some (.int .i64 s9) := blk_cellT (HK.out _ _ _ L2.out) rfl
  have KS := hide (Blk.new wc #[.int .i64 s0, .int .i64 s1, .int .i64 s2, .int .i64 s3, .int .i64 s4, .int .i64 s5, .int .i64 s6, .int .i64 s7, .int .i64 s8, .int .i64 s9] 32)
  have LS2 := hide (L2.out.alloc (.cells #[.int .i64 s0, .int .i64 s1, .int .i64 s2, .int .i64 s3, .int .i64 s4, .int .i64 s5, .int .i64 s6, .int .i64 s7, .int .i64 s8, .int .i64 s9] 32))
  go_upto_if 27 with (refine wpList_neqT rfl 32 _ _ _ rfl #[.int .i64 s0, .int .i64 s1, .int .i64 s2, .int .i64 s3, .int .i64 s4, .int .i64 s5, .int .i64 s6, .int .i64 s7, .int .i64 s8, .int .i64 s9] #[.int .i64 0, .int .i64 0, .int .i64 0, .int .i64 0, .int .i64 0, .int .i64 0, .int .i64 0, .int .i64 0, .int .i64 0, .int .i64 0] rfl rfl guardS (allZ [s0, s1, s2, s3, s4, s5, s6, s7, s8, s9]) (eqZS _ s0 s1 s2 s3 s4 s5 s6 s7 s8 s9) ?_)
  try simp only [Act.put, List.getElem_toArray, List.getElem_cons_zero, List.getElem_cons_succ, List.setIfInBounds_toArray, List.set_cons_zero, List.set_cons_succ]
  go_cut [3] from 4 to 52 (fun t wx => Hid (Ln B W (l2 ++ (if allZ [s0, s1, s2, s3, s4, s5, s6, s7, s8, s9] then [] else 32 :: 115 :: 116 :: 97 :: 116 :: 58 :: joinL 58 [s0, s1, s2, s3, s4, s5, s6, s7, s8, s9])) t wx))
  case first =>
    generalize hbz : allZ [s0, s1, s2, s3, s4, s5, s6, s7, s8, s9] = bz
    cases bz with
    | true =>
      go_wp2_with fail
      go_meet
      rw [if_pos hbz, List.append_nil]
      exact LS2.out
    | false =>
      clear c3 c4 c5 c6 c7 c8 c9 c10 c11 c12
      go_wp2_with (first | (at_builtin; refine Lib.wpList_append_own_string _ rfl (.tmp 28) (.const (.string ⟨#[32, 115, 116, 97, 116, 58]⟩)) 22 9 rfl B 5 i0 Tryd.underlying22 Tryd.underlying9 hi hz0 hz1 hz2 _ _ _ rfl LS2.out.own ⟨#[32, 115, 116, 97, 116, 58]⟩ rfl (by show _ + 6 ≤ maxLen; unfold maxLen; omega) (by show _ + 6 ≤ _; omega) LS2.out.siz ?_; intro v2 w2 o2 g2 p2; have LA0 := hide (Ln.app (l2 := [32, 115, 116, 97, 116, 58]) (n := 6) (xs := Lib.byteCells [32, 115, 116, 97, 116, 58]) LS2.out.self ⟨rfl, rfl⟩ o2 g2); clear o2 g2 p2; have d0 : w2.cell? ⟨wc.heap.size, 0, none⟩ = some (.int .i64 s0) := blk_cellT (LA0.out.blk (fz := (0, 0)) KS.out (by decide)) rfl; have d1 : w2.cell? ⟨wc.heap.size, 1, none⟩ = some (.int .i64 s1) := blk_cellT (LA0.out.blk (fz := (0, 0)) KS.out (by decide)) rfl; have d2 : w2.cell? ⟨wc.heap.size, 2, none⟩ = some (.int .i64 s2) := blk_cellT (LA0.out.blk (fz := (0, 0)) KS.out (by decide)) rfl; have d3 : w2.cell? ⟨wc.heap.size, 3, none⟩ = some (.int .i64 s3) := blk_cellT (LA0.out.blk (fz := (0, 0)) KS.out (by decide)) rfl; have d4 : w2.cell? ⟨wc.heap.size, 4, none⟩ = some (.int .i64 s4) := blk_cellT (LA0.out.blk (fz := (0, 0)) KS.out (by decide)) rfl; have d5 : w2.cell? ⟨wc.heap.size, 5, none⟩ = some (.int .i64 s5) := blk_cellT (LA0.out.blk (fz := (0, 0)) KS.out (by decide)) rfl; have d6 : w2.cell? ⟨wc.heap.size, 6, none⟩ = some (.int .i64 s6) := blk_cellT (LA0.out.blk (fz := (0, 0)) KS.out (by decide)) rfl; have d7 : w2.cell? ⟨wc.heap.size, 7, none⟩ = some (.int .i64 s7) := blk_cellT (LA0.out.blk (fz := (0, 0)) KS.out (by decide)) rfl; have d8 : w2.cell? ⟨wc.heap.size, 8, none⟩ = some (.int .i64 s8) := blk_cellT (LA0.out.blk (fz := (0, 0)) KS.out (by decide)) rfl; have d9 : w2.cell? ⟨wc.heap.size, 9, none⟩ = some (.int .i64 s9) := blk_cellT (LA0.out.blk (fz := (0, 0)) KS.out (by decide)) rfl) | (go_at_call 18; fail))
      have LA := hide ((LS2.out.call LA0.out).alloc (.cells #[.int .i64 s0, .int .i64 s1, .int .i64 s2, .int .i64 s3, .int .i64 s4, .int .i64 s5, .int .i64 s6, .int .i64 s7, .int .i64 s8, .int .i64 s9] 3))
      refine (tellNums_any B 58 v2 (l2 ++ [32, 115, 116, 97, 116, 58]) w2.heap.size [s0, s1, s2, s3, s4, s5, s6, s7, s8, s9] _ LA.out.own LA.out.siz (Blk.new w2 #[.int .i64 s0, .int .i64 s1, .int .i64 s2, .int .i64 s3, .int .i64 s4, .int .i64 s5, .int .i64 s6, .int .i64 s7, .int .i64 s8, .int .i64 s9] 3) (by simp) hss (by rw [List.length_append]; simp; omega) ((HT.out.on HBW.out).on LA.out.bel)).mono ?_
      rintro e w3 ⟨v3, rfl, k3⟩
      have L3 := hide (LA.out.call k3)
      clear k3 d0 d1 d2 d3 d4 d5 d6 d7 d8 d9
      go_wp2_with fail
      go_meet
      have h := L3.out
      rw [List.append_assoc] at h
      rw [if_neg (by rw [hbz]; decide)]
      exact h
  case rest =>
  clear c3 c4 c5 c6 c7 c8 c9 c10 c11 c12 KS LS2
  have l3b : (l2 ++ (if allZ [s0, s1, s2, s3, s4, s5, s6, s7, s8, s9] then [] else 32 :: 115 :: 116 :: 97 :: 116 :: 58 :: joinL 58 [s0, s1, s2, s3, s4, s5, s6, s7, s8, s9])).length ≤ 3146900 := by
    have lj := join_bound (m := 58) (zs := [s0, s1, s2, s3, s4, s5, s6, s7, s8, s9]) hss
    rw [List.length_append]
    split
    · simp only [List.length_nil]; omega
    · simp only [List.length_cons, List.length_nil] at lj ⊢; omega
  generalize hl3 : l2 ++ (if allZ [s0, s1, s2, s3, s4, s5, s6, s7, s8, s9] then [] else 32 :: 115 :: 116 :: 97 :: 116 :: 58 :: joinL 58 [s0, s1, s2, s3, s4, s5, s6, s7, s8, s9]) = l3 at hcut l3b
  have HL3 := hide hl3
  have L3 := hcut
  clear hcut hl3
  have c13 : wc.cell? ⟨B, 13, none⟩ = some (.slice na L.length nc) := blk_cellT (HK.out _ _ _ L3.out) rfl
  go_wp2_with fail
  clear c13
  go_loopw [3, 56] (fun t i wr => ∃ k : Nat, k ≤ L.length ∧ i = .int .i64 (k : Int) ∧ Hid (Ln B W (l3 ++ namesL (L.take k)) t wr)) (fun _ i _ => L.length - (intOf i).toNat)
  case atStart => exact ⟨0, Nat.zero_le _, rfl, by simpa [namesL] using L3⟩
  case round =>
    obtain ⟨k, hk, rfl, LK⟩ := hrel
    obtain ⟨lk, hlk⟩ : ∃ lk, lk = l3 ++ namesL (L.take k) := ⟨_, rfl⟩
    rw [← hlk] at LK
    have HLK := hide hlk
    have lkb : lk.length ≤ 60000000 := by
      rw [hlk, List.length_append]
      have h1 := namesL_len (L.take k) (fun e he => hL e (List.mem_of_mem_take he))
      have h2 := sizK_take L k
      have h3 : (L.take k).length ≤ L.length := List.length_take_le' _ _
      omega
    clear hlk
    by_cases hlt : k < L.length
    · obtain ⟨e, he⟩ : ∃ x, L[k]? = some x := ⟨_, List.getElem?_eq_getElem hlt⟩
      obtain ⟨a', cap', ee, hrd⟩ := HNx.out wr LK.out.bel
      injection ee with ee1 _ ee3
      obtain ⟨bn, off, en, hbn, hcells⟩ := hrd (by omega)
      subst ee3
      rw [en] at ee1
      subst ee1
      obtain ⟨d0, d1, d2⟩ := hcells k e he
      have HE := hide he
      have h64 := hL e (List.mem_of_getElem? he)
      have hes := sizK_at he
      obtain ⟨nm, ino, kd⟩ := e
      simp only at d0 d1 d2 h64 hes
      clear hcells hrd he en
      go_upto_region 11 with fail
      have KE := hide (Blk.new wr #[.string nm, .int .i64 ino, .int .i64 kd] 47)
      have L4 := hide (LK.out.alloc (.cells #[.string nm, .int .i64 ino, .int .i64 kd] 47))
      generalize hW3 : wr.alloc (.cells #[.string nm, .int .i64 ino, .int .i64 kd] 47) = W3 at KE L4 ⊢
      have hbd : wr.heap.size < W3.heap.size := KE.out.lt
      clear hW3 d0 d1 d2
      generalize hbde : wr.heap.size = bd at KE hbd ⊢
      clear hbde
      have LS := hide L4.out.self
      have hnm : nm.size ≤ maxLen := by unfold maxLen; omega
      have hnl : nm.data.toList.length = nm.size := rfl
      obtain ⟨ux, hux⟩ : ∃ ux : Value, ux = u3 := ⟨_, rfl⟩
      rw [← hux] at LS L4 ⊢
      clear hux
      go_cut [3] from 60 to 66 (fun t wx => Hid (Ln B W3 ((lk ++ [32]) ++ wordL nm.data.toList) t wx))
      case first =>
        go_wp2_with fail
        refine wp_region_noPanic ?_
        refine wp_region_held_drew (S := fun w' => w'.heap[bd]? = some (.cells #[.string nm, .int .i64 ino, .int .i64 kd] 47 (0, 0))) (by kernel_rfl) KE.out (fun hH => ?_)
        refine wpAnyH_take (i := 0) (oi := _) (v := ux) rfl (by kernel_rfl) (by kernel_rfl) (by kernel_rfl) (fun _ _ _ h => h) (Or.inl ⟨by rfl, fun w' hw' => by go_simp⟩) hH ?_
        try simp only [Act.put, List.getElem_toArray, List.getElem_cons_zero, List.getElem_cons_succ, List.setIfInBounds_toArray, List.set_cons_zero, List.set_cons_succ]
        refine wpAnyH_take (i := 3) (oi := _) (v := .pointer (some ⟨bd, 0, none⟩)) rfl (by kernel_rfl) (by kernel_rfl) (by kernel_rfl) (fun _ _ _ h => h) (Or.inl ⟨by rfl, fun w' hw' => by go_simp⟩) hH ?_
        try simp only [Act.put, List.getElem_toArray, List.getElem_cons_zero, List.getElem_cons_succ, List.setIfInBounds_toArray, List.set_cons_zero, List.set_cons_succ]
        refine wpAnyH_take (i := 4) (oi := _) (v := .string nm) rfl (by kernel_rfl) (by kernel_rfl) (by kernel_rfl) (fun _ _ _ h => h) (Or.inl ⟨by rfl, fun w' hw' => by have hc : w'.cell? ⟨bd, 0, none⟩ = some (.string nm) := blk_cellT hw' rfl; clear hw'; go_simp⟩) hH ?_
        try simp only [Act.put, List.getElem_toArray, List.getElem_cons_zero, List.getElem_cons_succ, List.setIfInBounds_toArray, List.set_cons_zero, List.set_cons_succ]
        refine wpAnyH_ready (rs := [1, 5]) (by kernel_rfl) (by simp) ?_
        refine AllReadyH.cons (o := _) rfl (fun K hK => ?_) (AllReadyH.cons (o := _) rfl (fun K hK => ?_) AllReadyH.nil)
        · go_simp
          obtain ⟨Y1, hY1, x1, c1, z1⟩ : ∃ Y : World, Y = World.drew (W3.alloc (.cells #[.int .u8 32] 5)) ∧ (Ln B W3 lk ux Y) ∧ (∀ j u, [Value.int .u8 32][j]? = some u → Y.cell? ((⟨W3.heap.size, 0, none⟩ : Addr).add j) = some u) ∧ (W3.heap.size < Y.heap.size) := ⟨_, rfl, (LS.out.alloc _).drew, one_cellD W3 _ _, by show _ < (W3.alloc _).heap.size; simp⟩
          show K _ (World.drew (W3.alloc (.cells #[.int .u8 32] 5)))
          rw [← hY1]
          have X1 := hide x1
          have C1 := hide c1
          clear x1 c1 hY1
          refine hK.out _ _ (X1.out.blk (fz := (0, 0)) KE.out (by decide)) (fun h1 => ?_)
          clear hK K
          try simp only [Act.put, List.getElem_toArray, List.getElem_cons_zero, List.getElem_cons_succ, List.setIfInBounds_toArray, List.set_cons_zero, List.set_cons_succ]
          refine wpAnyH_ready (rs := [2, 5]) (by kernel_rfl) (by simp) ?_
          refine AllReadyH.cons (o := _) rfl (fun K hK => ?_) (AllReadyH.cons (o := _) rfl (fun K hK => ?_) AllReadyH.nil)
          · skip
            rw [if_pos (by rfl)]
            refine wp_append_own_atT (.tmp 60) (.tmp 61) 22 rfl B 5 i0 (.int .u8 0) 1 1 Tryd.underlying22 hi hz0 hz1 hz2 rfl (by decide) _ _ _ rfl X1.out.own _ 1 1 [.int .u8 32] rfl rfl C1.out (one_one _) (by unfold maxLen; omega) (by omega) X1.out.siz ?_
            intro v2 w2 o2 g2 p2
            have LA := hide (Ln.app (l2 := [32]) (n := 1) (xs := [.int .u8 32]) X1.out ⟨rfl, rfl⟩ o2 g2)
            refine hK.out _ _ (LA.out.blk (fz := (0, 0)) KE.out (by decide)) (fun h2 => ?_)
            clear hK K o2 g2 p2
            try simp only [Act.put, List.getElem_toArray, List.getElem_cons_zero, List.getElem_cons_succ, List.setIfInBounds_toArray, List.set_cons_zero, List.set_cons_succ]
            refine wpAnyH_ready (rs := [5]) (by kernel_rfl) (by simp) ?_
            refine AllReadyH.cons (o := _) rfl (fun K hK => ?_) AllReadyH.nil
            rw [if_pos (by rfl)]
            refine wp_conv_sbT 9 22 5 _ rfl nm rfl Tryd.underlying9 Tryd.underlying22 Tryd.underlying5 ?_
            obtain ⟨Y2, hY2, lb, rt, sz⟩ : ∃ Y : World, Y = Go.Lib.bytesWorld w2 5 nm ∧ (Ln B W3 (lk ++ [32]) v2 Y) ∧ (Rd .u8 Y (.slice (some ⟨w2.heap.size, 0, none⟩) nm.size (grownCap w2 nm.size 0 5)) (txI nm.data.toList)) ∧ (w2.heap.size < Y.heap.size) := ⟨_, rfl, LA.out.past (Go.Lib.bytesWorld_below w2 5 nm), rd_bytesT w2 nm hnm, by rw [Go.Lib.bytesWorld_size]; omega⟩
            show K _ (Go.Lib.bytesWorld w2 5 nm)
            rw [← hY2]
            have LB := hide lb
            have RT := hide rt
            generalize grownCap w2 nm.size 0 5 = gc at rt RT ⊢
            clear lb rt hY2
            refine hK.out _ _ (LB.out.blk (fz := (0, 0)) KE.out (by decide)) (fun h3 => ?_)
            clear hK K
            try simp only [Act.put, List.getElem_toArray, List.getElem_cons_zero, List.getElem_cons_succ, List.setIfInBounds_toArray, List.set_cons_zero, List.set_cons_succ]
            refine wpAnyH_ready (rs := [6]) (by kernel_rfl) (by simp) ?_
            refine AllReadyH.cons (o := _) rfl (fun K hK => ?_) AllReadyH.nil
            go_simp
            refine (tellWord_any B v2 _ (lk ++ [32]) nm.data.toList _ LB.out.own LB.out.siz RT.out (fun b off n c e e2 => by injection e with e1 _ _; injection e1 with e1; injection e1 with e1 _ _; have := (LA.out.lt e2.symm).2; omega) (by rw [List.length_append]; simp only [List.length_cons, List.length_nil]; omega) (by rw [hnl]; omega)).mono ?_
            rintro e w9 ⟨v9, rfl, k9⟩
            have L9 := hide (LB.out.call k9)
            refine hK.out _ _ (L9.out.blk (fz := (0, 0)) KE.out (by decide)) (fun hF => ?_)
            clear hK K
            try simp only [Act.put, List.getElem_toArray, List.getElem_cons_zero, List.getElem_cons_succ, List.setIfInBounds_toArray, List.set_cons_zero, List.set_cons_succ]
            refine wpAnyH_take (i := 7) (oi := _) (v := v9) rfl (by kernel_rfl) (by kernel_rfl) (by kernel_rfl) (fun _ _ _ h => h) (Or.inl ⟨by rfl, fun w' hw' => by go_simp⟩) hF ?_
            try simp only [Act.put, List.getElem_toArray, List.getElem_cons_zero, List.getElem_cons_succ, List.setIfInBounds_toArray, List.set_cons_zero, List.set_cons_succ]
            refine wpAnyH_done (by kernel_rfl) (NoPanic.normal ?_) _
            clear hF
            go_wp2_with fail
            go_meet
            exact L9.out
          · skip
            rw [if_pos (by rfl)]
            refine wp_conv_sbT 9 22 5 _ rfl nm rfl Tryd.underlying9 Tryd.underlying22 Tryd.underlying5 ?_
            obtain ⟨Y2, hY2, lb, rt, sz, cY2⟩ : ∃ Y : World, Y = Go.Lib.bytesWorld Y1 5 nm ∧ (Ln B W3 lk ux Y) ∧ (Rd .u8 Y (.slice (some ⟨Y1.heap.size, 0, none⟩) nm.size (grownCap Y1 nm.size 0 5)) (txI nm.data.toList)) ∧ (Y1.heap.size < Y.heap.size) ∧ (∀ j u, [Value.int .u8 32][j]? = some u → Y.cell? ((⟨W3.heap.size, 0, none⟩ : Addr).add j) = some u) := ⟨_, rfl, X1.out.past (Go.Lib.bytesWorld_below Y1 5 nm), rd_bytesT Y1 nm hnm, by rw [Go.Lib.bytesWorld_size]; omega, one_keep C1.out (Go.Lib.bytesWorld_below Y1 5 nm) z1⟩
            show K _ (Go.Lib.bytesWorld Y1 5 nm)
            rw [← hY2]
            have LB := hide lb
            have RT := hide rt
            have CY2 := hide cY2
            clear cY2
            generalize grownCap Y1 nm.size 0 5 = gc at rt RT ⊢
            clear lb rt hY2
            refine hK.out _ _ (LB.out.blk (fz := (0, 0)) KE.out (by decide)) (fun h2 => ?_)
            clear hK K
            try simp only [Act.put, List.getElem_toArray, List.getElem_cons_zero, List.getElem_cons_succ, List.setIfInBounds_toArray, List.set_cons_zero, List.set_cons_succ]
            refine wpAnyH_ready (rs := [2]) (by kernel_rfl) (by simp) ?_
            refine AllReadyH.cons (o := _) rfl (fun K hK => ?_) AllReadyH.nil
            rw [if_pos (by rfl)]
            refine wp_append_own_atT (.tmp 60) (.tmp 61) 22 rfl B 5 i0 (.int .u8 0) 1 1 Tryd.underlying22 hi hz0 hz1 hz2 rfl (by decide) _ _ _ rfl LB.out.own _ 1 1 [.int .u8 32] rfl rfl CY2.out (one_one _) (by unfold maxLen; omega) (by omega) LB.out.siz ?_
            intro v2 w2 o2 g2 p2
            have LA := hide (Ln.app (l2 := [32]) (n := 1) (xs := [.int .u8 32]) LB.out ⟨rfl, rfl⟩ o2 g2)
            have RT2 := hide (RT.out.keptT g2 (fun b off n c e e2 => by injection e with e1 _ _; injection e1 with e1; injection e1 with e1 _ _; have := (X1.out.lt e2.symm).2; omega))
            have HNE := hide (show some Y1.heap.size ≠ v2.ownBlock from fun e2 => by
              rcases p2 with p | p
              · rw [p] at e2; have := (X1.out.lt e2.symm).2; omega
              · rw [p] at e2; have e3 := Option.some.inj e2; omega)
            refine hK.out _ _ (LA.out.blk (fz := (0, 0)) KE.out (by decide)) (fun h3 => ?_)
            clear hK K o2 g2 p2
            try simp only [Act.put, List.getElem_toArray, List.getElem_cons_zero, List.getElem_cons_succ, List.setIfInBounds_toArray, List.set_cons_zero, List.set_cons_succ]
            refine wpAnyH_ready (rs := [6]) (by kernel_rfl) (by simp) ?_
            refine AllReadyH.cons (o := _) rfl (fun K hK => ?_) AllReadyH.nil
            go_simp
            refine (tellWord_any B v2 _ (lk ++ [32]) nm.data.toList _ LA.out.own LA.out.siz RT2.out (fun b off n c e e2 => by injection e with e1 _ _; injection e1 with e1; injection e1 with e1 _ _; exact HNE.out (by rw [e1]; exact e2)) (by rw [List.length_append]; simp only [List.length_cons, List.length_nil]; omega) (by rw [hnl]; omega)).mono ?_
            rintro e w9 ⟨v9, rfl, k9⟩
            have L9 := hide (LA.out.call k9)
            refine hK.out _ _ (L9.out.blk (fz := (0, 0)) KE.out (by decide)) (fun hF => ?_)
            clear hK K
            try simp only [Act.put, List.getElem_toArray, List.getElem_cons_zero, List.getElem_cons_succ, List.setIfInBounds_toArray, List.set_cons_zero, List.set_cons_succ]
            refine wpAnyH_take (i := 7) (oi := _) (v := v9) rfl (by kernel_rfl) (by kernel_rfl) (by kernel_rfl) (fun _ _ _ h => h) (Or.inl ⟨by rfl, fun w' hw' => by go_simp⟩) hF ?_
            try simp only [Act.put, List.getElem_toArray, List.getElem_cons_zero, List.getElem_cons_succ, List.setIfInBounds_toArray, List.set_cons_zero, List.set_cons_succ]
            refine wpAnyH_done (by kernel_rfl) (NoPanic.normal ?_) _
            clear hF
            go_wp2_with fail
            go_meet
            exact L9.out
        · skip
          obtain ⟨Y0, hY0, x0⟩ : ∃ Y : World, Y = World.drew W3 ∧ (Ln B W3 lk ux Y) := ⟨_, rfl, LS.out.drew⟩
          have X0 := hide x0
          rw [← hY0]
          clear x0 hY0
          rw [if_pos (by rfl)]
          refine wp_conv_sbT 9 22 5 _ rfl nm rfl Tryd.underlying9 Tryd.underlying22 Tryd.underlying5 ?_
          obtain ⟨Y1, hY1, lb, rt, sz⟩ : ∃ Y : World, Y = Go.Lib.bytesWorld Y0 5 nm ∧ (Ln B W3 lk ux Y) ∧ (Rd .u8 Y (.slice (some ⟨Y0.heap.size, 0, none⟩) nm.size (grownCap Y0 nm.size 0 5)) (txI nm.data.toList)) ∧ (Y0.heap.size < Y.heap.size) := ⟨_, rfl, X0.out.past (Go.Lib.bytesWorld_below Y0 5 nm), rd_bytesT Y0 nm hnm, by rw [Go.Lib.bytesWorld_size]; omega⟩
          show K _ (Go.Lib.bytesWorld Y0 5 nm)
          rw [← hY1]
          have LB := hide lb
          have RT := hide rt
          generalize grownCap Y0 nm.size 0 5 = gc at rt RT ⊢
          clear lb rt hY1
          refine hK.out _ _ (LB.out.blk (fz := (0, 0)) KE.out (by decide)) (fun h2 => ?_)
          clear hK K
          try simp only [Act.put, List.getElem_toArray, List.getElem_cons_zero, List.getElem_cons_succ, List.setIfInBounds_toArray, List.set_cons_zero, List.set_cons_succ]
          refine wpAnyH_ready (rs := [1]) (by kernel_rfl) (by simp) ?_
          refine AllReadyH.cons (o := _) rfl (fun K hK => ?_) AllReadyH.nil
          go_simp
          obtain ⟨Y2, hY2, x2, c2x, r2, z2⟩ : ∃ Y : World, Y = Y1.alloc (.cells #[.int .u8 32] 5) ∧ (Ln B W3 lk ux Y) ∧ (∀ j u, [Value.int .u8 32][j]? = some u → Y.cell? ((⟨Y1.heap.size, 0, none⟩ : Addr).add j) = some u) ∧ (Rd .u8 Y (.slice (some ⟨Y0.heap.size, 0, none⟩) nm.size gc) (txI nm.data.toList)) ∧ (Y0.heap.size < Y.heap.size) := ⟨_, rfl, LB.out.alloc _, one_cell Y1 _ _, RT.out.below ((Below.refl _ _).alloc (Nat.le_refl _) _), by simp; omega⟩
          show K _ (Y1.alloc (.cells #[.int .u8 32] 5))
          rw [← hY2]
          have X2 := hide x2
          have C2 := hide c2x
          clear RT
          have RT := hide r2
          clear x2 c2x r2 hY2
          refine hK.out _ _ (X2.out.blk (fz := (0, 0)) KE.out (by decide)) (fun h3 => ?_)
          clear hK K
          try simp only [Act.put, List.getElem_toArray, List.getElem_cons_zero, List.getElem_cons_succ, List.setIfInBounds_toArray, List.set_cons_zero, List.set_cons_succ]
          refine wpAnyH_ready (rs := [2]) (by kernel_rfl) (by simp) ?_
          refine AllReadyH.cons (o := _) rfl (fun K hK => ?_) AllReadyH.nil
          rw [if_pos (by rfl)]
          refine wp_append_own_atT (.tmp 60) (.tmp 61) 22 rfl B 5 i0 (.int .u8 0) 1 1 Tryd.underlying22 hi hz0 hz1 hz2 rfl (by decide) _ _ _ rfl X2.out.own _ 1 1 [.int .u8 32] rfl rfl C2.out (one_one _) (by unfold maxLen; omega) (by omega) X2.out.siz ?_
          intro v2 w2 o2 g2 p2
          have LA := hide (Ln.app (l2 := [32]) (n := 1) (xs := [.int .u8 32]) X2.out ⟨rfl, rfl⟩ o2 g2)
          have RT2 := hide (RT.out.keptT g2 (fun b off n c e e2 => by injection e with e1 _ _; injection e1 with e1; injection e1 with e1 _ _; have := (X0.out.lt e2.symm).2; omega))
          have HNE := hide (show some Y0.heap.size ≠ v2.ownBlock from fun e2 => by
            rcases p2 with p | p
            · rw [p] at e2; have := (X0.out.lt e2.symm).2; omega
            · rw [p] at e2; have e3 := Option.some.inj e2; omega)
          refine hK.out _ _ (LA.out.blk (fz := (0, 0)) KE.out (by decide)) (fun h3 => ?_)
          clear hK K o2 g2 p2
          try simp only [Act.put, List.getElem_toArray, List.getElem_cons_zero, List.getElem_cons_succ, List.setIfInBounds_toArray, List.set_cons_zero, List.set_cons_succ]
          refine wpAnyH_ready (rs := [6]) (by kernel_rfl) (by simp) ?_
          refine AllReadyH.cons (o := _) rfl (fun K hK => ?_) AllReadyH.nil
          go_simp
          refine (tellWord_any B v2 _ (lk ++ [32]) nm.data.toList _ LA.out.own LA.out.siz RT2.out (fun b off n c e e2 => by injection e with e1 _ _; injection e1 with e1; injection e1 with e1 _ _; exact HNE.out (by rw [e1]; exact e2)) (by rw [List.length_append]; simp only [List.length_cons, List.length_nil]; omega) (by rw [hnl]; omega)).mono ?_
          rintro e w9 ⟨v9, rfl, k9⟩
          have L9 := hide (LA.out.call k9)
          refine hK.out _ _ (L9.out.blk (fz := (0, 0)) KE.out (by decide)) (fun hF => ?_)
          clear hK K
          try simp only [Act.put, List.getElem_toArray, List.getElem_cons_zero, List.getElem_cons_succ, List.setIfInBounds_toArray, List.set_cons_zero, List.set_cons_succ]
          refine wpAnyH_take (i := 7) (oi := _) (v := v9) rfl (by kernel_rfl) (by kernel_rfl) (by kernel_rfl) (fun _ _ _ h => h) (Or.inl ⟨by rfl, fun w' hw' => by go_simp⟩) hF ?_
          try simp only [Act.put, List.getElem_toArray, List.getElem_cons_zero, List.getElem_cons_succ, List.setIfInBounds_toArray, List.set_cons_zero, List.set_cons_succ]
          refine wpAnyH_done (by kernel_rfl) (NoPanic.normal ?_) _
          clear hF
          go_wp2_with fail
          go_meet
          exact L9.out
      case rest =>
      have L5 := hcut
      clear hcut LS
      have lwb : ((lk ++ [32]) ++ wordL nm.data.toList).length ≤ 70000000 := by
        have h1 := word_len nm.data.toList
        rw [List.length_append, List.length_append]
        simp only [List.length_cons, List.length_nil]
        omega
      generalize hl5 : (lk ++ [32]) ++ wordL nm.data.toList = l5 at L5 lwb
      have HL5 := hide hl5
      clear hl5
      have KE5 := hide (L5.out.blk (fz := (0, 0)) KE.out (by decide))
      have L6 := hide L5.out.self
      have hj2 : ∀ z ∈ [ino, kd], -9223372036854775808 ≤ z ∧ z ≤ 9223372036854775807 := fun z hz => by
        simp at hz
        rcases hz with rfl | rfl
        · exact h64.1
        · exact h64.2
      have hlN : ∀ v w', Ln B wc (l5 ++ [58] ++ joinL 58 [ino, kd]) v w' → Ln B W (l3 ++ namesL (L.take (k + 1))) v w' := fun v w' h => by
        have h1 := (L4.out.call L5.out).call h
        rw [namesL_snoc HE.out, ← List.append_assoc, ← HLK.out]
        rw [← HL5.out] at h1
        simpa [nameL] using h1
      have HLN := hide hlN
      clear hlN
      go_wp2_with fail
      refine wp_region_noPanic ?_
      refine wp_region_held_drew (S := fun w' => w'.heap[bd]? = some (.cells #[.string nm, .int .i64 ino, .int .i64 kd] 47 (0, 0))) (by kernel_rfl) KE5.out (fun hH => ?_)
      refine wpAnyH_take (i := 0) (oi := _) (v := u3) rfl (by kernel_rfl) (by kernel_rfl) (by kernel_rfl) (fun _ _ _ h => h) (Or.inl ⟨by rfl, fun w' hw' => by go_simp⟩) hH ?_
      try simp only [Act.put, List.getElem_toArray, List.getElem_cons_zero, List.getElem_cons_succ, List.setIfInBounds_toArray, List.set_cons_zero, List.set_cons_succ]
      refine wpAnyH_take (i := 3) (oi := _) (v := .pointer (some ⟨bd, 1, none⟩)) rfl (by kernel_rfl) (by kernel_rfl) (by kernel_rfl) (fun _ _ _ h => h) (Or.inl ⟨by rfl, fun w' hw' => by go_simp⟩) hH ?_
      try simp only [Act.put, List.getElem_toArray, List.getElem_cons_zero, List.getElem_cons_succ, List.setIfInBounds_toArray, List.set_cons_zero, List.set_cons_succ]
      refine wpAnyH_take (i := 4) (oi := _) (v := .int .i64 ino) rfl (by kernel_rfl) (by kernel_rfl) (by kernel_rfl) (fun _ _ _ h => h) (Or.inl ⟨by rfl, fun w' hw' => by have hc : w'.cell? ⟨bd, 1, none⟩ = some (.int .i64 ino) := blk_cellT hw' rfl; clear hw'; go_simp⟩) hH ?_
      try simp only [Act.put, List.getElem_toArray, List.getElem_cons_zero, List.getElem_cons_succ, List.setIfInBounds_toArray, List.set_cons_zero, List.set_cons_succ]
      refine wpAnyH_take (i := 5) (oi := _) (v := .pointer (some ⟨bd, 2, none⟩)) rfl (by kernel_rfl) (by kernel_rfl) (by kernel_rfl) (fun _ _ _ h => h) (Or.inl ⟨by rfl, fun w' hw' => by go_simp⟩) hH ?_
      try simp only [Act.put, List.getElem_toArray, List.getElem_cons_zero, List.getElem_cons_succ, List.setIfInBounds_toArray, List.set_cons_zero, List.set_cons_succ]
      refine wpAnyH_take (i := 6) (oi := _) (v := .int .i64 kd) rfl (by kernel_rfl) (by kernel_rfl) (by kernel_rfl) (fun _ _ _ h => h) (Or.inl ⟨by rfl, fun w' hw' => by have hc : w'.cell? ⟨bd, 2, none⟩ = some (.int .i64 kd) := blk_cellT hw' rfl; clear hw'; go_simp⟩) hH ?_
      try simp only [Act.put, List.getElem_toArray, List.getElem_cons_zero, List.getElem_cons_succ, List.setIfInBounds_toArray, List.set_cons_zero, List.set_cons_succ]
      refine wpAnyH_ready (rs := [1, 7]) (by kernel_rfl) (by simp) ?_
      refine AllReadyH.cons (o := _) rfl (fun K hK => ?_) (AllReadyH.cons (o := _) rfl (fun K hK => ?_) AllReadyH.nil)
      · go_simp
        obtain ⟨Y1, hY1, x1, c1, z1⟩ : ∃ Y : World, Y = World.drew (wc.alloc (.cells #[.int .u8 58] 5)) ∧ (Ln B wc l5 u3 Y) ∧ (∀ j u, [Value.int .u8 58][j]? = some u → Y.cell? ((⟨wc.heap.size, 0, none⟩ : Addr).add j) = some u) ∧ (wc.heap.size < Y.heap.size) := ⟨_, rfl, (L6.out.alloc _).drew, one_cellD wc _ _, by show _ < (wc.alloc _).heap.size; simp⟩
        show K _ (World.drew (wc.alloc (.cells #[.int .u8 58] 5)))
        rw [← hY1]
        have X1 := hide x1
        have C1 := hide c1
        clear x1 c1 hY1
        refine hK.out _ _ (X1.out.blk (fz := (0, 0)) KE5.out (by decide)) (fun h1 => ?_)
        clear hK K
        try simp only [Act.put, List.getElem_toArray, List.getElem_cons_zero, List.getElem_cons_succ, List.setIfInBounds_toArray, List.set_cons_zero, List.set_cons_succ]
        refine wpAnyH_ready (rs := [2, 7]) (by kernel_rfl) (by simp) ?_
        refine AllReadyH.cons (o := _) rfl (fun K hK => ?_) (AllReadyH.cons (o := _) rfl (fun K hK => ?_) AllReadyH.nil)
        · skip
          rw [if_pos (by rfl)]
          refine wp_append_own_atT (.tmp 67) (.tmp 68) 22 rfl B 5 i0 (.int .u8 0) 1 1 Tryd.underlying22 hi hz0 hz1 hz2 rfl (by decide) _ _ _ rfl X1.out.own _ 1 1 [.int .u8 58] rfl rfl C1.out (one_one _) (by unfold maxLen; omega) (by omega) X1.out.siz ?_
          intro v2 w2 o2 g2 p2
          have LA := hide (Ln.app (l2 := [58]) (n := 1) (xs := [.int .u8 58]) X1.out ⟨rfl, rfl⟩ o2 g2)
          refine hK.out _ _ (LA.out.blk (fz := (0, 0)) KE5.out (by decide)) (fun h2 => ?_)
          clear hK K o2 g2 p2
          try simp only [Act.put, List.getElem_toArray, List.getElem_cons_zero, List.getElem_cons_succ, List.setIfInBounds_toArray, List.set_cons_zero, List.set_cons_succ]
          refine wpAnyH_ready (rs := [7]) (by kernel_rfl) (by simp) ?_
          refine AllReadyH.cons (o := _) rfl (fun K hK => ?_) AllReadyH.nil
          go_simp
          obtain ⟨Y2, hY2, x2, k2⟩ : ∃ Y : World, Y = w2.alloc (.cells #[.int .i64 ino, .int .i64 kd] 3) ∧ (Ln B wc (l5 ++ [58]) v2 Y) ∧ (Y.heap[w2.heap.size]? = some (.cells ([ino, kd].map (Value.int .i64)).toArray 3 (0, 0))) := ⟨_, rfl, LA.out.alloc _, Blk.new w2 _ _⟩
          show K _ (w2.alloc (.cells #[.int .i64 ino, .int .i64 kd] 3))
          rw [← hY2]
          have LB := hide x2
          have KI := hide k2
          clear x2 k2 hY2
          refine hK.out _ _ (LB.out.blk (fz := (0, 0)) KE5.out (by decide)) (fun h3 => ?_)
          clear hK K
          try simp only [Act.put, List.getElem_toArray, List.getElem_cons_zero, List.getElem_cons_succ, List.setIfInBounds_toArray, List.set_cons_zero, List.set_cons_succ]
          refine wpAnyH_ready (rs := [8]) (by kernel_rfl) (by simp) ?_
          refine AllReadyH.cons (o := _) rfl (fun K hK => ?_) AllReadyH.nil
          go_simp
          refine (tellNums_any B 58 v2 (l5 ++ [58]) w2.heap.size [ino, kd] _ LB.out.own LB.out.siz KI.out (by simp) hj2 (by rw [List.length_append]; simp only [List.length_cons, List.length_nil]; omega) ((((HT.out.on HBW.out).on L4.out.bel).on L5.out.bel).on LB.out.bel)).mono ?_
          rintro e w9 ⟨v9, rfl, k9⟩
          have L9 := hide (LB.out.call k9)
          refine hK.out _ _ (L9.out.blk (fz := (0, 0)) KE5.out (by decide)) (fun hF => ?_)
          clear hK K
          try simp only [Act.put, List.getElem_toArray, List.getElem_cons_zero, List.getElem_cons_succ, List.setIfInBounds_toArray, List.set_cons_zero, List.set_cons_succ]
          refine wpAnyH_take (i := 9) (oi := _) (v := v9) rfl (by kernel_rfl) (by kernel_rfl) (by kernel_rfl) (fun _ _ _ h => h) (Or.inl ⟨by rfl, fun w' hw' => by go_simp⟩) hF ?_
          try simp only [Act.put, List.getElem_toArray, List.getElem_cons_zero, List.getElem_cons_succ, List.setIfInBounds_toArray, List.set_cons_zero, List.set_cons_succ]
          refine wpAnyH_done (by kernel_rfl) (NoPanic.normal ?_) _
          have LF := hide (HLN.out _ _ L9.out)
          clear hF k9 L9
          go_wp2_with fail
          go_roundw
          case rel => exact ⟨k + 1, by omega, by go_num, LF⟩
          case measure => simp [intOf]; omega
        · go_simp
          obtain ⟨Y2, hY2, x2, k2, c2x⟩ : ∃ Y : World, Y = Y1.alloc (.cells #[.int .i64 ino, .int .i64 kd] 3) ∧ (Ln B wc l5 u3 Y) ∧ (Y.heap[Y1.heap.size]? = some (.cells ([ino, kd].map (Value.int .i64)).toArray 3 (0, 0))) ∧ (∀ j u, [Value.int .u8 58][j]? = some u → Y.cell? ((⟨wc.heap.size, 0, none⟩ : Addr).add j) = some u) := ⟨_, rfl, X1.out.alloc _, Blk.new Y1 _ _, one_keep C1.out ((Below.refl _ _).alloc (Nat.le_refl _) _) z1⟩
          show K _ (Y1.alloc (.cells #[.int .i64 ino, .int .i64 kd] 3))
          rw [← hY2]
          have X2 := hide x2
          have KI := hide k2
          have C2 := hide c2x
          clear x2 k2 c2x hY2
          refine hK.out _ _ (X2.out.blk (fz := (0, 0)) KE5.out (by decide)) (fun h2 => ?_)
          clear hK K
          try simp only [Act.put, List.getElem_toArray, List.getElem_cons_zero, List.getElem_cons_succ, List.setIfInBounds_toArray, List.set_cons_zero, List.set_cons_succ]
          refine wpAnyH_ready (rs := [2]) (by kernel_rfl) (by simp) ?_
          refine AllReadyH.cons (o := _) rfl (fun K hK => ?_) AllReadyH.nil
          rw [if_pos (by rfl)]
          refine wp_append_own_atT (.tmp 67) (.tmp 68) 22 rfl B 5 i0 (.int .u8 0) 1 1 Tryd.underlying22 hi hz0 hz1 hz2 rfl (by decide) _ _ _ rfl X2.out.own _ 1 1 [.int .u8 58] rfl rfl C2.out (one_one _) (by unfold maxLen; omega) (by omega) X2.out.siz ?_
          intro v2 w2 o2 g2 p2
          have LA0 := hide (Ln.app (l2 := [58]) (n := 1) (xs := [.int .u8 58]) X2.out.self ⟨rfl, rfl⟩ o2 g2)
          have LA := hide (X2.out.call LA0.out)
          have KI2 := hide (LA0.out.blk (fz := (0, 0)) KI.out (by decide))
          refine hK.out _ _ (LA.out.blk (fz := (0, 0)) KE5.out (by decide)) (fun h3 => ?_)
          clear hK K o2 g2 p2
          try simp only [Act.put, List.getElem_toArray, List.getElem_cons_zero, List.getElem_cons_succ, List.setIfInBounds_toArray, List.set_cons_zero, List.set_cons_succ]
          refine wpAnyH_ready (rs := [8]) (by kernel_rfl) (by simp) ?_
          refine AllReadyH.cons (o := _) rfl (fun K hK => ?_) AllReadyH.nil
          go_simp
          refine (tellNums_any B 58 v2 (l5 ++ [58]) Y1.heap.size [ino, kd] _ LA.out.own LA.out.siz KI2.out (by simp) hj2 (by rw [List.length_append]; simp only [List.length_cons, List.length_nil]; omega) ((((HT.out.on HBW.out).on L4.out.bel).on L5.out.bel).on LA.out.bel)).mono ?_
          rintro e w9 ⟨v9, rfl, k9⟩
          have L9 := hide (LA.out.call k9)
          refine hK.out _ _ (L9.out.blk (fz := (0, 0)) KE5.out (by decide)) (fun hF => ?_)
          clear hK K
          try simp only [Act.put, List.getElem_toArray, List.getElem_cons_zero, List.getElem_cons_succ, List.setIfInBounds_toArray, List.set_cons_zero, List.set_cons_succ]
          refine wpAnyH_take (i := 9) (oi := _) (v := v9) rfl (by kernel_rfl) (by kernel_rfl) (by kernel_rfl) (fun _ _ _ h => h) (Or.inl ⟨by rfl, fun w' hw' => by go_simp⟩) hF ?_
          try simp only [Act.put, List.getElem_toArray, List.getElem_cons_zero, List.getElem_cons_succ, List.setIfInBounds_toArray, List.set_cons_zero, List.set_cons_succ]
          refine wpAnyH_done (by kernel_rfl) (NoPanic.normal ?_) _
          have LF := hide (HLN.out _ _ L9.out)
          clear hF k9 L9
          go_wp2_with fail
          go_roundw
          case rel => exact ⟨k + 1, by omega, by go_num, LF⟩
          case measure => simp [intOf]; omega
      · go_simp
        obtain ⟨Y1, hY1, x1, k1⟩ : ∃ Y : World, Y = World.drew (wc.alloc (.cells #[.int .i64 ino, .int .i64 kd] 3)) ∧ (Ln B wc l5 u3 Y) ∧ (Y.heap[wc.heap.size]? = some (.cells ([ino, kd].map (Value.int .i64)).toArray 3 (0, 0))) := ⟨_, rfl, (L6.out.alloc _).drew, Blk.new wc _ _⟩
        show K _ (World.drew (wc.alloc (.cells #[.int .i64 ino, .int .i64 kd] 3)))
        rw [← hY1]
        have X1 := hide x1
        have KI0 := hide k1
        clear x1 k1 hY1
        refine hK.out _ _ (X1.out.blk (fz := (0, 0)) KE5.out (by decide)) (fun h1 => ?_)
        clear hK K
        try simp only [Act.put, List.getElem_toArray, List.getElem_cons_zero, List.getElem_cons_succ, List.setIfInBounds_toArray, List.set_cons_zero, List.set_cons_succ]
        refine wpAnyH_ready (rs := [1]) (by kernel_rfl) (by simp) ?_
        refine AllReadyH.cons (o := _) rfl (fun K hK => ?_) AllReadyH.nil
        go_simp
        obtain ⟨Y2, hY2, x2, k2, c2x⟩ : ∃ Y : World, Y = Y1.alloc (.cells #[.int .u8 58] 5) ∧ (Ln B wc l5 u3 Y) ∧ (Y.heap[wc.heap.size]? = some (.cells ([ino, kd].map (Value.int .i64)).toArray 3 (0, 0))) ∧ (∀ j u, [Value.int .u8 58][j]? = some u → Y.cell? ((⟨Y1.heap.size, 0, none⟩ : Addr).add j) = some u) := ⟨_, rfl, X1.out.alloc _, (X1.out.self.alloc _).blk (fz := (0, 0)) KI0.out (by decide), one_cell Y1 _ _⟩
        show K _ (Y1.alloc (.cells #[.int .u8 58] 5))
        rw [← hY2]
        have X2 := hide x2
        have KI := hide k2
        have C2 := hide c2x
        clear x2 k2 c2x hY2
        refine hK.out _ _ (X2.out.blk (fz := (0, 0)) KE5.out (by decide)) (fun h2 => ?_)
        clear hK K
        try simp only [Act.put, List.getElem_toArray, List.getElem_cons_zero, List.getElem_cons_succ, List.setIfInBounds_toArray, List.set_cons_zero, List.set_cons_succ]
        refine wpAnyH_ready (rs := [2]) (by kernel_rfl) (by simp) ?_
        refine AllReadyH.cons (o := _) rfl (fun K hK => ?_) AllReadyH.nil
        rw [if_pos (by rfl)]
        refine wp_append_own_atT (.tmp 67) (.tmp 68) 22 rfl B 5 i0 (.int .u8 0) 1 1 Tryd.underlying22 hi hz0 hz1 hz2 rfl (by decide) _ _ _ rfl X2.out.own _ 1 1 [.int .u8 58] rfl rfl C2.out (one_one _) (by unfold maxLen; omega) (by omega) X2.out.siz ?_
        intro v2 w2 o2 g2 p2
        have LA0 := hide (Ln.app (l2 := [58]) (n := 1) (xs := [.int .u8 58]) X2.out.self ⟨rfl, rfl⟩ o2 g2)
        have LA := hide (X2.out.call LA0.out)
        have KI2 := hide (LA0.out.blk (fz := (0, 0)) KI.out (by decide))
        refine hK.out _ _ (LA.out.blk (fz := (0, 0)) KE5.out (by decide)) (fun h3 => ?_)
        clear hK K o2 g2 p2
        try simp only [Act.put, List.getElem_toArray, List.getElem_cons_zero, List.getElem_cons_succ, List.setIfInBounds_toArray, List.set_cons_zero, List.set_cons_succ]
        refine wpAnyH_ready (rs := [8]) (by kernel_rfl) (by simp) ?_
        refine AllReadyH.cons (o := _) rfl (fun K hK => ?_) AllReadyH.nil
        go_simp
        refine (tellNums_any B 58 v2 (l5 ++ [58]) wc.heap.size [ino, kd] _ LA.out.own LA.out.siz KI2.out (by simp) hj2 (by rw [List.length_append]; simp only [List.length_cons, List.length_nil]; omega) ((((HT.out.on HBW.out).on L4.out.bel).on L5.out.bel).on LA.out.bel)).mono ?_
        rintro e w9 ⟨v9, rfl, k9⟩
        have L9 := hide (LA.out.call k9)
        refine hK.out _ _ (L9.out.blk (fz := (0, 0)) KE5.out (by decide)) (fun hF => ?_)
        clear hK K
        try simp only [Act.put, List.getElem_toArray, List.getElem_cons_zero, List.getElem_cons_succ, List.setIfInBounds_toArray, List.set_cons_zero, List.set_cons_succ]
        refine wpAnyH_take (i := 9) (oi := _) (v := v9) rfl (by kernel_rfl) (by kernel_rfl) (by kernel_rfl) (fun _ _ _ h => h) (Or.inl ⟨by rfl, fun w' hw' => by go_simp⟩) hF ?_
        try simp only [Act.put, List.getElem_toArray, List.getElem_cons_zero, List.getElem_cons_succ, List.setIfInBounds_toArray, List.set_cons_zero, List.set_cons_succ]
        refine wpAnyH_done (by kernel_rfl) (NoPanic.normal ?_) _
        have LF := hide (HLN.out _ _ L9.out)
        clear hF k9 L9
        go_wp2_with fail
        go_roundw
        case rel => exact ⟨k + 1, by omega, by go_num, LF⟩
        case measure => simp [intOf]; omega
    · have HXE := hide (show Ln B W (l3 ++ namesL L) u3 wr from by
        have h := LK.out
        rw [HLK.out, List.take_of_length_le (by omega)] at h
        exact h)
      have c14 : wr.cell? ⟨B, 14, none⟩ = some (.int .i64 q0) := blk_cellT (HK.out _ _ _ LK.out) rfl
      have c15 : wr.cell? ⟨B, 15, none⟩ = some (.int .i64 q1) := blk_cellT (HK.out _ _ _ LK.out) rfl
      have c16 : wr.cell? ⟨B, 16, none⟩ = some (.int .i64 q2) := blk_cellT (HK.out _ _ _ LK.out) rfl
      have c17 : wr.cell? ⟨B, 17, none⟩ = some (.int .i64 q3) := blk_cellT (HK.out _ _ _ LK.out) rfl
      have c18 : wr.cell? ⟨B, 18, none⟩ = some (.int .i64 q4) := blk_cellT (HK.out _ _ _ LK.out) rfl
      have c19 : wr.cell? ⟨B, 19, none⟩ = some (.int .i64 q5) := blk_cellT (HK.out _ _ _ LK.out) rfl
      have c20 : wr.cell? ⟨B, 20, none⟩ = some (.int .i64 q6) := blk_cellT (HK.out _ _ _ LK.out) rfl
      have c21 : wr.cell? ⟨B, 21, none⟩ = some (.int .i64 q7) := blk_cellT (HK.out _ _ _ LK.out) rfl
      have c22 : wr.cell? ⟨B, 22, none⟩ = some (.int .i64 q8) := blk_cellT (HK.out _ _ _ LK.out) rfl
      have c23 : wr.cell? ⟨B, 23, none⟩ = some (.int .i64 q9) := blk_cellT (HK.out _ _ _ LK.out) rfl
      have TE := hide (show tellL cd nn zs [s0, s1, s2, s3, s4, s5, s6, s7, s8, s9] L [q0, q1, q2, q3, q4, q5, q6, q7, q8, q9] = (l3 ++ namesL L) ++ (if allZ [q0, q1, q2, q3, q4, q5, q6, q7, q8, q9] then [] else 32 :: 117 :: 115 :: 97 :: 103 :: 101 :: 58 :: joinL 58 [q0, q1, q2, q3, q4, q5, q6, q7, q8, q9]) from by rw [← HL3.out, ← HL2.out, ← HL1.out]; rfl)
      have lnb : (l3 ++ namesL L).length ≤ 60000000 := by
        have h1 := namesL_len L hL
        rw [List.length_append]
        omega
      generalize l3 ++ namesL L = ln at HXE TE lnb
      have KU := hide (Blk.new wr #[.int .i64 q0, .int .i64 q1, .int .i64 q2, .int .i64 q3, .int .i64 q4, .int .i64 q5, .int .i64 q6, .int .i64 q7, .int .i64 q8, .int .i64 q9] 34)
      have LU2 := hide (HXE.out.alloc (.cells #[.int .i64 q0, .int .i64 q1, .int .i64 q2, .int .i64 q3, .int .i64 q4, .int .i64 q5, .int .i64 q6, .int .i64 q7, .int .i64 q8, .int .i64 q9] 34))
      go_upto_if 81 with (refine wpList_neqT rfl 34 _ _ _ rfl #[.int .i64 q0, .int .i64 q1, .int .i64 q2, .int .i64 q3, .int .i64 q4, .int .i64 q5, .int .i64 q6, .int .i64 q7, .int .i64 q8, .int .i64 q9] #[.int .i64 0, .int .i64 0, .int .i64 0, .int .i64 0, .int .i64 0, .int .i64 0, .int .i64 0, .int .i64 0, .int .i64 0, .int .i64 0] rfl rfl guardU (allZ [q0, q1, q2, q3, q4, q5, q6, q7, q8, q9]) (eqZU _ q0 q1 q2 q3 q4 q5 q6 q7 q8 q9) ?_)
      try simp only [Act.put, List.getElem_toArray, List.getElem_cons_zero, List.getElem_cons_succ, List.setIfInBounds_toArray, List.set_cons_zero, List.set_cons_succ]
      generalize hbu : allZ [q0, q1, q2, q3, q4, q5, q6, q7, q8, q9] = bu
      cases bu with
      | true =>
        have hcv := back_bytes LU2.out.own
        have hb := HBW.out.trans LU2.out.bel
        have HB := hide hb
        clear hb
        go_wp2_with fail
        go_ret
        refine ⟨ret_val ?_, by rw [← HBE.out]; exact HB.out⟩
        rw [TE.out, hbu, if_pos rfl, List.append_nil]
        rfl
      | false =>
        clear c14 c15 c16 c17 c18 c19 c20 c21 c22 c23
        go_wp2_with (first | (at_builtin; refine Lib.wpList_append_own_string _ rfl (.tmp 82) (.const (.string ⟨#[32, 117, 115, 97, 103, 101, 58]⟩)) 22 9 rfl B 5 i0 Tryd.underlying22 Tryd.underlying9 hi hz0 hz1 hz2 _ _ _ rfl LU2.out.own ⟨#[32, 117, 115, 97, 103, 101, 58]⟩ rfl (by show _ + 7 ≤ maxLen; unfold maxLen; omega) (by show _ + 7 ≤ _; omega) LU2.out.siz ?_; intro v2 w2 o2 g2 p2; have LA0 := hide (Ln.app (l2 := [32, 117, 115, 97, 103, 101, 58]) (n := 7) (xs := Lib.byteCells [32, 117, 115, 97, 103, 101, 58]) LU2.out.self ⟨rfl, rfl⟩ o2 g2); clear o2 g2 p2; have d0 : w2.cell? ⟨wr.heap.size, 0, none⟩ = some (.int .i64 q0) := blk_cellT (LA0.out.blk (fz := (0, 0)) KU.out (by decide)) rfl; have d1 : w2.cell? ⟨wr.heap.size, 1, none⟩ = some (.int .i64 q1) := blk_cellT (LA0.out.blk (fz := (0, 0)) KU.out (by decide)) rfl; have d2 : w2.cell? ⟨wr.heap.size, 2, none⟩ = some (.int .i64 q2) := blk_cellT (LA0.out.blk (fz := (0, 0)) KU.out (by decide)) rfl; have d3 : w2.cell? ⟨wr.heap.size, 3, none⟩ = some (.int .i64 q3) := blk_cellT (LA0.out.blk (fz := (0, 0)) KU.out (by decide)) rfl; have d4 : w2.cell? ⟨wr.heap.size, 4, none⟩ = some (.int .i64 q4) := blk_cellT (LA0.out.blk (fz := (0, 0)) KU.out (by decide)) rfl; have d5 : w2.cell? ⟨wr.heap.size, 5, none⟩ = some (.int .i64 q5) := blk_cellT (LA0.out.blk (fz := (0, 0)) KU.out (by decide)) rfl; have d6 : w2.cell? ⟨wr.heap.size, 6, none⟩ = some (.int .i64 q6) := blk_cellT (LA0.out.blk (fz := (0, 0)) KU.out (by decide)) rfl; have d7 : w2.cell? ⟨wr.heap.size, 7, none⟩ = some (.int .i64 q7) := blk_cellT (LA0.out.blk (fz := (0, 0)) KU.out (by decide)) rfl; have d8 : w2.cell? ⟨wr.heap.size, 8, none⟩ = some (.int .i64 q8) := blk_cellT (LA0.out.blk (fz := (0, 0)) KU.out (by decide)) rfl; have d9 : w2.cell? ⟨wr.heap.size, 9, none⟩ = some (.int .i64 q9) := blk_cellT (LA0.out.blk (fz := (0, 0)) KU.out (by decide)) rfl) | (go_at_call 18; fail))
        have LA := hide ((LU2.out.call LA0.out).alloc (.cells #[.int .i64 q0, .int .i64 q1, .int .i64 q2, .int .i64 q3, .int .i64 q4, .int .i64 q5, .int .i64 q6, .int .i64 q7, .int .i64 q8, .int .i64 q9] 3))
        have ljb := join_bound (m := 58) (zs := [q0, q1, q2, q3, q4, q5, q6, q7, q8, q9]) hus
        refine (tellNums_any B 58 v2 (ln ++ [32, 117, 115, 97, 103, 101, 58]) w2.heap.size [q0, q1, q2, q3, q4, q5, q6, q7, q8, q9] _ LA.out.own LA.out.siz (Blk.new w2 #[.int .i64 q0, .int .i64 q1, .int .i64 q2, .int .i64 q3, .int .i64 q4, .int .i64 q5, .int .i64 q6, .int .i64 q7, .int .i64 q8, .int .i64 q9] 3) (by simp) hus (by rw [List.length_append]; simp; omega) ((HT.out.on HBW.out).on LA.out.bel)).mono ?_
        rintro e w3 ⟨v3, rfl, k3⟩
        have L9 := hide (LA.out.call k3)
        have HB := hide (HBW.out.trans L9.out.bel)
        have hcv := back_bytes L9.out.own
        obtain ⟨xa, xc, rfl⟩ := L9.out.shape
        clear k3 d0 d1 d2 d3 d4 d5 d6 d7 d8 d9 ljb
        generalize hst : ln ++ [32, 117, 115, 97, 103, 101, 58] ++ joinL 58 [q0, q1, q2, q3, q4, q5, q6, q7, q8, q9] = lst at hcv L9
        have HST := hide hst
        clear hst L9
        go_wp2_with fail
        go_ret
        refine ⟨ret_val ?_, by rw [← HBE.out]; exact HB.out⟩
        rw [TE.out, hbu, if_neg (by decide), show ln ++ 32 :: 117 :: 115 :: 97 :: 103 :: 101 :: 58 :: joinL 58 [q0, q1, q2, q3, q4, q5, q6, q7, q8, q9] = lst from by rw [← HST.out]; simp]
        rfl
end Go.Proofs.YtnljpaohkkdjjaaDoor
