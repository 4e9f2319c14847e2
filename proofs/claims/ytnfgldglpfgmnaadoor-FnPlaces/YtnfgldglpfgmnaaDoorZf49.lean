/- The program's TreeWrite over an empty tree. smBytes of equal bytes. -/
import Derived.Test.YtnfgldglpfgmnaaDoorZf48
import Derived.Test.YtnfgldglpfgmnaaDoorZf05
import Derived.Test.YtnfgldglpfgmnaaDoorZf04
import Derived.Laws.BytesArg
namespace Go.Proofs.YtnfgldglpfgmnaaDoor
set_option linter.unusedVariables false
set_option linter.unusedSimpArgs false
open Go.RowKit Go.Shelf

theorem results_rttR {P : Program} {fn : Func} {p t u : Tmp} {ty : TypeId} (h : fn.results = #[.cell p ty, .tmp t, .tmp u]) (tmps : Array Value) (w : World) (g : Nat) (ti : TypeId) (cs : Array Value) (fr : Nat × Nat) (d : TypeDesc) (x y : Value)
    (hp : tmps.getD p undef = .pointer (some ⟨g, 0, none⟩)) (ht : tmps.getD t undef = x) (hy : tmps.getD u undef = y) (hg : w.heap[g]? = some (.cells cs ti fr))
    (hu : P.underlying ty = some d) (hd : (match d with | .struct _ | .array _ _ => true | _ => false) = true) (hi : (P.info? ty).map (·.size) = some cs.size) :
    (results fn tmps).run P w = .ok (.tuple #[.agg cs, x, y]) w := by
  simp only [results, h]
  simp [Sem.run_bind, Result.andThen, ← Array.getD_eq_getD_getElem?, ht, hp, hy, asAddr, run_loadVar_row w g ti ty cs fr d hg hu hd hi]
theorem infoPut2 : (Tryd.prog.info? 40).map (·.size) = some 2 := by kernel_rfl
theorem supplyOf_any (fa : Option Addr) (fl fc : Nat) (w : World) : Calls Tryd.prog 30 #[.slice fa fl fc] w fun e w' => e = .returned (.func (.func 50) #[] #[.pointer (some ⟨w.heap.size, 0, none⟩)]) ∧ w' = w.alloc (.cells #[.slice fa fl fc] 38) := by
  go_enter Tryd.func30, Tryd.ntmps30
  go_wp2
  go_ret
  exact ⟨rfl, rfl⟩
/-- The put at place i, in memory. -/
theorem put_at {W : World} {base : Nat} {pa : Option Addr} {pn pc : Nat} {P : List (Int × List Int)} {vs : List Value} (h : OwnN W base 40 1 (.slice pa pn pc) (P.map neP) vs) (hn : pn = P.length) (i : Nat) (hi : i < pn) : ∃ pg x v, pa = some ⟨pg, 0, none⟩ ∧ W.rangeAt pg (i * 2) [.int .i64 x, v] ∧ pg < W.heap.size ∧ (∃ ys, P[i]? = some (x, ys) ∧ ∃ da dl dc, v = .slice da dl dc ∧ W.ownsRow base 5 1 v ys.length (ys.map (Value.int .u8))) := by
  obtain ⟨a, cap, e, hc, _, _⟩ := h.rd.row
  rw [List.length_map] at e hc
  obtain ⟨pg, off, rfl, hlt, hcell⟩ := hc (by omega)
  injection e with e1 e2 e3
  subst e1
  have hoff : off = 0 := by
    rcases h.row.2 with ⟨e', _⟩ | ⟨g, cap', cur, e', _⟩
    · cases e'
    · injection e' with e1 e2 e3
      injection e1 with e1
      injection e1 with e1 e2
  subst hoff
  have hiL : i < P.length := by omega
  have hvl : i < vs.length := by rw [h.len, List.length_map]; exact hiL
  have hv := List.getElem?_eq_getElem hvl
  have hp : (P.map neP)[i]? = some (neP P[i]) := by rw [List.getElem?_map, List.getElem?_eq_getElem hiL]; rfl
  have ho := h.dat i _ _ hv hp
  obtain ⟨da, dc, hs⟩ := own_shape ho
  refine ⟨pg, P[i].1, vs[i], rfl, fun j u hj => ?_, hlt, P[i].2, List.getElem?_eq_getElem hiL, da, _, dc, hs, ho⟩
  have hj2 : j < 2 := by
    rcases Nat.lt_or_ge j 2 with h | h
    · exact h
    · rw [List.getElem?_eq_none (by simpa using h)] at hj; cases hj
  have := hcell (i * 2 + j) u (by rw [cellsN_get 1 vs (P.map neP) h.len h.pre i j _ _ hv hp (by omega)]; exact hj)
  rw [Nat.zero_add] at this
  exact this
set_option maxRecDepth 100000 in
set_option maxHeartbeats 4000000 in
theorem treeWrite_any (w : World) (ia ca fa : Option Addr) (il ic n cc fl fc cnt : Nat) (zs cs fs : List Int) (D : RD)
    (hi : Rd .u8 w (.slice ia il ic) zs) (hil : il = zs.length) (hz : zs.length ≤ 1048576) (hbd : ∀ z ∈ zs, 0 ≤ z ∧ z < 256) (hsz : szOk zs.length = true) (hR : Rd .u8 w (.slice ca n cc) cs) (hn : n = cs.length) (hcs : cs.length ≤ 262144) (hcnt : cnt = (n + 511) / 512) (hg : ErrT w) (hf : Rd .i64 w (.slice fa fl fc) fs) (hfl : fl = fs.length)
    (hD : D = rD3 (.slice ia il ic) (.slice ca n cc) (some fs) cs cnt) (hsh : D.sh = false) (hPl : D.P.length ≤ 100000) (hbk : ∀ x ∈ D.P, 2 ≤ x.1 ∧ x.1 < ((zs.length / 512 : Nat) : Int)) :
    Calls Tryd.prog 11 #[.slice ia il ic, .agg rootZ, .slice ca n cc, .slice fa fl fc] w fun e w' => ∃ pa pc vs, e = .returned (.tuple #[.agg (rootC D.Ln n 14), .slice pa D.P.length pc, .int .i64 0]) ∧ OwnN w' w.heap.size 40 1 (.slice pa D.P.length pc) (D.P.map neP) vs ∧ Below w.heap.size w w' := by
  obtain ⟨W2, hW2⟩ : ∃ W2, W2 = (w.alloc (.cells rootZ 34)).alloc (.cells rootZ 34) := ⟨_, rfl⟩
  have B2 := hide (show Below w.heap.size w W2 from by rw [hW2]; exact ((Below.refl _ _).alloc (Nat.le_refl _) _).alloc (by simp) _)
  have K1 := hide (show Blk W2 w.heap.size rootZ 34 from by rw [hW2]; exact (Blk.new w _ _).alloc _)
  have K2 := hide (show Blk W2 (w.heap.size + 1) rootZ 34 from by have h := Blk.new (w.alloc (.cells rootZ 34)) rootZ 34; rw [World.size_alloc] at h; rw [hW2]; exact h)
  have hs2 : W2.heap.size = w.heap.size + 2 := by rw [hW2]; simp
  obtain ⟨W3, hW3⟩ : ∃ W3, W3 = W2.drew.alloc (.cells #[.slice fa fl fc] 38) := ⟨_, rfl⟩
  have B3 := hide (show Below W2.heap.size W2 W3 from by rw [hW3]; exact ((Below.refl _ _).drew).alloc (Nat.le_refl _) _)
  have K3 := hide (show Blk W3 W2.heap.size #[.slice fa fl fc] 38 from by rw [hW3]; exact Blk.new W2.drew _ _)
  have HA := hide (renew_any W2 W3 ia ca il ic n cc cnt 50 #[.pointer (some ⟨W2.heap.size, 0, none⟩)] zs cs (some fs) B3.out (hi.below B2.out) hz hbd hsz (hR.below B2.out) hn hcs hcnt (hg.below B2.out) ⟨W2.heap.size, fa, fc, rfl, Nat.le_refl _, by rw [← hfl]; exact K3.out, by rw [← hfl]; exact hf.below B2.out⟩ (by rw [← hD]; exact hsh))
  have HD := hide (And.intro hD (And.intro hPl hbk))
  have HQ := hide (show (il : Int) / 512 = ((zs.length / 512 : Nat) : Int) from by rw [hil]; omega)
  have HIl := hide (show il ≤ 1048576 from by omega)
  have HW2 := hide hW2
  have HW3 := hide hW3
  have HSz := hide hs2
  clear hi hil hz hbd hsz hR hn hcs hcnt hg hf hfl hD hsh hPl hbk hW2 hW3 hs2
  go_enter Tryd.func11, Tryd.ntmps11
  go_upto_region 1 with fail
  rw [← HW2.out]
  refine wp_region_noPanic ?_
  refine wp_region_held_drew (S := fun w' => Blk w' w.heap.size rootZ 34) (by kernel_rfl) K1.out (fun hH => ?_)
  refine wpAnyH_take (i := 0) (oi := _) (v := .slice ia il ic) rfl (by kernel_rfl) (by kernel_rfl) (by kernel_rfl) (fun _ _ _ h => h) (Or.inl ⟨by rfl, fun w' hw' => by go_simp⟩) hH ?_
  try simp only [Act.put, List.getElem_toArray, List.getElem_cons_zero, List.getElem_cons_succ, List.setIfInBounds_toArray, List.set_cons_zero, List.set_cons_succ]
  refine wpAnyH_take (i := 1) (oi := _) (v := .agg rootZ) rfl (by kernel_rfl) (by kernel_rfl) (by kernel_rfl) (fun _ _ _ h => h) (yieldsIf_load_mid (by rfl) 34 _ rfl w.heap.size 0 rfl rootZ.toList _ (fun w' h => blk_range h) Tryd.underlying34 rfl infoRt15) hH ?_
  try simp only [Act.put, List.getElem_toArray, List.getElem_cons_zero, List.getElem_cons_succ, List.setIfInBounds_toArray, List.set_cons_zero, List.set_cons_succ]
  refine wpAnyH_take (i := 2) (oi := _) (v := .slice ca n cc) rfl (by kernel_rfl) (by kernel_rfl) (by kernel_rfl) (fun _ _ _ h => h) (Or.inl ⟨by rfl, fun w' hw' => by go_simp⟩) hH ?_
  try simp only [Act.put, List.getElem_toArray, List.getElem_cons_zero, List.getElem_cons_succ, List.setIfInBounds_toArray, List.set_cons_zero, List.set_cons_succ]
  refine wpAnyH_take (i := 3) (oi := _) (v := .slice fa fl fc) rfl (by kernel_rfl) (by kernel_rfl) (by kernel_rfl) (fun _ _ _ h => h) (Or.inl ⟨by rfl, fun w' hw' => by go_simp⟩) hH ?_
  try simp only [Act.put, List.getElem_toArray, List.getElem_cons_zero, List.getElem_cons_succ, List.setIfInBounds_toArray, List.set_cons_zero, List.set_cons_succ]
  refine wpAnyH_ready (rs := [4]) (by kernel_rfl) (by simp) ?_
  refine AllReadyH.cons (o := _) rfl (fun K hK => ?_) AllReadyH.nil
  go_simp
  refine (supplyOf_any fa fl fc _).mono ?_
  rintro e w3 ⟨rfl, rfl⟩
  rw [← HW3.out]
  refine hK.out _ _ (K1.out.below B3.out K1.out.lt) (fun hH => ?_)
  clear hK K
  try simp only [Act.put, List.getElem_toArray, List.getElem_cons_zero, List.getElem_cons_succ, List.setIfInBounds_toArray, List.set_cons_zero, List.set_cons_succ]
  refine wpAnyH_ready (rs := [5]) (by kernel_rfl) (by simp) ?_
  refine AllReadyH.cons (o := _) rfl (fun K hK => ?_) AllReadyH.nil
  go_simp
  refine HA.out.mono ?_
  rintro e w4 ⟨b, rfl, r4⟩
  rw [← HD.out.1] at r4
  have R4 := hide r4
  have B4 := hide (show Below W2.heap.size W2 w4 from by obtain ⟨C, so, sl, fv, pv, vs2, hS⟩ := r4; exact hS.low)
  clear r4
  refine hK.out _ _ (K1.out.below B4.out K1.out.lt) (fun hH => ?_)
  clear hK K
  try simp only [Act.put, List.getElem_toArray, List.getElem_cons_zero, List.getElem_cons_succ, List.setIfInBounds_toArray, List.set_cons_zero, List.set_cons_succ]
  refine wpAnyH_take (i := 6) (oi := _) (v := .tuple #[.pointer (some ⟨b, 0, none⟩), .nilIface]) rfl (by kernel_rfl) (by kernel_rfl) (by kernel_rfl) (fun _ _ _ h => h) (Or.inl ⟨by rfl, fun w' hw' => by go_simp⟩) hH ?_
  try simp only [Act.put, List.getElem_toArray, List.getElem_cons_zero, List.getElem_cons_succ, List.setIfInBounds_toArray, List.set_cons_zero, List.set_cons_succ]
  refine wpAnyH_take (i := 7) (oi := _) (v := .pointer (some ⟨b, 0, none⟩)) rfl (by kernel_rfl) (by kernel_rfl) (by kernel_rfl) (fun _ _ _ h => h) (Or.inl ⟨by rfl, fun w' hw' => by go_simp⟩) hH ?_
  try simp only [Act.put, List.getElem_toArray, List.getElem_cons_zero, List.getElem_cons_succ, List.setIfInBounds_toArray, List.set_cons_zero, List.set_cons_succ]
  refine wpAnyH_take (i := 8) (oi := _) (v := .nilIface) rfl (by kernel_rfl) (by kernel_rfl) (by kernel_rfl) (fun _ _ _ h => h) (Or.inl ⟨by rfl, fun w' hw' => by go_simp⟩) hH ?_
  try simp only [Act.put, List.getElem_toArray, List.getElem_cons_zero, List.getElem_cons_succ, List.setIfInBounds_toArray, List.set_cons_zero, List.set_cons_succ]
  refine wpAnyH_take (i := 9) (oi := _) (v := .pointer (some ⟨b, 0, none⟩)) rfl (by kernel_rfl) (by kernel_rfl) (by kernel_rfl) (fun _ _ _ h => h) (Or.inl ⟨by rfl, fun w' hw' => by go_simp⟩) hH ?_
  try simp only [Act.put, List.getElem_toArray, List.getElem_cons_zero, List.getElem_cons_succ, List.setIfInBounds_toArray, List.set_cons_zero, List.set_cons_succ]
  refine wpAnyH_take (i := 10) (oi := _) (v := .nilIface) rfl (by kernel_rfl) (by kernel_rfl) (by kernel_rfl) (fun _ _ _ h => h) (Or.inl ⟨by rfl, fun w' hw' => by go_simp⟩) hH ?_
  try simp only [Act.put, List.getElem_toArray, List.getElem_cons_zero, List.getElem_cons_succ, List.setIfInBounds_toArray, List.set_cons_zero, List.set_cons_succ]
  refine wpAnyH_done (by kernel_rfl) (NoPanic.normal ?_) _
  clear hH
  obtain ⟨pa, pc, vs, c24, hpo⟩ := R4.out.puts
  obtain ⟨pn, hpn⟩ : ∃ pn, pn = D.P.length := ⟨_, rfl⟩
  rw [← hpn] at c24 hpo
  have HPN := hide hpn
  have C24 := hide c24
  have HPO := hide hpo
  have hpb : pn ≤ 100000 := by rw [hpn]; exact HD.out.2.1
  have hilb := HIl.out
  clear hpo hpn
  go_upto_region 4 with fail
  go_wp2
  clear c24
  go_loopw [34] (fun iv wr => ∃ i : Nat, i ≤ pn ∧ iv = .int .i64 (i : Int) ∧ Below w4.heap.size w4 wr) (fun iv _ => pn - (intOf iv).toNat)
  case atStart => exact ⟨0, by omega, rfl, Below.refl _ _⟩
  case round =>
    obtain ⟨i, hi, rfl, hb⟩ := hrel
    have HB := hide hb
    by_cases hi2 : i < pn
    · obtain ⟨pg, x, v, rfl, hrg, hlt, ys, hP, da, dl, dc, rfl, hown⟩ := put_at (HPO.out.below hb) HPN.out i hi2
      have HRg := hide hrg
      have hx := HD.out.2.2 _ (List.mem_of_getElem? hP)
      have hx2 : (decide (2 ≤ x) && decide (x < (il : Int) / 512)) = true := by rw [HQ.out]; simp; exact hx
      have hiI : (i : Int) < (pn : Int) := by omega
      clear hrg hP hown hx hb
      go_wp2_with (first
        | (refine wpList_load_mid rfl 40 _ rfl pg (i * 2) rfl [.int .i64 x, .slice da dl dc] _ HRg.out Tryd.underlying40 rfl infoPut2 ?_)
        | (go_at_call 31; refine (isBlock_any x ((il : Int) / 512) _).mono ?_; rintro e w7 ⟨rfl, rfl⟩; rw [hx2]))
      exact ⟨⟨i + 1, by omega, by go_num, HB.out.trans (((Below.refl _ _).alloc (Nat.le_refl _) _).mono HB.out.size)⟩, by simp [intOf]; omega⟩
    · have hi3 : i = pn := by omega
      subst hi3
      have hiI : ¬ (i : Int) < (i : Int) := by omega
      obtain ⟨wd, hwd⟩ : ∃ wd, wd = wr := ⟨_, rfl⟩
      have R5 := hide (R4.out.below HB.out)
      have B5 := hide (show Below W2.heap.size W2 wr from B4.out.trans (HB.out.mono B4.out.size))
      have P5 := hide (HPO.out.below HB.out)
      have C5 := hide (show wr.cell? ⟨b, 24, none⟩ = some (.slice pa i pc) from (HB.out.cell (p := ⟨b, 24, none⟩) (cell_lt C24.out)).trans C24.out)
      have K5 := hide (K2.out.below B5.out K2.out.lt)
      have HBlo := hide (show W2.heap.size ≤ b from by obtain ⟨C, so, sl, fv, pv, vs2, hS⟩ := R4.out; exact hS.lo)
      clear hb hwd
      go_wp2_with fail
      refine wp_region_noPanic ?_
      refine wp_region_held_drew (S := fun w' => w'.cell? ⟨b, 24, none⟩ = some (.slice pa i pc)) (by kernel_rfl) C5.out (fun hH => ?_)
      refine wpAnyH_take (i := 0) (oi := _) (v := .pointer (some ⟨b, 0, none⟩)) rfl (by kernel_rfl) (by kernel_rfl) (by kernel_rfl) (fun _ _ _ h => h) (Or.inl ⟨by rfl, fun w' hw' => by go_simp⟩) hH ?_
      try simp only [Act.put, List.getElem_toArray, List.getElem_cons_zero, List.getElem_cons_succ, List.setIfInBounds_toArray, List.set_cons_zero, List.set_cons_succ]
      refine wpAnyH_take (i := 1) (oi := _) (v := .pointer (some ⟨b, 0, none⟩)) rfl (by kernel_rfl) (by kernel_rfl) (by kernel_rfl) (fun _ _ _ h => h) (Or.inl ⟨by rfl, fun w' hw' => by go_simp⟩) hH ?_
      try simp only [Act.put, List.getElem_toArray, List.getElem_cons_zero, List.getElem_cons_succ, List.setIfInBounds_toArray, List.set_cons_zero, List.set_cons_succ]
      refine wpAnyH_take (i := 2) (oi := _) (v := .pointer (some ⟨b, 20, none⟩)) rfl (by kernel_rfl) (by kernel_rfl) (by kernel_rfl) (fun _ _ _ h => h) (Or.inl ⟨by rfl, fun w' hw' => by go_simp⟩) hH ?_
      try simp only [Act.put, List.getElem_toArray, List.getElem_cons_zero, List.getElem_cons_succ, List.setIfInBounds_toArray, List.set_cons_zero, List.set_cons_succ]
      refine wpAnyH_take (i := 3) (oi := _) (v := .slice ca n cc) rfl (by kernel_rfl) (by kernel_rfl) (by kernel_rfl) (fun _ _ _ h => h) (Or.inl ⟨by rfl, fun w' hw' => by go_simp⟩) hH ?_
      try simp only [Act.put, List.getElem_toArray, List.getElem_cons_zero, List.getElem_cons_succ, List.setIfInBounds_toArray, List.set_cons_zero, List.set_cons_succ]
      refine wpAnyH_take (i := 4) (oi := _) (v := .int .i64 (n : Int)) rfl (by kernel_rfl) (by kernel_rfl) (by kernel_rfl) (fun _ _ _ h => h) (Or.inl ⟨by rfl, fun w' hw' => by go_simp⟩) hH ?_
      try simp only [Act.put, List.getElem_toArray, List.getElem_cons_zero, List.getElem_cons_succ, List.setIfInBounds_toArray, List.set_cons_zero, List.set_cons_succ]
      refine wpAnyH_take (i := 6) (oi := _) (v := .pointer (some ⟨b, 0, none⟩)) rfl (by kernel_rfl) (by kernel_rfl) (by kernel_rfl) (fun _ _ _ h => h) (Or.inl ⟨by rfl, fun w' hw' => by go_simp⟩) hH ?_
      try simp only [Act.put, List.getElem_toArray, List.getElem_cons_zero, List.getElem_cons_succ, List.setIfInBounds_toArray, List.set_cons_zero, List.set_cons_succ]
      refine wpAnyH_take (i := 7) (oi := _) (v := .pointer (some ⟨b, 0, none⟩)) rfl (by kernel_rfl) (by kernel_rfl) (by kernel_rfl) (fun _ _ _ h => h) (Or.inl ⟨by rfl, fun w' hw' => by go_simp⟩) hH ?_
      try simp only [Act.put, List.getElem_toArray, List.getElem_cons_zero, List.getElem_cons_succ, List.setIfInBounds_toArray, List.set_cons_zero, List.set_cons_succ]
      refine wpAnyH_take (i := 8) (oi := _) (v := .pointer (some ⟨b, 24, none⟩)) rfl (by kernel_rfl) (by kernel_rfl) (by kernel_rfl) (fun _ _ _ h => h) (Or.inl ⟨by rfl, fun w' hw' => by go_simp⟩) hH ?_
      try simp only [Act.put, List.getElem_toArray, List.getElem_cons_zero, List.getElem_cons_succ, List.setIfInBounds_toArray, List.set_cons_zero, List.set_cons_succ]
      refine wpAnyH_take (i := 9) (oi := _) (v := .slice pa i pc) rfl (by kernel_rfl) (by kernel_rfl) (by kernel_rfl) (fun _ _ _ h => h) (Or.inl ⟨by rfl, fun w' hw' => by go_simp⟩) hH ?_
      try simp only [Act.put, List.getElem_toArray, List.getElem_cons_zero, List.getElem_cons_succ, List.setIfInBounds_toArray, List.set_cons_zero, List.set_cons_succ]
      refine wpAnyH_ready (rs := [5]) (by kernel_rfl) (by simp) ?_
      refine AllReadyH.cons (o := _) rfl (fun K hK => ?_) AllReadyH.nil
      go_simp
      obtain ⟨C, so, sl, fv, pv, vs2, hS⟩ := R5.out.below ((Below.refl _ _).drew)
      refine (root_any b n W2.heap.size C sl D.Ln _ hS.now).mono ?_
      rintro e w6 ⟨rfl, b6⟩
      have B6 := hide (show Below wr.heap.size wr w6 from (Below.refl _ _).drew.trans b6)
      clear hS b6
      have s6 : w6.cell? ⟨b, 24, none⟩ = some (.slice pa i pc) := (B6.out.cell (p := ⟨b, 24, none⟩) (cell_lt C5.out)).trans C5.out
      refine hK.out _ _ s6 (fun hH => ?_)
      clear hK K s6
      try simp only [Act.put, List.getElem_toArray, List.getElem_cons_zero, List.getElem_cons_succ, List.setIfInBounds_toArray, List.set_cons_zero, List.set_cons_succ]
      obtain ⟨RF, hRF⟩ : ∃ RF, RF = rootC D.Ln n 14 := ⟨_, rfl⟩
      rw [← hRF]
      have HRF := hide hRF
      have HIn := hide (show (Tryd.prog.info? 34).map (·.size) = some RF.size from by rw [hRF, rootC_size]; exact infoRt15)
      have HO := hide (show RF.all (·.oneCell') = true from by rw [hRF]; exact i64_one _)
      have HSr := hide (show rootZ.size = RF.size from by rw [hRF, rootC_size]; rfl)
      have K6 := hide (K5.out.below B6.out K5.out.lt)
      clear hRF
      refine wpAnyH_ready (rs := [10]) (by kernel_rfl) (by simp) ?_
      refine AllReadyH.cons (o := _) rfl (fun K hK => ?_) AllReadyH.nil
      rw [if_pos (by rfl)]
      refine wp_store_row 34 _ _ rfl (w.heap.size + 1) RF rfl rfl 34 rootZ K6.out HIn.out HSr.out HO.out ?_
      have s7 : (w6.setRow (w.heap.size + 1) RF).cell? ⟨b, 24, none⟩ = some (.slice pa i pc) := (World.cell?_of_block (w := w6) (a := ⟨b, 24, none⟩) (setRow_other w6 (w.heap.size + 1) b RF (by have h1 := HBlo.out; have h2 := HSz.out; omega))).trans hH
      refine hK.out _ _ s7 (fun hH => ?_)
      clear hK K s7
      try simp only [Act.put, List.getElem_toArray, List.getElem_cons_zero, List.getElem_cons_succ, List.setIfInBounds_toArray, List.set_cons_zero, List.set_cons_succ]
      refine wpAnyH_take (i := 11) (oi := _) (v := .slice pa i pc) rfl (by kernel_rfl) (by kernel_rfl) (by kernel_rfl) (fun _ _ _ h => h) (Or.inl ⟨by rfl, fun w' hw' => by go_simp⟩) hH ?_
      try simp only [Act.put, List.getElem_toArray, List.getElem_cons_zero, List.getElem_cons_succ, List.setIfInBounds_toArray, List.set_cons_zero, List.set_cons_succ]
      refine wpAnyH_take (i := 12) (oi := _) (v := .int .i64 0) rfl (by kernel_rfl) (by kernel_rfl) (by kernel_rfl) (fun _ _ _ h => h) (Or.inl ⟨by rfl, fun w' hw' => by go_simp⟩) hH ?_
      try simp only [Act.put, List.getElem_toArray, List.getElem_cons_zero, List.getElem_cons_succ, List.setIfInBounds_toArray, List.set_cons_zero, List.set_cons_succ]
      refine wpAnyH_done (by kernel_rfl) (NoPanic.normal ?_) _
      clear hH
      go_wp2_with fail
      have k7 : Blk (w6.setRow (w.heap.size + 1) RF) (w.heap.size + 1) RF 34 := K6.out.row _
      have b7 : Below w.heap.size w (w6.setRow (w.heap.size + 1) RF) := below_setRow ((B2.out.trans (B5.out.mono B2.out.size)).trans (B6.out.mono (Nat.le_trans B2.out.size B5.out.size))) (by omega) _
      have y7 : KpY (fun t => t = 34) w6 (w6.setRow (w.heap.size + 1) RF) := fun k hk hT => setRow_other w6 (w.heap.size + 1) k RF (fun e => by subst e; exact hT _ _ _ K6.out rfl)
      refine bodyPost_ret (results_rttR rfl _ _ (w.heap.size + 1) 34 RF (0, 0) _ (.slice pa i pc) (.int .i64 0) rfl rfl rfl k7 Tryd.underlying34 rfl HIn.out) rfl ?_
      refine ⟨pa, pc, vs, by rw [HRF.out, HPN.out], ?_, b7⟩
      have := y7.ownN ((P5.out.below B6.out).mono (base' := w.heap.size) B2.out.size) (by decide) (by decide)
      rw [← HPN.out]
      exact this
end Go.Proofs.YtnfgldglpfgmnaaDoor

namespace Go.Proofs.YtnfgldglpfgmnaaDoor
set_option linter.unusedVariables false
set_option linter.unusedSimpArgs false
open Go.RowKit

theorem conv_rdT {w : World} {v : Value} {xs : List Int} (h : Rd .u8 w v xs) : (convert 22 9 v).run Tryd.prog w = .ok (.string (strOfNums xs)) w := by
  obtain ⟨a, cap, rfl, hm, hc, h1, h2⟩ := h
  by_cases hne : xs = []
  · subst hne
    rw [run_convert_bytes_string w 22 9 5 _ _ cap Tryd.underlying22 Tryd.underlying5 Tryd.underlying9]
    cases a with
    | none => simp [Conv.bytesToString]; rfl
    | some ad =>
      exact run_bytesToString w ad 0 cap [] (by simpa using run_loadCells_list (P := Tryd.prog) w ad [] (by simp))
  · obtain ⟨b, off, rfl, _, hcell⟩ := hc hne
    exact run_convert_bytes_arg w 22 5 Tryd.underlying22 Tryd.underlying5 b off xs.length cap xs rfl hcell 9 Tryd.underlying9
theorem wpList_convT {ops : Array Oper} {rest : List Oper} {o : Oper} {a : Act} {w : World} {Q : Exit → Act → World → Prop} (hgd : o.guard = none) (x : Operand) (ho : o.op = .convert 22 9 x) (v : Value) (hx : a.eval x = v) (xs : List Int) (hr : Rd .u8 w v xs)
    (h : wpList Tryd.prog ops Q rest (a.put o.dst (.string (strOfNums xs))) w) : wpList Tryd.prog ops Q (o :: rest) a w := by
  refine wpList_plain hgd fun K hK => ?_
  unfold Oper.wp execOp
  simp only [ho, hx, Sem.run_bind, Sem.run_pure, Result.andThen_ok, conv_rdT hr]
  exact hK _ _ h
theorem smB_any (v u : Value) (zs : List Int) (w : World) (h : Rd .u8 w v zs) (k : Rd .u8 w u zs) :
    Calls Tryd.prog 12 #[v, u] w fun e w' => e = .returned (.bool true) ∧ w' = w := by
  have H := hide h
  have K := hide k
  clear h k
  go_enter Tryd.func12, Tryd.ntmps12
  go_wp2_with (first | (refine wpList_convT rfl _ rfl v rfl zs H.out ?_) | (refine wpList_convT rfl _ rfl u rfl zs K.out ?_) | fail)
  go_ret
  exact ⟨by first | rfl | simp, rfl⟩
end Go.Proofs.YtnfgldglpfgmnaaDoor
