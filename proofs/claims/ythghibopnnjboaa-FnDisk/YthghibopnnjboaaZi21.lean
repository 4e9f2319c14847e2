/- The model's write, walked. -/
import Derived.Test.YthghibopnnjboaaZi20
namespace Go.Proofs.Ythghibopnnjboaa
set_option linter.unusedVariables false
set_option linter.unusedSimpArgs false
open Go.RowKit

theorem wp_append_emptyK {P : Program} {w : World} {o : Oper} {a : Act} {K : Act → World → Prop} {Q : Exit → Act → World → Prop} (s x : Operand) (t : TypeId)
    (ho : o.op = .call { callee := .builtin .append, args := #[s, x], argTypes := #[t, t] })
    (base : Nat) (e : TypeId) (i : TypeInfo) (size : Nat) (ht : P.underlying t = some (.slice e)) (hi : P.info? e = some i)
    (v : Value) (n : Nat) (xs : List Value) (hs : a.eval s = v) (hown : w.ownsRow base e size v n xs) (ad : Option Addr) (c : Nat) (hx : a.eval x = .slice ad 0 c)
    (h : K (a.put o.dst v) w) : o.wp P a w K Q := by
  have hrun := run_append_emptyM (P := P) (w := w) base t o.type e i size ht hi v n xs hown ad c
  unfold Oper.wp
  simp [execOp, ho, resolve, invoke, builtin, hs, hx, hrun, Result.andThen]
  exact h
/-- A copy by append to an empty literal: of the cells xs that lie where the slice begins. -/
theorem wp_append_copyK {P : Program} (w : World) {o : Oper} {a : Act} {K : Act → World → Prop} {Q : Exit → Act → World → Prop}
    (s x : Operand) (t : TypeId) (hop : o.op = Op.call { callee := Callee.builtin Builtin.append, args := #[s, x], argTypes := #[t, t] })
    (e : TypeId) (i : TypeInfo) (z : Value) (size bytes : Nat) (h1 : P.underlying t = some (.slice e)) (h2 : P.info? e = some i) (h3 : i.zero = some z) (h4 : i.size = size) (h5 : i.bytes = bytes) (h6 : z.cells.size = size) (h7 : 0 < size)
    (hs : a.eval s = .slice (some ⟨w.heap.size, 0, none⟩) 0 0) (ad : Option Addr) (m c : Nat) (xs : List Value) (hx : a.eval x = .slice ad m c) (hl : xs.length = m * size)
    (hr : 0 < m → ∃ bd off, ad = some ⟨bd, off, none⟩ ∧ bd < w.heap.size ∧ ∀ (j : Nat) (u : Value), xs[j]? = some u → w.cell? ⟨bd, off + j, none⟩ = some u) (hone : ∀ u ∈ xs, u.oneCell' = true) (hm : m ≤ maxLen) (hb : m * bytes ≤ 140737488355328)
    (hK : ∀ v' w', w'.ownsRow w.heap.size e size v' m xs → Below w.heap.size w w' → K (a.put o.dst v') w') : o.wp P a (w.alloc (.cells #[] e)) K Q := by
  have hB : Below w.heap.size w (w.alloc (.cells #[] e)) := (Below.refl _ _).alloc (Nat.le_refl _) _
  have hO := own_emptyM w e size
  by_cases hp : 0 < m
  · obtain ⟨bd, off, rfl, hbd, hc⟩ := hr hp
    refine wp_append_own (w.alloc (.cells #[] e)) s x t hop w.heap.size e i z size bytes h1 h2 h3 h4 h5 h6 h7 _ 0 [] hs hO ⟨bd, off, none⟩ m c xs hx hl (fun j u hj => ?_) hone (by omega) (by rw [Nat.zero_add]; exact hb) (by simp) ?_
    · rw [Addr.add_mid]
      exact (hB.cell (p := ⟨bd, off + j, none⟩) hbd).trans (hc j u hj)
    · intro v' w' r1 r2 _
      rw [Nat.zero_add, List.nil_append] at r1
      exact hK v' w' r1 (hB.grown r2 hB.size (fun k e => by cases e; exact Nat.le_refl _))
  · obtain rfl : m = 0 := by omega
    have hx0 : xs = [] := List.eq_nil_of_length_eq_zero (by omega)
    subst hx0
    refine wp_append_emptyK s x t hop w.heap.size e i size h1 h2 _ 0 [] hs hO ad c hx ?_
    exact hK _ _ hO hB
theorem OwnN.ltK {W : World} {base : Nat} {e : TypeId} {m : Nat} {v : Value} {L : List NE} {vs : List Value} (h : OwnN W base e m v L vs) {i : Nat} {u : Value} {b : Nat} (hu : vs[i]? = some u) (hb : u.ownBlock = some b) : base ≤ b ∧ b < W.heap.size := by
  have hi : i < L.length := by rw [← h.len]; exact (List.getElem?_eq_some_iff.1 hu).1
  exact (h.dat i u _ hu (List.getElem?_eq_getElem hi)).lt b hb
/-- What a write answers, and whether the power is off behind it. -/
def cdJ (fuse : Int) : Int := if maJ fuse = 4 then 0 else 20
def ofJ (off : Bool) (fuse : Int) : Bool := off || decide (maJ fuse ≠ 4)
section
variable {W W' : World} {base d : Nat} {vi vc vw : Value} {I : List Int} {C : List (Nat × List Int)} {cs : List Value} {fuse : Int} {off : Bool} {H : List NE} {hs : List Value}
theorem ownN_setA {e t : TypeId} {m j : Nat} {v u : Value} {L : List NE} {vs : List Value} {A : Array Value} (h : OwnN W base e m v L vs) (k : Blk W d A t) (h1 : e ≠ t) (h2 : 5 ≠ t) : OwnN (W.setCell ⟨d, j, none⟩ u) base e m v L vs :=
  ownN_setD h (blk_apart h.row k h1) (fun x hx => by
    obtain ⟨j, hj⟩ := List.getElem?_of_mem hx
    have hlt : j < L.length := by rw [← h.len]; exact (List.getElem?_eq_some_iff.1 hj).1
    exact blk_apart (h.dat j x _ hj (List.getElem?_eq_getElem hlt)) k h2)
/-- The device behind one more write in its cache: the row grown, then stored into the device. -/
theorem DvM.pushC (h : DvM W base d vi vc vw I C cs fuse off H hs) (c : Nat × List Int) (u v' : Value) (hu : W.ownsRow base 5 1 u c.2.length (c.2.map (Value.int .u8))) (hnew : ∀ (i : Nat) (x : Value) (b : Nat), cs[i]? = some x → x.ownBlock = some b → u.ownBlock ≠ some b)
    (ho : W'.ownsRow base 92 2 v' (C.length + 1) (cellsN cs (C.map neW) ++ [.int .i64 (c.1 : Int), u])) (hg : W.grownBy W' vc.ownBlock) (hok : c.1 + c.2.length ≤ I.length) (hn : C.length + 1 ≤ 100000) :
    DvM (W'.setCell ⟨d, 1, none⟩ v') base d vi v' vw I (C ++ [c]) (cs ++ [u]) fuse off H hs ∧ KpY (fun t => t = 92) W W' ∧ Blk W' d #[vi, vc, .int .i64 fuse, .bool off, vw] 80 := by
  have kp : KpY (fun t => t = 92) W W' := (KpY.refl _ _).ownrow h.cac.row rfl hg
  have kB := kp.blk h.blk (by decide)
  have hc : OwnN W' base 92 1 v' ((C ++ [c]).map neW) (cs ++ [u]) := by
    rw [List.map_append]
    exact h.cac.push (by decide) (neW c) u rfl hu hnew (by rw [List.length_map]; exact ho) hg
  have hI := kp.own h.img (by decide)
  have hw := kp.ownN h.who (by decide) (by decide)
  refine ⟨⟨kB.set 1 _, own_setD hI (blk_apart hI kB (by decide)), ownN_setA hc kB (by decide) (by decide), ownN_setA hw kB (by decide) (by decide), fun x hx => ?_, h.n1, by rw [List.length_append]; exact hn⟩, kp, kB⟩
  rcases List.mem_append.1 hx with hx | hx
  · exact h.ok x hx
  · rw [List.mem_singleton.1 hx]; exact hok
set_option maxRecDepth 100000 in
set_option maxHeartbeats 8000000 in
theorem writeM_any (h : DvM W base d vi vc vw I C cs fuse off H hs) (hd : base ≤ d) (B : Nat) (hB : B * 512 + 512 ≤ I.length) (vd : Value) (D : List Int) (w0 : World) (hD : Rd .u8 w0 vd D) (hw0 : Below w0.heap.size w0 W) (hw1 : w0.heap.size ≤ base) (hl : D.length = 512) (hC : C.length + 4 ≤ 100000) (hfu : fuse < 9223372036854775808) :
    Calls Try.prog 51 #[.pointer (some ⟨d, 0, none⟩), .int .i64 (B : Int), vd] W fun e w' => ∃ vc' cs', e = .returned (.int .i64 (cdJ fuse)) ∧ DvM w' base d vi vc' vw I (wrC C B D (maJ fuse)) cs' (fuJ fuse (maJ fuse)) (ofJ off fuse) H hs ∧ Below base W w' ∧ KpY TyM W w' := by
  obtain ⟨i0, hi, hz0, hz1, hz2⟩ := info_parts infoW2
  obtain ⟨i1, hi1, hy0, hy1, hy2⟩ := info_parts infoU8
  obtain ⟨da, dc, rfl⟩ : ∃ a cap, vd = .slice a 512 cap := by obtain ⟨a, cap, e, _⟩ := hD; rw [hl] at e; exact ⟨a, cap, e⟩
  have HV := hide h
  have HD := hide (And.intro hD (And.intro hw0 hl))
  have hIl := h.n1
  have HBl := hide hB
  have hBb : B ≤ 2048 := by omega
  have hbW : base ≤ W.heap.size := by have := h.blk.lt; omega
  obtain ⟨CL0, hCL0⟩ : ∃ CL0, CL0 = C.length := ⟨_, rfl⟩
  rw [← hCL0] at hC
  have HCL0 := hide hCL0.symm
  clear h hD hw0 hl hB hCL0
  go_enter Try.func51, Try.ntmps51
  go_wp2
  go_loopw [7] (fun kv wx => ∃ (j K0 CL : Nat) (cs1 : List Value) (ca : Option Addr) (cc : Nat), j ≤ 4 ∧ K0 = j * 128 ∧ kv = .int .i64 (K0 : Int) ∧ CL = (wrC C B D j).length ∧ DvM wx base d vi (.slice ca CL cc) vw I (wrC C B D j) cs1 (fuJ fuse j) off H hs ∧ (0 ≤ fuse → (j : Int) ≤ fuse) ∧ Below base W wx ∧ KpY TyM W wx) (fun kv _ => 512 - (intOf kv).toNat)
  case atStart =>
    obtain ⟨ca, cc, e⟩ : ∃ ca cc, vc = .slice ca C.length cc := by have hr := HV.out.cac.row; rw [List.length_map] at hr; exact shape_rowK hr
    subst e
    exact ⟨0, 0, C.length, cs, ca, cc, by omega, by omega, rfl, by rw [wrC_zero], by rw [wrC_zero]; have := HV.out; unfold fuJ; split <;> simpa using this, fun h => by omega, Below.refl _ _, KpY.refl _ _⟩
  case round =>
    obtain ⟨j, K0, CL, cs1, ca, cc, hj, hK0, rfl, hCL, hv, hf, hb, hy⟩ := hrel
    have hfj : fuJ fuse j < 9223372036854775808 := by unfold fuJ; split <;> omega
    obtain ⟨f, hfe⟩ : ∃ f, f = fuJ fuse j := ⟨_, rfl⟩
    rw [← hfe] at hv hfj
    have HFe := hide hfe
    have HK0 := hide hK0
    have HCL := hide hCL
    have hCLb : CL ≤ 99996 + j := by rw [hCL, wrC_len, HCL0.out]; omega
    have HF := hide hf
    have HX := hide (And.intro hv (And.intro hb hy))
    have hK5 : K0 ≤ 512 := by omega
    have hjK : j * 128 = K0 := hK0.symm
    have c2 := (hv.blk.cell 2).trans (show _ = some (.int .i64 f) from rfl)
    have c3 := (hv.blk.cell 3).trans (show _ = some (.bool off) from rfl)
    have r2 := hv.blk.frozen 2
    have r3 := hv.blk.frozen 3
    have hcl := HCL0.out
    clear hv hf hb hy hCL hK0 hfe
    by_cases hlt : j < 4
    · have hI : (K0 : Int) < 512 := by omega
      have HjK := hide hjK
      have hK4 : K0 ≤ 384 := by omega
      clear hjK
      by_cases h0 : f = 0
      · have HE := hide (show DvM (wr.setCell ⟨d, 3, none⟩ (.bool true)) base d vi (.slice ca CL cc) vw I (wrC C B D j) cs1 f true H hs ∧ Below base W (wr.setCell ⟨d, 3, none⟩ (.bool true)) ∧ KpY TyM W (wr.setCell ⟨d, 3, none⟩ (.bool true)) from ⟨HX.out.1.setOff true, HX.out.2.1.setCell (p := ⟨d, 3, none⟩) hd _, HX.out.2.2.setCell HX.out.1.blk (.inl rfl)⟩)
        have hma : maJ fuse = j := maJ_stop hlt HF.out (by rw [← HFe.out]; exact h0)
        have HM := hide hma
        clear hma
        subst h0
        go_wp2
        go_ret
        have h4 : ¬ (j = 4) := by omega
        have e1 : cdJ fuse = 20 := by unfold cdJ; rw [HM.out, if_neg h4]
        have e2 : ofJ off fuse = true := by unfold ofJ; rw [HM.out]; simp [h4]
        rw [e1, e2, HM.out, ← HFe.out]
        exact ⟨_, _, rfl, HE.out.1, HE.out.2.1, HE.out.2.2⟩
      · have q0 : ¬ (f = 0) := h0
        obtain ⟨sa, sc, hsr, hsl0⟩ := slice_pieceK HD.out.1 K0 (K0 + 128) (by omega) (by rw [HD.out.2.2]; omega)
        rw [show K0 + 128 - K0 = 128 by omega] at hsr hsl0
        have hsl : ∀ (wx : World), (Instr.slice 22 (.slice da 512 dc) (some (.int .i64 (K0 : Int))) (some (.int .i64 ((K0 : Int) + 128))) none).run Try.prog wx = .ok (.slice sa 128 sc) wx := fun wx => by
          have := hsl0 wx
          rw [show ((K0 + 128 : Nat) : Int) = (K0 : Int) + 128 by omega] at this
          exact this
        obtain ⟨P, hP⟩ : ∃ P : List Int, P = (D.drop K0).take 128 := ⟨_, rfl⟩
        rw [← hP] at hsr
        have hPl : P.length = 128 := by rw [hP, List.length_take, List.length_drop, HD.out.2.2]; omega
        have HSR := hide hsr
        have HP := hide (And.intro hP hPl)
        obtain ⟨At, hAt⟩ : ∃ At : Nat, (B : Int) * 512 + (K0 : Int) = (At : Int) := ⟨B * 512 + K0, by omega⟩
        have hAt2 : (At : Int) = (B : Int) * 512 + (K0 : Int) := hAt.symm
        have HAt := hide hAt
        have hAtb : At ≤ 2000000 := by omega
        have HSec := hide (show (secW B D j).1 = At ∧ (secW B D j).2 = P ∧ (secW B D j).1 + (secW B D j).2.length ≤ I.length from by
          have e1 : (secW B D j).1 = At := by show B * 512 + j * 128 = At; have := HjK.out; omega
          have e2 : (secW B D j).2 = P := by show (D.drop (j * 128)).take 128 = P; rw [HjK.out, hP]
          refine ⟨e1, e2, ?_⟩
          rw [e1, e2, hPl]
          have := HBl.out
          omega)
        clear hsl0 hP hPl hAt hAt2 hsr
        by_cases hp : 0 < f
        · obtain ⟨wq, hwq⟩ : ∃ wq, wq = wr.setCell ⟨d, 2, none⟩ (.int .i64 (f - 1)) := ⟨_, rfl⟩
          have hfn := fuJ_next (by rw [← HFe.out]; exact hp : 0 < fuJ fuse j)
          have HF1 := hide hfn.2
          have HQ := hide (show DvM wq base d vi (.slice ca CL cc) vw I (wrC C B D j) cs1 (fuJ fuse (j + 1)) off H hs ∧ Below base W wq ∧ KpY TyM W wq from by
            rw [hwq, ← hfn.1, ← HFe.out]
            exact ⟨HX.out.1.setFuse (f - 1), HX.out.2.1.setCell (p := ⟨d, 2, none⟩) hd _, HX.out.2.2.setCell HX.out.1.blk (.inl rfl)⟩)
          have HWQ := hide hwq
          clear hwq hfn
          go_upto_region 9 with fail
          rw [← HWQ.out]
          clear c2 c3 r2 r3
          obtain ⟨wd, hwd⟩ : ∃ wd, wd = wq.drew := ⟨_, rfl⟩
          have bdr : Below wq.heap.size wq wd := by rw [hwd]; exact (Below.refl _ _).drew
          have HVd := hide (HQ.out.1.below bdr)
          have HBd := hide (show Below base W wd by rw [hwd]; exact HQ.out.2.1.drew)
          have HYd := hide (HQ.out.2.2.below bdr)
          have hbwd : base ≤ wd.heap.size := Nat.le_trans hbW HBd.out.size
          have HWd := hide hwd
          have S0 := hide ((HVd.out.blk.cell 1).trans (show _ = some (.slice ca CL cc) from rfl))
          have S1 := hide (((HVd.out.blk.alloc (.cells #[] 5)).cell 1).trans (show _ = some (.slice ca CL cc) from rfl))
          have RP := hide (show 0 < 128 → ∃ bd off, sa = some ⟨bd, off, none⟩ ∧ bd < wd.heap.size ∧ ∀ (j : Nat) (u : Value), (P.map (Value.int .u8))[j]? = some u → wd.cell? ⟨bd, off + j, none⟩ = some u by
            have h1 : Rd .u8 wd (.slice sa P.length sc) P := by rw [HP.out.2]; exact HSR.out.below (HD.out.2.1.trans (HBd.out.mono hw1))
            have h2 := h1.srcM
            rw [HP.out.2] at h2
            exact h2)
          clear hwd bdr
          refine wp_region_noPanic ?_
          refine wp_region_heldL (fun w' => w'.cell? ⟨d, 1, none⟩ = some (.slice ca CL cc)) 21 (by kernel_rfl) ?_
          rw [← HWd.out]
          refine wpAnyL_take (i := 0) (oi := _) (v := .pointer (some ⟨d, 0, none⟩)) rfl (by kernel_rfl) (by kernel_rfl) (by kernel_rfl) (by kernel_rfl) (fun _ _ _ h => h) (Or.inl ⟨by rfl, fun w' hw' => by go_simp⟩) S0.out ?_
          try simp only [Act.put, List.getElem_toArray, List.getElem_cons_zero, List.getElem_cons_succ, List.setIfInBounds_toArray, List.set_cons_zero, List.set_cons_succ]
          refine wpAnyL_take (i := 1) (oi := _) (v := .pointer (some ⟨d, 0, none⟩)) rfl (by kernel_rfl) (by kernel_rfl) (by kernel_rfl) (by kernel_rfl) (fun _ _ _ h => h) (Or.inl ⟨by rfl, fun w' hw' => by go_simp⟩) S0.out ?_
          try simp only [Act.put, List.getElem_toArray, List.getElem_cons_zero, List.getElem_cons_succ, List.setIfInBounds_toArray, List.set_cons_zero, List.set_cons_succ]
          refine wpAnyL_take (i := 2) (oi := _) (v := .pointer (some ⟨d, 0, none⟩)) rfl (by kernel_rfl) (by kernel_rfl) (by kernel_rfl) (by kernel_rfl) (fun _ _ _ h => h) (Or.inl ⟨by rfl, fun w' hw' => by go_simp⟩) S0.out ?_
          try simp only [Act.put, List.getElem_toArray, List.getElem_cons_zero, List.getElem_cons_succ, List.setIfInBounds_toArray, List.set_cons_zero, List.set_cons_succ]
          refine wpAnyL_take (i := 3) (oi := _) (v := .pointer (some ⟨d, 1, none⟩)) rfl (by kernel_rfl) (by kernel_rfl) (by kernel_rfl) (by kernel_rfl) (fun _ _ _ h => h) (Or.inl ⟨by rfl, fun w' hw' => by go_simp⟩) S0.out ?_
          try simp only [Act.put, List.getElem_toArray, List.getElem_cons_zero, List.getElem_cons_succ, List.setIfInBounds_toArray, List.set_cons_zero, List.set_cons_succ]
          refine wpAnyL_take (i := 4) (oi := _) (v := .slice ca CL cc) rfl (by kernel_rfl) (by kernel_rfl) (by kernel_rfl) (by kernel_rfl) (fun _ _ _ h => h) (Or.inl ⟨by rfl, fun w' hw' => by have hw2 : w'.cell? ⟨d, 1, none⟩ = some (.slice ca CL cc) := hw'; go_simp⟩) S0.out ?_
          try simp only [Act.put, List.getElem_toArray, List.getElem_cons_zero, List.getElem_cons_succ, List.setIfInBounds_toArray, List.set_cons_zero, List.set_cons_succ]
          refine wpAnyL_take (i := 5) (oi := _) (v := .int .i64 (B : Int)) rfl (by kernel_rfl) (by kernel_rfl) (by kernel_rfl) (by kernel_rfl) (fun _ _ _ h => h) (Or.inl ⟨by rfl, fun w' hw' => by go_simp⟩) S0.out ?_
          try simp only [Act.put, List.getElem_toArray, List.getElem_cons_zero, List.getElem_cons_succ, List.setIfInBounds_toArray, List.set_cons_zero, List.set_cons_succ]
          refine wpAnyL_take (i := 6) (oi := _) (v := .int .i64 ((B : Int) * 512)) rfl (by kernel_rfl) (by kernel_rfl) (by kernel_rfl) (by kernel_rfl) (fun _ _ _ h => h) (Or.inl ⟨by rfl, fun w' hw' => by have hw6 := wrapK ((B : Int) * 512) (by omega) (by omega); go_simp⟩) S0.out ?_
          try simp only [Act.put, List.getElem_toArray, List.getElem_cons_zero, List.getElem_cons_succ, List.setIfInBounds_toArray, List.set_cons_zero, List.set_cons_succ]
          refine wpAnyL_take (i := 7) (oi := _) (v := .int .i64 (K0 : Int)) rfl (by kernel_rfl) (by kernel_rfl) (by kernel_rfl) (by kernel_rfl) (fun _ _ _ h => h) (Or.inl ⟨by rfl, fun w' hw' => by go_simp⟩) S0.out ?_
          try simp only [Act.put, List.getElem_toArray, List.getElem_cons_zero, List.getElem_cons_succ, List.setIfInBounds_toArray, List.set_cons_zero, List.set_cons_succ]
          refine wpAnyL_take (i := 8) (oi := _) (v := .int .i64 (At : Int)) rfl (by kernel_rfl) (by kernel_rfl) (by kernel_rfl) (by kernel_rfl) (fun _ _ _ h => h) (Or.inl ⟨by rfl, fun w' hw' => by have hw8 : IntKind.i64.wrap ((B : Int) * 512 + (K0 : Int)) = (At : Int) := (wrapK _ (by omega) (by omega)).trans HAt.out; go_simp⟩) S0.out ?_
          try simp only [Act.put, List.getElem_toArray, List.getElem_cons_zero, List.getElem_cons_succ, List.setIfInBounds_toArray, List.set_cons_zero, List.set_cons_succ]
          refine wpAnyL_take (i := 10) (oi := _) (v := .slice da 512 dc) rfl (by kernel_rfl) (by kernel_rfl) (by kernel_rfl) (by kernel_rfl) (fun _ _ _ h => h) (Or.inl ⟨by rfl, fun w' hw' => by go_simp⟩) S0.out ?_
          try simp only [Act.put, List.getElem_toArray, List.getElem_cons_zero, List.getElem_cons_succ, List.setIfInBounds_toArray, List.set_cons_zero, List.set_cons_succ]
          refine wpAnyL_take (i := 11) (oi := _) (v := .int .i64 (K0 : Int)) rfl (by kernel_rfl) (by kernel_rfl) (by kernel_rfl) (by kernel_rfl) (fun _ _ _ h => h) (Or.inl ⟨by rfl, fun w' hw' => by go_simp⟩) S0.out ?_
          try simp only [Act.put, List.getElem_toArray, List.getElem_cons_zero, List.getElem_cons_succ, List.setIfInBounds_toArray, List.set_cons_zero, List.set_cons_succ]
          refine wpAnyL_take (i := 12) (oi := _) (v := .int .i64 (K0 : Int)) rfl (by kernel_rfl) (by kernel_rfl) (by kernel_rfl) (by kernel_rfl) (fun _ _ _ h => h) (Or.inl ⟨by rfl, fun w' hw' => by go_simp⟩) S0.out ?_
          try simp only [Act.put, List.getElem_toArray, List.getElem_cons_zero, List.getElem_cons_succ, List.setIfInBounds_toArray, List.set_cons_zero, List.set_cons_succ]
          refine wpAnyL_take (i := 13) (oi := _) (v := .int .i64 ((K0 : Int) + 128)) rfl (by kernel_rfl) (by kernel_rfl) (by kernel_rfl) (by kernel_rfl) (fun _ _ _ h => h) (Or.inl ⟨by rfl, fun w' hw' => by have hw13 := wrapK ((K0 : Int) + 128) (by omega) (by omega); go_simp⟩) S0.out ?_
          try simp only [Act.put, List.getElem_toArray, List.getElem_cons_zero, List.getElem_cons_succ, List.setIfInBounds_toArray, List.set_cons_zero, List.set_cons_succ]
          refine wpAnyL_take (i := 14) (oi := _) (v := .slice sa 128 sc) rfl (by kernel_rfl) (by kernel_rfl) (by kernel_rfl) (by kernel_rfl) (fun _ _ _ h => h) (Or.inl ⟨by rfl, fun w' hw' => by go_simp⟩) S0.out ?_
          try simp only [Act.put, List.getElem_toArray, List.getElem_cons_zero, List.getElem_cons_succ, List.setIfInBounds_toArray, List.set_cons_zero, List.set_cons_succ]
          refine wpAnyL_one (i := 9) (by kernel_rfl) rfl (fun K hK => ?_)
          go_simp
          refine hK.out _ _ (fun _ => S1.out) ?_
          clear hK K
          try simp only [Act.put, List.getElem_toArray, List.getElem_cons_zero, List.getElem_cons_succ, List.setIfInBounds_toArray, List.set_cons_zero, List.set_cons_succ]
          refine wpAnyL_one (i := 15) (by kernel_rfl) rfl (fun K hK => ?_)
          rw [if_pos (by rfl)]
          refine wp_append_copyK wd (.tmp 41) (.tmp 46) 22 rfl 5 i1 (.int .u8 0) 1 1 Try.underlying22 hi1 hy0 hy1 hy2 rfl (by decide) rfl sa 128 sc (P.map (Value.int .u8)) rfl (by rw [List.length_map, HP.out.2]) RP.out (ints_oneCell _ _) (by unfold maxLen; omega) (by omega) ?_
          intro u2 w2 o2 b2
          obtain ⟨ua, uc, rfl⟩ := shape_rowK o2
          have H2 := hide (And.intro o2 b2)
          have V2 := hide (HVd.out.below b2)
          clear o2 b2
          have S2 := hide ((V2.out.blk.cell 1).trans (show _ = some (.slice ca CL cc) from rfl))
          refine hK.out _ _ (fun _ => S2.out) ?_
          clear hK K
          try simp only [Act.put, List.getElem_toArray, List.getElem_cons_zero, List.getElem_cons_succ, List.setIfInBounds_toArray, List.set_cons_zero, List.set_cons_succ]
          refine wpAnyL_take (i := 16) (oi := _) (v := .agg #[.int .i64 (At : Int), .slice ua 128 uc]) rfl (by kernel_rfl) (by kernel_rfl) (by kernel_rfl) (by kernel_rfl) (fun _ _ _ h => h) (Or.inl ⟨by rfl, fun w' hw' => by go_simp⟩) S2.out ?_
          try simp only [Act.put, List.getElem_toArray, List.getElem_cons_zero, List.getElem_cons_succ, List.setIfInBounds_toArray, List.set_cons_zero, List.set_cons_succ]
          refine wpAnyL_one (i := 17) (by kernel_rfl) rfl (fun K hK => ?_)
          go_simp
          have V3 := hide (V2.out.below ((Below.refl _ _).alloc (Nat.le_refl _) (.cells #[.int .i64 (At : Int), .slice ua 128 uc] 92)))
          have S3 := hide ((V3.out.blk.cell 1).trans (show _ = some (.slice ca CL cc) from rfl))
          have B3 := hide (show Below w2.heap.size w2 (w2.alloc (.cells #[.int .i64 (At : Int), .slice ua 128 uc] 92)) from (Below.refl _ _).alloc (Nat.le_refl _) _)
          have R3 := hide V3.out.cac.row
          rw [List.length_map, ← HCL.out] at R3
          refine hK.out _ _ (fun _ => S3.out) ?_
          clear hK K
          try simp only [Act.put, List.getElem_toArray, List.getElem_cons_zero, List.getElem_cons_succ, List.setIfInBounds_toArray, List.set_cons_zero, List.set_cons_succ]
          have hs2 := H2.out.2.size
          refine wpAnyL_one (i := 18) (by kernel_rfl) rfl (fun K hK => ?_)
          rw [if_pos (by rfl)]
          refine wp_append_own _ (.tmp 36) (.tmp 49) 77 rfl base 92 i0 (.agg #[.int .i64 0, .slice none 0 0]) 2 32 Try.underlying77 hi hz0 hz1 hz2 rfl (by decide) (.slice ca CL cc) CL _ rfl R3.out ⟨w2.heap.size, 0, none⟩ 1 1 [.int .i64 (At : Int), .slice ua 128 uc] rfl rfl (cells_newK w2 #[.int .i64 (At : Int), .slice ua 128 uc] 92) (by intro y hy; simp at hy; rcases hy with rfl | rfl <;> rfl) (by unfold maxLen; omega) (by omega) (by simp; omega) ?_
          intro v4 w4 o4 g4 _
          obtain ⟨va4, vc4, rfl⟩ := shape_rowK o4
          have F4 := hide (V3.out.pushC (secW B D j) (.slice ua 128 uc) (.slice va4 (CL + 1) vc4) (by rw [HSec.out.2.1, HP.out.2]; exact own_below (own_mono H2.out.1 hbwd) B3.out) (fun i x b hx hb e => by have h1 := (H2.out.1.lt b e).1; have h2 := (HVd.out.cac.ltK hx hb).2; omega) (by rw [HSec.out.1, ← HCL.out]; exact o4) g4 HSec.out.2.2 (by rw [← HCL.out]; omega))
          have L4 := hide (show Below base W w4 from (HBd.out.trans ((H2.out.2.trans (B3.out.mono H2.out.2.size)).mono hbwd)).grown g4 (by simp; omega) (fun r e => (R3.out.lt r e).1))
          have Y4 := hide (show KpY TyM W w4 from ((HYd.out.below H2.out.2).below B3.out).ownrow R3.out (.inr (.inl rfl)) g4)
          have S4 := hide ((F4.out.2.2.cell 1).trans (show _ = some (.slice ca CL cc) from rfl))
          have f4 := F4.out.2.2.frozen 1
          have y4 : w4.cell? ⟨d, 1, none⟩ = some (.slice ca CL cc) := S4.out
          clear o4 g4
          refine hK.out _ _ (fun _ => S4.out) ?_
          clear hK K
          try simp only [Act.put, List.getElem_toArray, List.getElem_cons_zero, List.getElem_cons_succ, List.setIfInBounds_toArray, List.set_cons_zero, List.set_cons_succ]
          refine wpAnyL_one (i := 19) (by kernel_rfl) rfl (fun K hK => ?_)
          go_simp
          refine hK.out _ _ (fun _ => S4.out) ?_
          clear hK K
          try simp only [Act.put, List.getElem_toArray, List.getElem_cons_zero, List.getElem_cons_succ, List.setIfInBounds_toArray, List.set_cons_zero, List.set_cons_succ]
          refine wpAnyL_take (i := 20) (oi := _) (v := .pointer (some ⟨d, 1, none⟩)) rfl (by kernel_rfl) (by kernel_rfl) (by kernel_rfl) (by kernel_rfl) (fun _ _ _ h => h) (Or.inl ⟨by rfl, fun w' hw' => by go_simp⟩) S4.out ?_
          try simp only [Act.put, List.getElem_toArray, List.getElem_cons_zero, List.getElem_cons_succ, List.setIfInBounds_toArray, List.set_cons_zero, List.set_cons_succ]
          refine wpAnyL_one (i := 21) (by kernel_rfl) rfl (fun K hK => ?_)
          go_simp
          refine hK.out _ _ (fun h => absurd rfl h) ?_
          clear hK K y4 f4
          try simp only [Act.put, List.getElem_toArray, List.getElem_cons_zero, List.getElem_cons_succ, List.setIfInBounds_toArray, List.set_cons_zero, List.set_cons_succ]
          refine wpAnyL_done (by kernel_rfl) (NoPanic.normal ?_) _
          have Z4 := hide (show DvM (w4.setCell ⟨d, 1, none⟩ (.slice va4 (CL + 1) vc4)) base d vi (.slice va4 (CL + 1) vc4) vw I (wrC C B D (j + 1)) (cs1 ++ [.slice ua 128 uc]) (fuJ fuse (j + 1)) off H hs ∧ Below base W (w4.setCell ⟨d, 1, none⟩ (.slice va4 (CL + 1) vc4)) ∧ KpY TyM W (w4.setCell ⟨d, 1, none⟩ (.slice va4 (CL + 1) vc4)) from ⟨by rw [wrC_succ]; exact F4.out.1, L4.out.setCell (p := ⟨d, 1, none⟩) hd _, Y4.out.setCell F4.out.2.2 (.inl rfl)⟩)
          clear F4 L4 Y4 S4 V2 V3 B3 R3 H2 S0 S1 S2 S3 HVd HBd HYd hsl
          go_wp2
          go_roundw
          case rel => exact ⟨j + 1, K0 + 128, CL + 1, _, va4, vc4, by omega, by have := HK0.out; omega, by go_num, by rw [wrC_len]; have := HCL.out; rw [wrC_len] at this; omega, Z4.out.1, HF1.out, Z4.out.2.1, Z4.out.2.2⟩
          case measure => simp [intOf]; omega
        · have hn : f < 0 := by omega
          obtain ⟨wq, hwq⟩ : ∃ wq, wq = wr := ⟨_, rfl⟩
          have hfn := fuJ_neg (by rw [← HFe.out]; exact hn : fuJ fuse j < 0) HF.out
          have HF1 := hide hfn.2
          have HQ := hide (show DvM wq base d vi (.slice ca CL cc) vw I (wrC C B D j) cs1 (fuJ fuse (j + 1)) off H hs ∧ Below base W wq ∧ KpY TyM W wq from by
            rw [hwq, hfn.1, ← HFe.out]
            exact ⟨HX.out.1, HX.out.2.1, HX.out.2.2⟩)
          have HWQ := hide hwq
          clear hwq hfn
          go_upto_region 9 with fail
          rw [← HWQ.out]
          clear c2 c3 r2 r3
          obtain ⟨wd, hwd⟩ : ∃ wd, wd = wq.drew := ⟨_, rfl⟩
          have bdr : Below wq.heap.size wq wd := by rw [hwd]; exact (Below.refl _ _).drew
          have HVd := hide (HQ.out.1.below bdr)
          have HBd := hide (show Below base W wd by rw [hwd]; exact HQ.out.2.1.drew)
          have HYd := hide (HQ.out.2.2.below bdr)
          have hbwd : base ≤ wd.heap.size := Nat.le_trans hbW HBd.out.size
          have HWd := hide hwd
          have S0 := hide ((HVd.out.blk.cell 1).trans (show _ = some (.slice ca CL cc) from rfl))
          have S1 := hide (((HVd.out.blk.alloc (.cells #[] 5)).cell 1).trans (show _ = some (.slice ca CL cc) from rfl))
          have RP := hide (show 0 < 128 → ∃ bd off, sa = some ⟨bd, off, none⟩ ∧ bd < wd.heap.size ∧ ∀ (j : Nat) (u : Value), (P.map (Value.int .u8))[j]? = some u → wd.cell? ⟨bd, off + j, none⟩ = some u by
            have h1 : Rd .u8 wd (.slice sa P.length sc) P := by rw [HP.out.2]; exact HSR.out.below (HD.out.2.1.trans (HBd.out.mono hw1))
            have h2 := h1.srcM
            rw [HP.out.2] at h2
            exact h2)
          clear hwd bdr
          refine wp_region_noPanic ?_
          refine wp_region_heldL (fun w' => w'.cell? ⟨d, 1, none⟩ = some (.slice ca CL cc)) 21 (by kernel_rfl) ?_
          rw [← HWd.out]
          refine wpAnyL_take (i := 0) (oi := _) (v := .pointer (some ⟨d, 0, none⟩)) rfl (by kernel_rfl) (by kernel_rfl) (by kernel_rfl) (by kernel_rfl) (fun _ _ _ h => h) (Or.inl ⟨by rfl, fun w' hw' => by go_simp⟩) S0.out ?_
          try simp only [Act.put, List.getElem_toArray, List.getElem_cons_zero, List.getElem_cons_succ, List.setIfInBounds_toArray, List.set_cons_zero, List.set_cons_succ]
          refine wpAnyL_take (i := 1) (oi := _) (v := .pointer (some ⟨d, 0, none⟩)) rfl (by kernel_rfl) (by kernel_rfl) (by kernel_rfl) (by kernel_rfl) (fun _ _ _ h => h) (Or.inl ⟨by rfl, fun w' hw' => by go_simp⟩) S0.out ?_
          try simp only [Act.put, List.getElem_toArray, List.getElem_cons_zero, List.getElem_cons_succ, List.setIfInBounds_toArray, List.set_cons_zero, List.set_cons_succ]
          refine wpAnyL_take (i := 2) (oi := _) (v := .pointer (some ⟨d, 0, none⟩)) rfl (by kernel_rfl) (by kernel_rfl) (by kernel_rfl) (by kernel_rfl) (fun _ _ _ h => h) (Or.inl ⟨by rfl, fun w' hw' => by go_simp⟩) S0.out ?_
          try simp only [Act.put, List.getElem_toArray, List.getElem_cons_zero, List.getElem_cons_succ, List.setIfInBounds_toArray, List.set_cons_zero, List.set_cons_succ]
          refine wpAnyL_take (i := 3) (oi := _) (v := .pointer (some ⟨d, 1, none⟩)) rfl (by kernel_rfl) (by kernel_rfl) (by kernel_rfl) (by kernel_rfl) (fun _ _ _ h => h) (Or.inl ⟨by rfl, fun w' hw' => by go_simp⟩) S0.out ?_
          try simp only [Act.put, List.getElem_toArray, List.getElem_cons_zero, List.getElem_cons_succ, List.setIfInBounds_toArray, List.set_cons_zero, List.set_cons_succ]
          refine wpAnyL_take (i := 4) (oi := _) (v := .slice ca CL cc) rfl (by kernel_rfl) (by kernel_rfl) (by kernel_rfl) (by kernel_rfl) (fun _ _ _ h => h) (Or.inl ⟨by rfl, fun w' hw' => by have hw2 : w'.cell? ⟨d, 1, none⟩ = some (.slice ca CL cc) := hw'; go_simp⟩) S0.out ?_
          try simp only [Act.put, List.getElem_toArray, List.getElem_cons_zero, List.getElem_cons_succ, List.setIfInBounds_toArray, List.set_cons_zero, List.set_cons_succ]
          refine wpAnyL_take (i := 5) (oi := _) (v := .int .i64 (B : Int)) rfl (by kernel_rfl) (by kernel_rfl) (by kernel_rfl) (by kernel_rfl) (fun _ _ _ h => h) (Or.inl ⟨by rfl, fun w' hw' => by go_simp⟩) S0.out ?_
          try simp only [Act.put, List.getElem_toArray, List.getElem_cons_zero, List.getElem_cons_succ, List.setIfInBounds_toArray, List.set_cons_zero, List.set_cons_succ]
          refine wpAnyL_take (i := 6) (oi := _) (v := .int .i64 ((B : Int) * 512)) rfl (by kernel_rfl) (by kernel_rfl) (by kernel_rfl) (by kernel_rfl) (fun _ _ _ h => h) (Or.inl ⟨by rfl, fun w' hw' => by have hw6 := wrapK ((B : Int) * 512) (by omega) (by omega); go_simp⟩) S0.out ?_
          try simp only [Act.put, List.getElem_toArray, List.getElem_cons_zero, List.getElem_cons_succ, List.setIfInBounds_toArray, List.set_cons_zero, List.set_cons_succ]
          refine wpAnyL_take (i := 7) (oi := _) (v := .int .i64 (K0 : Int)) rfl (by kernel_rfl) (by kernel_rfl) (by kernel_rfl) (by kernel_rfl) (fun _ _ _ h => h) (Or.inl ⟨by rfl, fun w' hw' => by go_simp⟩) S0.out ?_
          try simp only [Act.put, List.getElem_toArray, List.getElem_cons_zero, List.getElem_cons_succ, List.setIfInBounds_toArray, List.set_cons_zero, List.set_cons_succ]
          refine wpAnyL_take (i := 8) (oi := _) (v := .int .i64 (At : Int)) rfl (by kernel_rfl) (by kernel_rfl) (by kernel_rfl) (by kernel_rfl) (fun _ _ _ h => h) (Or.inl ⟨by rfl, fun w' hw' => by have hw8 : IntKind.i64.wrap ((B : Int) * 512 + (K0 : Int)) = (At : Int) := (wrapK _ (by omega) (by omega)).trans HAt.out; go_simp⟩) S0.out ?_
          try simp only [Act.put, List.getElem_toArray, List.getElem_cons_zero, List.getElem_cons_succ, List.setIfInBounds_toArray, List.set_cons_zero, List.set_cons_succ]
          refine wpAnyL_take (i := 10) (oi := _) (v := .slice da 512 dc) rfl (by kernel_rfl) (by kernel_rfl) (by kernel_rfl) (by kernel_rfl) (fun _ _ _ h => h) (Or.inl ⟨by rfl, fun w' hw' => by go_simp⟩) S0.out ?_
          try simp only [Act.put, List.getElem_toArray, List.getElem_cons_zero, List.getElem_cons_succ, List.setIfInBounds_toArray, List.set_cons_zero, List.set_cons_succ]
          refine wpAnyL_take (i := 11) (oi := _) (v := .int .i64 (K0 : Int)) rfl (by kernel_rfl) (by kernel_rfl) (by kernel_rfl) (by kernel_rfl) (fun _ _ _ h => h) (Or.inl ⟨by rfl, fun w' hw' => by go_simp⟩) S0.out ?_
          try simp only [Act.put, List.getElem_toArray, List.getElem_cons_zero, List.getElem_cons_succ, List.setIfInBounds_toArray, List.set_cons_zero, List.set_cons_succ]
          refine wpAnyL_take (i := 12) (oi := _) (v := .int .i64 (K0 : Int)) rfl (by kernel_rfl) (by kernel_rfl) (by kernel_rfl) (by kernel_rfl) (fun _ _ _ h => h) (Or.inl ⟨by rfl, fun w' hw' => by go_simp⟩) S0.out ?_
          try simp only [Act.put, List.getElem_toArray, List.getElem_cons_zero, List.getElem_cons_succ, List.setIfInBounds_toArray, List.set_cons_zero, List.set_cons_succ]
          refine wpAnyL_take (i := 13) (oi := _) (v := .int .i64 ((K0 : Int) + 128)) rfl (by kernel_rfl) (by kernel_rfl) (by kernel_rfl) (by kernel_rfl) (fun _ _ _ h => h) (Or.inl ⟨by rfl, fun w' hw' => by have hw13 := wrapK ((K0 : Int) + 128) (by omega) (by omega); go_simp⟩) S0.out ?_
          try simp only [Act.put, List.getElem_toArray, List.getElem_cons_zero, List.getElem_cons_succ, List.setIfInBounds_toArray, List.set_cons_zero, List.set_cons_succ]
          refine wpAnyL_take (i := 14) (oi := _) (v := .slice sa 128 sc) rfl (by kernel_rfl) (by kernel_rfl) (by kernel_rfl) (by kernel_rfl) (fun _ _ _ h => h) (Or.inl ⟨by rfl, fun w' hw' => by go_simp⟩) S0.out ?_
          try simp only [Act.put, List.getElem_toArray, List.getElem_cons_zero, List.getElem_cons_succ, List.setIfInBounds_toArray, List.set_cons_zero, List.set_cons_succ]
          refine wpAnyL_one (i := 9) (by kernel_rfl) rfl (fun K hK => ?_)
          go_simp
          refine hK.out _ _ (fun _ => S1.out) ?_
          clear hK K
          try simp only [Act.put, List.getElem_toArray, List.getElem_cons_zero, List.getElem_cons_succ, List.setIfInBounds_toArray, List.set_cons_zero, List.set_cons_succ]
          refine wpAnyL_one (i := 15) (by kernel_rfl) rfl (fun K hK => ?_)
          rw [if_pos (by rfl)]
          refine wp_append_copyK wd (.tmp 41) (.tmp 46) 22 rfl 5 i1 (.int .u8 0) 1 1 Try.underlying22 hi1 hy0 hy1 hy2 rfl (by decide) rfl sa 128 sc (P.map (Value.int .u8)) rfl (by rw [List.length_map, HP.out.2]) RP.out (ints_oneCell _ _) (by unfold maxLen; omega) (by omega) ?_
          intro u2 w2 o2 b2
          obtain ⟨ua, uc, rfl⟩ := shape_rowK o2
          have H2 := hide (And.intro o2 b2)
          have V2 := hide (HVd.out.below b2)
          clear o2 b2
          have S2 := hide ((V2.out.blk.cell 1).trans (show _ = some (.slice ca CL cc) from rfl))
          refine hK.out _ _ (fun _ => S2.out) ?_
          clear hK K
          try simp only [Act.put, List.getElem_toArray, List.getElem_cons_zero, List.getElem_cons_succ, List.setIfInBounds_toArray, List.set_cons_zero, List.set_cons_succ]
          refine wpAnyL_take (i := 16) (oi := _) (v := .agg #[.int .i64 (At : Int), .slice ua 128 uc]) rfl (by kernel_rfl) (by kernel_rfl) (by kernel_rfl) (by kernel_rfl) (fun _ _ _ h => h) (Or.inl ⟨by rfl, fun w' hw' => by go_simp⟩) S2.out ?_
          try simp only [Act.put, List.getElem_toArray, List.getElem_cons_zero, List.getElem_cons_succ, List.setIfInBounds_toArray, List.set_cons_zero, List.set_cons_succ]
          refine wpAnyL_one (i := 17) (by kernel_rfl) rfl (fun K hK => ?_)
          go_simp
          have V3 := hide (V2.out.below ((Below.refl _ _).alloc (Nat.le_refl _) (.cells #[.int .i64 (At : Int), .slice ua 128 uc] 92)))
          have S3 := hide ((V3.out.blk.cell 1).trans (show _ = some (.slice ca CL cc) from rfl))
          have B3 := hide (show Below w2.heap.size w2 (w2.alloc (.cells #[.int .i64 (At : Int), .slice ua 128 uc] 92)) from (Below.refl _ _).alloc (Nat.le_refl _) _)
          have R3 := hide V3.out.cac.row
          rw [List.length_map, ← HCL.out] at R3
          refine hK.out _ _ (fun _ => S3.out) ?_
          clear hK K
          try simp only [Act.put, List.getElem_toArray, List.getElem_cons_zero, List.getElem_cons_succ, List.setIfInBounds_toArray, List.set_cons_zero, List.set_cons_succ]
          have hs2 := H2.out.2.size
          refine wpAnyL_one (i := 18) (by kernel_rfl) rfl (fun K hK => ?_)
          rw [if_pos (by rfl)]
          refine wp_append_own _ (.tmp 36) (.tmp 49) 77 rfl base 92 i0 (.agg #[.int .i64 0, .slice none 0 0]) 2 32 Try.underlying77 hi hz0 hz1 hz2 rfl (by decide) (.slice ca CL cc) CL _ rfl R3.out ⟨w2.heap.size, 0, none⟩ 1 1 [.int .i64 (At : Int), .slice ua 128 uc] rfl rfl (cells_newK w2 #[.int .i64 (At : Int), .slice ua 128 uc] 92) (by intro y hy; simp at hy; rcases hy with rfl | rfl <;> rfl) (by unfold maxLen; omega) (by omega) (by simp; omega) ?_
          intro v4 w4 o4 g4 _
          obtain ⟨va4, vc4, rfl⟩ := shape_rowK o4
          have F4 := hide (V3.out.pushC (secW B D j) (.slice ua 128 uc) (.slice va4 (CL + 1) vc4) (by rw [HSec.out.2.1, HP.out.2]; exact own_below (own_mono H2.out.1 hbwd) B3.out) (fun i x b hx hb e => by have h1 := (H2.out.1.lt b e).1; have h2 := (HVd.out.cac.ltK hx hb).2; omega) (by rw [HSec.out.1, ← HCL.out]; exact o4) g4 HSec.out.2.2 (by rw [← HCL.out]; omega))
          have L4 := hide (show Below base W w4 from (HBd.out.trans ((H2.out.2.trans (B3.out.mono H2.out.2.size)).mono hbwd)).grown g4 (by simp; omega) (fun r e => (R3.out.lt r e).1))
          have Y4 := hide (show KpY TyM W w4 from ((HYd.out.below H2.out.2).below B3.out).ownrow R3.out (.inr (.inl rfl)) g4)
          have S4 := hide ((F4.out.2.2.cell 1).trans (show _ = some (.slice ca CL cc) from rfl))
          have f4 := F4.out.2.2.frozen 1
          have y4 : w4.cell? ⟨d, 1, none⟩ = some (.slice ca CL cc) := S4.out
          clear o4 g4
          refine hK.out _ _ (fun _ => S4.out) ?_
          clear hK K
          try simp only [Act.put, List.getElem_toArray, List.getElem_cons_zero, List.getElem_cons_succ, List.setIfInBounds_toArray, List.set_cons_zero, List.set_cons_succ]
          refine wpAnyL_one (i := 19) (by kernel_rfl) rfl (fun K hK => ?_)
          go_simp
          refine hK.out _ _ (fun _ => S4.out) ?_
          clear hK K
          try simp only [Act.put, List.getElem_toArray, List.getElem_cons_zero, List.getElem_cons_succ, List.setIfInBounds_toArray, List.set_cons_zero, List.set_cons_succ]
          refine wpAnyL_take (i := 20) (oi := _) (v := .pointer (some ⟨d, 1, none⟩)) rfl (by kernel_rfl) (by kernel_rfl) (by kernel_rfl) (by kernel_rfl) (fun _ _ _ h => h) (Or.inl ⟨by rfl, fun w' hw' => by go_simp⟩) S4.out ?_
          try simp only [Act.put, List.getElem_toArray, List.getElem_cons_zero, List.getElem_cons_succ, List.setIfInBounds_toArray, List.set_cons_zero, List.set_cons_succ]
          refine wpAnyL_one (i := 21) (by kernel_rfl) rfl (fun K hK => ?_)
          go_simp
          refine hK.out _ _ (fun h => absurd rfl h) ?_
          clear hK K y4 f4
          try simp only [Act.put, List.getElem_toArray, List.getElem_cons_zero, List.getElem_cons_succ, List.setIfInBounds_toArray, List.set_cons_zero, List.set_cons_succ]
          refine wpAnyL_done (by kernel_rfl) (NoPanic.normal ?_) _
          have Z4 := hide (show DvM (w4.setCell ⟨d, 1, none⟩ (.slice va4 (CL + 1) vc4)) base d vi (.slice va4 (CL + 1) vc4) vw I (wrC C B D (j + 1)) (cs1 ++ [.slice ua 128 uc]) (fuJ fuse (j + 1)) off H hs ∧ Below base W (w4.setCell ⟨d, 1, none⟩ (.slice va4 (CL + 1) vc4)) ∧ KpY TyM W (w4.setCell ⟨d, 1, none⟩ (.slice va4 (CL + 1) vc4)) from ⟨by rw [wrC_succ]; exact F4.out.1, L4.out.setCell (p := ⟨d, 1, none⟩) hd _, Y4.out.setCell F4.out.2.2 (.inl rfl)⟩)
          clear F4 L4 Y4 S4 V2 V3 B3 R3 H2 S0 S1 S2 S3 HVd HBd HYd hsl
          go_wp2
          go_roundw
          case rel => exact ⟨j + 1, K0 + 128, CL + 1, _, va4, vc4, by omega, by have := HK0.out; omega, by go_num, by rw [wrC_len]; have := HCL.out; rw [wrC_len] at this; omega, Z4.out.1, HF1.out, Z4.out.2.1, Z4.out.2.2⟩
          case measure => simp [intOf]; omega
    · have hj4 : j = 4 := by omega
      have hKK : K0 = 512 := by omega
      have HM := hide (maJ_all (fun h => by have := HF.out h; omega) : maJ fuse = 4)
      have hjj := hide hj4
      clear hj4 hjK HK0
      subst hKK
      go_wp2
      go_ret
      have e4 := hjj.out
      subst e4
      have e1 : cdJ fuse = 0 := by unfold cdJ; rw [HM.out]; rfl
      have e2 : ofJ off fuse = off := by unfold ofJ; rw [HM.out]; simp
      rw [e1, e2, HM.out, ← HFe.out]
      exact ⟨_, _, rfl, HX.out.1, HX.out.2.1, HX.out.2.2⟩
end
end Go.Proofs.Ythghibopnnjboaa
