/- The program's entriesFault. -/
import Derived.Test.YtplieplmhdfndaaGreatDoorZg36
import Derived.Deep.RegionHeld
namespace Go.Proofs.YtplieplmhdfndaaGreatDoor
set_option linter.unusedVariables false
set_option linter.unusedSimpArgs false
open Go.RowKit Go.Shelf
attribute [local go_sem] Oper.semAt_some

theorem made_zero (N : Nat) : madeCells #[.int .i64 0, .int .i64 0] (N * 2) = cellsI (cntL N []) := by
  rw [cntL_zero]
  unfold cellsI madeCells
  apply Array.ext'
  simp only [List.map_replicate]
  apply List.ext_getElem?
  intro j
  by_cases hj : j < N * 2
  · have h2 : j % 2 = 0 ∨ j % 2 = 1 := by omega
    rcases h2 with h2 | h2 <;> simp [hj, h2]
  · simp [hj]
theorem results_err {fn : Func} {p : Tmp} (h : fn.results = #[.cell p 72]) (tmps : Array Value) (w : World) (R : Nat) (v : Value) (hp : tmps.getD p undef = .pointer (some ⟨R, 0, none⟩)) (h1 : Blk w R #[v] 72) : (results fn tmps).run Tryz.prog w = .ok v w := by
  have c1 := (h1.cell 0).trans (show _ = some v from rfl)
  have hp' : tmps[p]?.getD undef = .pointer (some ⟨R, 0, none⟩) := by rw [← Array.getD_eq_getD_getElem?]; exact hp
  simp only [results, h]
  go_simp
def lk1 (L : List Nd) (i : Nat) : Bool := decide ((ndAt L i).k = 0) || decide ((ndAt L i).l = lnkN L i)
def nm1 (L : List Nd) (i : Nat) : Bool := decide ((ndAt L i).k = 0) || !decide ((ndAt L i).k = 2) || decide (i = 1) || decide (namesE L.length (numE L) i = 1)
def lnB (L : List Nd) : Nat → Bool
  | 0 => true
  | k + 1 => lnB L k && lk1 L k && nm1 L k
theorem lnB_iff (L : List Nd) : ∀ k, lnB L k = true ↔ ∀ i, i < k → ((ndAt L i).k ≠ 0 → (ndAt L i).l = lnkN L i) ∧ ((ndAt L i).k = 2 → i ≠ 1 → namesE L.length (numE L) i = 1)
  | 0 => by simp [lnB]
  | k + 1 => by
    unfold lnB
    rw [Bool.and_eq_true, Bool.and_eq_true, lnB_iff L k]
    have h1 : lk1 L k = true ↔ ((ndAt L k).k ≠ 0 → (ndAt L k).l = lnkN L k) := by
      unfold lk1
      simp only [Bool.or_eq_true, decide_eq_true_eq]
      by_cases h : (ndAt L k).k = 0 <;> simp [h]
    have h2 : nm1 L k = true ↔ ((ndAt L k).k = 2 → k ≠ 1 → namesE L.length (numE L) k = 1) := by
      unfold nm1
      simp only [Bool.or_eq_true, decide_eq_true_eq, Bool.not_eq_true', decide_eq_false_iff_not]
      by_cases h : (ndAt L k).k = 2
      · by_cases hk : k = 1
        · simp [hk]
        · simp [h, hk]
      · simp [h]
    rw [h1, h2]
    constructor
    · rintro ⟨⟨h3, h4⟩, h5⟩ i hi
      rcases Nat.lt_or_ge i k with h | h
      · exact h3 i h
      · have : i = k := by omega
        subst this; exact ⟨h4, h5⟩
    · intro h
      exact ⟨⟨fun i hi => h i (by omega), (h k (by omega)).1⟩, (h k (by omega)).2⟩
/-- What entriesFault asks. -/
def EnOk (L : List Nd) : Prop := (∀ i, i < L.length → ∀ e ∈ entN (ndAt L i), mayE L i e = true) ∧ lnB L L.length = true ∧ (bfs (chE (numE L)) L.length [] [1]).length = ((List.range L.length).filter (kdN L · == 2)).length
/-- A fault is on its way out. -/
structure EfX (w : World) (Ds : List Nat) (W : World) : Prop where
  res : ∃ ev, Boxed W (w.heap.size + 1) 72 ev ∧ ∃ n, Flt W (w.heap.size + 5) n ev 21
  old : Below w.heap.size w W
  mks : Mks Ds W
  lo : ∀ D ∈ Ds, w.heap.size + 5 ≤ D ∧ D < W.heap.size
  nd : Ds.Nodup
theorem Flt.keepN {W W' : World} {row : Option Nat} {lo n : Nat} {ev : Value} {code : Int} (h : Flt W lo n ev code) (hg : W.grownBy W' row) (hr : ∀ r, row = some r → ∃ o, W.heap[r]? = some o ∧ o.isCells = false) : Flt W' lo n ev code :=
  h.keep fun k o v hl hc => by
    refine (World.cell?_of_block (a := ⟨k, o, none⟩) (hg.block k (cell_lt hc) (fun e => ?_))).trans hc
    obtain ⟨ob, ho, hcl⟩ := hr k e.symm
    obtain ⟨o2, ho2, hc2⟩ := cells_of_cell hc
    rw [ho] at ho2
    cases ho2
    rw [hcl] at hc2
    cases hc2
theorem EfX.grown {w W W' : World} {B : Nat} {Ds : List Nat} {row : Option Nat} (h : EfX w Ds W) (hB : w.heap.size + 5 ≤ B) (hD : ∀ D ∈ Ds, D < B) (hg : W.grownBy W' row) (hr : ∀ r, row = some r → B ≤ r ∧ ∃ o, W.heap[r]? = some o ∧ o.isCells = false) : EfX w Ds W' := by
  obtain ⟨ev, h1, n, h2⟩ := h.res
  exact ⟨⟨ev, h1.kept hg (fun e => by have := (hr _ e.symm).1; omega), n, h2.keepN hg (fun r e => (hr r e).2)⟩, h.old.grown hg h.old.size (fun k e => by have := (hr k e).1; omega), h.mks.grown hD hg (fun r e => (hr r e).1), fun D hDm => ⟨(h.lo D hDm).1, Nat.lt_of_lt_of_le (h.lo D hDm).2 hg.size⟩, h.nd⟩
theorem EfI.pushD {w W : World} {bs N D : Nat} {l : List Int} {Ds : List Nat} {ok : Bool} (h : EfI w bs N l Ds ok W) (hK : W.heap[D]? = some (.deferred (some []))) (hD : w.heap.size + 5 ≤ D) (hn : D ∉ Ds) : EfI w bs N l (D :: Ds) ok W := by
  have hlt : D < W.heap.size := (Array.getElem?_eq_some_iff.1 hK).1
  refine ⟨h.sb, h.res, h.ck, h.cnt, h.cb, h.old, fun D' hD' => ?_, fun D' hD' => ?_, List.nodup_cons.2 ⟨hn, h.nd⟩⟩
  · rcases List.mem_cons.1 hD' with rfl | h1
    · exact hK
    · exact h.mks D' h1
  · rcases List.mem_cons.1 hD' with rfl | h1
    · exact ⟨hD, hlt⟩
    · exact h.lo D' h1
/-- The entries of directory k that have come. -/
def preQ {es : List (ByteArray × Nat × Nat)} (k : Nat) (pre : List (EsX es)) : QE := pre.map (fun x => (k, x.1))
theorem allQ_dir {L : List Nd} {k : Nat} {es : List (ByteArray × Nat × Nat)} (xs : List (EsX es)) (h : xs.map Subtype.val = es) (he : es = entN (ndAt L k)) : allQ L (k + 1) = allQ L k ++ preQ k xs := by
  rw [allQ_succ, ← he]
  congr 1
  unfold preQ
  conv => lhs; rw [← h]
  rw [List.map_map]
  rfl
theorem allQ_not {L : List Nd} {k : Nat} (h : (ndAt L k).k ≠ 2) : allQ L (k + 1) = allQ L k := by
  rw [allQ_succ]
  have : entN (ndAt L k) = [] := by unfold entN; rw [if_neg h]
  rw [this]
  simp
theorem entN_lenD {x : Nd} (h : x.k = 2 → dirOk x.d = true) : (entN x).length ≤ 8192 := by
  by_cases hk : x.k = 2
  · have h1 := entT_le (entN_some hk (h hk))
    have h2 := dirOk_lenQ (h hk)
    omega
  · unfold entN
    rw [if_neg hk]
    simp
theorem allQ_len2 {L : List Nd} : ∀ {k : Nat}, (∀ j, j < k → (entN (ndAt L j)).length ≤ 8192) → (allQ L k).length ≤ k * 8192
  | 0, _ => by simp [allQ]
  | k + 1, h => by
    have ih := allQ_len2 (L := L) (k := k) (fun j hj => h j (by omega))
    have h1 := h k (by omega)
    rw [allQ_succ, List.length_append, List.length_map]
    omega
theorem infoC2 : (Tryz.prog.info? 182).map (·.size) = some 2 := by kernel_rfl
theorem keepsB {B : Nat} {W W' : World} (h : Below W.heap.size W W') : KeepsFrom B W W' := ⟨h.size, fun k o _ hk _ => (h.block k (Array.getElem?_eq_some_iff.1 hk).1).trans hk⟩
set_option maxRecDepth 100000 in
set_option maxHeartbeats 8000000 in
theorem entriesFault_any (bs bn : Nat) (C : Int) (L : List Nd) (ps : Array Value) (w : World) (h : OpS w bs bn C L ps) (hL : L.length ≤ 1001) (hroot : 1 < L.length ∧ (ndAt L 1).k = 2) (h0 : (ndAt L 0).k = 0) (hk : ∀ i, i < L.length → 0 ≤ (ndAt L i).k ∧ (ndAt L i).k ≤ 3) (hl : ∀ i, i < L.length → (ndAt L i).k ≠ 0 → 1 ≤ (ndAt L i).l) (hdl : ∀ i, i < L.length → (ndAt L i).k = 2 → dirOk (ndAt L i).d = true) :
    Calls Tryz.prog 65 #[.pointer (some ⟨bs, 0, none⟩)] w fun e w' => ∃ ok ev, e = .returned ev ∧ (ok = true ↔ EnOk L) ∧ FaultIs w' w.heap.size ok ev 21 ∧ Below w.heap.size w w' := by
  obtain ⟨N, hN⟩ : ∃ N, N = L.length := ⟨_, rfl⟩
  have HO := hide h
  have HN := hide hN
  have HRT := hide (And.intro hroot h0)
  have HKK := hide (And.intro hk (And.intro hl hdl))
  rw [← hN] at hL
  have hst : w.cell? ⟨bs, 1, none⟩ = some (.slice (some ⟨bn, 0, none⟩) N N) := by rw [hN]; exact (h.st.cell 1).trans rfl
  clear h hN hroot h0 hk hl hdl
  obtain ⟨W1, hW1⟩ : ∃ W1, W1 = (((w.alloc (.cells #[.pointer (some ⟨bs, 0, none⟩)] 70)).alloc (.cells #[.nilIface] 72)).alloc (.cells #[.int .i64 21, .nilIface] 127)) := ⟨_, rfl⟩
  have hs1 : W1.heap.size = w.heap.size + 3 := by rw [hW1]; simp
  have b1 : Below w.heap.size w W1 := by rw [hW1]; exact (((Below.refl _ _).alloc (Nat.le_refl _) _).alloc (by simp) _).alloc (by simp; omega) _
  have k0 : Boxed W1 w.heap.size 70 (.pointer (some ⟨bs, 0, none⟩)) := by rw [hW1]; exact ((Boxed.new w _ _).alloc _).alloc _
  have hst1 : W1.cell? ⟨bs, 1, none⟩ = some (.slice (some ⟨bn, 0, none⟩) N N) := (b1.cell (p := ⟨bs, 1, none⟩) (cell_lt hst)).trans hst
  have c0 := k0.cell
  obtain ⟨W3, hW3⟩ : ∃ W3, W3 = ((W1.alloc (.cells (madeCells #[.int .i64 0, .int .i64 0] (N * 2)) 182)).alloc (.cells #[.slice (some ⟨w.heap.size + 1 + 1 + 1, 0, none⟩) N N] 176)) := ⟨_, rfl⟩
  have hst3 : W3.cell? ⟨bs, 1, none⟩ = some (.slice (some ⟨bn, 0, none⟩) N N) := by
    rw [hW3, World.cell?_alloc_lt _ _ _ (by have := cell_lt hst1; simp at this ⊢; omega), World.cell?_alloc_lt _ _ _ (cell_lt hst1)]
    exact hst1
  have c3 : W3.cell? ⟨w.heap.size, 0, none⟩ = some (.pointer (some ⟨bs, 0, none⟩)) := by
    rw [hW3, World.cell?_alloc_lt _ _ _ (by have := cell_lt c0; simp at this ⊢; omega), World.cell?_alloc_lt _ _ _ (cell_lt c0)]
    exact c0
  obtain ⟨i0, hi0, hz0, hz1, hz2⟩ := info_parts infoCt
  have hmk := fun (W : World) => run_make (P := Tryz.prog) W 176 182 i0 (.agg #[.int .i64 0, .int .i64 0]) Tryz.underlying176 hi0 hz0 .i64 .i64 (N : Int) (N : Int) (by omega) (Int.le_refl _) (by rw [hz2]; omega) (by omega)
  simp only [Int.toNat_natCast, hz1, Value.cells] at hmk
  rw [hW3] at hst3 c3
  rw [hW1] at hst1 c0 hst3 c3
  have HW1 := hide (And.intro hW1 (And.intro hs1 (And.intro b1 k0)))
  have HW3 := hide hW3
  clear hW1 hs1 b1 k0 hW3 hst hi0 hz0 hz1 hz2
  refine (callsIn_wide (n := 6)).1 ?_
  refine callsIn_of_wp_marks Tryz.func65 rfl trivial ?_ rfl
  simp only [Tryz.ntmps65, List.size_toArray, List.length_cons, List.length_nil, Nat.reduceAdd, Nat.reduceSub, Array.replicate_succ, Array.replicate_zero, List.push_toArray, List.append_toArray, List.nil_append, List.cons_append]
  gi_wp2
  rw [← HW1.out.1, ← HW3.out]
  have I0 := hide (show EfI w bs N (cntL N (allQ L 0)) [] true W3 from by
    have hs1 := HW1.out.2.1
    have hBl : Below W1.heap.size W1 W3 := by rw [HW3.out]; exact ((Below.refl _ _).alloc (Nat.le_refl _) _).alloc (by simp) _
    have k1 : Boxed W1 (w.heap.size + 1) 72 .nilIface := by
      rw [HW1.out.1]
      have h := Boxed.new (w.alloc (.cells #[.pointer (some ⟨bs, 0, none⟩)] 70)) 72 .nilIface
      rw [World.size_alloc] at h
      exact h.alloc _
    have k2 : Ck W1 (w.heap.size + 1 + 1) (w.heap.size + 5) 21 true := by
      rw [HW1.out.1]
      have h := Ck.fresh ((w.alloc (.cells #[.pointer (some ⟨bs, 0, none⟩)] 70)).alloc (.cells #[.nilIface] 72)) 21 127
      rw [World.size_alloc, World.size_alloc] at h
      exact h.relo
    refine ⟨(hBl.block _ HW1.out.2.2.2.lt).trans HW1.out.2.2.2, (hBl.block _ k1.lt).trans k1, k2.below hBl, ?_, ?_, HW1.out.2.2.1.trans (hBl.mono HW1.out.2.2.1.size), fun D hD => (by cases hD), fun D hD => (by cases hD), List.nodup_nil⟩
    · rw [HW3.out, show allQ L 0 = [] from rfl, ← made_zero]
      have h := (Blk.new W1 (madeCells #[.int .i64 0, .int .i64 0] (N * 2)) 182).alloc (.cells #[.slice (some ⟨w.heap.size + 1 + 1 + 1, 0, none⟩) N N] 176)
      rw [hs1] at h
      exact h
    · rw [HW3.out]
      have h := Boxed.new (W1.alloc (.cells (madeCells #[.int .i64 0, .int .i64 0] (N * 2)) 182)) 176 (.slice (some ⟨w.heap.size + 1 + 1 + 1, 0, none⟩) N N)
      rw [World.size_alloc, hs1] at h
      exact h)
  clear hst1 c0 hst3 c3 hmk HW1 HW3
  refine wpIn_loop (fun a' w' => ∃ (k : Nat) (Ds : List Nat) (u5 u6 u7 u23 u24 u25 u26 u27 u28 u29 u30 u31 u32 u33 u34 u35 u36 u37 u38 u39 u40 u41 u42 u43 u44 u45 u46 u47 u48 u49 u50 u51 u52 u53 u54 u55 u56 u57 u58 u59 u60 u61 u62 u63 u64 u65 u66 u67 u68 u69 u70 u71 u72 : Value), a' = { tmps := #[.pointer (some ⟨bs, 0, none⟩), .pointer (some ⟨w.heap.size, 0, none⟩), .pointer (some ⟨w.heap.size + 1, 0, none⟩), .pointer (some ⟨w.heap.size + 1 + 1, 0, none⟩), .pointer (some ⟨w.heap.size + 1 + 1 + 1 + 1, 0, none⟩), u5, u6, u7, undef, undef, .agg #[.int .i64 21, .nilIface], .pointer (some ⟨bs, 0, none⟩), .pointer (some ⟨bs, 0, none⟩), .pointer (some ⟨bs, 1, none⟩), .slice (some ⟨bn, 0, none⟩) N N, .int .i64 (N : Int), .slice (some ⟨w.heap.size + 1 + 1 + 1, 0, none⟩) N N, .pointer (some ⟨bs, 0, none⟩), .pointer (some ⟨bs, 0, none⟩), .pointer (some ⟨bs, 1, none⟩), .slice (some ⟨bn, 0, none⟩) N N, .int .i64 (N : Int), .int .i64 (k : Int), u23, u24, u25, u26, u27, u28, u29, u30, u31, u32, u33, u34, u35, u36, u37, u38, u39, u40, u41, u42, u43, u44, u45, u46, u47, u48, u49, u50, u51, u52, u53, u54, u55, u56, u57, u58, u59, u60, u61, u62, u63, u64, u65, u66, u67, u68, u69, u70, u71, u72, undef, undef, undef, undef, undef, undef, undef, undef, undef, undef, undef, undef, undef, undef, undef, undef, undef, undef, undef, undef, undef, undef, undef, undef, undef, undef, undef, undef, undef, undef, undef, undef, undef, undef, undef, undef, undef, undef, undef, undef, undef, undef, undef, undef, undef, undef, undef, undef, undef, undef, undef, undef, undef, undef, undef, undef, undef, undef, undef, undef], defers := mksD Ds } ∧ k ≤ N ∧ Hid (EfI w bs N (cntL N (allQ L k)) Ds true w') ∧ Hid (∀ j, j < k → ∀ e ∈ entN (ndAt L j), mayE L j e = true)) (fun a' _ => N - (intOf (a'.tmps.getD 22 undef)).toNat) ⟨0, [], _, _, _, _, _, _, _, _, _, _, _, _, _, _, _, _, _, _, _, _, _, _, _, _, _, _, _, _, _, _, _, _, _, _, _, _, _, _, _, _, _, _, _, _, _, _, _, _, _, _, _, _, _, rfl, Nat.zero_le _, I0, hide (fun j hj => by omega)⟩ ?_
  intro a' wr hinv
  obtain ⟨k, Ds, u5, u6, u7, u23, u24, u25, u26, u27, u28, u29, u30, u31, u32, u33, u34, u35, u36, u37, u38, u39, u40, u41, u42, u43, u44, u45, u46, u47, u48, u49, u50, u51, u52, u53, u54, u55, u56, u57, u58, u59, u60, u61, u62, u63, u64, u65, u66, u67, u68, u69, u70, u71, u72, rfl, hkN, HI, HM⟩ := hinv
  by_cases hlt : k < N
  rotate_left
  · have hkE : N = k := by omega
    subst hkE
    obtain ⟨l, hl⟩ : ∃ l, l = cntL N (allQ L N) := ⟨_, rfl⟩
    rw [← hl] at HI
    have HLL := hide (show ∀ i, i < N → l[i * 2]? = some ((namesE L.length (numE L) i : Nat) : Int) ∧ l[i * 2 + 1]? = some ((dirsN L i : Nat) : Int) from fun i hi => by
      rw [hl]
      have h1 := cntL_get N (allQ L N) i hi
      rw [tn_names, td_dirs, if_pos hi, HN.out] at h1
      rw [HN.out]
      exact h1)
    have HCB := hide (show ∀ i, (namesE L.length (numE L) i : Int) ≤ 8208384 ∧ (dirsN L i : Int) ≤ 8208384 from fun i => by
      have h1 := tnQ_bd (allQ L L.length) i
      have h2 := allQ_len2 (L := L) (k := L.length) (fun j hj => entN_lenD (HKK.out.2.2 j hj))
      rw [tn_names] at h1
      have h3 := HN.out
      have h4 : dirsN L i ≤ 8192 := by
        unfold dirsN
        refine Nat.le_trans List.countP_le_length ?_
        by_cases hi : i < L.length
        · exact entN_lenD (HKK.out.2.2 i hi)
        · have : ndAt L i = nd0 := by simp [ndAt, List.getD, hi]
          rw [this]
          simp [entN, nd0]
      constructor
      · omega
      · omega)
    have HSL := hide (show ∀ W, Below w.heap.size w W → W.cell? ⟨bs, 1, none⟩ = some (.slice (some ⟨bn, 0, none⟩) N N) from fun W hb => by
      rw [HN.out]
      exact (hb.cell (p := ⟨bs, 1, none⟩) HO.out.st.lt).trans ((HO.out.st.cell 1).trans rfl))
    have cB := HI.out.sb.cell
    have cS := HSL.out wr HI.out.old
    clear hl hkN hlt
    gi_wp2
    refine wpIn_wide.2 ?_
    go_loopw [78] (fun iv wr' => ∃ k : Nat, k ≤ N ∧ iv = .int .i64 (k : Int) ∧ Hid (EfI w bs N l Ds (lnB L k) wr')) (fun iv _ => N - (intOf iv).toNat)
    case atStart => exact ⟨0, Nat.zero_le _, rfl, HI⟩
    case round =>
      obtain ⟨k, hk, rfl, KI⟩ := hrel
      by_cases hlt : k < N
      · have hkl : k < L.length := by rw [← HN.out]; exact hlt
        obtain ⟨hpw, hopw⟩ := HO.out.nd.pv (i := k) hkl
        have cP : wr.cell? ⟨bn, k, none⟩ = some (pvN ps k) := (KI.out.old.cell (p := ⟨bn, k, none⟩) (cell_lt hpw)).trans hpw
        obtain ⟨p, hp⟩ : ∃ p, p = pvN ps k := ⟨_, rfl⟩
        rw [← hp] at cP hopw
        have HOP := hide hopw
        have HLNk := hide (show lnB L (k + 1) = (lnB L k && lk1 L k && nm1 L k) from rfl)
        clear hp hpw hopw
        by_cases hk0 : (ndAt L k).k = 0
        · obtain rfl := HOP.out.free hk0
          have HLN := hide (show lnB L (k + 1) = (lnB L k && true && true) from by rw [HLNk.out]; unfold lk1 nm1; rw [decide_eq_true hk0]; simp)
          clear hk0 HOP
          go_upto_region 19 with fail
          refine wp_region_noPanic ?_
          refine wp_region_held_drew (S := fun w' => ∃ ok, EfI w bs N l Ds ok w') (by kernel_rfl) ⟨_, KI.out.below ((Below.refl _ _).drew)⟩ (fun hH => ?_)
          refine wpAnyH_take (i := 0) (oi := _) (v := .pointer none) rfl (by kernel_rfl) (by kernel_rfl) (by kernel_rfl) (fun _ _ _ h => h) (Or.inl ⟨by rfl, fun w' hw' => by go_simp⟩) hH ?_
          try simp only [Act.put, List.getElem_toArray, List.getElem_cons_zero, List.getElem_cons_succ, List.setIfInBounds_toArray, List.set_cons_zero, List.set_cons_succ]
          refine wpAnyH_take (i := 1) (oi := _) (v := .bool true) rfl (by kernel_rfl) (by kernel_rfl) (by kernel_rfl) (fun _ _ _ h => h) (Or.inl ⟨by rfl, fun w' hw' => by go_simp⟩) hH ?_
          try simp only [Act.put, List.getElem_toArray, List.getElem_cons_zero, List.getElem_cons_succ, List.setIfInBounds_toArray, List.set_cons_zero, List.set_cons_succ]
          refine wpAnyH_take (i := 2) (oi := _) (v := .bool true) rfl (by kernel_rfl) (by kernel_rfl) (by kernel_rfl) (fun _ _ _ h => h) (Or.inl ⟨by rfl, fun w' hw' => by go_simp⟩) hH ?_
          try simp only [Act.put, List.getElem_toArray, List.getElem_cons_zero, List.getElem_cons_succ, List.setIfInBounds_toArray, List.set_cons_zero, List.set_cons_succ]
          refine wpAnyH_take (i := 3) (oi := _) (v := undef) rfl (by kernel_rfl) (by kernel_rfl) (by kernel_rfl) (fun _ _ _ h => h) (Or.inr ⟨by rfl, rfl⟩) hH ?_
          try simp only [Act.put, List.getElem_toArray, List.getElem_cons_zero, List.getElem_cons_succ, List.setIfInBounds_toArray, List.set_cons_zero, List.set_cons_succ]
          refine wpAnyH_take (i := 4) (oi := _) (v := undef) rfl (by kernel_rfl) (by kernel_rfl) (by kernel_rfl) (fun _ _ _ h => h) (Or.inr ⟨by rfl, rfl⟩) hH ?_
          try simp only [Act.put, List.getElem_toArray, List.getElem_cons_zero, List.getElem_cons_succ, List.setIfInBounds_toArray, List.set_cons_zero, List.set_cons_succ]
          refine wpAnyH_take (i := 5) (oi := _) (v := undef) rfl (by kernel_rfl) (by kernel_rfl) (by kernel_rfl) (fun _ _ _ h => h) (Or.inr ⟨by rfl, rfl⟩) hH ?_
          try simp only [Act.put, List.getElem_toArray, List.getElem_cons_zero, List.getElem_cons_succ, List.setIfInBounds_toArray, List.set_cons_zero, List.set_cons_succ]
          refine wpAnyH_take (i := 6) (oi := _) (v := undef) rfl (by kernel_rfl) (by kernel_rfl) (by kernel_rfl) (fun _ _ _ h => h) (Or.inr ⟨by rfl, rfl⟩) hH ?_
          try simp only [Act.put, List.getElem_toArray, List.getElem_cons_zero, List.getElem_cons_succ, List.setIfInBounds_toArray, List.set_cons_zero, List.set_cons_succ]
          refine wpAnyH_take (i := 7) (oi := _) (v := undef) rfl (by kernel_rfl) (by kernel_rfl) (by kernel_rfl) (fun _ _ _ h => h) (Or.inr ⟨by rfl, rfl⟩) hH ?_
          try simp only [Act.put, List.getElem_toArray, List.getElem_cons_zero, List.getElem_cons_succ, List.setIfInBounds_toArray, List.set_cons_zero, List.set_cons_succ]
          refine wpAnyH_take (i := 8) (oi := _) (v := undef) rfl (by kernel_rfl) (by kernel_rfl) (by kernel_rfl) (fun _ _ _ h => h) (Or.inr ⟨by rfl, rfl⟩) hH ?_
          try simp only [Act.put, List.getElem_toArray, List.getElem_cons_zero, List.getElem_cons_succ, List.setIfInBounds_toArray, List.set_cons_zero, List.set_cons_succ]
          refine wpAnyH_take (i := 9) (oi := _) (v := undef) rfl (by kernel_rfl) (by kernel_rfl) (by kernel_rfl) (fun _ _ _ h => h) (Or.inr ⟨by rfl, rfl⟩) hH ?_
          try simp only [Act.put, List.getElem_toArray, List.getElem_cons_zero, List.getElem_cons_succ, List.setIfInBounds_toArray, List.set_cons_zero, List.set_cons_succ]
          refine wpAnyH_take (i := 10) (oi := _) (v := undef) rfl (by kernel_rfl) (by kernel_rfl) (by kernel_rfl) (fun _ _ _ h => h) (Or.inr ⟨by rfl, rfl⟩) hH ?_
          try simp only [Act.put, List.getElem_toArray, List.getElem_cons_zero, List.getElem_cons_succ, List.setIfInBounds_toArray, List.set_cons_zero, List.set_cons_succ]
          refine wpAnyH_take (i := 11) (oi := _) (v := undef) rfl (by kernel_rfl) (by kernel_rfl) (by kernel_rfl) (fun _ _ _ h => h) (Or.inr ⟨by rfl, rfl⟩) hH ?_
          try simp only [Act.put, List.getElem_toArray, List.getElem_cons_zero, List.getElem_cons_succ, List.setIfInBounds_toArray, List.set_cons_zero, List.set_cons_succ]
          refine wpAnyH_take (i := 12) (oi := _) (v := undef) rfl (by kernel_rfl) (by kernel_rfl) (by kernel_rfl) (fun _ _ _ h => h) (Or.inr ⟨by rfl, rfl⟩) hH ?_
          try simp only [Act.put, List.getElem_toArray, List.getElem_cons_zero, List.getElem_cons_succ, List.setIfInBounds_toArray, List.set_cons_zero, List.set_cons_succ]
          refine wpAnyH_take (i := 13) (oi := _) (v := undef) rfl (by kernel_rfl) (by kernel_rfl) (by kernel_rfl) (fun _ _ _ h => h) (Or.inr ⟨by rfl, rfl⟩) hH ?_
          try simp only [Act.put, List.getElem_toArray, List.getElem_cons_zero, List.getElem_cons_succ, List.setIfInBounds_toArray, List.set_cons_zero, List.set_cons_succ]
          refine wpAnyH_take (i := 14) (oi := _) (v := undef) rfl (by kernel_rfl) (by kernel_rfl) (by kernel_rfl) (fun _ _ _ h => h) (Or.inr ⟨by rfl, rfl⟩) hH ?_
          try simp only [Act.put, List.getElem_toArray, List.getElem_cons_zero, List.getElem_cons_succ, List.setIfInBounds_toArray, List.set_cons_zero, List.set_cons_succ]
          refine wpAnyH_take (i := 15) (oi := _) (v := .bool true) rfl (by kernel_rfl) (by kernel_rfl) (by kernel_rfl) (fun _ _ _ h => h) (Or.inl ⟨by rfl, fun w' hw' => by go_simp⟩) hH ?_
          try simp only [Act.put, List.getElem_toArray, List.getElem_cons_zero, List.getElem_cons_succ, List.setIfInBounds_toArray, List.set_cons_zero, List.set_cons_succ]
          have KD := hide (KI.out.below ((Below.refl _ _).drew))
          clear hH
          refine wpAnyH_ready (rs := [16]) (by kernel_rfl) (by simp) ?_
          refine AllReadyH.cons (o := _) rfl (fun K hK => ?_) AllReadyH.nil
          go_simp
          refine (need_any (w.heap.size + 1 + 1) (w.heap.size + 5) _ 21 _ _ _ KD.out.ck (by omega) KD.out.size).mono ?_
          rintro e w3 ⟨rfl, hc3, ht3⟩
          have K3 := hide (KD.out.tch hc3 ht3)
          refine hK.out _ _ ⟨_, K3.out⟩ (fun hH3 => ?_)
          clear hK K hc3 ht3 hH3
          try simp only [Act.put, List.getElem_toArray, List.getElem_cons_zero, List.getElem_cons_succ, List.setIfInBounds_toArray, List.set_cons_zero, List.set_cons_succ]
          refine wpAnyH_done (by kernel_rfl) (NoPanic.normal ?_) _
          go_wp2_with (go_at_call 86; fail)
          refine (need_any (w.heap.size + 1 + 1) (w.heap.size + 5) _ 21 _ _ _ K3.out.ck (by omega) K3.out.size).mono ?_
          rintro e w4 ⟨rfl, hc4, ht4⟩
          have K4 := hide (show EfI w bs N l Ds (lnB L (k + 1)) w4 from by rw [HLN.out]; exact K3.out.tch hc4 ht4)
          clear hc4 ht4
          go_wp2_with fail
          go_roundw
          case rel => exact ⟨k + 1, by omega, by go_num, K4⟩
          case measure => simp [intOf]; omega
        obtain ⟨g, na, nc, dp, rfl, hblk, hrd, _, hd1, hd2⟩ := HOP.out.some hk0
        obtain ⟨x, hx⟩ : ∃ x, x = ndAt L k := ⟨_, rfl⟩
        rw [← hx] at hblk hd1 hd2 hk0
        obtain ⟨q, hq⟩ : ∃ q, q = x.d.length := ⟨_, rfl⟩
        rw [← hq] at hblk
        have HG := hide (show ∀ W, Below w.heap.size w W → Blk W g #[.int .i64 x.k, .int .i64 x.l, .int .i64 x.m, .int .i64 x.u, .int .i64 x.g, .int .i64 x.p, .int .i64 x.e, .int .i64 x.t, .int .i64 x.c, .slice na q nc, .pointer dp] 81 from fun W hb => hblk.below hb hblk.lt)
        have HDD := hide (show (x.k ≠ 2 → dp = none) ∧ ∀ W, Below w.heap.size w W → x.k = 2 → ∃ d, dp = some ⟨d, 0, none⟩ ∧ DirR W d x.d from ⟨hd1, fun W hb h => by obtain ⟨d, h1, h2⟩ := hd2 h; exact ⟨d, h1, h2.below hb⟩⟩)
        have HX := hide (And.intro hx hq)
        obtain ⟨cn, hcn⟩ : ∃ cn : Int, cn = (namesE L.length (numE L) k : Int) := ⟨_, rfl⟩
        obtain ⟨cd, hcd⟩ : ∃ cd : Int, cd = (dirsN L k : Int) := ⟨_, rfl⟩
        have HCN := hide hcn
        have hb1 : 0 ≤ cn ∧ cn ≤ 8208384 := by have := (HCB.out k).1; omega
        have hb2 : 0 ≤ cd ∧ cd ≤ 8208384 := by have := (HCB.out k).2; omega
        obtain ⟨lv, hlv⟩ : ∃ lv : Int, lv = (if x.k = 2 then 2 + cd else cn) := ⟨_, rfl⟩
        have HLV := hide hlv
        have HLK := hide (show lk1 L k = (x.l == lv) from by
          unfold lk1 lnkN
          rw [hlv, hcn, hcd, ← hx, decide_eq_false hk0, Bool.false_or]
          rfl)
        have HNM := hide (show nm1 L k = (!decide (x.k = 2) || decide (k = 1) || (cn == 1)) from by
          unfold nm1
          rw [← hx, decide_eq_false hk0, Bool.false_or, hcn]
          congr 1
          rw [Bool.eq_iff_iff]
          simp
          omega)
        have HRg := hide (show ∀ W ok, EfI w bs N l Ds ok W → W.rangeAt (w.heap.size + 1 + 1 + 1) (k * 2) [.int .i64 cn, .int .i64 cd] from fun W ok hE i u hu => by
          have h1 := HLL.out k hlt
          match i, hu with
          | 0, hu => cases hu; exact hE.cell (by rw [hcn]; exact h1.1)
          | 1, hu => cases hu; exact hE.cell (by rw [hcd]; exact h1.2))
        have hkI : (k : Int) < (N : Int) := by omega
        have hkJ : ¬ ((N : Int) ≤ (k : Int)) := by omega
        clear hblk hd1 hd2 hx hq hcn hcd hlv hk0 HOP hrd
        go_upto_region 19 with fail
        refine wp_region_noPanic ?_
        refine wp_region_held_drew (S := fun w' => ∃ ok, EfI w bs N l Ds ok w') (by kernel_rfl) ⟨_, KI.out.below ((Below.refl _ _).drew)⟩ (fun hH => ?_)
        refine wpAnyH_take (i := 0) (oi := _) (v := .pointer (some ⟨g, 0, none⟩)) rfl (by kernel_rfl) (by kernel_rfl) (by kernel_rfl) (fun _ _ _ h => h) (Or.inl ⟨by rfl, fun w' hw' => by go_simp⟩) hH ?_
        try simp only [Act.put, List.getElem_toArray, List.getElem_cons_zero, List.getElem_cons_succ, List.setIfInBounds_toArray, List.set_cons_zero, List.set_cons_succ]
        refine wpAnyH_take (i := 1) (oi := _) (v := .bool false) rfl (by kernel_rfl) (by kernel_rfl) (by kernel_rfl) (fun _ _ _ h => h) (Or.inl ⟨by rfl, fun w' hw' => by go_simp⟩) hH ?_
        try simp only [Act.put, List.getElem_toArray, List.getElem_cons_zero, List.getElem_cons_succ, List.setIfInBounds_toArray, List.set_cons_zero, List.set_cons_succ]
        refine wpAnyH_take (i := 2) (oi := _) (v := .bool false) rfl (by kernel_rfl) (by kernel_rfl) (by kernel_rfl) (fun _ _ _ h => h) (Or.inl ⟨by rfl, fun w' hw' => by go_simp⟩) hH ?_
        try simp only [Act.put, List.getElem_toArray, List.getElem_cons_zero, List.getElem_cons_succ, List.setIfInBounds_toArray, List.set_cons_zero, List.set_cons_succ]
        refine wpAnyH_take (i := 3) (oi := _) (v := .pointer (some ⟨g, 0, none⟩)) rfl (by kernel_rfl) (by kernel_rfl) (by kernel_rfl) (fun _ _ _ h => h) (Or.inl ⟨by rfl, fun w' hw' => by go_simp⟩) hH ?_
        try simp only [Act.put, List.getElem_toArray, List.getElem_cons_zero, List.getElem_cons_succ, List.setIfInBounds_toArray, List.set_cons_zero, List.set_cons_succ]
        refine wpAnyH_take (i := 4) (oi := _) (v := .pointer (some ⟨g, 0, none⟩)) rfl (by kernel_rfl) (by kernel_rfl) (by kernel_rfl) (fun _ _ _ h => h) (Or.inl ⟨by rfl, fun w' hw' => by go_simp⟩) hH ?_
        try simp only [Act.put, List.getElem_toArray, List.getElem_cons_zero, List.getElem_cons_succ, List.setIfInBounds_toArray, List.set_cons_zero, List.set_cons_succ]
        refine wpAnyH_take (i := 5) (oi := _) (v := .pointer (some ⟨g, 0, none⟩)) rfl (by kernel_rfl) (by kernel_rfl) (by kernel_rfl) (fun _ _ _ h => h) (Or.inl ⟨by rfl, fun w' hw' => by go_simp⟩) hH ?_
        try simp only [Act.put, List.getElem_toArray, List.getElem_cons_zero, List.getElem_cons_succ, List.setIfInBounds_toArray, List.set_cons_zero, List.set_cons_succ]
        refine wpAnyH_take (i := 6) (oi := _) (v := .pointer (some ⟨g, 1, none⟩)) rfl (by kernel_rfl) (by kernel_rfl) (by kernel_rfl) (fun _ _ _ h => h) (Or.inl ⟨by rfl, fun w' hw' => by go_simp⟩) hH ?_
        try simp only [Act.put, List.getElem_toArray, List.getElem_cons_zero, List.getElem_cons_succ, List.setIfInBounds_toArray, List.set_cons_zero, List.set_cons_succ]
        refine wpAnyH_take (i := 7) (oi := _) (v := .int .i64 x.l) rfl (by kernel_rfl) (by kernel_rfl) (by kernel_rfl) (fun _ _ _ h => h) (Or.inl ⟨by rfl, fun w' hw' => by obtain ⟨_, hE⟩ := hw'; have h9 := ((HG.out w' hE.old).cell 1).trans (show _ = some (.int .i64 x.l) from rfl); go_simp⟩) hH ?_
        try simp only [Act.put, List.getElem_toArray, List.getElem_cons_zero, List.getElem_cons_succ, List.setIfInBounds_toArray, List.set_cons_zero, List.set_cons_succ]
        refine wpAnyH_take (i := 8) (oi := _) (v := .pointer (some ⟨g, 0, none⟩)) rfl (by kernel_rfl) (by kernel_rfl) (by kernel_rfl) (fun _ _ _ h => h) (Or.inl ⟨by rfl, fun w' hw' => by go_simp⟩) hH ?_
        try simp only [Act.put, List.getElem_toArray, List.getElem_cons_zero, List.getElem_cons_succ, List.setIfInBounds_toArray, List.set_cons_zero, List.set_cons_succ]
        refine wpAnyH_take (i := 9) (oi := _) (v := .slice (some ⟨w.heap.size + 1 + 1 + 1, 0, none⟩) N N) rfl (by kernel_rfl) (by kernel_rfl) (by kernel_rfl) (fun _ _ _ h => h) (Or.inl ⟨by rfl, fun w' hw' => by obtain ⟨_, hE⟩ := hw'; have h9 := hE.cb.cell; go_simp⟩) hH ?_
        try simp only [Act.put, List.getElem_toArray, List.getElem_cons_zero, List.getElem_cons_succ, List.setIfInBounds_toArray, List.set_cons_zero, List.set_cons_succ]
        refine wpAnyH_take (i := 10) (oi := _) (v := .int .i64 (k : Int)) rfl (by kernel_rfl) (by kernel_rfl) (by kernel_rfl) (fun _ _ _ h => h) (Or.inl ⟨by rfl, fun w' hw' => by go_simp⟩) hH ?_
        try simp only [Act.put, List.getElem_toArray, List.getElem_cons_zero, List.getElem_cons_succ, List.setIfInBounds_toArray, List.set_cons_zero, List.set_cons_succ]
        refine wpAnyH_take (i := 11) (oi := _) (v := .pointer (some ⟨w.heap.size + 1 + 1 + 1, k * 2, none⟩)) rfl (by kernel_rfl) (by kernel_rfl) (by kernel_rfl) (fun _ _ _ h => h) (Or.inl ⟨by rfl, fun w' hw' => by go_simp⟩) hH ?_
        try simp only [Act.put, List.getElem_toArray, List.getElem_cons_zero, List.getElem_cons_succ, List.setIfInBounds_toArray, List.set_cons_zero, List.set_cons_succ]
        refine wpAnyH_take (i := 12) (oi := _) (v := .agg #[.int .i64 cn, .int .i64 cd]) rfl (by kernel_rfl) (by kernel_rfl) (by kernel_rfl) (fun _ _ _ h => h) (yieldsIf_load_mid (by rfl) 182 _ rfl (w.heap.size + 1 + 1 + 1) (k * 2) rfl [.int .i64 cn, .int .i64 cd] _ (fun w' h => HRg.out w' _ h.choose_spec) Tryz.underlying182 rfl infoC2) hH ?_
        try simp only [Act.put, List.getElem_toArray, List.getElem_cons_zero, List.getElem_cons_succ, List.setIfInBounds_toArray, List.set_cons_zero, List.set_cons_succ]
        have KJ := hide (KI.out.below ((Below.refl _ _).drew))
        clear hH
        refine wpAnyH_ready (rs := [13]) (by kernel_rfl) (by simp) ?_
        refine AllReadyH.cons (o := _) rfl (fun K hK => ?_) AllReadyH.nil
        go_simp
        refine (linksOf_any x g na q nc dp cn cd _ (HG.out _ KJ.out.old) HDD.out.1 (HDD.out.2 _ KJ.out.old) (by omega)).mono ?_
        rintro e w2 ⟨rfl, b2⟩
        rw [← HLV.out]
        have KD := hide (KJ.out.below b2)
        refine hK.out _ _ ⟨_, KD.out⟩ (fun hH => ?_)
        clear hK K b2 KJ
        try simp only [Act.put, List.getElem_toArray, List.getElem_cons_zero, List.getElem_cons_succ, List.setIfInBounds_toArray, List.set_cons_zero, List.set_cons_succ]
        refine wpAnyH_take (i := 14) (oi := _) (v := .bool (x.l == lv)) rfl (by kernel_rfl) (by kernel_rfl) (by kernel_rfl) (fun _ _ _ h => h) (Or.inl ⟨by rfl, fun w' hw' => by go_simp⟩) hH ?_
        try simp only [Act.put, List.getElem_toArray, List.getElem_cons_zero, List.getElem_cons_succ, List.setIfInBounds_toArray, List.set_cons_zero, List.set_cons_succ]
        refine wpAnyH_take (i := 15) (oi := _) (v := .bool (x.l == lv)) rfl (by kernel_rfl) (by kernel_rfl) (by kernel_rfl) (fun _ _ _ h => h) (Or.inl ⟨by rfl, fun w' hw' => by go_simp⟩) hH ?_
        try simp only [Act.put, List.getElem_toArray, List.getElem_cons_zero, List.getElem_cons_succ, List.setIfInBounds_toArray, List.set_cons_zero, List.set_cons_succ]
        clear hH
        refine wpAnyH_ready (rs := [16]) (by kernel_rfl) (by simp) ?_
        refine AllReadyH.cons (o := _) rfl (fun K hK => ?_) AllReadyH.nil
        go_simp
        refine (need_any (w.heap.size + 1 + 1) (w.heap.size + 5) _ 21 _ _ _ KD.out.ck (by omega) KD.out.size).mono ?_
        rintro e w3 ⟨rfl, hc3, ht3⟩
        have K3 := hide (KD.out.tch hc3 ht3)
        refine hK.out _ _ ⟨_, K3.out⟩ (fun hH3 => ?_)
        clear hK K hc3 ht3 hH3
        try simp only [Act.put, List.getElem_toArray, List.getElem_cons_zero, List.getElem_cons_succ, List.setIfInBounds_toArray, List.set_cons_zero, List.set_cons_succ]
        refine wpAnyH_done (by kernel_rfl) (NoPanic.normal ?_) _
        have g10 := ((HG.out w3 K3.out.old).cell 10).trans (show _ = some (.pointer dp) from rfl)
        by_cases hk2 : x.k = 2
        rotate_left
        · obtain rfl := HDD.out.1 hk2
          have HLN := hide (show lnB L (k + 1) = (lnB L k && (x.l == lv) && true) from by rw [HLNk.out, HLK.out, HNM.out, decide_eq_false hk2]; rfl)
          clear hk2
          go_wp2_with (go_at_call 86; fail)
          refine (need_any (w.heap.size + 1 + 1) (w.heap.size + 5) _ 21 _ _ _ K3.out.ck (by omega) K3.out.size).mono ?_
          rintro e w4 ⟨rfl, hc4, ht4⟩
          have K4 := hide (show EfI w bs N l Ds (lnB L (k + 1)) w4 from by rw [HLN.out]; exact K3.out.tch hc4 ht4)
          clear hc4 ht4
          go_wp2_with fail
          go_roundw
          case rel => exact ⟨k + 1, by omega, by go_num, K4⟩
          case measure => simp [intOf]; omega
        obtain ⟨d, rfl, _⟩ := HDD.out.2 w3 K3.out.old hk2
        by_cases hk1 : k = 1
        · have hk1b : ((k : Int) == 1) = true := by rw [hk1]; rfl
          have HLN := hide (show lnB L (k + 1) = (lnB L k && (x.l == lv) && true) from by rw [HLNk.out, HLK.out, HNM.out, decide_eq_true hk1]; simp)
          clear hk2 hk1
          go_wp2_with (go_at_call 86; fail)
          refine (need_any (w.heap.size + 1 + 1) (w.heap.size + 5) _ 21 _ _ _ K3.out.ck (by omega) K3.out.size).mono ?_
          rintro e w4 ⟨rfl, hc4, ht4⟩
          have K4 := hide (show EfI w bs N l Ds (lnB L (k + 1)) w4 from by rw [HLN.out]; exact K3.out.tch hc4 ht4)
          clear hc4 ht4
          go_wp2_with fail
          go_roundw
          case rel => exact ⟨k + 1, by omega, by go_num, K4⟩
          case measure => simp [intOf]; omega
        have hk1b : ((k : Int) == 1) = false := by simp; omega
        have HLN := hide (show lnB L (k + 1) = (lnB L k && (x.l == lv) && (cn == 1)) from by rw [HLNk.out, HLK.out, HNM.out, decide_eq_false hk1, decide_eq_true hk2]; simp)
        have cb4 := K3.out.cb.cell
        have cn4 : w3.cell? ⟨w.heap.size + 1 + 1 + 1, k * 2, none⟩ = some (.int .i64 cn) := HRg.out w3 _ K3.out 0 _ rfl
        clear hk2 hk1
        go_wp2_with (go_at_call 86; fail)
        refine (need_any (w.heap.size + 1 + 1) (w.heap.size + 5) _ 21 _ _ _ K3.out.ck (by omega) K3.out.size).mono ?_
        rintro e w4 ⟨rfl, hc4, ht4⟩
        have K4 := hide (show EfI w bs N l Ds (lnB L (k + 1)) w4 from by rw [HLN.out]; exact K3.out.tch hc4 ht4)
        clear hc4 ht4
        go_wp2_with fail
        go_roundw
        case rel => exact ⟨k + 1, by omega, by go_num, K4⟩
        case measure => simp [intOf]; omega
      · have hkE : N = k := by omega
        subst hkE
        have HSL5 := hide (HSL.out wr KI.out.old)
        have cB5 := KI.out.sb.cell
        cases hln : lnB L N with
        | false =>
          rw [hln] at KI
          have HNO := hide (show ¬ EnOk L from fun h => by have := h.2.1; rw [← HN.out, hln] at this; cases this)
          obtain ⟨ev, ce, hf⟩ := KI.out.ck.fault
          rcases hf with ⟨h9, _⟩ | ⟨_, n4, hF4⟩
          · cases h9
          obtain ⟨t4, x4, rfl⟩ := hF4.iface
          clear hln hF4
          go_wp2_with fail
          refine wpIn_wide.2 ?_
          go_wp2_with (go_at_call 86; fail)
          refine (need_any (w.heap.size + 1 + 1) (w.heap.size + 5) _ 21 _ _ _ KI.out.ck (by omega) KI.out.size).mono ?_
          rintro e w5 ⟨rfl, hc5, ht5⟩
          have K5 := hide (KI.out.tch hc5 ht5)
          clear hc5 ht5 ce
          obtain ⟨ev5, ce5, hf5⟩ := K5.out.ck.fault
          rcases hf5 with ⟨h9, _⟩ | ⟨_, n5, hF5⟩
          · cases h9
          obtain ⟨t5, x5, rfl⟩ := hF5.iface
          have HF5 := hide hF5
          clear hF5
          have cR := K5.out.res.cell
          have fR := K5.out.res.frozen
          go_wp2_with fail
          obtain ⟨W6, hW6⟩ : ∃ W6, W6 = w5.setCell ⟨w.heap.size + 1, 0, none⟩ (.iface t5 (.pointer (some x5))) := ⟨_, rfl⟩
          rw [← hW6]
          have hM6 : Mks Ds W6 := by rw [hW6]; exact K5.out.mks.keep (KeepsOthers.setCell _ _ _)
          have hR6 : Boxed W6 (w.heap.size + 1) 72 (.iface t5 (.pointer (some x5))) := by rw [hW6]; exact K5.out.res.set _
          have hB6 : Below w.heap.size w W6 := by rw [hW6]; exact K5.out.old.setCell (p := ⟨w.heap.size + 1, 0, none⟩) (show w.heap.size ≤ w.heap.size + 1 by omega) _
          refine leaves_marks w.heap.size Ds W6 hM6 K5.out.nd (fun D hD => by have := (K5.out.lo D hD).1; omega) (fun W' hb hkeep => ?_)
          have hrn : w.heap.size + 1 ∉ Ds := fun h => by have := (K5.out.lo _ h).1; omega
          have hF6 : Flt W' (w.heap.size + 5) n5 (.iface t5 (.pointer (some x5))) 21 := by
            refine (HF5.out.keep fun k o v hl hc => ?_)
            have h1 : W6.cell? ⟨k, o, none⟩ = some v := by
              rw [hW6, World.cell?_setCell_other _ _ _ _ (by intro e; injection e with e1; omega)]
              exact hc
            refine (World.cell?_of_block (a := ⟨k, o, none⟩) (hkeep k (fun h => ?_))).trans h1
            obtain ⟨o2, ho2, hc2⟩ := cells_of_cell h1
            have hdf := hM6 k h
            rw [hdf] at ho2
            cases ho2
            cases hc2
          exact ⟨_, results_err rfl _ _ (w.heap.size + 1) (.iface t5 (.pointer (some x5))) rfl ((hkeep _ hrn).trans hR6), false, .iface t5 (.pointer (some x5)), rfl, ⟨fun h => (by cases h), fun h => absurd h HNO.out⟩, .inr ⟨rfl, n5, hF6.mono (by omega)⟩, hB6.trans hb⟩
        | true =>
          rw [hln] at KI
          have HLI := hide ((lnB_iff L L.length).1 (by rw [← HN.out]; exact hln))
          have HME := hide (show ∀ i, i < L.length → ∀ e ∈ entN (ndAt L i), e.2.1 ≠ 1 ∧ e.2.1 < L.length ∧ (ndAt L e.2.1).k = (e.2.2 : Int) from fun i hi e he => by
            have := (mayE_iff L i e).1 (HM.out i (by rw [HN.out]; exact hi) e he)
            exact ⟨this.1, this.2.1, this.2.2.2.1⟩)
          have HST := hide (stC_of (L := L) HRT.out.1 HRT.out.2 (fun i h1 hi => by have := HKK.out.1 i hi; omega) HME.out (fun i h2 hi hd => (HLI.out i hi).2 hd (by omega)) (fun i h1 hi hf => by
            have h3 := (HLI.out i hi).1 (by omega)
            have h4 := HKK.out.2.1 i hi (by omega)
            unfold lnkN at h3
            rw [if_neg (by omega)] at h3
            omega))
          have HRC := hide (allReached_any bs bn C L ps wr (HO.out.below KI.out.old) (by rw [← HN.out]; exact hL) HST.out (fun i hi => (HKK.out.1 i hi).1))
          have HEN := hide (show EnOk L ↔ (bfs (chE (numE L)) L.length [] [1]).length = ((List.range L.length).filter (kdN L · == 2)).length from
            ⟨fun h => h.2.2, fun h => ⟨fun i hi e he => HM.out i (by rw [HN.out]; exact hi) e he, by rw [← HN.out]; exact hln, h⟩⟩)
          obtain ⟨rb, hrb⟩ : ∃ rb, rb = decide ((bfs (chE (numE L)) L.length [] [1]).length = ((List.range L.length).filter (kdN L · == 2)).length) := ⟨_, rfl⟩
          rw [← hrb] at HRC
          have HRB := hide (show rb = true ↔ EnOk L from by rw [HEN.out, hrb]; exact decide_eq_true_iff)
          obtain ⟨ev, ce, hf⟩ := KI.out.ck.fault
          rcases hf with ⟨_, rfl⟩ | ⟨h9, _⟩
          case inr => cases h9
          clear hln hrb
          go_wp2_with fail
          refine wpIn_wide.2 ?_
          go_wp2_with (go_at_call 101; fail)
          refine HRC.out.mono ?_
          rintro e w4 ⟨rfl, b4⟩
          have K4 := hide (KI.out.below b4)
          clear b4 ce HRC
          go_wp2_with (go_at_call 86; fail)
          refine (need_any (w.heap.size + 1 + 1) (w.heap.size + 5) _ 21 _ rb _ K4.out.ck (by omega) K4.out.size).mono ?_
          rintro e w5 ⟨rfl, hc5, ht5⟩
          rw [Bool.true_and] at hc5
          have K5 := hide (K4.out.tch hc5 ht5)
          clear hc5 ht5
          obtain ⟨ev5, ce5, hf5⟩ := K5.out.ck.fault
          cases rb with
          | false =>
            have HNO := hide (show ¬ EnOk L from fun h => by have := HRB.out.2 h; cases this)
            rcases hf5 with ⟨h9, _⟩ | ⟨_, n5, hF5⟩
            · cases h9
            obtain ⟨t5, x5, rfl⟩ := hF5.iface
            have HF5 := hide hF5
            clear hF5
            have cR := K5.out.res.cell
            have fR := K5.out.res.frozen
            go_wp2_with fail
            obtain ⟨W6, hW6⟩ : ∃ W6, W6 = w5.setCell ⟨w.heap.size + 1, 0, none⟩ (.iface t5 (.pointer (some x5))) := ⟨_, rfl⟩
            rw [← hW6]
            have hM6 : Mks Ds W6 := by rw [hW6]; exact K5.out.mks.keep (KeepsOthers.setCell _ _ _)
            have hR6 : Boxed W6 (w.heap.size + 1) 72 (.iface t5 (.pointer (some x5))) := by rw [hW6]; exact K5.out.res.set _
            have hB6 : Below w.heap.size w W6 := by rw [hW6]; exact K5.out.old.setCell (p := ⟨w.heap.size + 1, 0, none⟩) (show w.heap.size ≤ w.heap.size + 1 by omega) _
            refine leaves_marks w.heap.size Ds W6 hM6 K5.out.nd (fun D hD => by have := (K5.out.lo D hD).1; omega) (fun W' hb hkeep => ?_)
            have hrn : w.heap.size + 1 ∉ Ds := fun h => by have := (K5.out.lo _ h).1; omega
            have hF6 : Flt W' (w.heap.size + 5) n5 (.iface t5 (.pointer (some x5))) 21 := by
              refine (HF5.out.keep fun k o v hl hc => ?_)
              have h1 : W6.cell? ⟨k, o, none⟩ = some v := by
                rw [hW6, World.cell?_setCell_other _ _ _ _ (by intro e; injection e with e1; omega)]
                exact hc
              refine (World.cell?_of_block (a := ⟨k, o, none⟩) (hkeep k (fun h => ?_))).trans h1
              obtain ⟨o2, ho2, hc2⟩ := cells_of_cell h1
              have hdf := hM6 k h
              rw [hdf] at ho2
              cases ho2
              cases hc2
            exact ⟨_, results_err rfl _ _ (w.heap.size + 1) (.iface t5 (.pointer (some x5))) rfl ((hkeep _ hrn).trans hR6), false, .iface t5 (.pointer (some x5)), rfl, ⟨fun h => (by cases h), fun h => absurd h HNO.out⟩, .inr ⟨rfl, n5, hF6.mono (by omega)⟩, hB6.trans hb⟩
          | true =>
            rcases hf5 with ⟨_, rfl⟩ | ⟨h9, _⟩
            case inr => cases h9
            have cR := K5.out.res.cell
            have fR := K5.out.res.frozen
            go_wp2_with fail
            obtain ⟨W6, hW6⟩ : ∃ W6, W6 = w5.setCell ⟨w.heap.size + 1, 0, none⟩ (.nilIface) := ⟨_, rfl⟩
            rw [← hW6]
            have hM6 : Mks Ds W6 := by rw [hW6]; exact K5.out.mks.keep (KeepsOthers.setCell _ _ _)
            have hR6 : Boxed W6 (w.heap.size + 1) 72 (.nilIface) := by rw [hW6]; exact K5.out.res.set _
            have hB6 : Below w.heap.size w W6 := by rw [hW6]; exact K5.out.old.setCell (p := ⟨w.heap.size + 1, 0, none⟩) (show w.heap.size ≤ w.heap.size + 1 by omega) _
            refine leaves_marks w.heap.size Ds W6 hM6 K5.out.nd (fun D hD => by have := (K5.out.lo D hD).1; omega) (fun W' hb hkeep => ?_)
            have hrn : w.heap.size + 1 ∉ Ds := fun h => by have := (K5.out.lo _ h).1; omega
            exact ⟨_, results_err rfl _ _ (w.heap.size + 1) (.nilIface) rfl ((hkeep _ hrn).trans hR6), true, .nilIface, rfl, ⟨fun _ => HRB.out.1 trivial, fun _ => rfl⟩, .inl ⟨rfl, rfl⟩, hB6.trans hb⟩
  have hltI : (k : Int) < (N : Int) := by omega
  have hkl : k < L.length := by rw [← HN.out]; exact hlt
  obtain ⟨hpw, hopw⟩ := HO.out.nd.pv (i := k) hkl
  have cP : wr.cell? ⟨bn, k, none⟩ = some (pvN ps k) := (HI.out.old.cell (p := ⟨bn, k, none⟩) (cell_lt hpw)).trans hpw
  obtain ⟨p, hp⟩ : ∃ p, p = pvN ps k := ⟨_, rfl⟩
  rw [← hp] at cP hopw
  have HOP := hide hopw
  clear hp hpw hopw
  have HI1 := hide (HI.out.alloc (.cells #[.int .i64 (k : Int)] 3))
  have HGO := hide (show ∀ W, (ndAt L k).k ≠ 2 → EfI w bs N (cntL N (allQ L k)) Ds true W → EfI w bs N (cntL N (allQ L (k + 1))) Ds true W ∧ (∀ j, j < k + 1 → ∀ e ∈ entN (ndAt L j), mayE L j e = true) from fun W h2 hI => by
    rw [allQ_not h2]
    refine ⟨hI, fun j hj e he => ?_⟩
    rcases Nat.lt_or_ge j k with h | h
    · exact HM.out j h e he
    · have : j = k := by omega
      subst this
      exact absurd (entN_dir he) h2)
  by_cases hk0 : (ndAt L k).k = 0
  · obtain rfl := HOP.out.free hk0
    have HG := hide (HGO.out _ (by omega) HI1.out)
    clear hk0 HOP
    gi_wp2
    refine ⟨⟨k + 1, Ds, _, _, _, _, _, _, _, _, _, _, _, _, _, _, _, _, _, _, _, _, _, _, _, _, _, _, _, _, _, _, _, _, _, _, _, _, _, _, _, _, _, _, _, _, _, _, _, _, _, _, _, _, _, rfl, by omega, hide HG.out.1, hide HG.out.2⟩, ?_⟩
    simp [intOf]
    omega
  obtain ⟨g, na, nc, dp, rfl, hblk, _, _, hd1, hd2⟩ := HOP.out.some hk0
  have g10 : (wr.alloc (.cells #[.int .i64 (k : Int)] 3)).cell? ⟨g, 10, none⟩ = some (.pointer dp) := by
    rw [World.cell?_alloc_lt _ _ _ (Nat.lt_of_lt_of_le hblk.lt HI.out.old.size)]
    exact (HI.out.old.cell (p := ⟨g, 10, none⟩) hblk.lt).trans ((hblk.cell 10).trans rfl)
  by_cases hk2 : (ndAt L k).k = 2
  rotate_left
  · obtain rfl := hd1 hk2
    have HG := hide (HGO.out _ hk2 HI1.out)
    clear hk0 HOP hd1 hd2 hblk
    gi_wp2
    refine ⟨⟨k + 1, Ds, _, _, _, _, _, _, _, _, _, _, _, _, _, _, _, _, _, _, _, _, _, _, _, _, _, _, _, _, _, _, _, _, _, _, _, _, _, _, _, _, _, _, _, _, _, _, _, _, _, _, _, _, _, rfl, by omega, hide HG.out.1, hide HG.out.2⟩, ?_⟩
    simp [intOf]
    omega
  obtain ⟨d, rfl, hDR⟩ := hd2 hk2
  have HDR := hide hDR
  have HES := hide (entN_some hk2 hDR.ok)
  have HEL := hide (show (entN (ndAt L k)).length ≤ 8192 from by
    have h1 := entT_le HES.out
    have h2 := dirOk_lenQ hDR.ok
    omega)
  have HK2 := hide hk2
  clear hk0 hk2 HOP hd1 hd2 hblk hDR HGO
  gi_wp2_with (refine ⟨trivial, ?_⟩; gi_at_call 98; fail)
  refine ⟨trivial, ?_⟩
  refine (all_in _ d _).mono ?_
  rintro e w' ⟨rfl, rfl⟩
  gi_wp2
  obtain ⟨Wl, hWl⟩ : ∃ Wl, Wl = ((wr.alloc (.cells #[.int .i64 (k : Int)] 3)).alloc (.cells #[.pointer (some ⟨d, 0, none⟩)] 79)) := ⟨_, rfl⟩
  rw [← hWl]
  obtain ⟨nb, hnb⟩ : ∃ nb, nb = wr.heap.size := ⟨_, rfl⟩
  rw [← hnb]
  obtain ⟨X, hX⟩ : ∃ X, X = nb + 1 := ⟨_, rfl⟩
  rw [← hX]
  have HNBx := hide (show Boxed Wl nb 3 (.int .i64 (k : Int)) from by rw [hWl, hnb]; exact (Boxed.new wr _ _).alloc _)
  have HXB := hide (show Boxed Wl X 79 (.pointer (some ⟨d, 0, none⟩)) from by
    rw [hWl, hX, hnb]
    have h := Boxed.new (wr.alloc (.cells #[.int .i64 (k : Int)] 3)) 79 (.pointer (some ⟨d, 0, none⟩))
    rw [World.size_alloc] at h
    exact h)
  have HIl := hide (show EfI w bs N (cntL N (allQ L k)) Ds true Wl from by rw [hWl]; exact HI1.out.alloc _)
  have hXs : X < Wl.heap.size := HXB.out.lt
  have hnl : nb < Wl.heap.size := HNBx.out.lt
  have hnw : w.heap.size + 5 ≤ nb := by rw [hnb]; exact HI.out.size
  have hXw : w.heap.size + 5 < X := by omega
  have hmx : Tryz.prog.follows .mixedOrders = true := by kernel_rfl
  obtain ⟨es, hes⟩ : ∃ es, es = entN (ndAt L k) := ⟨_, rfl⟩
  rw [← hes] at HES HEL
  have HEE := hide hes
  have HQL := hide (allQ_len2 (L := L) (k := k) (fun j hj => entN_lenD (HKK.out.2.2 j (by omega))))
  clear hWl hX hnb hes g10 cP HI HI1
  refine wpIn_rangeFunc_ownH rfl (by omega) (gf := 146) (lb := #[.pointer (some ⟨X, 0, none⟩)]) rfl trivial (enters_of Tryz.func146 (by kernel_rfl) rfl)
    (all_stops 5 (by omega) X w.heap.size d (ndAt L k).d es w Wl HDR.out rfl HIl.out.old HES.out HXB.out) Kd.trans (Kd_b HIl.out.old.size hXs) (Below.refl _ _) (fun _ => rfl)
    (fun pre W => EfI w bs N (cntL N (allQ L k ++ preQ k pre)) Ds true W ∧ Boxed W nb 3 (.int .i64 (k : Int)) ∧ Boxed W X 79 (.pointer (some ⟨d, 0, none⟩)) ∧ Wl.heap.size ≤ W.heap.size ∧ ∀ x ∈ pre, mayE L k x.1 = true)
    (fun c pre W => c = .ret ∧ EfX w Ds W ∧ ∃ x : EsX es, mayE L k x.1 = false)
    (by
      rintro pre A B row ⟨h1, h2, h3, h4, h5⟩ hg hr
      exact ⟨h1.grown (by omega) (fun D hD => (HIl.out.lo D hD).2) hg hr, h2.kept hg (fun e => by have := (hr _ e.symm).1; omega), h3.kept hg (fun e => by have := (hr _ e.symm).1; omega), Nat.le_trans h4 hg.size, h5⟩)
    (fun c => by
      rintro pre A B row ⟨h1, h2, h3⟩ hg hr
      exact ⟨h1, h2.grown (by omega) (fun D hD => (HIl.out.lo D hD).2) hg hr, h3⟩)
    ⟨by rw [show preQ k ([] : List (EsX es)) = [] from rfl, List.append_nil]; exact HIl.out, HNBx.out, HXB.out, Nat.le_refl _, fun x hx => (by cases hx)⟩
    (fun x a' Wx => ∃ c, a' = { tmps := #[.pointer (some ⟨bs, 0, none⟩), .pointer (some ⟨w.heap.size, 0, none⟩), .pointer (some ⟨w.heap.size + 1, 0, none⟩), .pointer (some ⟨w.heap.size + 1 + 1, 0, none⟩), .pointer (some ⟨w.heap.size + 1 + 1 + 1 + 1, 0, none⟩), .pointer (some ⟨nb, 0, none⟩), .pointer (some ⟨g, 0, none⟩), .pointer (some ⟨c, 0, none⟩), undef, undef, .agg #[.int .i64 21, .nilIface], .pointer (some ⟨bs, 0, none⟩), .pointer (some ⟨bs, 0, none⟩), .pointer (some ⟨bs, 1, none⟩), .slice (some ⟨bn, 0, none⟩) N N, .int .i64 (N : Int), .slice (some ⟨w.heap.size + 1 + 1 + 1, 0, none⟩) N N, .pointer (some ⟨bs, 0, none⟩), .pointer (some ⟨bs, 0, none⟩), .pointer (some ⟨bs, 1, none⟩), .slice (some ⟨bn, 0, none⟩) N N, .int .i64 (N : Int), .int .i64 (k : Int), .bool true, .int .i64 (k : Int), .pointer (some ⟨bn, k, none⟩), .pointer (some ⟨g, 0, none⟩), .pointer (some ⟨g, 0, none⟩), .bool false, .bool false, .pointer (some ⟨g, 0, none⟩), .pointer (some ⟨g, 0, none⟩), .pointer (some ⟨g, 10, none⟩), .pointer (some ⟨d, 0, none⟩), .bool false, .bool false, .pointer (some ⟨g, 0, none⟩), .pointer (some ⟨g, 0, none⟩), .pointer (some ⟨g, 10, none⟩), .pointer (some ⟨d, 0, none⟩), .func (.func 146) #[] #[.pointer (some ⟨X, 0, none⟩)], entV x.1, u42, u43, u44, u45, u46, u47, u48, u49, u50, u51, u52, u53, u54, u55, u56, u57, u58, u59, u60, u61, u62, u63, u64, u65, u66, u67, u68, u69, u70, u71, u72, undef, undef, undef, undef, undef, undef, undef, undef, undef, undef, undef, undef, undef, undef, undef, undef, undef, undef, undef, undef, undef, undef, undef, undef, undef, undef, undef, undef, undef, undef, undef, undef, undef, undef, undef, undef, undef, undef, undef, undef, undef, undef, undef, undef, undef, undef, undef, undef, undef, undef, undef, undef, undef, undef, undef, undef, undef, undef, undef, undef], defers := [] } ∧ Blk Wx c #[.string x.1.1, .int .i64 (x.1.2.1 : Int), .int .i64 (x.1.2.2 : Int)] 61 ∧ Wl.heap.size ≤ c)
    (by
      rintro x a' _ A B row ⟨c, h1, h2, h3⟩ hg hr
      refine ⟨c, h1, (hg.block c h2.lt (fun e => ?_)).trans h2, h3⟩
      obtain ⟨_, o, ho, hc⟩ := hr c e.symm
      have h2' : A.heap[c]? = some (.cells _ _) := h2
      rw [h2'] at ho
      cases ho
      cases hc)
    ?assign ?body ?done ?stop
  case assign =>
    rintro l pre ⟨⟨nm, ino, kd⟩, hmem⟩ Wx K hI hK
    have HK := hide (And.intro hI hK)
    clear hI hK
    unfold entV
    gi_wp2
    have bA : Below Wx.heap.size Wx (Wx.alloc (.cells #[.string nm, .int .i64 (ino : Int), .int .i64 (kd : Int)] 61)) := (Below.refl _ _).alloc (Nat.le_refl _) _
    have hXx : X < Wx.heap.size := HK.out.1.2.2.1.lt
    exact HK.out.2 _ _ ((KeepsOthers.alloc _ _).from _) ⟨bA.mono HK.out.1.1.old.size, bA.block X hXx⟩ ⟨HK.out.1.1.alloc _, HK.out.1.2.1.alloc _, HK.out.1.2.2.1.alloc _, Nat.le_trans HK.out.1.2.2.2.1 bA.size, HK.out.1.2.2.2.2⟩ ⟨_, rfl, Blk.new _ _ _, HK.out.1.2.2.2.1⟩
  case body =>
    rintro l pre ⟨⟨nm, ino, kd⟩, hmem⟩ a' Wx hl hr ⟨hI, hNB, hXB, hWs, hmay⟩ ⟨c, rfl, kc, hcl⟩ hplen
    dsimp only at kc ⊢
    have q0 := (kc.cell 0).trans (show _ = some (.string nm) from rfl)
    have q1 := (kc.cell 1).trans (show _ = some (.int .i64 (ino : Int)) from rfl)
    have q2 := (kc.cell 2).trans (show _ = some (.int .i64 (kd : Int)) from rfl)
    have cB := hI.sb.cell
    have cNb := hNB.cell
    have HI := hide hI
    have HNB := hide hNB
    have HXB2 := hide hXB
    have HMY := hide hmay
    have KC := hide kc
    have HOx := hide (show OpS Wx bs bn C L ps from HO.out.below hI.old)
    have hXx : X < Wx.heap.size := hXB.lt
    have hnx : nb < Wx.heap.size := hNB.lt
    have hQb : (allQ L k ++ preQ k pre).length ≤ 8208384 := by
      have h1 := HQL.out
      have h2 := HEL.out
      rw [List.length_append]
      unfold preQ
      rw [List.length_map]
      omega
    clear hI hNB hXB hmay kc
    gi_wp2_with (refine ⟨trivial, ?_⟩; gi_at_call 99; fail)
    refine ⟨trivial, ?_⟩
    refine (CallsIn.inRound l (callsIn_wide.2 (mayName_any bs bn C L ps Wx HOx.out (by rw [← HN.out]; omega) k nm ino kd))).mono ?_
    rintro e W2 ⟨rfl, b2⟩
    have HI2 := hide (HI.out.below b2)
    have KC2 := hide (KC.out.below b2 KC.out.lt)
    have HB2 := hide b2
    clear b2 q0 q1 q2 cB cNb
    obtain ⟨mb, hmb⟩ : ∃ mb, mb = mayE L k (nm, ino, kd) := ⟨_, rfl⟩
    rw [← hmb]
    have HMB := hide hmb
    clear hmb
    gi_wp2_with (refine ⟨trivial, ?_⟩; gi_at_call 86; fail)
    refine ⟨trivial, ?_⟩
    refine (CallsIn.inRound l (callsIn_wide.2 (need_any (w.heap.size + 1 + 1) (w.heap.size + 5) _ 21 true mb W2 HI2.out.ck (by omega) HI2.out.size))).mono ?_
    rintro e W3 ⟨rfl, hc3, ht3⟩
    rw [Bool.true_and] at hc3
    have HI3 := hide (HI2.out.tch hc3 ht3)
    have hs2 := HB2.out.size
    have KC3 := hide (show Blk W3 c #[.string nm, .int .i64 (ino : Int), .int .i64 (kd : Int)] 61 from (ht3.1.block c KC2.out.lt (by simp; omega)).trans KC2.out)
    have HN3 := hide (show Boxed W3 nb 3 (.int .i64 (k : Int)) from (ht3.1.block nb (by omega) (by simp; omega)).trans ((HB2.out.block nb hnx).trans HNB.out))
    have HX3 := hide (show W3.heap[X]? = Wx.heap[X]? from (ht3.1.block X (by omega) (by simp; omega)).trans (HB2.out.block X hXx))
    have HK3 := hide (show KeepsFrom Wl.heap.size Wx W3 from (keepsB HB2.out).trans (KeepsFrom.of_grownBy ht3.1 (fun j e => by cases e; omega)))
    have HD3 := hide (show Below w.heap.size Wx W3 from ht3.under (HB2.out.mono HI.out.old.size) (by omega) (Nat.le_trans HI.out.old.size hs2))
    clear hc3 ht3
    obtain ⟨ev3, ce3, hf3⟩ := HI3.out.ck.fault
    cases mb with
    | false =>
      rcases hf3 with ⟨h9, _⟩ | ⟨_, n3, hF3⟩
      · cases h9
      obtain ⟨t3, x3, rfl⟩ := hF3.iface
      have HF3 := hide hF3
      have cR := HI3.out.res.cell
      have fR := HI3.out.res.frozen
      clear hF3
      gi_wp2
      obtain ⟨W4, hW4⟩ : ∃ W4, W4 = W3.setCell ⟨w.heap.size + 1, 0, none⟩ (.iface t3 (.pointer (some x3))) := ⟨_, rfl⟩
      have HX4 := hide (show EfX w Ds W4 from by
        rw [hW4]
        refine ⟨⟨_, HI3.out.res.set _, n3, HF3.out.keep fun k o v hl hc => ?_⟩, HI3.out.old.setCell (p := ⟨w.heap.size + 1, 0, none⟩) (show w.heap.size ≤ w.heap.size + 1 by omega) _, HI3.out.mks.keep (KeepsOthers.setCell _ _ _), fun D hD => ⟨(HI3.out.lo D hD).1, by simpa using (HI3.out.lo D hD).2⟩, HI3.out.nd⟩
        rw [World.cell?_setCell_other _ _ _ _ (by intro e; injection e with e1; omega)]
        exact hc)
      rw [← hW4]
      exact ⟨HK3.out.trans (by rw [hW4]; exact (KeepsOthers.setCell _ _ _).from _), rfl, HX4.out, ⟨(nm, ino, kd), hmem⟩, HMB.out.symm⟩
    | true =>
      rcases hf3 with ⟨_, rfl⟩ | ⟨h9, _⟩
      case inr => cases h9
      have hmE := (mayE_iff L k (nm, ino, kd)).1 HMB.out.symm
      have hinL : ino < L.length := hmE.2.1
      have hinN : ino < N := by rw [HN.out]; exact hinL
      have hinI : (ino : Int) < (N : Int) := by omega
      have hinJ : ¬ ((N : Int) ≤ (ino : Int)) := by omega
      obtain ⟨Q, hQ⟩ : ∃ Q, Q = allQ L k ++ preQ k pre := ⟨_, rfl⟩
      rw [← hQ] at HI3 hQb
      have HQN := hide (show allQ L k ++ preQ k (pre ++ [⟨(nm, ino, kd), hmem⟩]) = Q ++ [(k, (nm, ino, kd))] from by rw [hQ]; unfold preQ; simp)
      obtain ⟨tn, htn⟩ : ∃ tn, tn = tnQ Q ino := ⟨_, rfl⟩
      obtain ⟨td, htd⟩ : ∃ td, td = tdQ Q k := ⟨_, rfl⟩
      have hT1 : 0 ≤ tn ∧ tn ≤ 8208384 := by have := tnQ_bd Q ino; rw [← htn] at this; omega
      have hT2 : 0 ≤ td ∧ td ≤ 8208384 := by have := tdQ_bd Q k; rw [← htd] at this; omega
      have cCb := HI3.out.cb.cell
      have cE1 := (KC3.out.cell 1).trans (show _ = some (.int .i64 (ino : Int)) from rfl)
      have cT : W3.cell? ⟨w.heap.size + 1 + 1 + 1, ino * 2, none⟩ = some (.int .i64 tn) := HI3.out.cell (by rw [htn]; exact (cntL_get N Q ino hinN).1)
      have fT : W3.frozen? ⟨w.heap.size + 1 + 1 + 1, ino * 2, none⟩ = false := HI3.out.cnt.frozen _
      have HTN := hide htn
      have HTD := hide htd
      have HM2 := hide (show ∀ x ∈ pre ++ [⟨(nm, ino, kd), hmem⟩], mayE L k x.1 = true from fun x hx => by
        rcases List.mem_append.1 hx with h | h
        · exact HMY.out x h
        · obtain rfl := List.mem_singleton.1 h
          exact HMB.out.symm)
      clear hmE hQ htn htd
      gi_upto_region 13 with fail
      obtain ⟨W4, hW4⟩ : ∃ W4, W4 = W3.setCell ⟨w.heap.size + 1 + 1 + 1, ino * 2, none⟩ (.int .i64 (tn + 1)) := ⟨_, rfl⟩
      have HI4 := hide (show EfI w bs N ((cntL N Q).set (ino * 2) (tn + 1)) Ds true W4 from by rw [hW4]; exact HI3.out.set (ino * 2) (tn + 1))
      have KC4 := hide (show Blk W4 c #[.string nm, .int .i64 (ino : Int), .int .i64 (kd : Int)] 61 from by rw [hW4]; exact KC3.out.other _ _ (by show c ≠ w.heap.size + 1 + 1 + 1; omega))
      have HN4 := hide (show Boxed W4 nb 3 (.int .i64 (k : Int)) from by rw [hW4]; exact (Below.heap_setCell W3 ⟨w.heap.size + 1 + 1 + 1, ino * 2, none⟩ _ nb (by show nb ≠ w.heap.size + 1 + 1 + 1; omega)).trans HN3.out)
      have HX4 := hide (show W4.heap[X]? = Wx.heap[X]? from by rw [hW4]; exact (Below.heap_setCell W3 ⟨w.heap.size + 1 + 1 + 1, ino * 2, none⟩ _ X (by show X ≠ w.heap.size + 1 + 1 + 1; omega)).trans HX3.out)
      have HK4 := hide (show KeepsFrom Wl.heap.size Wx W4 from by rw [hW4]; exact HK3.out.trans ((KeepsOthers.setCell _ _ _).from _))
      have HD4 := hide (show Below w.heap.size Wx W4 from by rw [hW4]; exact HD3.out.setCell (p := ⟨w.heap.size + 1 + 1 + 1, ino * 2, none⟩) (show w.heap.size ≤ w.heap.size + 1 + 1 + 1 by omega) _)
      rw [← hW4]
      clear hW4 cCb cE1 cT fT ce3
      have cE2 := (KC4.out.cell 2).trans (show _ = some (.int .i64 (kd : Int)) from rfl)
      by_cases hk2 : kd = 2
      rotate_left
      · have hkb : ((kd : Int) == 2) = false := by simp; omega
        have HFin := hide (show EfI w bs N (cntL N (allQ L k ++ preQ k (pre ++ [⟨(nm, ino, kd), hmem⟩]))) Ds true W4 from by rw [HQN.out, cntL_file N Q k (nm, ino, kd) hinN hk2, ← HTN.out]; exact HI4.out)
        clear hk2
        gi_wp2
        exact ⟨HK4.out, ⟨HD4.out, HX4.out⟩, HFin.out, HN4.out, HX4.out.trans HXB2.out, Nat.le_trans hWs HK4.out.size, by first | exact HM2.out | exact fun a a1 b b1 h => HM2.out _ h⟩
      have hkb : ((kd : Int) == 2) = true := by rw [hk2]; rfl
      have cCb := HI4.out.cb.cell
      have cNb := HN4.out.cell
      have cT : W4.cell? ⟨w.heap.size + 1 + 1 + 1, k * 2 + 1, none⟩ = some (.int .i64 td) := HI4.out.cell (by rw [List.getElem?_set, if_neg (by omega), HTD.out]; exact (cntL_get N Q k hlt).2)
      have fT : W4.frozen? ⟨w.heap.size + 1 + 1 + 1, k * 2 + 1, none⟩ = false := HI4.out.cnt.frozen _
      have HK2b := hide hk2
      have hkJ : ¬ ((N : Int) ≤ (k : Int)) := by omega
      clear hk2
      gi_wp2
      obtain ⟨W5, hW5⟩ : ∃ W5, W5 = W4.setCell ⟨w.heap.size + 1 + 1 + 1, k * 2 + 1, none⟩ (.int .i64 (td + 1)) := ⟨_, rfl⟩
      have HFin := hide (show EfI w bs N (cntL N (allQ L k ++ preQ k (pre ++ [⟨(nm, ino, kd), hmem⟩]))) Ds true W5 from by rw [HQN.out, cntL_dir N Q k (nm, ino, kd) hinN hlt HK2b.out, ← HTN.out, ← HTD.out, hW5]; exact HI4.out.set (k * 2 + 1) (td + 1))
      have HX5 : W5.heap[X]? = Wx.heap[X]? := by rw [hW5]; exact (Below.heap_setCell W4 ⟨w.heap.size + 1 + 1 + 1, k * 2 + 1, none⟩ _ X (by show X ≠ w.heap.size + 1 + 1 + 1; omega)).trans HX4.out
      have HN5 : Boxed W5 nb 3 (.int .i64 (k : Int)) := by rw [hW5]; exact (Below.heap_setCell W4 ⟨w.heap.size + 1 + 1 + 1, k * 2 + 1, none⟩ _ nb (by show nb ≠ w.heap.size + 1 + 1 + 1; omega)).trans HN4.out
      have HK5 : KeepsFrom Wl.heap.size Wx W5 := by rw [hW5]; exact HK4.out.trans ((KeepsOthers.setCell _ _ _).from _)
      have HD5 : Below w.heap.size Wx W5 := by rw [hW5]; exact HD4.out.setCell (p := ⟨w.heap.size + 1 + 1 + 1, k * 2 + 1, none⟩) (show w.heap.size ≤ w.heap.size + 1 + 1 + 1 by omega) _
      rw [← hW5]
      exact ⟨HK5, ⟨HD5, HX5⟩, HFin.out, HN5, HX5.trans HXB2.out, Nat.le_trans hWs HK5.size, by first | exact HM2.out | exact fun a a1 b b1 h => HM2.out _ h⟩
  case done =>
    rintro D xs W hD hS ⟨hI, hNB, hXB, hWs, hmay⟩ hK
    have hxs : xs.map Subtype.val = es := hS
    have HIN := hide (show EfI w bs N (cntL N (allQ L (k + 1))) (D :: Ds) true W from by
      rw [allQ_dir xs hxs HEE.out]
      exact hI.pushD hK (by omega) (fun h => by have := (HIl.out.lo D h).2; omega))
    have HMN := hide (show ∀ j, j < k + 1 → ∀ e ∈ entN (ndAt L j), mayE L j e = true from fun j hj e he => by
      rcases Nat.lt_or_ge j k with h | h
      · exact HM.out j h e he
      · have : j = k := by omega
        subst this
        rw [← HEE.out, ← hxs] at he
        obtain ⟨x, hx, rfl⟩ := List.mem_map.1 he
        exact hmay x hx)
    clear hI hNB hXB hK hmay hxs hS
    gi_wp2
    refine ⟨⟨k + 1, D :: Ds, _, _, _, _, _, _, _, _, _, _, _, _, _, _, _, _, _, _, _, _, _, _, _, _, _, _, _, _, _, _, _, _, _, _, _, _, _, _, _, _, _, _, _, _, _, _, _, _, _, _, _, _, _, rfl, by omega, HIN, HMN⟩, ?_⟩
    simp [intOf]
    omega
  case stop =>
    rintro D c pre W hD hSp ⟨rfl, hx, x, hmx⟩ hK
    have HNO := hide (show ¬ EnOk L from fun h => by
      have h1 := h.1 k hkl x.1 (by rw [← HEE.out]; exact x.2)
      rw [hmx] at h1
      cases h1)
    have HX := hide hx
    have HKD := hide hK
    clear hx hK hmx hSp
    gi_wp2
    refine leaves_marks w.heap.size (D :: Ds) W (fun D' hD' => ?_) (List.nodup_cons.2 ⟨fun h => by have := (HIl.out.lo D h).2; omega, HX.out.nd⟩) (fun D' hD' => ?_) (fun W' hb hkeep => ?_)
    · rcases List.mem_cons.1 hD' with rfl | h1
      · exact HKD.out
      · exact HX.out.mks D' h1
    · rcases List.mem_cons.1 hD' with rfl | h1
      · omega
      · have := (HX.out.lo D' h1).1; omega
    · obtain ⟨ev, hr1, n, hF⟩ := HX.out.res
      have hnm : ∀ k' o v, W.cell? ⟨k', o, none⟩ = some v → W'.cell? ⟨k', o, none⟩ = some v := fun k' o v hc => by
        refine (World.cell?_of_block (a := ⟨k', o, none⟩) (hkeep k' (fun h => ?_))).trans hc
        obtain ⟨o2, ho2, hc2⟩ := cells_of_cell hc
        have hdf : W.heap[k']? = some (.deferred (some [])) := by
          rcases List.mem_cons.1 h with rfl | h1
          · exact HKD.out
          · exact HX.out.mks k' h1
        rw [hdf] at ho2
        cases ho2
        cases hc2
      have hrn : w.heap.size + 1 ∉ D :: Ds := fun h => by
        rcases List.mem_cons.1 h with h1 | h1
        · omega
        · have := (HX.out.lo _ h1).1; omega
      refine ⟨_, results_err rfl _ _ (w.heap.size + 1) ev rfl ((hkeep _ hrn).trans hr1), false, ev, rfl, ⟨fun h => (by cases h), fun h => absurd h HNO.out⟩, .inr ⟨rfl, n, (hF.keep fun k o v _ hc => hnm k o v hc).mono (by omega)⟩, HX.out.old.trans hb⟩
end Go.Proofs.YtplieplmhdfndaaGreatDoor
