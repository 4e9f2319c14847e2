/- The model's directories: l06Entry. -/
import Derived.Test.YtplieplmhdfndaaGreatDoorZg12
import Derived.Test.YtplieplmhdfndaaGreatDoorZg05
namespace Go.Proofs.YtplieplmhdfndaaGreatDoor
set_option linter.unusedVariables false
set_option linter.unusedSimpArgs false
open Go.RowKit

theorem yieldsIf_conv {ops : Array Oper} {S : World → Prop} {o : Oper} {a : Act} (hw : Region.wanted o (yielded ops a.tmps) = true) (x : Operand) (ho : o.op = .convert 45 9 x) (v : Value) (hx : a.eval x = v) (xs : List Int) (hr : ∀ w, S w → Rd .u8 w v xs) : YieldsIf Tryz.prog ops S o (.string (strOfNums xs)) a := by
  refine Or.inl ⟨hw, fun w hS => ?_⟩
  unfold execOp
  simp only [ho, hx, Sem.run_bind, Sem.run_pure, Result.andThen_ok, conv_rd (hr w hS)]
theorem Rd.rowOther {w : World} {g4 n cp : Nat} {zs : List Int} (h : Rd .u8 w (.slice (some ⟨g4, 0, none⟩) n cp) zs) (g : Nat) (C : Array Value) (hne : g4 ≠ g) : Rd .u8 (w.setRow g C) (.slice (some ⟨g4, 0, none⟩) n cp) zs := by
  obtain ⟨a, cap, e, hm, hc, hcap⟩ := h
  refine ⟨a, cap, e, hm, fun hz => ?_, hcap⟩
  obtain ⟨b, off, ha, hlt, hcell⟩ := hc hz
  injection e with e1 _ _
  rw [ha] at e1
  injection e1 with e1
  injection e1 with e2 e3
  subst e2
  exact ⟨_, off, ha, by simpa [World.setRow] using hlt, fun i hi => (World.cell?_of_block (a := ⟨g4, off + i, none⟩) (setRow_block w g C g4 hne)).trans (hcell i hi)⟩
theorem wp_conv {o : Oper} {a : Act} {w : World} {K : Act → World → Prop} {Q : Exit → Act → World → Prop} (x : Operand) (ho : o.op = .convert 45 9 x) (v : Value) (hx : a.eval x = v) (xs : List Int) (hr : Rd .u8 w v xs)
    (h : K (a.put o.dst (.string (strOfNums xs))) w) : o.wp Tryz.prog a w K Q := by
  unfold Oper.wp execOp
  simp only [ho, hx, Sem.run_bind, Sem.run_pure, Result.andThen_ok, conv_rd hr]
  exact h
theorem le_bdD : ∀ (m n : Nat), ∀ z ∈ le m n, 0 ≤ z ∧ z < 256
  | 0, _, z, h => by simp [le] at h
  | m + 1, n, z, h => by
    rw [le] at h
    rcases List.mem_cons.mp h with rfl | h
    · omega
    · exact le_bdD m (n / 256) z h
theorem le_unleD : ∀ (ts : List Int), (∀ z ∈ ts, 0 ≤ z ∧ z < 256) → le ts.length (unle ts) = ts
  | [], _ => rfl
  | z :: ts, h => by
    have h1 := h z (by simp)
    have ih := le_unleD ts (fun y hy => h y (by simp [hy]))
    rw [List.length_cons, le, unle]
    obtain ⟨n, rfl⟩ := Int.eq_ofNat_of_zero_le h1.1
    have hn : n < 256 := by omega
    rw [Int.toNat_natCast, show (n + 256 * unle ts) % 256 = n from by omega, show (n + 256 * unle ts) / 256 = unle ts from by omega, ih]
theorem strInts_strOf : ∀ (xs : List Int), (∀ z ∈ xs, 0 ≤ z ∧ z < 256) → strInts (strOfNums xs) = xs
  | [], _ => rfl
  | x :: xs, h => by
    have h1 := h x (by simp)
    have ih := strInts_strOf xs (fun y hy => h y (by simp [hy]))
    unfold strInts at ih ⊢
    rw [strOfNums_data] at ih ⊢
    rw [List.map_cons, List.map_cons, ih]
    congr 1
    simp only [UInt8.toNat_ofNat']
    omega
theorem strOf_injD {xs ys : List Int} (hx : ∀ z ∈ xs, 0 ≤ z ∧ z < 256) (hy : ∀ z ∈ ys, 0 ≤ z ∧ z < 256) (h : (strOfNums xs).toList = (strOfNums ys).toList) : xs = ys := by
  have h1 : strOfNums xs = strOfNums ys := by
    rw [ByteArray.toList_eq, ByteArray.toList_eq] at h
    have h2 : (strOfNums xs).data = (strOfNums ys).data := Array.toList_inj.mp h
    cases hx' : strOfNums xs
    cases hy' : strOfNums ys
    rw [hx', hy'] at h2
    simp at h2
    rw [h2]
  rw [← strInts_strOf xs hx, ← strInts_strOf ys hy, h1]
theorem sName_size {ps : List Int} (hl : ps.length = 32) (hL : sLen ps ≤ 26) : (sName ps).size = sLen ps := by
  unfold sName
  rw [strOfNums_size, List.length_take, List.length_drop, hl]
  omega
theorem cut_bd {ps : List Int} (hbd : ∀ z ∈ ps, 0 ≤ z ∧ z < 256) (lo n : Nat) : ∀ z ∈ (ps.drop lo).take n, 0 ≤ z ∧ z < 256 := fun z hz => hbd z (List.mem_of_mem_drop (List.mem_of_mem_take hz))
theorem slotB_self {ps : List Int} (hl : ps.length = 32) (hbd : ∀ z ∈ ps, 0 ≤ z ∧ z < 256) (hL : sLen ps ≤ 26) : slotB (sName ps) (sIno ps) (sKind ps) = ps ↔ sRest ps = true := by
  have e1 : le 4 (sIno ps) = ps.take 4 := by
    have h := le_unleD (ps.take 4) (fun z hz => hbd z (List.mem_of_mem_take hz))
    rw [List.length_take, hl] at h
    exact h
  have e2 : le 1 (sKind ps) = (ps.drop 4).take 1 := by
    have h := le_unleD ((ps.drop 4).take 1) (cut_bd hbd 4 1)
    rw [List.length_take, List.length_drop, hl] at h
    exact h
  have e3 : le 1 (sLen ps) = (ps.drop 5).take 1 := by
    have h := le_unleD ((ps.drop 5).take 1) (cut_bd hbd 5 1)
    rw [List.length_take, List.length_drop, hl] at h
    exact h
  have e4 : strInts (sName ps) = (ps.drop 6).take (sLen ps) := strInts_strOf _ (cut_bd hbd 6 _)
  have e5 : ps = ps.take 4 ++ ((ps.drop 4).take 1 ++ ((ps.drop 5).take 1 ++ ((ps.drop 6).take (sLen ps) ++ ps.drop (6 + sLen ps)))) := by
    have h := slot_four ps
    have h2 : (ps.drop 6).take (sLen ps) ++ ps.drop (6 + sLen ps) = ps.drop 6 := by rw [← List.drop_drop, List.take_append_drop]
    rw [h2]
    exact h
  have e6 : slotB (sName ps) (sIno ps) (sKind ps) = ps.take 4 ++ ((ps.drop 4).take 1 ++ ((ps.drop 5).take 1 ++ ((ps.drop 6).take (sLen ps) ++ List.replicate (26 - sLen ps) 0))) := by
    unfold slotB
    rw [sName_size hl hL, e1, e2, e3, e4]
  have e7 : slotB (sName ps) (sIno ps) (sKind ps) = ps ↔ List.replicate (26 - sLen ps) 0 = ps.drop (6 + sLen ps) := by
    constructor
    · intro h
      rw [e6] at h
      have h2 := h.trans e5
      rw [List.append_right_inj, List.append_right_inj, List.append_right_inj, List.append_right_inj] at h2
      exact h2
    · intro h
      rw [e6, h]
      exact e5.symm
  rw [e7]
  unfold sRest
  constructor
  · intro h
    rw [← h]
    simp
  · intro h
    symm
    rw [List.eq_replicate_iff]
    refine ⟨by rw [List.length_drop, hl]; omega, fun z hz => ?_⟩
    rw [List.all_eq_true] at h
    exact of_decide_eq_true (h z hz)
theorem sLen_get {ps : List Int} (hl : ps.length = 32) (hbd : ∀ z ∈ ps, 0 ≤ z ∧ z < 256) (k : Nat) (hk : k < 32) : ((unle ((ps.drop k).take 1) : Nat) : Int) = ps.getD k 0 := by
  have h : (ps.drop k).take 1 = [ps.getD k 0] := by
    have hk2 : k < ps.length := by omega
    rw [List.drop_eq_getElem_cons hk2, List.take_succ_cons, List.take_zero]
    simp [List.getD, hk2]
  have hb := hbd (ps.getD k 0) (by have hk2 : k < ps.length := by omega
                                   simp [List.getD, hk2])
  rw [h]
  simp only [unle]
  omega
theorem sRight_eq {ps : List Int} (hl : ps.length = 32) (hbd : ∀ z ∈ ps, 0 ≤ z ∧ z < 256) (hL : sLen ps ≤ 26) : sRight ps = ((wi (sIno ps) 1 1000 && wi (sKind ps) 1 3 && (Chk.chkS (sName ps) == 0)) && ((strOfNums (slotB (sName ps) (sIno ps) (sKind ps))).toList == (strOfNums ps).toList)) := by
  have hs : ((strOfNums (slotB (sName ps) (sIno ps) (sKind ps))).toList == (strOfNums ps).toList) = sRest ps := by
    have hbS : ∀ z ∈ slotB (sName ps) (sIno ps) (sKind ps), 0 ≤ z ∧ z < 256 := by
      intro z hz
      unfold slotB at hz
      simp only [List.mem_append] at hz
      rcases hz with hz | hz | hz | hz | hz
      · exact le_bdD _ _ z hz
      · exact le_bdD _ _ z hz
      · exact le_bdD _ _ z hz
      · exact strInts_bd _ z hz
      · rw [List.mem_replicate] at hz; omega
    cases h : sRest ps with
    | true => rw [(slotB_self hl hbd hL).mpr h]; simp
    | false =>
      rw [beq_eq_false_iff_ne]
      intro e
      rw [(slotB_self hl hbd hL).mp (strOf_injD hbS hbd e)] at h
      cases h
  rw [hs]
  unfold sRight
  rw [show decide (sLen ps ≤ 26) = true from by simpa using hL]
  simp only [Bool.true_and, Bool.and_assoc]
  generalize wi (sIno ps) 1 1000 = p1
  generalize wi (sKind ps) 1 3 = p2
  generalize (Chk.chkS (sName ps) == 0) = p3
  generalize sRest ps = p4
  cases p1 <;> cases p2 <;> cases p3 <;> cases p4 <;> rfl

set_option maxRecDepth 100000 in
set_option maxHeartbeats 1000000 in
theorem entry_any (b off cap : Nat) (ps : List Int) (w : World) (h : Rd .u8 w (.slice (some ⟨b, off, none⟩) 32 cap) ps) (hl : ps.length = 32) (hbd : ∀ z ∈ ps, 0 ≤ z ∧ z < 256) :
    Calls Tryz.prog 112 #[.slice (some ⟨b, off, none⟩) 32 cap] w fun e w' => ∃ nm ino kd, e = .returned (.tuple #[.agg (entC nm ino kd), .bool (sRight ps)]) ∧ (sRight ps = true → nm = sName ps ∧ ino = sIno ps ∧ kd = sKind ps) ∧ Below w.heap.size w w' := by
  have HRd := hide h
  have HX := hide (And.intro hl hbd)
  have hcells : b < w.heap.size ∧ 32 ≤ cap ∧ cap ≤ maxLen ∧ ∀ i, i < 32 → w.cell? ⟨b, off + i, none⟩ = some (.int .u8 (ps.getD i 0)) := by
    obtain ⟨a, cp, e, hm, hc, h1, h2⟩ := h
    injection e with e1 e2 e3
    subst e3
    have hne : ps ≠ [] := by intro e; rw [e] at hl; simp at hl
    obtain ⟨b', off', ea, hlt, hcell⟩ := hc hne
    rw [ea] at e1
    injection e1 with e1
    injection e1 with e4 e5
    subst e4 e5
    exact ⟨hlt, by omega, h2, fun i hi => hcell i (by omega)⟩
  obtain ⟨hbw, hcap, hcapm, hcell⟩ := hcells
  have HCl := hide hcell
  have g4 := sLen_get hl hbd 4 (by omega)
  have g5 := sLen_get hl hbd 5 (by omega)
  have h5 : (w.alloc (.cells #[.string ⟨#[]⟩, .int .i64 0, .int .i64 0] 61)).cell? ⟨b, off + 5, none⟩ = some (.int .u8 ((sLen ps : Nat) : Int)) := by
    rw [World.cell?_alloc_lt _ _ _ hbw, hcell 5 (by omega)]
    unfold sLen
    rw [g5]
  have h5b : sLen ps < 256 := by
    have := hbd (ps.getD 5 0) (by have hk2 : 5 < ps.length := by omega
                                  simp [List.getD, hk2])
    unfold sLen
    omega
  have h4b : sKind ps < 256 := by
    have := hbd (ps.getD 4 0) (by have hk2 : 4 < ps.length := by omega
                                  simp [List.getD, hk2])
    unfold sKind
    omega
  have h1b : sIno ps < 4294967296 := by
    have h := unle_lt (ps.take 4) (fun z hz => hbd z (List.mem_of_mem_take hz))
    rw [show (ps.take 4).length = 4 from by simp [hl]] at h
    exact h
  have HB0 := hide (show Below w.heap.size w (w.alloc (.cells #[.string ⟨#[]⟩, .int .i64 0, .int .i64 0] 61)) from (Below.refl _ _).alloc (Nat.le_refl _) _)
  have HRes := hide (Blk.new w #[.string ⟨#[]⟩, .int .i64 0, .int .i64 0] 61)
  have HG4 := hide (show ps.getD 4 0 = ((sKind ps : Nat) : Int) from g4.symm)
  have HG5 := hide (show ps.getD 5 0 = ((sLen ps : Nat) : Int) from g5.symm)
  have HK := hide (show sRight ps = true → sLen ps ≤ 26 from fun h => by
    simp only [sRight, Bool.and_eq_true, decide_eq_true_eq] at h
    exact h.1)
  have HEq := hide (fun h : sLen ps ≤ 26 => sRight_eq hl hbd h)
  have HGet := hide (show gval (ps.take 4) = sIno ps from gval_small _ (by show sIno ps < _; omega))
  have HNs := hide (fun h : sLen ps ≤ 26 => sName_size hl h)
  clear hl hbd h hcell g4 g5
  obtain ⟨x5, hx5⟩ : ∃ x5, x5 = sLen ps := ⟨_, rfl⟩
  obtain ⟨x4, hx4⟩ : ∃ x4, x4 = sKind ps := ⟨_, rfl⟩
  obtain ⟨x1, hx1⟩ : ∃ x1, x1 = sIno ps := ⟨_, rfl⟩
  rw [← hx5] at h5 h5b
  rw [← hx4] at h4b
  rw [← hx1] at h1b
  have HXs := hide (And.intro hx5 (And.intro hx4 hx1))
  clear hx5 hx4 hx1
  unfold maxLen at hcapm
  by_cases hL : x5 ≤ 26
  · have hLi : ¬ (26 : Int) < (x5 : Int) := by omega
    obtain ⟨nm, hnm⟩ : ∃ nm, nm = sName ps := ⟨_, rfl⟩
    have HNm := hide hnm
    have HNmE := hide (show strOfNums ((ps.drop 6).take x5) = nm from by rw [hnm, HXs.out.1]; rfl)
    clear hnm
    have HWr := hide (show IntKind.i64.wrap (x4 : Int) = (x4 : Int) ∧ IntKind.u8.wrap (6 + (x5 : Int)) = 6 + (x5 : Int) from ⟨by simp [IntKind.wrap, IntKind.bits, IntKind.signed, Int.bmod]; omega, by simp [IntKind.wrap, IntKind.bits, IntKind.signed]; omega⟩)
    go_enter Tryz.func112, Tryz.ntmps112
    go_wp2_with fail
    obtain ⟨W, hW⟩ : ∃ W, W = w.alloc (.cells #[.string ⟨#[]⟩, .int .i64 0, .int .i64 0] 61) := ⟨_, rfl⟩
    rw [← hW] at h5
    rw [← hW]
    have hlw : w.heap.size < W.heap.size := by rw [hW]; simp
    have HBW := hide (show Below w.heap.size w W from by rw [hW]; exact HB0.out)
    have HRW := hide (show Blk W w.heap.size #[.string ⟨#[]⟩, .int .i64 0, .int .i64 0] 61 from by rw [hW]; exact HRes.out)
    have hbW : b < W.heap.size := by omega
    clear hW HB0 HRes h5
    have HC := hide (show ∀ w', Below W.heap.size W w' → w'.cell? ⟨b, off + 4, none⟩ = some (.int .u8 (x4 : Int)) ∧ w'.cell? ⟨b, off + 5, none⟩ = some (.int .u8 (x5 : Int)) from fun w' h => by
      have k : ∀ i, i < 32 → w'.cell? ⟨b, off + i, none⟩ = some (.int .u8 (ps.getD i 0)) := fun i hi => (h.cell (p := ⟨b, off + i, none⟩) hbW).trans ((HBW.out.cell (p := ⟨b, off + i, none⟩) hbw).trans (HCl.out i hi))
      refine ⟨(k 4 (by omega)).trans (by rw [HG4.out, HXs.out.2.1]), (k 5 (by omega)).trans (by rw [HG5.out, HXs.out.1])⟩)
    have HCut := hide (show ∀ w', Below W.heap.size W w' → Rd .u8 w' (.slice (some ⟨b, off, none⟩) 4 cap) (ps.take 4) ∧ Rd .u8 w' (.slice (some ⟨b, off + 6, none⟩) x5 (cap - 6)) ((ps.drop 6).take x5) from fun w' h => by
      have k : ∀ i, i < 32 → w'.cell? ⟨b, off + i, none⟩ = some (.int .u8 (ps.getD i 0)) := fun i hi => (h.cell (p := ⟨b, off + i, none⟩) hbW).trans ((HBW.out.cell (p := ⟨b, off + i, none⟩) hbw).trans (HCl.out i hi))
      have hb' : b < w'.heap.size := Nat.lt_of_lt_of_le hbW h.size
      constructor
      · refine ⟨_, _, by rw [List.length_take, HX.out.1]; rfl, by rw [List.length_take, HX.out.1]; unfold maxLen; omega, fun _ => ⟨b, off, rfl, hb', fun i hi => ?_⟩, by rw [List.length_take, HX.out.1]; omega, by unfold maxLen; omega⟩
        rw [List.length_take, HX.out.1] at hi
        rw [k i (by omega)]
        simp [List.getD, show i < 4 by omega]
      · have e : ((ps.drop 6).take x5).length = x5 := by rw [List.length_take, List.length_drop, HX.out.1]; omega
        refine ⟨_, _, by rw [e], by rw [e]; unfold maxLen; omega, fun _ => ⟨b, off + 6, rfl, hb', fun i hi => ?_⟩, by rw [e]; omega, by unfold maxLen; omega⟩
        rw [e] at hi
        rw [Nat.add_assoc, k (6 + i) (by omega)]
        simp [List.getD, show i < x5 by omega])
    refine wp_region_noPanic ?_
    refine wp_region_held_drew (S := fun w' => Below W.heap.size W w') (by kernel_rfl) ((Below.refl _ _).drew) (fun hH => ?_)
    refine wpAnyH_take (i := 0) (oi := _) (v := (.slice (some ⟨b, off, none⟩) 32 cap)) rfl (by kernel_rfl) (by kernel_rfl) (by kernel_rfl) (fun _ _ _ h => h) (Or.inl ⟨by rfl, fun w' hw' => by go_simp⟩) hH ?_
    try simp only [Act.put, List.getElem_toArray, List.getElem_cons_zero, List.getElem_cons_succ, List.setIfInBounds_toArray, List.set_cons_zero, List.set_cons_succ]
    refine wpAnyH_take (i := 1) (oi := _) (v := (.slice (some ⟨b, off, none⟩) 4 cap)) rfl (by kernel_rfl) (by kernel_rfl) (by kernel_rfl) (fun _ _ _ h => h) (Or.inl ⟨by rfl, fun w' hw' => by go_simp; intro h; omega⟩) hH ?_
    try simp only [Act.put, List.getElem_toArray, List.getElem_cons_zero, List.getElem_cons_succ, List.setIfInBounds_toArray, List.set_cons_zero, List.set_cons_succ]
    refine wpAnyH_take (i := 3) (oi := _) (v := (.slice (some ⟨b, off, none⟩) 32 cap)) rfl (by kernel_rfl) (by kernel_rfl) (by kernel_rfl) (fun _ _ _ h => h) (Or.inl ⟨by rfl, fun w' hw' => by go_simp⟩) hH ?_
    try simp only [Act.put, List.getElem_toArray, List.getElem_cons_zero, List.getElem_cons_succ, List.setIfInBounds_toArray, List.set_cons_zero, List.set_cons_succ]
    refine wpAnyH_take (i := 4) (oi := _) (v := (.pointer (some ⟨b, off + 4, none⟩))) rfl (by kernel_rfl) (by kernel_rfl) (by kernel_rfl) (fun _ _ _ h => h) (Or.inl ⟨by rfl, fun w' hw' => by go_simp⟩) hH ?_
    try simp only [Act.put, List.getElem_toArray, List.getElem_cons_zero, List.getElem_cons_succ, List.setIfInBounds_toArray, List.set_cons_zero, List.set_cons_succ]
    refine wpAnyH_take (i := 5) (oi := _) (v := (.int .u8 (x4 : Int))) rfl (by kernel_rfl) (by kernel_rfl) (by kernel_rfl) (fun _ _ _ h => h) (Or.inl ⟨by rfl, fun w' hw' => by have hc := (HC.out w' hw').1; clear hw'; go_simp⟩) hH ?_
    try simp only [Act.put, List.getElem_toArray, List.getElem_cons_zero, List.getElem_cons_succ, List.setIfInBounds_toArray, List.set_cons_zero, List.set_cons_succ]
    refine wpAnyH_take (i := 6) (oi := _) (v := (.int .i64 (x4 : Int))) rfl (by kernel_rfl) (by kernel_rfl) (by kernel_rfl) (fun _ _ _ h => h) (Or.inl ⟨by rfl, fun w' hw' => by go_simp; exact HWr.out.1⟩) hH ?_
    try simp only [Act.put, List.getElem_toArray, List.getElem_cons_zero, List.getElem_cons_succ, List.setIfInBounds_toArray, List.set_cons_zero, List.set_cons_succ]
    refine wpAnyH_take (i := 7) (oi := _) (v := (.slice (some ⟨b, off, none⟩) 32 cap)) rfl (by kernel_rfl) (by kernel_rfl) (by kernel_rfl) (fun _ _ _ h => h) (Or.inl ⟨by rfl, fun w' hw' => by go_simp⟩) hH ?_
    try simp only [Act.put, List.getElem_toArray, List.getElem_cons_zero, List.getElem_cons_succ, List.setIfInBounds_toArray, List.set_cons_zero, List.set_cons_succ]
    refine wpAnyH_take (i := 8) (oi := _) (v := (.slice (some ⟨b, off, none⟩) 32 cap)) rfl (by kernel_rfl) (by kernel_rfl) (by kernel_rfl) (fun _ _ _ h => h) (Or.inl ⟨by rfl, fun w' hw' => by go_simp⟩) hH ?_
    try simp only [Act.put, List.getElem_toArray, List.getElem_cons_zero, List.getElem_cons_succ, List.setIfInBounds_toArray, List.set_cons_zero, List.set_cons_succ]
    refine wpAnyH_take (i := 9) (oi := _) (v := (.pointer (some ⟨b, off + 5, none⟩))) rfl (by kernel_rfl) (by kernel_rfl) (by kernel_rfl) (fun _ _ _ h => h) (Or.inl ⟨by rfl, fun w' hw' => by go_simp⟩) hH ?_
    try simp only [Act.put, List.getElem_toArray, List.getElem_cons_zero, List.getElem_cons_succ, List.setIfInBounds_toArray, List.set_cons_zero, List.set_cons_succ]
    refine wpAnyH_take (i := 10) (oi := _) (v := (.int .u8 (x5 : Int))) rfl (by kernel_rfl) (by kernel_rfl) (by kernel_rfl) (fun _ _ _ h => h) (Or.inl ⟨by rfl, fun w' hw' => by have hc := (HC.out w' hw').2; clear hw'; go_simp⟩) hH ?_
    try simp only [Act.put, List.getElem_toArray, List.getElem_cons_zero, List.getElem_cons_succ, List.setIfInBounds_toArray, List.set_cons_zero, List.set_cons_succ]
    refine wpAnyH_take (i := 11) (oi := _) (v := (.int .u8 (6 + (x5 : Int)))) rfl (by kernel_rfl) (by kernel_rfl) (by kernel_rfl) (fun _ _ _ h => h) (Or.inl ⟨by rfl, fun w' hw' => by go_simp; exact HWr.out.2⟩) hH ?_
    try simp only [Act.put, List.getElem_toArray, List.getElem_cons_zero, List.getElem_cons_succ, List.setIfInBounds_toArray, List.set_cons_zero, List.set_cons_succ]
    refine wpAnyH_take (i := 12) (oi := _) (v := (.slice (some ⟨b, off + 6, none⟩) x5 (cap - 6))) rfl (by kernel_rfl) (by kernel_rfl) (by kernel_rfl) (fun _ _ _ h => h) (Or.inl ⟨by rfl, fun w' hw' => by go_simp; rw [if_pos ⟨by omega, by omega⟩, if_pos (by omega), if_neg (by omega), show ((6 + (x5 : Int)).toNat - 6) = x5 from by omega]⟩) hH ?_
    try simp only [Act.put, List.getElem_toArray, List.getElem_cons_zero, List.getElem_cons_succ, List.setIfInBounds_toArray, List.set_cons_zero, List.set_cons_succ]
    refine wpAnyH_take (i := 13) (oi := _) (v := (.string (strOfNums ((ps.drop 6).take x5)))) rfl (by kernel_rfl) (by kernel_rfl) (by kernel_rfl) (fun _ _ _ h => h) (yieldsIf_conv (by rfl) _ rfl (.slice (some ⟨b, off + 6, none⟩) x5 (cap - 6)) rfl _ (fun w' h => (HCut.out w' h).2)) hH ?_
    try simp only [Act.put, List.getElem_toArray, List.getElem_cons_zero, List.getElem_cons_succ, List.setIfInBounds_toArray, List.set_cons_zero, List.set_cons_succ]
    rw [HNmE.out]
    have HEq2 := hide (show sRight ps = ((wi (x1 : Int) 1 1000 && wi (x4 : Int) 1 3 && (Chk.chkS nm == 0)) && ((strOfNums (slotB nm x1 x4)).toList == (strOfNums ps).toList)) from by rw [HNm.out, HXs.out.2.1, HXs.out.2.2]; exact HEq.out (by rw [← HXs.out.1]; exact hL))
    have HSm := hide (show nm.size ≤ maxLen from by rw [HNm.out, HNs.out (by rw [← HXs.out.1]; exact hL), ← HXs.out.1]; unfold maxLen; omega)
    refine wpAnyH_ready (rs := [2, 15]) (by kernel_rfl) (by simp) ?_
    refine AllReadyH.cons (o := _) rfl (fun K hK => ?_) (AllReadyH.cons (o := _) rfl (fun K hK => ?_) AllReadyH.nil)
    · go_simp
      refine (get_any _ (ps.take 4) _ (HCut.out _ hH).1 (by rw [List.length_take]; omega) (fun z hz => HX.out.2 z (List.mem_of_mem_take hz))).mono ?_
      rintro e w2 ⟨rfl, rfl⟩
      rw [HGet.out, ← HXs.out.2.2]
      refine hK.out _ _ hH (fun hH2 => ?_)
      clear hK K hH2
      try simp only [Act.put, List.getElem_toArray, List.getElem_cons_zero, List.getElem_cons_succ, List.setIfInBounds_toArray, List.set_cons_zero, List.set_cons_succ]
      refine wpAnyH_take (i := 14) (oi := _) (v := (.agg (entC nm x1 x4))) rfl (by kernel_rfl) (by kernel_rfl) (by kernel_rfl) (fun _ _ _ h => h) (Or.inl ⟨by rfl, fun w' hw' => by go_simp; rfl⟩) hH ?_
      try simp only [Act.put, List.getElem_toArray, List.getElem_cons_zero, List.getElem_cons_succ, List.setIfInBounds_toArray, List.set_cons_zero, List.set_cons_succ]
      refine wpAnyH_ready (rs := [15]) (by kernel_rfl) (by simp) ?_
      refine AllReadyH.cons (o := _) rfl (fun K hK => ?_) AllReadyH.nil
      go_simp
      refine hK.out _ _ (hH.alloc (by exact Nat.le_refl W.heap.size) _) (fun hHa => ?_)
      clear hK K hH
      have hH := hHa
      clear hHa
      try simp only [Act.put, List.getElem_toArray, List.getElem_cons_zero, List.getElem_cons_succ, List.setIfInBounds_toArray, List.set_cons_zero, List.set_cons_succ]
      refine wpAnyH_ready (rs := [16]) (by kernel_rfl) (by simp) ?_
      refine AllReadyH.cons (o := _) rfl (fun K hK => ?_) AllReadyH.nil
      rw [if_pos (by rfl)]
      refine wp_store_row 61 _ _ rfl W.heap.size (entC nm x1 x4) rfl rfl 61 #[.string ⟨#[]⟩, .int .i64 0, .int .i64 0] (Blk.new W _ _) infoD3 rfl entC_one ?_
      have bS : Below W.heap.size W (World.setRow (World.drew (W.alloc (.cells #[.string ⟨#[]⟩, .int .i64 0, .int .i64 0] 61))) W.heap.size (entC nm x1 x4)) := below_setRow hH (Nat.le_refl _) _
      have kS : Blk (World.setRow (World.drew (W.alloc (.cells #[.string ⟨#[]⟩, .int .i64 0, .int .i64 0] 61))) W.heap.size (entC nm x1 x4)) W.heap.size (entC nm x1 x4) 61 := Blk.row (w := World.drew (W.alloc (.cells #[.string ⟨#[]⟩, .int .i64 0, .int .i64 0] 61))) (Blk.new W _ _) _
      refine hK.out _ _ bS (fun hH9 => ?_)
      clear hK K
      try simp only [Act.put, List.getElem_toArray, List.getElem_cons_zero, List.getElem_cons_succ, List.setIfInBounds_toArray, List.set_cons_zero, List.set_cons_succ]
      obtain ⟨w3, hw3⟩ : ∃ w3, w3 = World.setRow (World.drew (W.alloc (.cells #[.string ⟨#[]⟩, .int .i64 0, .int .i64 0] 61))) W.heap.size (entC nm x1 x4) := ⟨_, rfl⟩
      rw [← hw3] at bS kS ⊢
      have H3 := hide (show Below w.heap.size w w3 ∧ Blk w3 W.heap.size (entC nm x1 x4) 61 ∧ Blk w3 w.heap.size #[.string ⟨#[]⟩, .int .i64 0, .int .i64 0] 61 from ⟨HBW.out.trans (bS.mono (by omega)), kS, HRW.out.below bS hlw⟩)
      refine wpAnyH_done (by kernel_rfl) (NoPanic.normal ?_) _
      clear hH hH9 bS kS hw3
      have c1 := (H3.out.2.1.cell 1).trans (show (entC nm x1 x4)[1]? = some (.int .i64 (x1 : Int)) from rfl)
      have c2 := (H3.out.2.1.cell 2).trans (show (entC nm x1 x4)[2]? = some (.int .i64 (x4 : Int)) from rfl)
      have c0 := (H3.out.2.1.cell 0).trans (show (entC nm x1 x4)[0]? = some (.string nm) from rfl)
      go_wp2_with (go_at_call 54; fail)
      refine (l02Within_any (x1 : Int) 1 1000 _).mono ?_
      rintro e w4 ⟨rfl, hw⟩
      subst hw
      rcases hb1 : wi (x1 : Int) 1 1000 with _ | _
      rotate_left
      go_wp2_with (go_at_call 54; fail)
      refine (l02Within_any (x4 : Int) 1 3 _).mono ?_
      rintro e w4 ⟨rfl, hw⟩
      subst hw
      rcases hb2 : wi (x4 : Int) 1 3 with _ | _
      rotate_left
      go_wp2_with (go_at_call 154; fail)
      refine (Chk.spec_any nm _ HSm.out).mono ?_
      rintro e w4 ⟨rfl, hw⟩
      have hw' := hw.symm
      clear hw
      subst hw'
      by_cases hk : Chk.chkS nm = 0
      · have HR := hide (show sRight ps = ((strOfNums (slotB nm x1 x4)).toList == (strOfNums ps).toList) from by rw [HEq2.out, hb1, hb2, hk]; simp)
        have HSz := hide (chk_size (nm := nm) (by rw [hk]; rfl))
        rw [hk]
        clear hk hb1 hb2
        go_wp2_with fail
        refine wp_region_noPanic ?_
        refine wp_region_held_drew (S := fun w' => Below w.heap.size w w' ∧ Blk w' W.heap.size (entC nm x1 x4) 61) (by kernel_rfl) ⟨H3.out.1.drew, H3.out.2.1⟩ (fun hH => ?_)
        refine wpAnyH_take (i := 0) (oi := _) (v := (.agg (entC nm x1 x4))) rfl (by kernel_rfl) (by kernel_rfl) (by kernel_rfl) (fun _ _ _ h => h) (yieldsIf_load_mid (by rfl) 61 _ rfl W.heap.size 0 rfl (entC nm x1 x4).toList _ (fun w' h => ent_range h.2) Tryz.underlying61 rfl infoD3) hH ?_
        try simp only [Act.put, List.getElem_toArray, List.getElem_cons_zero, List.getElem_cons_succ, List.setIfInBounds_toArray, List.set_cons_zero, List.set_cons_succ]
        refine wpAnyH_take (i := 1) (oi := _) (v := (.bool true)) rfl (by kernel_rfl) (by kernel_rfl) (by kernel_rfl) (fun _ _ _ h => h) (Or.inl ⟨by rfl, fun w' hw' => by go_simp⟩) hH ?_
        try simp only [Act.put, List.getElem_toArray, List.getElem_cons_zero, List.getElem_cons_succ, List.setIfInBounds_toArray, List.set_cons_zero, List.set_cons_succ]
        refine wpAnyH_take (i := 2) (oi := _) (v := (.bool true)) rfl (by kernel_rfl) (by kernel_rfl) (by kernel_rfl) (fun _ _ _ h => h) (Or.inl ⟨by rfl, fun w' hw' => by go_simp⟩) hH ?_
        try simp only [Act.put, List.getElem_toArray, List.getElem_cons_zero, List.getElem_cons_succ, List.setIfInBounds_toArray, List.set_cons_zero, List.set_cons_succ]
        refine wpAnyH_take (i := 3) (oi := _) (v := (.agg (entC nm x1 x4))) rfl (by kernel_rfl) (by kernel_rfl) (by kernel_rfl) (fun _ _ _ h => h) (yieldsIf_load_mid (by rfl) 61 _ rfl W.heap.size 0 rfl (entC nm x1 x4).toList _ (fun w' h => ent_range h.2) Tryz.underlying61 rfl infoD3) hH ?_
        try simp only [Act.put, List.getElem_toArray, List.getElem_cons_zero, List.getElem_cons_succ, List.setIfInBounds_toArray, List.set_cons_zero, List.set_cons_succ]
        refine wpAnyH_take (i := 6) (oi := _) (v := (.slice (some ⟨b, off, none⟩) 32 cap)) rfl (by kernel_rfl) (by kernel_rfl) (by kernel_rfl) (fun _ _ _ h => h) (Or.inl ⟨by rfl, fun w' hw' => by go_simp⟩) hH ?_
        try simp only [Act.put, List.getElem_toArray, List.getElem_cons_zero, List.getElem_cons_succ, List.setIfInBounds_toArray, List.set_cons_zero, List.set_cons_succ]
        refine wpAnyH_take (i := 7) (oi := _) (v := (.string (strOfNums ps))) rfl (by kernel_rfl) (by kernel_rfl) (by kernel_rfl) (fun _ _ _ h => h) (yieldsIf_conv (by rfl) _ rfl (.slice (some ⟨b, off, none⟩) 32 cap) rfl _ (fun w' h => HRd.out.below h.1)) hH ?_
        try simp only [Act.put, List.getElem_toArray, List.getElem_cons_zero, List.getElem_cons_succ, List.setIfInBounds_toArray, List.set_cons_zero, List.set_cons_succ]
        refine wpAnyH_ready (rs := [4]) (by kernel_rfl) (by simp) ?_
        refine AllReadyH.cons (o := _) rfl (fun K hK => ?_) AllReadyH.nil
        go_simp
        refine (slot_any nm x1 x4 _ HSz.out.1 HSz.out.2 h1b h4b).mono ?_
        rintro e w4 ⟨v4, rfl, ⟨g4, cp4, ev4, o4⟩, b4⟩
        have hb4 : Below w3.heap.size w3 w4 := ((Below.refl _ w3).drew).trans b4
        have HRZ := hide (show Blk w4 w.heap.size #[.string ⟨#[]⟩, .int .i64 0, .int .i64 0] 61 from H3.out.2.2.below hb4 H3.out.2.2.lt)
        subst ev4
        have R4 := hide (show Rd .u8 w4 (.slice (some ⟨g4, 0, none⟩) 32 cp4) (slotB nm x1 x4) from Rd.own (n := 32) o4)
        have hg4 : g4 ≠ w.heap.size := by
          have h1 := (o4.lt g4 rfl).1
          have h2 : w3.heap.size ≤ g4 := h1
          have h3 := H3.out.2.1.lt
          omega
        refine hK.out _ _ ⟨H3.out.1.trans (hb4.mono H3.out.1.size), H3.out.2.1.below hb4 H3.out.2.1.lt⟩ (fun hH4 => ?_)
        clear hK K hH o4 b4
        have hH := hH4
        clear hH4
        try simp only [Act.put, List.getElem_toArray, List.getElem_cons_zero, List.getElem_cons_succ, List.setIfInBounds_toArray, List.set_cons_zero, List.set_cons_succ]
        refine wpAnyH_ready (rs := [5, 10]) (by kernel_rfl) (by simp) ?_
        refine AllReadyH.cons (o := _) rfl (fun K hK => ?_) (AllReadyH.cons (o := _) rfl (fun K hK => ?_) AllReadyH.nil)
        · rw [if_pos (by rfl)]
          refine wp_conv _ rfl (.slice (some ⟨g4, 0, none⟩) 32 cp4) rfl (slotB nm x1 x4) R4.out ?_
          refine hK.out _ _ hH (fun hH5 => ?_)
          clear hK K hH5
          try simp only [Act.put, List.getElem_toArray, List.getElem_cons_zero, List.getElem_cons_succ, List.setIfInBounds_toArray, List.set_cons_zero, List.set_cons_succ]
          refine wpAnyH_take (i := 8) (oi := _) (v := (.bool ((strOfNums (slotB nm x1 x4)).toList == (strOfNums ps).toList))) rfl (by kernel_rfl) (by kernel_rfl) (by kernel_rfl) (fun _ _ _ h => h) (Or.inl ⟨by rfl, fun w' hw' => by go_simp⟩) hH ?_
          try simp only [Act.put, List.getElem_toArray, List.getElem_cons_zero, List.getElem_cons_succ, List.setIfInBounds_toArray, List.set_cons_zero, List.set_cons_succ]
          refine wpAnyH_take (i := 9) (oi := _) (v := (.bool ((strOfNums (slotB nm x1 x4)).toList == (strOfNums ps).toList))) rfl (by kernel_rfl) (by kernel_rfl) (by kernel_rfl) (fun _ _ _ h => h) (Or.inl ⟨by rfl, fun w' hw' => by go_simp⟩) hH ?_
          try simp only [Act.put, List.getElem_toArray, List.getElem_cons_zero, List.getElem_cons_succ, List.setIfInBounds_toArray, List.set_cons_zero, List.set_cons_succ]
          refine wpAnyH_ready (rs := [10]) (by kernel_rfl) (by simp) ?_
          refine AllReadyH.cons (o := _) rfl (fun K hK => ?_) AllReadyH.nil
          rw [if_pos (by rfl)]
          refine wp_store_row 61 _ _ rfl w.heap.size (entC nm x1 x4) rfl rfl 61 #[.string ⟨#[]⟩, .int .i64 0, .int .i64 0] HRZ.out infoD3 rfl entC_one ?_
          refine hK.out _ _ ⟨below_setRow hH.1 (Nat.le_refl _) _, (setRow_block _ _ _ _ (by omega)).trans hH.2⟩ (fun hH9 => ?_)
          have HRow := hide (HRZ.out.row (entC nm x1 x4))
          clear hK K
          try simp only [Act.put, List.getElem_toArray, List.getElem_cons_zero, List.getElem_cons_succ, List.setIfInBounds_toArray, List.set_cons_zero, List.set_cons_succ]
          refine wpAnyH_ready (rs := [11]) (by kernel_rfl) (by simp) ?_
          refine AllReadyH.cons (o := _) rfl (fun K hK => ?_) AllReadyH.nil
          go_simp
          refine hK.out _ _ hH9 (fun hH10 => ?_)
          clear hK K
          try simp only [Act.put, List.getElem_toArray, List.getElem_cons_zero, List.getElem_cons_succ, List.setIfInBounds_toArray, List.set_cons_zero, List.set_cons_succ]
          have HBel := hide hH10.1
          refine wpAnyH_done (by kernel_rfl) (NoPanic.normal ?_) _
          clear hH hH9 hH10
          go_wp2
          refine bodyPost_ret (v := .tuple #[.agg (entC nm x1 x4), .bool ((strOfNums (slotB nm x1 x4)).toList == (strOfNums ps).toList)]) (results_row_tmp rfl _ _ w.heap.size 61 (entC nm x1 x4) (0, 0) _ (.bool ((strOfNums (slotB nm x1 x4)).toList == (strOfNums ps).toList)) rfl rfl HRow.out Tryz.underlying61 rfl infoD3) rfl ?_
          exact ⟨nm, x1, x4, by rw [HR.out], fun _ => ⟨HNm.out, by rw [HXs.out.2.2], by rw [HXs.out.2.1]⟩, HBel.out⟩
        · rw [if_pos (by rfl)]
          refine wp_store_row 61 _ _ rfl w.heap.size (entC nm x1 x4) rfl rfl 61 #[.string ⟨#[]⟩, .int .i64 0, .int .i64 0] HRZ.out infoD3 rfl entC_one ?_
          refine hK.out _ _ ⟨below_setRow hH.1 (Nat.le_refl _) _, (setRow_block _ _ _ _ (by omega)).trans hH.2⟩ (fun hH9 => ?_)
          have HRow := hide (HRZ.out.row (entC nm x1 x4))
          clear hK K
          try simp only [Act.put, List.getElem_toArray, List.getElem_cons_zero, List.getElem_cons_succ, List.setIfInBounds_toArray, List.set_cons_zero, List.set_cons_succ]
          refine wpAnyH_ready (rs := [5]) (by kernel_rfl) (by simp) ?_
          refine AllReadyH.cons (o := _) rfl (fun K hK => ?_) AllReadyH.nil
          rw [if_pos (by rfl)]
          refine wp_conv _ rfl (.slice (some ⟨g4, 0, none⟩) 32 cp4) rfl (slotB nm x1 x4) (R4.out.rowOther _ _ hg4) ?_
          refine hK.out _ _ hH9 (fun hH5 => ?_)
          clear hK K hH5
          try simp only [Act.put, List.getElem_toArray, List.getElem_cons_zero, List.getElem_cons_succ, List.setIfInBounds_toArray, List.set_cons_zero, List.set_cons_succ]
          refine wpAnyH_take (i := 8) (oi := _) (v := (.bool ((strOfNums (slotB nm x1 x4)).toList == (strOfNums ps).toList))) rfl (by kernel_rfl) (by kernel_rfl) (by kernel_rfl) (fun _ _ _ h => h) (Or.inl ⟨by rfl, fun w' hw' => by go_simp⟩) hH9 ?_
          try simp only [Act.put, List.getElem_toArray, List.getElem_cons_zero, List.getElem_cons_succ, List.setIfInBounds_toArray, List.set_cons_zero, List.set_cons_succ]
          refine wpAnyH_take (i := 9) (oi := _) (v := (.bool ((strOfNums (slotB nm x1 x4)).toList == (strOfNums ps).toList))) rfl (by kernel_rfl) (by kernel_rfl) (by kernel_rfl) (fun _ _ _ h => h) (Or.inl ⟨by rfl, fun w' hw' => by go_simp⟩) hH9 ?_
          try simp only [Act.put, List.getElem_toArray, List.getElem_cons_zero, List.getElem_cons_succ, List.setIfInBounds_toArray, List.set_cons_zero, List.set_cons_succ]
          refine wpAnyH_ready (rs := [11]) (by kernel_rfl) (by simp) ?_
          refine AllReadyH.cons (o := _) rfl (fun K hK => ?_) AllReadyH.nil
          go_simp
          refine hK.out _ _ hH9 (fun hH10 => ?_)
          clear hK K
          try simp only [Act.put, List.getElem_toArray, List.getElem_cons_zero, List.getElem_cons_succ, List.setIfInBounds_toArray, List.set_cons_zero, List.set_cons_succ]
          have HBel := hide hH10.1
          refine wpAnyH_done (by kernel_rfl) (NoPanic.normal ?_) _
          clear hH hH9 hH10
          go_wp2
          refine bodyPost_ret (v := .tuple #[.agg (entC nm x1 x4), .bool ((strOfNums (slotB nm x1 x4)).toList == (strOfNums ps).toList)]) (results_row_tmp rfl _ _ w.heap.size 61 (entC nm x1 x4) (0, 0) _ (.bool ((strOfNums (slotB nm x1 x4)).toList == (strOfNums ps).toList)) rfl rfl HRow.out Tryz.underlying61 rfl infoD3) rfl ?_
          exact ⟨nm, x1, x4, by rw [HR.out], fun _ => ⟨HNm.out, by rw [HXs.out.2.2], by rw [HXs.out.2.1]⟩, HBel.out⟩
      · have HR := hide (show sRight ps = false from by rw [HEq2.out, show (Chk.chkS nm == 0) = false from by simpa using hk]; simp)
        generalize Chk.chkS nm = ck at hk
        clear hb1 hb2
        go_wp2_with fail
        refine wp_region_noPanic ?_
        refine wp_region_held_drew (S := fun w' => Below w.heap.size w w' ∧ Blk w' W.heap.size (entC nm x1 x4) 61) (by kernel_rfl) ⟨H3.out.1.drew, H3.out.2.1⟩ (fun hH => ?_)
        have HRZ := hide (show Blk (World.drew w3) w.heap.size #[.string ⟨#[]⟩, .int .i64 0, .int .i64 0] 61 from H3.out.2.2)
        refine wpAnyH_take (i := 0) (oi := _) (v := (.agg (entC nm x1 x4))) rfl (by kernel_rfl) (by kernel_rfl) (by kernel_rfl) (fun _ _ _ h => h) (yieldsIf_load_mid (by rfl) 61 _ rfl W.heap.size 0 rfl (entC nm x1 x4).toList _ (fun w' h => ent_range h.2) Tryz.underlying61 rfl infoD3) hH ?_
        try simp only [Act.put, List.getElem_toArray, List.getElem_cons_zero, List.getElem_cons_succ, List.setIfInBounds_toArray, List.set_cons_zero, List.set_cons_succ]
        refine wpAnyH_take (i := 1) (oi := _) (v := (.bool false)) rfl (by kernel_rfl) (by kernel_rfl) (by kernel_rfl) (fun _ _ _ h => h) (Or.inl ⟨by rfl, fun w' hw' => by go_simp⟩) hH ?_
        try simp only [Act.put, List.getElem_toArray, List.getElem_cons_zero, List.getElem_cons_succ, List.setIfInBounds_toArray, List.set_cons_zero, List.set_cons_succ]
        refine wpAnyH_take (i := 2) (oi := _) (v := (.bool false)) rfl (by kernel_rfl) (by kernel_rfl) (by kernel_rfl) (fun _ _ _ h => h) (Or.inl ⟨by rfl, fun w' hw' => by go_simp⟩) hH ?_
        try simp only [Act.put, List.getElem_toArray, List.getElem_cons_zero, List.getElem_cons_succ, List.setIfInBounds_toArray, List.set_cons_zero, List.set_cons_succ]
        refine wpAnyH_take (i := 3) (oi := _) (v := undef) rfl (by kernel_rfl) (by kernel_rfl) (by kernel_rfl) (fun _ _ _ h => h) (Or.inr ⟨by rfl, rfl⟩) hH ?_
        try simp only [Act.put, List.getElem_toArray, List.getElem_cons_zero, List.getElem_cons_succ, List.setIfInBounds_toArray, List.set_cons_zero, List.set_cons_succ]
        refine wpAnyH_take (i := 4) (oi := _) (v := undef) rfl (by kernel_rfl) (by kernel_rfl) (by kernel_rfl) (fun _ _ _ h => h) (Or.inr ⟨by rfl, rfl⟩) hH ?_
        try simp only [Act.put, List.getElem_toArray, List.getElem_cons_zero, List.getElem_cons_succ, List.setIfInBounds_toArray, List.set_cons_zero, List.set_cons_succ]
        refine wpAnyH_take (i := 5) (oi := _) (v := undef) rfl (by kernel_rfl) (by kernel_rfl) (by kernel_rfl) (fun _ _ _ h => h) (Or.inr ⟨by rfl, rfl⟩) hH ?_
        try simp only [Act.put, List.getElem_toArray, List.getElem_cons_zero, List.getElem_cons_succ, List.setIfInBounds_toArray, List.set_cons_zero, List.set_cons_succ]
        refine wpAnyH_take (i := 6) (oi := _) (v := undef) rfl (by kernel_rfl) (by kernel_rfl) (by kernel_rfl) (fun _ _ _ h => h) (Or.inr ⟨by rfl, rfl⟩) hH ?_
        try simp only [Act.put, List.getElem_toArray, List.getElem_cons_zero, List.getElem_cons_succ, List.setIfInBounds_toArray, List.set_cons_zero, List.set_cons_succ]
        refine wpAnyH_take (i := 7) (oi := _) (v := undef) rfl (by kernel_rfl) (by kernel_rfl) (by kernel_rfl) (fun _ _ _ h => h) (Or.inr ⟨by rfl, rfl⟩) hH ?_
        try simp only [Act.put, List.getElem_toArray, List.getElem_cons_zero, List.getElem_cons_succ, List.setIfInBounds_toArray, List.set_cons_zero, List.set_cons_succ]
        refine wpAnyH_take (i := 8) (oi := _) (v := undef) rfl (by kernel_rfl) (by kernel_rfl) (by kernel_rfl) (fun _ _ _ h => h) (Or.inr ⟨by rfl, rfl⟩) hH ?_
        try simp only [Act.put, List.getElem_toArray, List.getElem_cons_zero, List.getElem_cons_succ, List.setIfInBounds_toArray, List.set_cons_zero, List.set_cons_succ]
        refine wpAnyH_take (i := 9) (oi := _) (v := (.bool false)) rfl (by kernel_rfl) (by kernel_rfl) (by kernel_rfl) (fun _ _ _ h => h) (Or.inl ⟨by rfl, fun w' hw' => by go_simp⟩) hH ?_
        try simp only [Act.put, List.getElem_toArray, List.getElem_cons_zero, List.getElem_cons_succ, List.setIfInBounds_toArray, List.set_cons_zero, List.set_cons_succ]
        refine wpAnyH_ready (rs := [10]) (by kernel_rfl) (by simp) ?_
        refine AllReadyH.cons (o := _) rfl (fun K hK => ?_) AllReadyH.nil
        rw [if_pos (by rfl)]
        refine wp_store_row 61 _ _ rfl w.heap.size (entC nm x1 x4) rfl rfl 61 #[.string ⟨#[]⟩, .int .i64 0, .int .i64 0] HRZ.out infoD3 rfl entC_one ?_
        refine hK.out _ _ ⟨below_setRow hH.1 (Nat.le_refl _) _, (setRow_block _ _ _ _ (by omega)).trans hH.2⟩ (fun hH9 => ?_)
        have HRow := hide (HRZ.out.row (entC nm x1 x4))
        clear hK K
        try simp only [Act.put, List.getElem_toArray, List.getElem_cons_zero, List.getElem_cons_succ, List.setIfInBounds_toArray, List.set_cons_zero, List.set_cons_succ]
        refine wpAnyH_ready (rs := [11]) (by kernel_rfl) (by simp) ?_
        refine AllReadyH.cons (o := _) rfl (fun K hK => ?_) AllReadyH.nil
        go_simp
        refine hK.out _ _ hH9 (fun hH10 => ?_)
        clear hK K
        try simp only [Act.put, List.getElem_toArray, List.getElem_cons_zero, List.getElem_cons_succ, List.setIfInBounds_toArray, List.set_cons_zero, List.set_cons_succ]
        have HBel := hide hH10.1
        refine wpAnyH_done (by kernel_rfl) (NoPanic.normal ?_) _
        clear hH hH9 hH10
        go_wp2
        refine bodyPost_ret (v := .tuple #[.agg (entC nm x1 x4), .bool false]) (results_row_tmp rfl _ _ w.heap.size 61 (entC nm x1 x4) (0, 0) _ (.bool false) rfl rfl HRow.out Tryz.underlying61 rfl infoD3) rfl ?_
        exact ⟨nm, x1, x4, by rw [HR.out], fun _ => ⟨HNm.out, by rw [HXs.out.2.2], by rw [HXs.out.2.1]⟩, HBel.out⟩
      · have HR := hide (show sRight ps = false from by rw [HEq2.out, hb1]; simp)
        clear hb1
        go_wp2_with fail
        refine wp_region_noPanic ?_
        refine wp_region_held_drew (S := fun w' => Below w.heap.size w w' ∧ Blk w' W.heap.size (entC nm x1 x4) 61) (by kernel_rfl) ⟨H3.out.1.drew, H3.out.2.1⟩ (fun hH => ?_)
        have HRZ := hide (show Blk (World.drew w3) w.heap.size #[.string ⟨#[]⟩, .int .i64 0, .int .i64 0] 61 from H3.out.2.2)
        refine wpAnyH_take (i := 0) (oi := _) (v := (.agg (entC nm x1 x4))) rfl (by kernel_rfl) (by kernel_rfl) (by kernel_rfl) (fun _ _ _ h => h) (yieldsIf_load_mid (by rfl) 61 _ rfl W.heap.size 0 rfl (entC nm x1 x4).toList _ (fun w' h => ent_range h.2) Tryz.underlying61 rfl infoD3) hH ?_
        try simp only [Act.put, List.getElem_toArray, List.getElem_cons_zero, List.getElem_cons_succ, List.setIfInBounds_toArray, List.set_cons_zero, List.set_cons_succ]
        refine wpAnyH_take (i := 1) (oi := _) (v := (.bool false)) rfl (by kernel_rfl) (by kernel_rfl) (by kernel_rfl) (fun _ _ _ h => h) (Or.inl ⟨by rfl, fun w' hw' => by go_simp⟩) hH ?_
        try simp only [Act.put, List.getElem_toArray, List.getElem_cons_zero, List.getElem_cons_succ, List.setIfInBounds_toArray, List.set_cons_zero, List.set_cons_succ]
        refine wpAnyH_take (i := 2) (oi := _) (v := (.bool false)) rfl (by kernel_rfl) (by kernel_rfl) (by kernel_rfl) (fun _ _ _ h => h) (Or.inl ⟨by rfl, fun w' hw' => by go_simp⟩) hH ?_
        try simp only [Act.put, List.getElem_toArray, List.getElem_cons_zero, List.getElem_cons_succ, List.setIfInBounds_toArray, List.set_cons_zero, List.set_cons_succ]
        refine wpAnyH_take (i := 3) (oi := _) (v := undef) rfl (by kernel_rfl) (by kernel_rfl) (by kernel_rfl) (fun _ _ _ h => h) (Or.inr ⟨by rfl, rfl⟩) hH ?_
        try simp only [Act.put, List.getElem_toArray, List.getElem_cons_zero, List.getElem_cons_succ, List.setIfInBounds_toArray, List.set_cons_zero, List.set_cons_succ]
        refine wpAnyH_take (i := 4) (oi := _) (v := undef) rfl (by kernel_rfl) (by kernel_rfl) (by kernel_rfl) (fun _ _ _ h => h) (Or.inr ⟨by rfl, rfl⟩) hH ?_
        try simp only [Act.put, List.getElem_toArray, List.getElem_cons_zero, List.getElem_cons_succ, List.setIfInBounds_toArray, List.set_cons_zero, List.set_cons_succ]
        refine wpAnyH_take (i := 5) (oi := _) (v := undef) rfl (by kernel_rfl) (by kernel_rfl) (by kernel_rfl) (fun _ _ _ h => h) (Or.inr ⟨by rfl, rfl⟩) hH ?_
        try simp only [Act.put, List.getElem_toArray, List.getElem_cons_zero, List.getElem_cons_succ, List.setIfInBounds_toArray, List.set_cons_zero, List.set_cons_succ]
        refine wpAnyH_take (i := 6) (oi := _) (v := undef) rfl (by kernel_rfl) (by kernel_rfl) (by kernel_rfl) (fun _ _ _ h => h) (Or.inr ⟨by rfl, rfl⟩) hH ?_
        try simp only [Act.put, List.getElem_toArray, List.getElem_cons_zero, List.getElem_cons_succ, List.setIfInBounds_toArray, List.set_cons_zero, List.set_cons_succ]
        refine wpAnyH_take (i := 7) (oi := _) (v := undef) rfl (by kernel_rfl) (by kernel_rfl) (by kernel_rfl) (fun _ _ _ h => h) (Or.inr ⟨by rfl, rfl⟩) hH ?_
        try simp only [Act.put, List.getElem_toArray, List.getElem_cons_zero, List.getElem_cons_succ, List.setIfInBounds_toArray, List.set_cons_zero, List.set_cons_succ]
        refine wpAnyH_take (i := 8) (oi := _) (v := undef) rfl (by kernel_rfl) (by kernel_rfl) (by kernel_rfl) (fun _ _ _ h => h) (Or.inr ⟨by rfl, rfl⟩) hH ?_
        try simp only [Act.put, List.getElem_toArray, List.getElem_cons_zero, List.getElem_cons_succ, List.setIfInBounds_toArray, List.set_cons_zero, List.set_cons_succ]
        refine wpAnyH_take (i := 9) (oi := _) (v := (.bool false)) rfl (by kernel_rfl) (by kernel_rfl) (by kernel_rfl) (fun _ _ _ h => h) (Or.inl ⟨by rfl, fun w' hw' => by go_simp⟩) hH ?_
        try simp only [Act.put, List.getElem_toArray, List.getElem_cons_zero, List.getElem_cons_succ, List.setIfInBounds_toArray, List.set_cons_zero, List.set_cons_succ]
        refine wpAnyH_ready (rs := [10]) (by kernel_rfl) (by simp) ?_
        refine AllReadyH.cons (o := _) rfl (fun K hK => ?_) AllReadyH.nil
        rw [if_pos (by rfl)]
        refine wp_store_row 61 _ _ rfl w.heap.size (entC nm x1 x4) rfl rfl 61 #[.string ⟨#[]⟩, .int .i64 0, .int .i64 0] HRZ.out infoD3 rfl entC_one ?_
        refine hK.out _ _ ⟨below_setRow hH.1 (Nat.le_refl _) _, (setRow_block _ _ _ _ (by omega)).trans hH.2⟩ (fun hH9 => ?_)
        have HRow := hide (HRZ.out.row (entC nm x1 x4))
        clear hK K
        try simp only [Act.put, List.getElem_toArray, List.getElem_cons_zero, List.getElem_cons_succ, List.setIfInBounds_toArray, List.set_cons_zero, List.set_cons_succ]
        refine wpAnyH_ready (rs := [11]) (by kernel_rfl) (by simp) ?_
        refine AllReadyH.cons (o := _) rfl (fun K hK => ?_) AllReadyH.nil
        go_simp
        refine hK.out _ _ hH9 (fun hH10 => ?_)
        clear hK K
        try simp only [Act.put, List.getElem_toArray, List.getElem_cons_zero, List.getElem_cons_succ, List.setIfInBounds_toArray, List.set_cons_zero, List.set_cons_succ]
        have HBel := hide hH10.1
        refine wpAnyH_done (by kernel_rfl) (NoPanic.normal ?_) _
        clear hH hH9 hH10
        go_wp2
        refine bodyPost_ret (v := .tuple #[.agg (entC nm x1 x4), .bool false]) (results_row_tmp rfl _ _ w.heap.size 61 (entC nm x1 x4) (0, 0) _ (.bool false) rfl rfl HRow.out Tryz.underlying61 rfl infoD3) rfl ?_
        exact ⟨nm, x1, x4, by rw [HR.out], fun _ => ⟨HNm.out, by rw [HXs.out.2.2], by rw [HXs.out.2.1]⟩, HBel.out⟩
      · have HR := hide (show sRight ps = false from by rw [HEq2.out, hb2]; simp)
        clear hb1 hb2
        go_wp2_with fail
        refine wp_region_noPanic ?_
        refine wp_region_held_drew (S := fun w' => Below w.heap.size w w' ∧ Blk w' W.heap.size (entC nm x1 x4) 61) (by kernel_rfl) ⟨H3.out.1.drew, H3.out.2.1⟩ (fun hH => ?_)
        have HRZ := hide (show Blk (World.drew w3) w.heap.size #[.string ⟨#[]⟩, .int .i64 0, .int .i64 0] 61 from H3.out.2.2)
        refine wpAnyH_take (i := 0) (oi := _) (v := (.agg (entC nm x1 x4))) rfl (by kernel_rfl) (by kernel_rfl) (by kernel_rfl) (fun _ _ _ h => h) (yieldsIf_load_mid (by rfl) 61 _ rfl W.heap.size 0 rfl (entC nm x1 x4).toList _ (fun w' h => ent_range h.2) Tryz.underlying61 rfl infoD3) hH ?_
        try simp only [Act.put, List.getElem_toArray, List.getElem_cons_zero, List.getElem_cons_succ, List.setIfInBounds_toArray, List.set_cons_zero, List.set_cons_succ]
        refine wpAnyH_take (i := 1) (oi := _) (v := (.bool false)) rfl (by kernel_rfl) (by kernel_rfl) (by kernel_rfl) (fun _ _ _ h => h) (Or.inl ⟨by rfl, fun w' hw' => by go_simp⟩) hH ?_
        try simp only [Act.put, List.getElem_toArray, List.getElem_cons_zero, List.getElem_cons_succ, List.setIfInBounds_toArray, List.set_cons_zero, List.set_cons_succ]
        refine wpAnyH_take (i := 2) (oi := _) (v := (.bool false)) rfl (by kernel_rfl) (by kernel_rfl) (by kernel_rfl) (fun _ _ _ h => h) (Or.inl ⟨by rfl, fun w' hw' => by go_simp⟩) hH ?_
        try simp only [Act.put, List.getElem_toArray, List.getElem_cons_zero, List.getElem_cons_succ, List.setIfInBounds_toArray, List.set_cons_zero, List.set_cons_succ]
        refine wpAnyH_take (i := 3) (oi := _) (v := undef) rfl (by kernel_rfl) (by kernel_rfl) (by kernel_rfl) (fun _ _ _ h => h) (Or.inr ⟨by rfl, rfl⟩) hH ?_
        try simp only [Act.put, List.getElem_toArray, List.getElem_cons_zero, List.getElem_cons_succ, List.setIfInBounds_toArray, List.set_cons_zero, List.set_cons_succ]
        refine wpAnyH_take (i := 4) (oi := _) (v := undef) rfl (by kernel_rfl) (by kernel_rfl) (by kernel_rfl) (fun _ _ _ h => h) (Or.inr ⟨by rfl, rfl⟩) hH ?_
        try simp only [Act.put, List.getElem_toArray, List.getElem_cons_zero, List.getElem_cons_succ, List.setIfInBounds_toArray, List.set_cons_zero, List.set_cons_succ]
        refine wpAnyH_take (i := 5) (oi := _) (v := undef) rfl (by kernel_rfl) (by kernel_rfl) (by kernel_rfl) (fun _ _ _ h => h) (Or.inr ⟨by rfl, rfl⟩) hH ?_
        try simp only [Act.put, List.getElem_toArray, List.getElem_cons_zero, List.getElem_cons_succ, List.setIfInBounds_toArray, List.set_cons_zero, List.set_cons_succ]
        refine wpAnyH_take (i := 6) (oi := _) (v := undef) rfl (by kernel_rfl) (by kernel_rfl) (by kernel_rfl) (fun _ _ _ h => h) (Or.inr ⟨by rfl, rfl⟩) hH ?_
        try simp only [Act.put, List.getElem_toArray, List.getElem_cons_zero, List.getElem_cons_succ, List.setIfInBounds_toArray, List.set_cons_zero, List.set_cons_succ]
        refine wpAnyH_take (i := 7) (oi := _) (v := undef) rfl (by kernel_rfl) (by kernel_rfl) (by kernel_rfl) (fun _ _ _ h => h) (Or.inr ⟨by rfl, rfl⟩) hH ?_
        try simp only [Act.put, List.getElem_toArray, List.getElem_cons_zero, List.getElem_cons_succ, List.setIfInBounds_toArray, List.set_cons_zero, List.set_cons_succ]
        refine wpAnyH_take (i := 8) (oi := _) (v := undef) rfl (by kernel_rfl) (by kernel_rfl) (by kernel_rfl) (fun _ _ _ h => h) (Or.inr ⟨by rfl, rfl⟩) hH ?_
        try simp only [Act.put, List.getElem_toArray, List.getElem_cons_zero, List.getElem_cons_succ, List.setIfInBounds_toArray, List.set_cons_zero, List.set_cons_succ]
        refine wpAnyH_take (i := 9) (oi := _) (v := (.bool false)) rfl (by kernel_rfl) (by kernel_rfl) (by kernel_rfl) (fun _ _ _ h => h) (Or.inl ⟨by rfl, fun w' hw' => by go_simp⟩) hH ?_
        try simp only [Act.put, List.getElem_toArray, List.getElem_cons_zero, List.getElem_cons_succ, List.setIfInBounds_toArray, List.set_cons_zero, List.set_cons_succ]
        refine wpAnyH_ready (rs := [10]) (by kernel_rfl) (by simp) ?_
        refine AllReadyH.cons (o := _) rfl (fun K hK => ?_) AllReadyH.nil
        rw [if_pos (by rfl)]
        refine wp_store_row 61 _ _ rfl w.heap.size (entC nm x1 x4) rfl rfl 61 #[.string ⟨#[]⟩, .int .i64 0, .int .i64 0] HRZ.out infoD3 rfl entC_one ?_
        refine hK.out _ _ ⟨below_setRow hH.1 (Nat.le_refl _) _, (setRow_block _ _ _ _ (by omega)).trans hH.2⟩ (fun hH9 => ?_)
        have HRow := hide (HRZ.out.row (entC nm x1 x4))
        clear hK K
        try simp only [Act.put, List.getElem_toArray, List.getElem_cons_zero, List.getElem_cons_succ, List.setIfInBounds_toArray, List.set_cons_zero, List.set_cons_succ]
        refine wpAnyH_ready (rs := [11]) (by kernel_rfl) (by simp) ?_
        refine AllReadyH.cons (o := _) rfl (fun K hK => ?_) AllReadyH.nil
        go_simp
        refine hK.out _ _ hH9 (fun hH10 => ?_)
        clear hK K
        try simp only [Act.put, List.getElem_toArray, List.getElem_cons_zero, List.getElem_cons_succ, List.setIfInBounds_toArray, List.set_cons_zero, List.set_cons_succ]
        have HBel := hide hH10.1
        refine wpAnyH_done (by kernel_rfl) (NoPanic.normal ?_) _
        clear hH hH9 hH10
        go_wp2
        refine bodyPost_ret (v := .tuple #[.agg (entC nm x1 x4), .bool false]) (results_row_tmp rfl _ _ w.heap.size 61 (entC nm x1 x4) (0, 0) _ (.bool false) rfl rfl HRow.out Tryz.underlying61 rfl infoD3) rfl ?_
        exact ⟨nm, x1, x4, by rw [HR.out], fun _ => ⟨HNm.out, by rw [HXs.out.2.2], by rw [HXs.out.2.1]⟩, HBel.out⟩
    · go_simp
      refine hK.out _ _ (hH.alloc (by exact Nat.le_refl W.heap.size) _) (fun hHa => ?_)
      clear hK K hH
      have hH := hHa
      clear hHa
      try simp only [Act.put, List.getElem_toArray, List.getElem_cons_zero, List.getElem_cons_succ, List.setIfInBounds_toArray, List.set_cons_zero, List.set_cons_succ]
      refine wpAnyH_ready (rs := [2]) (by kernel_rfl) (by simp) ?_
      refine AllReadyH.cons (o := _) rfl (fun K hK => ?_) AllReadyH.nil
      go_simp
      refine (get_any _ (ps.take 4) _ (HCut.out _ hH).1 (by rw [List.length_take]; omega) (fun z hz => HX.out.2 z (List.mem_of_mem_take hz))).mono ?_
      rintro e w2 ⟨rfl, rfl⟩
      rw [HGet.out, ← HXs.out.2.2]
      refine hK.out _ _ hH (fun hH2 => ?_)
      clear hK K hH2
      try simp only [Act.put, List.getElem_toArray, List.getElem_cons_zero, List.getElem_cons_succ, List.setIfInBounds_toArray, List.set_cons_zero, List.set_cons_succ]
      refine wpAnyH_take (i := 14) (oi := _) (v := (.agg (entC nm x1 x4))) rfl (by kernel_rfl) (by kernel_rfl) (by kernel_rfl) (fun _ _ _ h => h) (Or.inl ⟨by rfl, fun w' hw' => by go_simp; rfl⟩) hH ?_
      try simp only [Act.put, List.getElem_toArray, List.getElem_cons_zero, List.getElem_cons_succ, List.setIfInBounds_toArray, List.set_cons_zero, List.set_cons_succ]
      refine wpAnyH_ready (rs := [16]) (by kernel_rfl) (by simp) ?_
      refine AllReadyH.cons (o := _) rfl (fun K hK => ?_) AllReadyH.nil
      rw [if_pos (by rfl)]
      refine wp_store_row 61 _ _ rfl W.heap.size (entC nm x1 x4) rfl rfl 61 #[.string ⟨#[]⟩, .int .i64 0, .int .i64 0] (Blk.new W _ _) infoD3 rfl entC_one ?_
      have bS : Below W.heap.size W (World.setRow (World.drew (W.alloc (.cells #[.string ⟨#[]⟩, .int .i64 0, .int .i64 0] 61))) W.heap.size (entC nm x1 x4)) := below_setRow hH (Nat.le_refl _) _
      have kS : Blk (World.setRow (World.drew (W.alloc (.cells #[.string ⟨#[]⟩, .int .i64 0, .int .i64 0] 61))) W.heap.size (entC nm x1 x4)) W.heap.size (entC nm x1 x4) 61 := Blk.row (w := World.drew (W.alloc (.cells #[.string ⟨#[]⟩, .int .i64 0, .int .i64 0] 61))) (Blk.new W _ _) _
      refine hK.out _ _ bS (fun hH9 => ?_)
      clear hK K
      try simp only [Act.put, List.getElem_toArray, List.getElem_cons_zero, List.getElem_cons_succ, List.setIfInBounds_toArray, List.set_cons_zero, List.set_cons_succ]
      obtain ⟨w3, hw3⟩ : ∃ w3, w3 = World.setRow (World.drew (W.alloc (.cells #[.string ⟨#[]⟩, .int .i64 0, .int .i64 0] 61))) W.heap.size (entC nm x1 x4) := ⟨_, rfl⟩
      rw [← hw3] at bS kS ⊢
      have H3 := hide (show Below w.heap.size w w3 ∧ Blk w3 W.heap.size (entC nm x1 x4) 61 ∧ Blk w3 w.heap.size #[.string ⟨#[]⟩, .int .i64 0, .int .i64 0] 61 from ⟨HBW.out.trans (bS.mono (by omega)), kS, HRW.out.below bS hlw⟩)
      refine wpAnyH_done (by kernel_rfl) (NoPanic.normal ?_) _
      clear hH hH9 bS kS hw3
      have c1 := (H3.out.2.1.cell 1).trans (show (entC nm x1 x4)[1]? = some (.int .i64 (x1 : Int)) from rfl)
      have c2 := (H3.out.2.1.cell 2).trans (show (entC nm x1 x4)[2]? = some (.int .i64 (x4 : Int)) from rfl)
      have c0 := (H3.out.2.1.cell 0).trans (show (entC nm x1 x4)[0]? = some (.string nm) from rfl)
      go_wp2_with (go_at_call 54; fail)
      refine (l02Within_any (x1 : Int) 1 1000 _).mono ?_
      rintro e w4 ⟨rfl, hw⟩
      subst hw
      rcases hb1 : wi (x1 : Int) 1 1000 with _ | _
      rotate_left
      go_wp2_with (go_at_call 54; fail)
      refine (l02Within_any (x4 : Int) 1 3 _).mono ?_
      rintro e w4 ⟨rfl, hw⟩
      subst hw
      rcases hb2 : wi (x4 : Int) 1 3 with _ | _
      rotate_left
      go_wp2_with (go_at_call 154; fail)
      refine (Chk.spec_any nm _ HSm.out).mono ?_
      rintro e w4 ⟨rfl, hw⟩
      have hw' := hw.symm
      clear hw
      subst hw'
      by_cases hk : Chk.chkS nm = 0
      · have HR := hide (show sRight ps = ((strOfNums (slotB nm x1 x4)).toList == (strOfNums ps).toList) from by rw [HEq2.out, hb1, hb2, hk]; simp)
        have HSz := hide (chk_size (nm := nm) (by rw [hk]; rfl))
        rw [hk]
        clear hk hb1 hb2
        go_wp2_with fail
        refine wp_region_noPanic ?_
        refine wp_region_held_drew (S := fun w' => Below w.heap.size w w' ∧ Blk w' W.heap.size (entC nm x1 x4) 61) (by kernel_rfl) ⟨H3.out.1.drew, H3.out.2.1⟩ (fun hH => ?_)
        refine wpAnyH_take (i := 0) (oi := _) (v := (.agg (entC nm x1 x4))) rfl (by kernel_rfl) (by kernel_rfl) (by kernel_rfl) (fun _ _ _ h => h) (yieldsIf_load_mid (by rfl) 61 _ rfl W.heap.size 0 rfl (entC nm x1 x4).toList _ (fun w' h => ent_range h.2) Tryz.underlying61 rfl infoD3) hH ?_
        try simp only [Act.put, List.getElem_toArray, List.getElem_cons_zero, List.getElem_cons_succ, List.setIfInBounds_toArray, List.set_cons_zero, List.set_cons_succ]
        refine wpAnyH_take (i := 1) (oi := _) (v := (.bool true)) rfl (by kernel_rfl) (by kernel_rfl) (by kernel_rfl) (fun _ _ _ h => h) (Or.inl ⟨by rfl, fun w' hw' => by go_simp⟩) hH ?_
        try simp only [Act.put, List.getElem_toArray, List.getElem_cons_zero, List.getElem_cons_succ, List.setIfInBounds_toArray, List.set_cons_zero, List.set_cons_succ]
        refine wpAnyH_take (i := 2) (oi := _) (v := (.bool true)) rfl (by kernel_rfl) (by kernel_rfl) (by kernel_rfl) (fun _ _ _ h => h) (Or.inl ⟨by rfl, fun w' hw' => by go_simp⟩) hH ?_
        try simp only [Act.put, List.getElem_toArray, List.getElem_cons_zero, List.getElem_cons_succ, List.setIfInBounds_toArray, List.set_cons_zero, List.set_cons_succ]
        refine wpAnyH_take (i := 3) (oi := _) (v := (.agg (entC nm x1 x4))) rfl (by kernel_rfl) (by kernel_rfl) (by kernel_rfl) (fun _ _ _ h => h) (yieldsIf_load_mid (by rfl) 61 _ rfl W.heap.size 0 rfl (entC nm x1 x4).toList _ (fun w' h => ent_range h.2) Tryz.underlying61 rfl infoD3) hH ?_
        try simp only [Act.put, List.getElem_toArray, List.getElem_cons_zero, List.getElem_cons_succ, List.setIfInBounds_toArray, List.set_cons_zero, List.set_cons_succ]
        refine wpAnyH_take (i := 6) (oi := _) (v := (.slice (some ⟨b, off, none⟩) 32 cap)) rfl (by kernel_rfl) (by kernel_rfl) (by kernel_rfl) (fun _ _ _ h => h) (Or.inl ⟨by rfl, fun w' hw' => by go_simp⟩) hH ?_
        try simp only [Act.put, List.getElem_toArray, List.getElem_cons_zero, List.getElem_cons_succ, List.setIfInBounds_toArray, List.set_cons_zero, List.set_cons_succ]
        refine wpAnyH_take (i := 7) (oi := _) (v := (.string (strOfNums ps))) rfl (by kernel_rfl) (by kernel_rfl) (by kernel_rfl) (fun _ _ _ h => h) (yieldsIf_conv (by rfl) _ rfl (.slice (some ⟨b, off, none⟩) 32 cap) rfl _ (fun w' h => HRd.out.below h.1)) hH ?_
        try simp only [Act.put, List.getElem_toArray, List.getElem_cons_zero, List.getElem_cons_succ, List.setIfInBounds_toArray, List.set_cons_zero, List.set_cons_succ]
        refine wpAnyH_ready (rs := [4]) (by kernel_rfl) (by simp) ?_
        refine AllReadyH.cons (o := _) rfl (fun K hK => ?_) AllReadyH.nil
        go_simp
        refine (slot_any nm x1 x4 _ HSz.out.1 HSz.out.2 h1b h4b).mono ?_
        rintro e w4 ⟨v4, rfl, ⟨g4, cp4, ev4, o4⟩, b4⟩
        have hb4 : Below w3.heap.size w3 w4 := ((Below.refl _ w3).drew).trans b4
        have HRZ := hide (show Blk w4 w.heap.size #[.string ⟨#[]⟩, .int .i64 0, .int .i64 0] 61 from H3.out.2.2.below hb4 H3.out.2.2.lt)
        subst ev4
        have R4 := hide (show Rd .u8 w4 (.slice (some ⟨g4, 0, none⟩) 32 cp4) (slotB nm x1 x4) from Rd.own (n := 32) o4)
        have hg4 : g4 ≠ w.heap.size := by
          have h1 := (o4.lt g4 rfl).1
          have h2 : w3.heap.size ≤ g4 := h1
          have h3 := H3.out.2.1.lt
          omega
        refine hK.out _ _ ⟨H3.out.1.trans (hb4.mono H3.out.1.size), H3.out.2.1.below hb4 H3.out.2.1.lt⟩ (fun hH4 => ?_)
        clear hK K hH o4 b4
        have hH := hH4
        clear hH4
        try simp only [Act.put, List.getElem_toArray, List.getElem_cons_zero, List.getElem_cons_succ, List.setIfInBounds_toArray, List.set_cons_zero, List.set_cons_succ]
        refine wpAnyH_ready (rs := [5, 10]) (by kernel_rfl) (by simp) ?_
        refine AllReadyH.cons (o := _) rfl (fun K hK => ?_) (AllReadyH.cons (o := _) rfl (fun K hK => ?_) AllReadyH.nil)
        · rw [if_pos (by rfl)]
          refine wp_conv _ rfl (.slice (some ⟨g4, 0, none⟩) 32 cp4) rfl (slotB nm x1 x4) R4.out ?_
          refine hK.out _ _ hH (fun hH5 => ?_)
          clear hK K hH5
          try simp only [Act.put, List.getElem_toArray, List.getElem_cons_zero, List.getElem_cons_succ, List.setIfInBounds_toArray, List.set_cons_zero, List.set_cons_succ]
          refine wpAnyH_take (i := 8) (oi := _) (v := (.bool ((strOfNums (slotB nm x1 x4)).toList == (strOfNums ps).toList))) rfl (by kernel_rfl) (by kernel_rfl) (by kernel_rfl) (fun _ _ _ h => h) (Or.inl ⟨by rfl, fun w' hw' => by go_simp⟩) hH ?_
          try simp only [Act.put, List.getElem_toArray, List.getElem_cons_zero, List.getElem_cons_succ, List.setIfInBounds_toArray, List.set_cons_zero, List.set_cons_succ]
          refine wpAnyH_take (i := 9) (oi := _) (v := (.bool ((strOfNums (slotB nm x1 x4)).toList == (strOfNums ps).toList))) rfl (by kernel_rfl) (by kernel_rfl) (by kernel_rfl) (fun _ _ _ h => h) (Or.inl ⟨by rfl, fun w' hw' => by go_simp⟩) hH ?_
          try simp only [Act.put, List.getElem_toArray, List.getElem_cons_zero, List.getElem_cons_succ, List.setIfInBounds_toArray, List.set_cons_zero, List.set_cons_succ]
          refine wpAnyH_ready (rs := [10]) (by kernel_rfl) (by simp) ?_
          refine AllReadyH.cons (o := _) rfl (fun K hK => ?_) AllReadyH.nil
          rw [if_pos (by rfl)]
          refine wp_store_row 61 _ _ rfl w.heap.size (entC nm x1 x4) rfl rfl 61 #[.string ⟨#[]⟩, .int .i64 0, .int .i64 0] HRZ.out infoD3 rfl entC_one ?_
          refine hK.out _ _ ⟨below_setRow hH.1 (Nat.le_refl _) _, (setRow_block _ _ _ _ (by omega)).trans hH.2⟩ (fun hH9 => ?_)
          have HRow := hide (HRZ.out.row (entC nm x1 x4))
          clear hK K
          try simp only [Act.put, List.getElem_toArray, List.getElem_cons_zero, List.getElem_cons_succ, List.setIfInBounds_toArray, List.set_cons_zero, List.set_cons_succ]
          refine wpAnyH_ready (rs := [11]) (by kernel_rfl) (by simp) ?_
          refine AllReadyH.cons (o := _) rfl (fun K hK => ?_) AllReadyH.nil
          go_simp
          refine hK.out _ _ hH9 (fun hH10 => ?_)
          clear hK K
          try simp only [Act.put, List.getElem_toArray, List.getElem_cons_zero, List.getElem_cons_succ, List.setIfInBounds_toArray, List.set_cons_zero, List.set_cons_succ]
          have HBel := hide hH10.1
          refine wpAnyH_done (by kernel_rfl) (NoPanic.normal ?_) _
          clear hH hH9 hH10
          go_wp2
          refine bodyPost_ret (v := .tuple #[.agg (entC nm x1 x4), .bool ((strOfNums (slotB nm x1 x4)).toList == (strOfNums ps).toList)]) (results_row_tmp rfl _ _ w.heap.size 61 (entC nm x1 x4) (0, 0) _ (.bool ((strOfNums (slotB nm x1 x4)).toList == (strOfNums ps).toList)) rfl rfl HRow.out Tryz.underlying61 rfl infoD3) rfl ?_
          exact ⟨nm, x1, x4, by rw [HR.out], fun _ => ⟨HNm.out, by rw [HXs.out.2.2], by rw [HXs.out.2.1]⟩, HBel.out⟩
        · rw [if_pos (by rfl)]
          refine wp_store_row 61 _ _ rfl w.heap.size (entC nm x1 x4) rfl rfl 61 #[.string ⟨#[]⟩, .int .i64 0, .int .i64 0] HRZ.out infoD3 rfl entC_one ?_
          refine hK.out _ _ ⟨below_setRow hH.1 (Nat.le_refl _) _, (setRow_block _ _ _ _ (by omega)).trans hH.2⟩ (fun hH9 => ?_)
          have HRow := hide (HRZ.out.row (entC nm x1 x4))
          clear hK K
          try simp only [Act.put, List.getElem_toArray, List.getElem_cons_zero, List.getElem_cons_succ, List.setIfInBounds_toArray, List.set_cons_zero, List.set_cons_succ]
          refine wpAnyH_ready (rs := [5]) (by kernel_rfl) (by simp) ?_
          refine AllReadyH.cons (o := _) rfl (fun K hK => ?_) AllReadyH.nil
          rw [if_pos (by rfl)]
          refine wp_conv _ rfl (.slice (some ⟨g4, 0, none⟩) 32 cp4) rfl (slotB nm x1 x4) (R4.out.rowOther _ _ hg4) ?_
          refine hK.out _ _ hH9 (fun hH5 => ?_)
          clear hK K hH5
          try simp only [Act.put, List.getElem_toArray, List.getElem_cons_zero, List.getElem_cons_succ, List.setIfInBounds_toArray, List.set_cons_zero, List.set_cons_succ]
          refine wpAnyH_take (i := 8) (oi := _) (v := (.bool ((strOfNums (slotB nm x1 x4)).toList == (strOfNums ps).toList))) rfl (by kernel_rfl) (by kernel_rfl) (by kernel_rfl) (fun _ _ _ h => h) (Or.inl ⟨by rfl, fun w' hw' => by go_simp⟩) hH9 ?_
          try simp only [Act.put, List.getElem_toArray, List.getElem_cons_zero, List.getElem_cons_succ, List.setIfInBounds_toArray, List.set_cons_zero, List.set_cons_succ]
          refine wpAnyH_take (i := 9) (oi := _) (v := (.bool ((strOfNums (slotB nm x1 x4)).toList == (strOfNums ps).toList))) rfl (by kernel_rfl) (by kernel_rfl) (by kernel_rfl) (fun _ _ _ h => h) (Or.inl ⟨by rfl, fun w' hw' => by go_simp⟩) hH9 ?_
          try simp only [Act.put, List.getElem_toArray, List.getElem_cons_zero, List.getElem_cons_succ, List.setIfInBounds_toArray, List.set_cons_zero, List.set_cons_succ]
          refine wpAnyH_ready (rs := [11]) (by kernel_rfl) (by simp) ?_
          refine AllReadyH.cons (o := _) rfl (fun K hK => ?_) AllReadyH.nil
          go_simp
          refine hK.out _ _ hH9 (fun hH10 => ?_)
          clear hK K
          try simp only [Act.put, List.getElem_toArray, List.getElem_cons_zero, List.getElem_cons_succ, List.setIfInBounds_toArray, List.set_cons_zero, List.set_cons_succ]
          have HBel := hide hH10.1
          refine wpAnyH_done (by kernel_rfl) (NoPanic.normal ?_) _
          clear hH hH9 hH10
          go_wp2
          refine bodyPost_ret (v := .tuple #[.agg (entC nm x1 x4), .bool ((strOfNums (slotB nm x1 x4)).toList == (strOfNums ps).toList)]) (results_row_tmp rfl _ _ w.heap.size 61 (entC nm x1 x4) (0, 0) _ (.bool ((strOfNums (slotB nm x1 x4)).toList == (strOfNums ps).toList)) rfl rfl HRow.out Tryz.underlying61 rfl infoD3) rfl ?_
          exact ⟨nm, x1, x4, by rw [HR.out], fun _ => ⟨HNm.out, by rw [HXs.out.2.2], by rw [HXs.out.2.1]⟩, HBel.out⟩
      · have HR := hide (show sRight ps = false from by rw [HEq2.out, show (Chk.chkS nm == 0) = false from by simpa using hk]; simp)
        generalize Chk.chkS nm = ck at hk
        clear hb1 hb2
        go_wp2_with fail
        refine wp_region_noPanic ?_
        refine wp_region_held_drew (S := fun w' => Below w.heap.size w w' ∧ Blk w' W.heap.size (entC nm x1 x4) 61) (by kernel_rfl) ⟨H3.out.1.drew, H3.out.2.1⟩ (fun hH => ?_)
        have HRZ := hide (show Blk (World.drew w3) w.heap.size #[.string ⟨#[]⟩, .int .i64 0, .int .i64 0] 61 from H3.out.2.2)
        refine wpAnyH_take (i := 0) (oi := _) (v := (.agg (entC nm x1 x4))) rfl (by kernel_rfl) (by kernel_rfl) (by kernel_rfl) (fun _ _ _ h => h) (yieldsIf_load_mid (by rfl) 61 _ rfl W.heap.size 0 rfl (entC nm x1 x4).toList _ (fun w' h => ent_range h.2) Tryz.underlying61 rfl infoD3) hH ?_
        try simp only [Act.put, List.getElem_toArray, List.getElem_cons_zero, List.getElem_cons_succ, List.setIfInBounds_toArray, List.set_cons_zero, List.set_cons_succ]
        refine wpAnyH_take (i := 1) (oi := _) (v := (.bool false)) rfl (by kernel_rfl) (by kernel_rfl) (by kernel_rfl) (fun _ _ _ h => h) (Or.inl ⟨by rfl, fun w' hw' => by go_simp⟩) hH ?_
        try simp only [Act.put, List.getElem_toArray, List.getElem_cons_zero, List.getElem_cons_succ, List.setIfInBounds_toArray, List.set_cons_zero, List.set_cons_succ]
        refine wpAnyH_take (i := 2) (oi := _) (v := (.bool false)) rfl (by kernel_rfl) (by kernel_rfl) (by kernel_rfl) (fun _ _ _ h => h) (Or.inl ⟨by rfl, fun w' hw' => by go_simp⟩) hH ?_
        try simp only [Act.put, List.getElem_toArray, List.getElem_cons_zero, List.getElem_cons_succ, List.setIfInBounds_toArray, List.set_cons_zero, List.set_cons_succ]
        refine wpAnyH_take (i := 3) (oi := _) (v := undef) rfl (by kernel_rfl) (by kernel_rfl) (by kernel_rfl) (fun _ _ _ h => h) (Or.inr ⟨by rfl, rfl⟩) hH ?_
        try simp only [Act.put, List.getElem_toArray, List.getElem_cons_zero, List.getElem_cons_succ, List.setIfInBounds_toArray, List.set_cons_zero, List.set_cons_succ]
        refine wpAnyH_take (i := 4) (oi := _) (v := undef) rfl (by kernel_rfl) (by kernel_rfl) (by kernel_rfl) (fun _ _ _ h => h) (Or.inr ⟨by rfl, rfl⟩) hH ?_
        try simp only [Act.put, List.getElem_toArray, List.getElem_cons_zero, List.getElem_cons_succ, List.setIfInBounds_toArray, List.set_cons_zero, List.set_cons_succ]
        refine wpAnyH_take (i := 5) (oi := _) (v := undef) rfl (by kernel_rfl) (by kernel_rfl) (by kernel_rfl) (fun _ _ _ h => h) (Or.inr ⟨by rfl, rfl⟩) hH ?_
        try simp only [Act.put, List.getElem_toArray, List.getElem_cons_zero, List.getElem_cons_succ, List.setIfInBounds_toArray, List.set_cons_zero, List.set_cons_succ]
        refine wpAnyH_take (i := 6) (oi := _) (v := undef) rfl (by kernel_rfl) (by kernel_rfl) (by kernel_rfl) (fun _ _ _ h => h) (Or.inr ⟨by rfl, rfl⟩) hH ?_
        try simp only [Act.put, List.getElem_toArray, List.getElem_cons_zero, List.getElem_cons_succ, List.setIfInBounds_toArray, List.set_cons_zero, List.set_cons_succ]
        refine wpAnyH_take (i := 7) (oi := _) (v := undef) rfl (by kernel_rfl) (by kernel_rfl) (by kernel_rfl) (fun _ _ _ h => h) (Or.inr ⟨by rfl, rfl⟩) hH ?_
        try simp only [Act.put, List.getElem_toArray, List.getElem_cons_zero, List.getElem_cons_succ, List.setIfInBounds_toArray, List.set_cons_zero, List.set_cons_succ]
        refine wpAnyH_take (i := 8) (oi := _) (v := undef) rfl (by kernel_rfl) (by kernel_rfl) (by kernel_rfl) (fun _ _ _ h => h) (Or.inr ⟨by rfl, rfl⟩) hH ?_
        try simp only [Act.put, List.getElem_toArray, List.getElem_cons_zero, List.getElem_cons_succ, List.setIfInBounds_toArray, List.set_cons_zero, List.set_cons_succ]
        refine wpAnyH_take (i := 9) (oi := _) (v := (.bool false)) rfl (by kernel_rfl) (by kernel_rfl) (by kernel_rfl) (fun _ _ _ h => h) (Or.inl ⟨by rfl, fun w' hw' => by go_simp⟩) hH ?_
        try simp only [Act.put, List.getElem_toArray, List.getElem_cons_zero, List.getElem_cons_succ, List.setIfInBounds_toArray, List.set_cons_zero, List.set_cons_succ]
        refine wpAnyH_ready (rs := [10]) (by kernel_rfl) (by simp) ?_
        refine AllReadyH.cons (o := _) rfl (fun K hK => ?_) AllReadyH.nil
        rw [if_pos (by rfl)]
        refine wp_store_row 61 _ _ rfl w.heap.size (entC nm x1 x4) rfl rfl 61 #[.string ⟨#[]⟩, .int .i64 0, .int .i64 0] HRZ.out infoD3 rfl entC_one ?_
        refine hK.out _ _ ⟨below_setRow hH.1 (Nat.le_refl _) _, (setRow_block _ _ _ _ (by omega)).trans hH.2⟩ (fun hH9 => ?_)
        have HRow := hide (HRZ.out.row (entC nm x1 x4))
        clear hK K
        try simp only [Act.put, List.getElem_toArray, List.getElem_cons_zero, List.getElem_cons_succ, List.setIfInBounds_toArray, List.set_cons_zero, List.set_cons_succ]
        refine wpAnyH_ready (rs := [11]) (by kernel_rfl) (by simp) ?_
        refine AllReadyH.cons (o := _) rfl (fun K hK => ?_) AllReadyH.nil
        go_simp
        refine hK.out _ _ hH9 (fun hH10 => ?_)
        clear hK K
        try simp only [Act.put, List.getElem_toArray, List.getElem_cons_zero, List.getElem_cons_succ, List.setIfInBounds_toArray, List.set_cons_zero, List.set_cons_succ]
        have HBel := hide hH10.1
        refine wpAnyH_done (by kernel_rfl) (NoPanic.normal ?_) _
        clear hH hH9 hH10
        go_wp2
        refine bodyPost_ret (v := .tuple #[.agg (entC nm x1 x4), .bool false]) (results_row_tmp rfl _ _ w.heap.size 61 (entC nm x1 x4) (0, 0) _ (.bool false) rfl rfl HRow.out Tryz.underlying61 rfl infoD3) rfl ?_
        exact ⟨nm, x1, x4, by rw [HR.out], fun _ => ⟨HNm.out, by rw [HXs.out.2.2], by rw [HXs.out.2.1]⟩, HBel.out⟩
      · have HR := hide (show sRight ps = false from by rw [HEq2.out, hb1]; simp)
        clear hb1
        go_wp2_with fail
        refine wp_region_noPanic ?_
        refine wp_region_held_drew (S := fun w' => Below w.heap.size w w' ∧ Blk w' W.heap.size (entC nm x1 x4) 61) (by kernel_rfl) ⟨H3.out.1.drew, H3.out.2.1⟩ (fun hH => ?_)
        have HRZ := hide (show Blk (World.drew w3) w.heap.size #[.string ⟨#[]⟩, .int .i64 0, .int .i64 0] 61 from H3.out.2.2)
        refine wpAnyH_take (i := 0) (oi := _) (v := (.agg (entC nm x1 x4))) rfl (by kernel_rfl) (by kernel_rfl) (by kernel_rfl) (fun _ _ _ h => h) (yieldsIf_load_mid (by rfl) 61 _ rfl W.heap.size 0 rfl (entC nm x1 x4).toList _ (fun w' h => ent_range h.2) Tryz.underlying61 rfl infoD3) hH ?_
        try simp only [Act.put, List.getElem_toArray, List.getElem_cons_zero, List.getElem_cons_succ, List.setIfInBounds_toArray, List.set_cons_zero, List.set_cons_succ]
        refine wpAnyH_take (i := 1) (oi := _) (v := (.bool false)) rfl (by kernel_rfl) (by kernel_rfl) (by kernel_rfl) (fun _ _ _ h => h) (Or.inl ⟨by rfl, fun w' hw' => by go_simp⟩) hH ?_
        try simp only [Act.put, List.getElem_toArray, List.getElem_cons_zero, List.getElem_cons_succ, List.setIfInBounds_toArray, List.set_cons_zero, List.set_cons_succ]
        refine wpAnyH_take (i := 2) (oi := _) (v := (.bool false)) rfl (by kernel_rfl) (by kernel_rfl) (by kernel_rfl) (fun _ _ _ h => h) (Or.inl ⟨by rfl, fun w' hw' => by go_simp⟩) hH ?_
        try simp only [Act.put, List.getElem_toArray, List.getElem_cons_zero, List.getElem_cons_succ, List.setIfInBounds_toArray, List.set_cons_zero, List.set_cons_succ]
        refine wpAnyH_take (i := 3) (oi := _) (v := undef) rfl (by kernel_rfl) (by kernel_rfl) (by kernel_rfl) (fun _ _ _ h => h) (Or.inr ⟨by rfl, rfl⟩) hH ?_
        try simp only [Act.put, List.getElem_toArray, List.getElem_cons_zero, List.getElem_cons_succ, List.setIfInBounds_toArray, List.set_cons_zero, List.set_cons_succ]
        refine wpAnyH_take (i := 4) (oi := _) (v := undef) rfl (by kernel_rfl) (by kernel_rfl) (by kernel_rfl) (fun _ _ _ h => h) (Or.inr ⟨by rfl, rfl⟩) hH ?_
        try simp only [Act.put, List.getElem_toArray, List.getElem_cons_zero, List.getElem_cons_succ, List.setIfInBounds_toArray, List.set_cons_zero, List.set_cons_succ]
        refine wpAnyH_take (i := 5) (oi := _) (v := undef) rfl (by kernel_rfl) (by kernel_rfl) (by kernel_rfl) (fun _ _ _ h => h) (Or.inr ⟨by rfl, rfl⟩) hH ?_
        try simp only [Act.put, List.getElem_toArray, List.getElem_cons_zero, List.getElem_cons_succ, List.setIfInBounds_toArray, List.set_cons_zero, List.set_cons_succ]
        refine wpAnyH_take (i := 6) (oi := _) (v := undef) rfl (by kernel_rfl) (by kernel_rfl) (by kernel_rfl) (fun _ _ _ h => h) (Or.inr ⟨by rfl, rfl⟩) hH ?_
        try simp only [Act.put, List.getElem_toArray, List.getElem_cons_zero, List.getElem_cons_succ, List.setIfInBounds_toArray, List.set_cons_zero, List.set_cons_succ]
        refine wpAnyH_take (i := 7) (oi := _) (v := undef) rfl (by kernel_rfl) (by kernel_rfl) (by kernel_rfl) (fun _ _ _ h => h) (Or.inr ⟨by rfl, rfl⟩) hH ?_
        try simp only [Act.put, List.getElem_toArray, List.getElem_cons_zero, List.getElem_cons_succ, List.setIfInBounds_toArray, List.set_cons_zero, List.set_cons_succ]
        refine wpAnyH_take (i := 8) (oi := _) (v := undef) rfl (by kernel_rfl) (by kernel_rfl) (by kernel_rfl) (fun _ _ _ h => h) (Or.inr ⟨by rfl, rfl⟩) hH ?_
        try simp only [Act.put, List.getElem_toArray, List.getElem_cons_zero, List.getElem_cons_succ, List.setIfInBounds_toArray, List.set_cons_zero, List.set_cons_succ]
        refine wpAnyH_take (i := 9) (oi := _) (v := (.bool false)) rfl (by kernel_rfl) (by kernel_rfl) (by kernel_rfl) (fun _ _ _ h => h) (Or.inl ⟨by rfl, fun w' hw' => by go_simp⟩) hH ?_
        try simp only [Act.put, List.getElem_toArray, List.getElem_cons_zero, List.getElem_cons_succ, List.setIfInBounds_toArray, List.set_cons_zero, List.set_cons_succ]
        refine wpAnyH_ready (rs := [10]) (by kernel_rfl) (by simp) ?_
        refine AllReadyH.cons (o := _) rfl (fun K hK => ?_) AllReadyH.nil
        rw [if_pos (by rfl)]
        refine wp_store_row 61 _ _ rfl w.heap.size (entC nm x1 x4) rfl rfl 61 #[.string ⟨#[]⟩, .int .i64 0, .int .i64 0] HRZ.out infoD3 rfl entC_one ?_
        refine hK.out _ _ ⟨below_setRow hH.1 (Nat.le_refl _) _, (setRow_block _ _ _ _ (by omega)).trans hH.2⟩ (fun hH9 => ?_)
        have HRow := hide (HRZ.out.row (entC nm x1 x4))
        clear hK K
        try simp only [Act.put, List.getElem_toArray, List.getElem_cons_zero, List.getElem_cons_succ, List.setIfInBounds_toArray, List.set_cons_zero, List.set_cons_succ]
        refine wpAnyH_ready (rs := [11]) (by kernel_rfl) (by simp) ?_
        refine AllReadyH.cons (o := _) rfl (fun K hK => ?_) AllReadyH.nil
        go_simp
        refine hK.out _ _ hH9 (fun hH10 => ?_)
        clear hK K
        try simp only [Act.put, List.getElem_toArray, List.getElem_cons_zero, List.getElem_cons_succ, List.setIfInBounds_toArray, List.set_cons_zero, List.set_cons_succ]
        have HBel := hide hH10.1
        refine wpAnyH_done (by kernel_rfl) (NoPanic.normal ?_) _
        clear hH hH9 hH10
        go_wp2
        refine bodyPost_ret (v := .tuple #[.agg (entC nm x1 x4), .bool false]) (results_row_tmp rfl _ _ w.heap.size 61 (entC nm x1 x4) (0, 0) _ (.bool false) rfl rfl HRow.out Tryz.underlying61 rfl infoD3) rfl ?_
        exact ⟨nm, x1, x4, by rw [HR.out], fun _ => ⟨HNm.out, by rw [HXs.out.2.2], by rw [HXs.out.2.1]⟩, HBel.out⟩
      · have HR := hide (show sRight ps = false from by rw [HEq2.out, hb2]; simp)
        clear hb1 hb2
        go_wp2_with fail
        refine wp_region_noPanic ?_
        refine wp_region_held_drew (S := fun w' => Below w.heap.size w w' ∧ Blk w' W.heap.size (entC nm x1 x4) 61) (by kernel_rfl) ⟨H3.out.1.drew, H3.out.2.1⟩ (fun hH => ?_)
        have HRZ := hide (show Blk (World.drew w3) w.heap.size #[.string ⟨#[]⟩, .int .i64 0, .int .i64 0] 61 from H3.out.2.2)
        refine wpAnyH_take (i := 0) (oi := _) (v := (.agg (entC nm x1 x4))) rfl (by kernel_rfl) (by kernel_rfl) (by kernel_rfl) (fun _ _ _ h => h) (yieldsIf_load_mid (by rfl) 61 _ rfl W.heap.size 0 rfl (entC nm x1 x4).toList _ (fun w' h => ent_range h.2) Tryz.underlying61 rfl infoD3) hH ?_
        try simp only [Act.put, List.getElem_toArray, List.getElem_cons_zero, List.getElem_cons_succ, List.setIfInBounds_toArray, List.set_cons_zero, List.set_cons_succ]
        refine wpAnyH_take (i := 1) (oi := _) (v := (.bool false)) rfl (by kernel_rfl) (by kernel_rfl) (by kernel_rfl) (fun _ _ _ h => h) (Or.inl ⟨by rfl, fun w' hw' => by go_simp⟩) hH ?_
        try simp only [Act.put, List.getElem_toArray, List.getElem_cons_zero, List.getElem_cons_succ, List.setIfInBounds_toArray, List.set_cons_zero, List.set_cons_succ]
        refine wpAnyH_take (i := 2) (oi := _) (v := (.bool false)) rfl (by kernel_rfl) (by kernel_rfl) (by kernel_rfl) (fun _ _ _ h => h) (Or.inl ⟨by rfl, fun w' hw' => by go_simp⟩) hH ?_
        try simp only [Act.put, List.getElem_toArray, List.getElem_cons_zero, List.getElem_cons_succ, List.setIfInBounds_toArray, List.set_cons_zero, List.set_cons_succ]
        refine wpAnyH_take (i := 3) (oi := _) (v := undef) rfl (by kernel_rfl) (by kernel_rfl) (by kernel_rfl) (fun _ _ _ h => h) (Or.inr ⟨by rfl, rfl⟩) hH ?_
        try simp only [Act.put, List.getElem_toArray, List.getElem_cons_zero, List.getElem_cons_succ, List.setIfInBounds_toArray, List.set_cons_zero, List.set_cons_succ]
        refine wpAnyH_take (i := 4) (oi := _) (v := undef) rfl (by kernel_rfl) (by kernel_rfl) (by kernel_rfl) (fun _ _ _ h => h) (Or.inr ⟨by rfl, rfl⟩) hH ?_
        try simp only [Act.put, List.getElem_toArray, List.getElem_cons_zero, List.getElem_cons_succ, List.setIfInBounds_toArray, List.set_cons_zero, List.set_cons_succ]
        refine wpAnyH_take (i := 5) (oi := _) (v := undef) rfl (by kernel_rfl) (by kernel_rfl) (by kernel_rfl) (fun _ _ _ h => h) (Or.inr ⟨by rfl, rfl⟩) hH ?_
        try simp only [Act.put, List.getElem_toArray, List.getElem_cons_zero, List.getElem_cons_succ, List.setIfInBounds_toArray, List.set_cons_zero, List.set_cons_succ]
        refine wpAnyH_take (i := 6) (oi := _) (v := undef) rfl (by kernel_rfl) (by kernel_rfl) (by kernel_rfl) (fun _ _ _ h => h) (Or.inr ⟨by rfl, rfl⟩) hH ?_
        try simp only [Act.put, List.getElem_toArray, List.getElem_cons_zero, List.getElem_cons_succ, List.setIfInBounds_toArray, List.set_cons_zero, List.set_cons_succ]
        refine wpAnyH_take (i := 7) (oi := _) (v := undef) rfl (by kernel_rfl) (by kernel_rfl) (by kernel_rfl) (fun _ _ _ h => h) (Or.inr ⟨by rfl, rfl⟩) hH ?_
        try simp only [Act.put, List.getElem_toArray, List.getElem_cons_zero, List.getElem_cons_succ, List.setIfInBounds_toArray, List.set_cons_zero, List.set_cons_succ]
        refine wpAnyH_take (i := 8) (oi := _) (v := undef) rfl (by kernel_rfl) (by kernel_rfl) (by kernel_rfl) (fun _ _ _ h => h) (Or.inr ⟨by rfl, rfl⟩) hH ?_
        try simp only [Act.put, List.getElem_toArray, List.getElem_cons_zero, List.getElem_cons_succ, List.setIfInBounds_toArray, List.set_cons_zero, List.set_cons_succ]
        refine wpAnyH_take (i := 9) (oi := _) (v := (.bool false)) rfl (by kernel_rfl) (by kernel_rfl) (by kernel_rfl) (fun _ _ _ h => h) (Or.inl ⟨by rfl, fun w' hw' => by go_simp⟩) hH ?_
        try simp only [Act.put, List.getElem_toArray, List.getElem_cons_zero, List.getElem_cons_succ, List.setIfInBounds_toArray, List.set_cons_zero, List.set_cons_succ]
        refine wpAnyH_ready (rs := [10]) (by kernel_rfl) (by simp) ?_
        refine AllReadyH.cons (o := _) rfl (fun K hK => ?_) AllReadyH.nil
        rw [if_pos (by rfl)]
        refine wp_store_row 61 _ _ rfl w.heap.size (entC nm x1 x4) rfl rfl 61 #[.string ⟨#[]⟩, .int .i64 0, .int .i64 0] HRZ.out infoD3 rfl entC_one ?_
        refine hK.out _ _ ⟨below_setRow hH.1 (Nat.le_refl _) _, (setRow_block _ _ _ _ (by omega)).trans hH.2⟩ (fun hH9 => ?_)
        have HRow := hide (HRZ.out.row (entC nm x1 x4))
        clear hK K
        try simp only [Act.put, List.getElem_toArray, List.getElem_cons_zero, List.getElem_cons_succ, List.setIfInBounds_toArray, List.set_cons_zero, List.set_cons_succ]
        refine wpAnyH_ready (rs := [11]) (by kernel_rfl) (by simp) ?_
        refine AllReadyH.cons (o := _) rfl (fun K hK => ?_) AllReadyH.nil
        go_simp
        refine hK.out _ _ hH9 (fun hH10 => ?_)
        clear hK K
        try simp only [Act.put, List.getElem_toArray, List.getElem_cons_zero, List.getElem_cons_succ, List.setIfInBounds_toArray, List.set_cons_zero, List.set_cons_succ]
        have HBel := hide hH10.1
        refine wpAnyH_done (by kernel_rfl) (NoPanic.normal ?_) _
        clear hH hH9 hH10
        go_wp2
        refine bodyPost_ret (v := .tuple #[.agg (entC nm x1 x4), .bool false]) (results_row_tmp rfl _ _ w.heap.size 61 (entC nm x1 x4) (0, 0) _ (.bool false) rfl rfl HRow.out Tryz.underlying61 rfl infoD3) rfl ?_
        exact ⟨nm, x1, x4, by rw [HR.out], fun _ => ⟨HNm.out, by rw [HXs.out.2.2], by rw [HXs.out.2.1]⟩, HBel.out⟩
  · have hLi : (26 : Int) < (x5 : Int) := by omega
    have HR := hide (show sRight ps = false from by
      cases hs : sRight ps with
      | false => rfl
      | true => have := HK.out hs; have := HXs.out.1; omega)
    go_enter Tryz.func112, Tryz.ntmps112
    go_wp2
    refine bodyPost_ret (v := .tuple #[.agg (entC ⟨#[]⟩ 0 0), .bool false]) (results_row_tmp rfl _ _ w.heap.size 61 (entC ⟨#[]⟩ 0 0) (0, 0) _ (.bool false) rfl rfl HRes.out Tryz.underlying61 rfl infoD3) rfl ?_
    exact ⟨⟨#[]⟩, 0, 0, by rw [HR.out], fun h => by (rw [HR.out] at h; cases h), HB0.out⟩
end Go.Proofs.YtplieplmhdfndaaGreatDoor
