/- A name's slot (mathematics): what the model's search finds is what the program's map holds. The model's l06At and DirFind. DirFind of the model. DirFind of the program; the law. The law on DirFind: its walk. -/
import Derived.Test.YtcciaojdceejcaaDoorJdD
import Derived.Test.YtcciaojdceejcaaDoorJdF
namespace Go.Proofs.YtcciaojdceejcaaDoor
set_option linter.unusedVariables false
set_option linter.unusedSimpArgs false
open Go.RowKit

theorem right_notZero {ps : List Int} (h : sRight ps = true) : sZero ps = false := by
  cases hz : sZero ps with
  | false => rfl
  | true => rw [sZero_not_right (sZero_parts hz).1] at h; cases h
/-- Slot k has the name. -/
def atK (zs : List Int) (nm : ByteArray) (k : Nat) : Bool := sRight (slotK zs k) && ((sName (slotK zs k)).toList == nm.toList)
/-- The first slot that has it. -/
def firstK (zs : List Int) (nm : ByteArray) (n : Nat) : Option Nat := (List.range n).find? (atK zs nm)
theorem firstK_succ (zs : List Int) (nm : ByteArray) (n : Nat) : firstK zs nm (n + 1) = (firstK zs nm n).or (if atK zs nm n = true then some n else none) := by
  unfold firstK
  rw [List.range_succ, List.find?_append]
  congr 1
  by_cases h : atK zs nm n = true
  · simp [h]
  · simp [h]
theorem firstK_none {zs : List Int} {nm : ByteArray} {n : Nat} (h : ∀ j, j < n → atK zs nm j = false) : firstK zs nm n = none := by
  unfold firstK
  rw [List.find?_eq_none]
  intro j hj
  rw [h j (List.mem_range.1 hj)]
  decide
theorem firstK_some {zs : List Int} {nm : ByteArray} {n k : Nat} (hk : k < n) (h : ∀ j, j < k → atK zs nm j = false) (hat : atK zs nm k = true) : firstK zs nm n = some k := by
  obtain ⟨d, rfl⟩ : ∃ d, n = k + 1 + d := ⟨n - (k + 1), by omega⟩
  induction d with
  | zero => rw [Nat.add_zero, firstK_succ, firstK_none h, if_pos hat]; rfl
  | succ d ih => rw [← Nat.add_assoc, firstK_succ, ih (by omega)]; rfl
theorem firstK_lt {zs : List Int} {nm : ByteArray} {n k : Nat} (h : firstK zs nm n = some k) : k < n ∧ atK zs nm k = true := by
  unfold firstK at h
  exact ⟨List.mem_range.1 (List.mem_of_find?_eq_some h), List.find?_some h⟩
/-- In a right directory the map holds just this slot. -/
theorem map_first (H : Type) {zs : List Int} (nm : ByteArray) : ∀ {n : Nat} {es : List (ByteArray × Nat × Nat)}, entT zs n = some es →
    Maps.has (mapR H zs (List.range n).reverse) (.string nm.data.toList) = (firstK zs nm n).isSome ∧ ∀ k, firstK zs nm n = some k → (mapR H zs (List.range n).reverse).atKey (.string nm.data.toList) (.lit (.int .i64 0)) = .lit (.int .i64 (k : Int))
  | 0, es, h => ⟨rfl, fun k hk => by cases hk⟩
  | n + 1, fs, h => by
    obtain ⟨es, h1, h2⟩ := entT_some h
    obtain ⟨ih1, ih2⟩ := map_first H nm h1
    have hr : (List.range (n + 1)).reverse = n :: (List.range n).reverse := by rw [List.range_succ, List.reverse_append]; rfl
    rw [hr, firstK_succ]
    rcases h2 with ⟨hz, rfl⟩ | ⟨hz, hr2, ha, rfl⟩
    · have hat : atK zs nm n = false := by
        unfold atK
        cases hq : sRight (slotK zs n) with
        | false => rfl
        | true => rw [right_notZero hq] at hz; cases hz
      rw [mapR, if_pos hz, if_neg (by rw [hat]; decide), Option.or_none]
      exact ⟨ih1, ih2⟩
    · rw [mapR, if_neg (by rw [hz]; simp), List.length_reverse, List.length_range]
      obtain ⟨ds, hd⟩ := mapR_map H zs (List.range n).reverse
      by_cases e : (sName (slotK zs n)).toList = nm.toList
      · have e2 : (sName (slotK zs n)).data.toList = nm.data.toList := by rw [← ByteArray.toList_eq, ← ByteArray.toList_eq]; exact e
        have hat : atK zs nm n = true := by unfold atK; rw [hr2, e]; simp
        have hno : firstK zs nm n = none := by
          have h3 := mapR_has H nm (show entR zs (List.range n).reverse = some es from by rw [entR_range]; exact h1)
          rw [ih1] at h3
          have h4 : (es.any fun e => e.1.toList == nm.toList) = false := by rw [← e]; exact ha
          rw [h4] at h3
          cases hf : firstK zs nm n with
          | none => rfl
          | some q => rw [hf] at h3; cases h3
        rw [hno, if_pos hat, ← e2]
        refine ⟨?_, fun k hk => ?_⟩
        · rw [Maps.has_put_same (by rw [hd]; exact ⟨_, rfl⟩) (by first | trivial | simp [WideAt.IsKeyLit] | exact ⟨_, rfl⟩)]
          rfl
        · rw [Maps.atKey_put_same (by rw [hd]; exact ⟨_, rfl⟩) (by first | trivial | simp [WideAt.IsKeyLit] | exact ⟨_, rfl⟩)]
          have : n = k := by simpa using hk
          rw [this]
      · have e2 : (Lit.string nm.data.toList) ≠ .string (sName (slotK zs n)).data.toList := by
          intro h
          injection h with h
          rw [← ByteArray.toList_eq, ← ByteArray.toList_eq] at h
          exact e h.symm
        have hat : atK zs nm n = false := by unfold atK; simp [e]
        rw [if_neg (by rw [hat]; decide), Option.or_none, Maps.has_put_other e2]
        refine ⟨ih1, fun k hk => ?_⟩
        rw [Maps.atKey_put_other e2]
        exact ih2 k hk
end Go.Proofs.YtcciaojdceejcaaDoor

namespace Go.Proofs.YtcciaojdceejcaaDoor
set_option linter.unusedVariables false
set_option linter.unusedSimpArgs false
open Go.RowKit

def atI (zs : List Int) (nm : ByteArray) : Int := match firstK zs nm (zs.length / 32) with | some k => (k : Int) | none => -1
theorem rd_cells {w : World} {v : Value} {zs : List Int} (h : Rd .u8 w v zs) : ∃ b off a cap, v = .slice a zs.length cap ∧ zs.length ≤ cap ∧ cap ≤ maxLen ∧ (0 < zs.length → a = some ⟨b, off, none⟩ ∧ b < w.heap.size ∧ ∀ i, i < zs.length → w.cell? ⟨b, off + i, none⟩ = some (.int .u8 (zs.getD i 0))) := by
  obtain ⟨a, cap, rfl, hm, hc, h1, h2⟩ := h
  rcases Nat.eq_zero_or_pos zs.length with h | h
  · exact ⟨0, 0, a, cap, rfl, h1, h2, fun h3 => by omega⟩
  · obtain ⟨b, off, ea, hlt, hcell⟩ := hc (fun e => by rw [e] at h; simp at h)
    exact ⟨b, off, a, cap, rfl, h1, h2, fun _ => ⟨ea, hlt, hcell⟩⟩
set_option maxRecDepth 100000 in
set_option maxHeartbeats 1000000 in
theorem specAt_any (v : Value) (zs : List Int) (nm : ByteArray) (w : World) (h : Rd .u8 w v zs) (hbd : ∀ z ∈ zs, 0 ≤ z ∧ z < 256) (hl : zs.length ≤ 262144) (h32 : zs.length % 32 = 0) :
    Calls Tryd.prog 45 #[v, .string nm] w fun e w' => e = .returned (.int .i64 (atI zs nm)) ∧ Below w.heap.size w w' := by
  obtain ⟨b, off, a, cap, rfl, hcap, hcapm, hab⟩ := rd_cells h
  have HSl := hide (slots_any b off cap zs w hcap hcapm hl h32 a (fun h => (hab h).1))
  have HX := hide hbd
  have HA := hide hab
  obtain ⟨N, hN⟩ : ∃ N, N = zs.length / 32 := ⟨_, rfl⟩
  have hNL1 : zs.length ≤ N * 32 := by omega
  have hNL2 : N * 32 ≤ zs.length := by omega
  rw [← hN] at HSl
  have HAt := hide (show atI zs nm = match firstK zs nm N with | some k => (k : Int) | none => -1 from by rw [hN]; rfl)
  clear h hbd hab hN
  unfold maxLen at hcapm
  go_enter Tryd.func45, Tryd.ntmps45
  go_wp2_with (go_at_call 52; fail)
  refine HSl.out.mono ?_
  clear HSl
  rintro e wS ⟨vS, rfl, oS, bS⟩
  obtain ⟨aS, cS, rfl⟩ := ownD_shape oS
  have HS := hide (show 0 < N → ∃ gS, aS = some ⟨gS, 0, none⟩ ∧ gS < wS.heap.size ∧ N ≤ cS ∧ cS ≤ 9223372036854775807 ∧ ∀ j, j < N → wS.cell? ⟨gS, j, none⟩ = some (slotV b off cap j) from by
    intro h0
    obtain ⟨gS, cS', e, hg1, hg2, hc⟩ := own_sliceD oS h0
    injection e with e1 e2 e3
    subst e1
    rcases oS.2 with ⟨e4, _⟩ | ⟨g, cp, cur, e4, _, _, hn1, hn2, _⟩
    · cases e4
    · injection e4 with e5 e6 e7
      subst e7
      refine ⟨gS, rfl, hg2, hn1, hn2, fun j hj => ?_⟩
      have := hc j (slotV b off cap j) (by simp [hj])
      rwa [Addr.add_mid, Nat.zero_add] at this)
  have hBS := hide bS
  clear oS bS
  go_wp2
  go_loopw [12] (fun i wr => ∃ k : Nat, k ≤ N ∧ i = .int .i64 (k : Int) ∧ (∀ j, j < k → atK zs nm j = false) ∧ Below wS.heap.size wS wr) (fun i _ => N - (intOf i).toNat)
  case atStart => exact ⟨0, by omega, rfl, fun j hj => by omega, Below.refl _ _⟩
  case round =>
    obtain ⟨k, hk, rfl, hall, hB⟩ := hrel
    have HAll := hide hall
    have HB := hide hB
    have HW := hide (hBS.out.trans (hB.mono hBS.out.size))
    clear hall hB
    by_cases hlt : k < N
    · obtain ⟨gS, rfl, hgw, hNc, hcc, hcS⟩ := HS.out (by omega)
      have hl1 : k * 32 + 32 ≤ zs.length := by omega
      have hbw := (HA.out (by omega)).2.1
      have hcell := (HA.out (by omega)).2.2
      have c1 : wr.cell? ⟨gS, k, none⟩ = some (.slice (some ⟨b, off + k * 32, none⟩) 32 (cap - k * 32)) := (HB.out.cell (p := ⟨gS, k, none⟩) hgw).trans (hcS k hlt)
      have HRd := hide (show Rd .u8 wr (.slice (some ⟨b, off + k * 32, none⟩) 32 (cap - k * 32)) (slotK zs k) from Rd.cut (k * 32) 32 (Nat.lt_of_lt_of_le hbw HW.out.size) (by unfold maxLen; omega) hcap (fun i hi => (HW.out.cell (p := ⟨b, off + i, none⟩) hbw).trans (hcell i hi)) hl1)
      have HL := hide (show (slotK zs k).length = 32 ∧ ∀ z ∈ slotK zs k, 0 ≤ z ∧ z < 256 from ⟨by unfold slotK; rw [List.length_take, List.length_drop]; omega, fun z hz => HX.out z (List.mem_of_mem_drop (List.mem_of_mem_take hz))⟩)
      clear hcell hcS
      go_wp2_with (go_at_call 46; fail)
      refine (entry_any b (off + k * 32) (cap - k * 32) (slotK zs k) _ HRd.out HL.out.1 HL.out.2).mono ?_
      rintro e w3 ⟨n3, ino3, kd3, rfl, hr3, b3⟩
      have H3 := hide hr3
      have B3 := hide b3
      have HK := hide (show Blk (w3.alloc (.cells (entC ⟨#[]⟩ 0 0) 34)) w3.heap.size (entC ⟨#[]⟩ 0 0) 34 ∧ Below w3.heap.size w3 (w3.alloc (.cells (entC ⟨#[]⟩ 0 0) 34)) from ⟨Blk.new _ _ _, (Below.refl _ _).alloc (Nat.le_refl _) _⟩)
      clear hr3 b3 HRd HL c1
      cases hq : sRight (slotK zs k) with
      | false =>
        have HNo := hide (show ∀ j, j < k + 1 → atK zs nm j = false from fun j hj => by rcases Nat.lt_succ_iff_lt_or_eq.1 hj with h1 | h1; exact HAll.out j h1; subst h1; unfold atK; rw [hq]; rfl)
        clear hq
        go_wp2_with (refine wpList_store_newD w3.heap.size w3 rfl 34 _ _ rfl w3.heap.size (entC n3 ino3 kd3) rfl rfl 34 (entC ⟨#[]⟩ 0 0) HK.out.1 infoD3 rfl entC_one HK.out.2 (Nat.le_refl _) ?_; intro w4 k4 b4; have K4 := hide k4; have B4 := hide b4; clear k4 b4)
        go_roundw
        case rel => exact ⟨k + 1, by omega, by go_num, HNo.out, HB.out.trans ((B3.out.trans (B4.out.mono B3.out.size)).mono HB.out.size)⟩
        case measure => simp [intOf]; omega
      | true =>
        obtain ⟨rfl, rfl, rfl⟩ := H3.out hq
        have HQ := hide hq
        clear hq
        by_cases hnm : (sName (slotK zs k)).toList = nm.toList
        · have HF := hide (show atI zs nm = (k : Int) from by
            rw [HAt.out, firstK_some hlt HAll.out (by unfold atK; rw [HQ.out, hnm]; simp)])
          have hnb : ((sName (slotK zs k)).toList == nm.toList) = true := by rw [hnm]; simp
          clear hnm
          generalize sName (slotK zs k) = n3 at hnb ⊢
          go_wp2_with (refine wpList_store_newD w3.heap.size w3 rfl 34 _ _ rfl w3.heap.size (entC n3 _ _) rfl rfl 34 (entC ⟨#[]⟩ 0 0) HK.out.1 infoD3 rfl entC_one HK.out.2 (Nat.le_refl _) ?_; intro w4 k4 b4; have K4 := hide k4; have cN := (k4.cell 0).trans (show _ = some (.string n3) from rfl); have B4 := hide b4; clear k4 b4)
          go_ret
          exact ⟨ret_int HF.out.symm, HW.out.trans ((B3.out.trans (B4.out.mono B3.out.size)).mono HW.out.size)⟩
        · have HNo := hide (show ∀ j, j < k + 1 → atK zs nm j = false from fun j hj => by rcases Nat.lt_succ_iff_lt_or_eq.1 hj with h1 | h1; exact HAll.out j h1; subst h1; unfold atK; simp [hnm])
          have hnb : ((sName (slotK zs k)).toList == nm.toList) = false := by simp [hnm]
          clear hnm
          generalize sName (slotK zs k) = n3 at hnb ⊢
          go_wp2_with (refine wpList_store_newD w3.heap.size w3 rfl 34 _ _ rfl w3.heap.size (entC n3 _ _) rfl rfl 34 (entC ⟨#[]⟩ 0 0) HK.out.1 infoD3 rfl entC_one HK.out.2 (Nat.le_refl _) ?_; intro w4 k4 b4; have K4 := hide k4; have cN := (k4.cell 0).trans (show _ = some (.string n3) from rfl); have B4 := hide b4; clear k4 b4)
          go_roundw
          case rel => exact ⟨k + 1, by omega, by go_num, HNo.out, HB.out.trans ((B3.out.trans (B4.out.mono B3.out.size)).mono HB.out.size)⟩
          case measure => simp [intOf]; omega
    · obtain rfl : k = N := by omega
      have HF := hide (show atI zs nm = -1 from by rw [HAt.out, firstK_none HAll.out])
      go_wp2
      go_ret
      exact ⟨ret_int HF.out.symm, HW.out⟩
end Go.Proofs.YtcciaojdceejcaaDoor

namespace Go.Proofs.YtcciaojdceejcaaDoor
set_option linter.unusedVariables false
set_option linter.unusedSimpArgs false
open Go.RowKit

/-- What DirFind answers: the slot, the entry, the code. -/
def dfI (zs : List Int) (nm : ByteArray) : Int := if dirOk zs = true then (match firstK zs nm (zs.length / 32) with | some k => (k : Int) | none => 0) else 0
def dfE (zs : List Int) (nm : ByteArray) : ByteArray × Int × Int := if dirOk zs = true then (match firstK zs nm (zs.length / 32) with | some k => slotE zs k | none => (⟨#[]⟩, 0, 0)) else (⟨#[]⟩, 0, 0)
def dfC (zs : List Int) (nm : ByteArray) : Int := if dirOk zs = true then (match firstK zs nm (zs.length / 32) with | some k => 0 | none => 2) else 21
theorem df_bad {zs : List Int} {nm : ByteArray} (h : dirOk zs = false) : dfI zs nm = 0 ∧ dfE zs nm = (⟨#[]⟩, 0, 0) ∧ dfC zs nm = 21 := by simp [dfI, dfE, dfC, h]
theorem df_none {zs : List Int} {nm : ByteArray} (h : dirOk zs = true) (hf : firstK zs nm (zs.length / 32) = none) : dfI zs nm = 0 ∧ dfE zs nm = (⟨#[]⟩, 0, 0) ∧ dfC zs nm = 2 := by simp [dfI, dfE, dfC, h, hf]
theorem df_some {zs : List Int} {nm : ByteArray} {k : Nat} (h : dirOk zs = true) (hf : firstK zs nm (zs.length / 32) = some k) : dfI zs nm = (k : Int) ∧ dfE zs nm = slotE zs k ∧ dfC zs nm = 0 := by simp [dfI, dfE, dfC, h, hf]
def dfV (i : Int) (e : ByteArray × Int × Int) (c : Int) : Value := .tuple #[.int .i64 i, .agg (entC e.1 e.2.1 e.2.2), .int .i64 c]
theorem dirOk_len {zs : List Int} (h : dirOk zs = true) : zs.length % 512 = 0 ∧ zs.length ≤ 262144 := by
  unfold dirOk at h
  simp only [Bool.and_eq_true, decide_eq_true_eq] at h
  exact ⟨h.1, h.2.1⟩
theorem results_tct {P : Program} {fn : Func} {t p u : Tmp} {ty : TypeId} (h : fn.results = #[.tmp t, .cell p ty, .tmp u]) (tmps : Array Value) (w : World) (g : Nat) (ti : TypeId) (cs : Array Value) (fr : Nat × Nat) (d : TypeDesc) (x y : Value)
    (ht : tmps.getD t undef = x) (hp : tmps.getD p undef = .pointer (some ⟨g, 0, none⟩)) (hy : tmps.getD u undef = y) (hg : w.heap[g]? = some (.cells cs ti fr))
    (hu : P.underlying ty = some d) (hd : (match d with | .struct _ | .array _ _ => true | _ => false) = true) (hi : (P.info? ty).map (·.size) = some cs.size) :
    (results fn tmps).run P w = .ok (.tuple #[x, .agg cs, y]) w := by
  simp only [results, h]
  simp [Sem.run_bind, Result.andThen, ← Array.getD_eq_getD_getElem?, ht, hp, hy, asAddr, run_loadVar_row w g ti ty cs fr d hg hu hd hi]
set_option maxRecDepth 100000 in
set_option maxHeartbeats 1000000 in
theorem specDF_any (v : Value) (zs : List Int) (nm : ByteArray) (w : World) (h : Rd .u8 w v zs) (hbd : ∀ z ∈ zs, 0 ≤ z ∧ z < 256) :
    Calls Tryd.prog 23 #[v, .string nm] w fun e w' => e = .returned (dfV (dfI zs nm) (dfE zs nm) (dfC zs nm)) ∧ Below w.heap.size w w' := by
  have hsh := rd_cells h
  obtain ⟨b, off, a, cap, rfl, hcap, hcapm, hab⟩ := hsh
  have HR := hide h
  have HX := hide hbd
  have HA := hide hab
  have B0 := hide (show Below w.heap.size w (w.alloc (.cells (entC ⟨#[]⟩ 0 0) 34)) from (Below.refl _ _).alloc (Nat.le_refl _) _)
  have K0 := hide (Blk.new w (entC ⟨#[]⟩ 0 0) 34)
  unfold maxLen at hcapm
  clear h hbd hab
  go_enter Tryd.func23, Tryd.ntmps23
  go_wp2_with (go_at_call 9; fail)
  refine (specDC_any _ zs _ (HR.out.below B0.out) HX.out).mono ?_
  rintro e w1 ⟨rfl, b1⟩
  have K1 := hide (K0.out.below b1 K0.out.lt)
  have B1 := hide (B0.out.trans (b1.mono B0.out.size))
  clear b1 K0 B0
  cases hok : dirOk zs with
  | false =>
    have HD := hide (df_bad (nm := nm) hok)
    have hcd : codeDC zs = 21 := by simp [codeDC, hok]
    rw [hcd]
    clear hok hcd
    go_wp2_with (refine wpList_store_row rfl 34 _ _ rfl w.heap.size (entC ⟨#[]⟩ 0 0) rfl rfl 34 _ K1.out infoD3 rfl entC_one ?_)
    refine bodyPost_ret (v := dfV (dfI zs nm) (dfE zs nm) (dfC zs nm)) ?_ rfl ⟨rfl, below_setRow B1.out (Nat.le_refl _) _⟩
    rw [HD.out.1, HD.out.2.1, HD.out.2.2]
    exact results_tct rfl _ _ w.heap.size 34 (entC ⟨#[]⟩ 0 0) (0, 0) _ _ _ rfl rfl rfl (K1.out.row _) Tryd.underlying34 rfl infoD3
  | true =>
    have hcd : codeDC zs = 0 := by simp [codeDC, hok]
    rw [hcd]
    have HL := hide (dirOk_len hok)
    have HOk := hide hok
    clear hok hcd
    go_wp2_with (go_at_call 45; fail)
    refine (specAt_any _ zs nm _ (HR.out.below B1.out) HX.out HL.out.2 (by have := HL.out.1; omega)).mono ?_
    rintro e w2 ⟨rfl, b2⟩
    have K2 := hide (K1.out.below b2 K1.out.lt)
    have B2 := hide (B1.out.trans (b2.mono B1.out.size))
    clear b2 K1 B1
    cases hf : firstK zs nm (zs.length / 32) with
    | none =>
      have HD := hide (df_none HOk.out hf)
      have hat : atI zs nm = -1 := by simp [atI, hf]
      rw [hat]
      clear hf hat
      go_wp2_with (refine wpList_store_row rfl 34 _ _ rfl w.heap.size (entC ⟨#[]⟩ 0 0) rfl rfl 34 _ K2.out infoD3 rfl entC_one ?_)
      refine bodyPost_ret (v := dfV (dfI zs nm) (dfE zs nm) (dfC zs nm)) ?_ rfl ⟨rfl, below_setRow B2.out (Nat.le_refl _) _⟩
      rw [HD.out.1, HD.out.2.1, HD.out.2.2]
      exact results_tct rfl _ _ w.heap.size 34 (entC ⟨#[]⟩ 0 0) (0, 0) _ _ _ rfl rfl rfl (K2.out.row _) Tryd.underlying34 rfl infoD3
    | some k =>
      have HD := hide (df_some HOk.out hf)
      have hat : atI zs nm = (k : Int) := by simp [atI, hf]
      rw [hat]
      have hfl := firstK_lt hf
      have hkl : k * 32 + 32 ≤ zs.length := by have := hfl.1; omega
      have HQ := hide (show sRight (slotK zs k) = true from by have := hfl.2; unfold atK at this; rw [Bool.and_eq_true] at this; exact this.1)
      have hbw := (HA.out (by omega)).2.1
      have hcell := (HA.out (by omega)).2.2
      obtain rfl := (HA.out (by omega)).1
      have HRk := hide (show Rd .u8 w2 (.slice (some ⟨b, off + k * 32, none⟩) 32 (cap - k * 32)) (slotK zs k) from Rd.cut (k * 32) 32 (Nat.lt_of_lt_of_le hbw B2.out.size) (by unfold maxLen; omega) hcap (fun i hi => (B2.out.cell (p := ⟨b, off + i, none⟩) hbw).trans (hcell i hi)) hkl)
      have HL2 := hide (show (slotK zs k).length = 32 ∧ ∀ z ∈ slotK zs k, 0 ≤ z ∧ z < 256 from ⟨by unfold slotK; rw [List.length_take, List.length_drop]; omega, fun z hz => HX.out z (List.mem_of_mem_drop (List.mem_of_mem_take hz))⟩)
      clear hf hat hfl hcell
      rw [Nat.mul_comm k 32] at HRk
      go_wp2_with (go_at_call 46; fail)
      refine (entry_any b (off + 32 * k) (cap - 32 * k) (slotK zs k) _ HRk.out HL2.out.1 HL2.out.2).mono ?_
      rintro e w3 ⟨n3, i3, d3, rfl, hr3, b3⟩
      have HE := hide (show slotE zs k = (n3, i3, d3) from by
        obtain ⟨rfl, rfl, rfl⟩ := hr3 HQ.out
        unfold slotE
        rw [if_neg (by rw [right_notZero HQ.out]; decide)])
      rw [HQ.out]
      have K3 := hide (K2.out.below b3 K2.out.lt)
      have hlt3 := K3.out.lt
      have B3 := hide (B2.out.trans (b3.mono B2.out.size))
      have HK := hide (show Blk (w3.alloc (.cells (entC ⟨#[]⟩ 0 0) 34)) w3.heap.size (entC ⟨#[]⟩ 0 0) 34 ∧ Below w3.heap.size w3 (w3.alloc (.cells (entC ⟨#[]⟩ 0 0) 34)) from ⟨Blk.new _ _ _, (Below.refl _ _).alloc (Nat.le_refl _) _⟩)
      clear hr3 b3 HRk HL2 B2 K2
      go_wp2_with (refine wpList_store_newD w3.heap.size w3 rfl 34 _ _ rfl w3.heap.size (entC n3 i3 d3) rfl rfl 34 (entC ⟨#[]⟩ 0 0) HK.out.1 infoD3 rfl entC_one HK.out.2 (Nat.le_refl _) ?_; intro w4 k4 b4; have K4 := hide k4; have R4 := hide (K3.out.below b4 K3.out.lt); have B4 := hide (B3.out.trans (b4.mono B3.out.size)); clear k4 b4)
      refine wp_region_noPanic ?_
      refine wp_region_held_drew (S := fun w' => Blk w' w3.heap.size (entC n3 i3 d3) 34) (by kernel_rfl) K4.out (fun hH => ?_)
      refine wpAnyH_take (i := 0) (oi := _) (v := .int .i64 (k : Int)) rfl (by kernel_rfl) (by kernel_rfl) (by kernel_rfl) (fun _ _ _ h => h) (Or.inl ⟨by rfl, fun w' hw' => by go_simp⟩) hH ?_
      try simp only [Act.put, List.getElem_toArray, List.getElem_cons_zero, List.getElem_cons_succ, List.setIfInBounds_toArray, List.set_cons_zero, List.set_cons_succ]
      refine wpAnyH_take (i := 1) (oi := _) (v := .agg (entC n3 i3 d3)) rfl (by kernel_rfl) (by kernel_rfl) (by kernel_rfl) (fun _ _ _ h => h) (yieldsIf_load_mid (by rfl) 34 _ rfl w3.heap.size 0 rfl (entC n3 i3 d3).toList _ (fun w' h => ent_range h) Tryd.underlying34 rfl infoD3) hH ?_
      try simp only [Act.put, List.getElem_toArray, List.getElem_cons_zero, List.getElem_cons_succ, List.setIfInBounds_toArray, List.set_cons_zero, List.set_cons_succ]
      refine wpAnyH_take (i := 2) (oi := _) (v := .int .i64 (k : Int)) rfl (by kernel_rfl) (by kernel_rfl) (by kernel_rfl) (fun _ _ _ h => h) (Or.inl ⟨by rfl, fun w' hw' => by go_simp⟩) hH ?_
      try simp only [Act.put, List.getElem_toArray, List.getElem_cons_zero, List.getElem_cons_succ, List.setIfInBounds_toArray, List.set_cons_zero, List.set_cons_succ]
      refine wpAnyH_ready (rs := [3]) (by kernel_rfl) (by simp) ?_
      refine AllReadyH.cons (o := _) rfl (fun K hK => ?_) AllReadyH.nil
      rw [if_pos (by rfl)]
      refine wp_store_row 34 _ _ rfl w.heap.size (entC n3 i3 d3) rfl rfl 34 (entC ⟨#[]⟩ 0 0) R4.out infoD3 rfl entC_one ?_
      refine hK.out _ _ ((setRow_block _ _ _ _ (by omega)).trans hH) (fun hH9 => ?_)
      clear hK K
      try simp only [Act.put, List.getElem_toArray, List.getElem_cons_zero, List.getElem_cons_succ, List.setIfInBounds_toArray, List.set_cons_zero, List.set_cons_succ]
      refine wpAnyH_take (i := 4) (oi := _) (v := .int .i64 0) rfl (by kernel_rfl) (by kernel_rfl) (by kernel_rfl) (fun _ _ _ h => h) (Or.inl ⟨by rfl, fun w' hw' => by go_simp⟩) hH9 ?_
      try simp only [Act.put, List.getElem_toArray, List.getElem_cons_zero, List.getElem_cons_succ, List.setIfInBounds_toArray, List.set_cons_zero, List.set_cons_succ]
      refine wpAnyH_done (by kernel_rfl) (NoPanic.normal ?_) _
      clear hH hH9
      go_wp2
      refine bodyPost_ret (v := dfV (dfI zs nm) (dfE zs nm) (dfC zs nm)) ?_ rfl ⟨rfl, below_setRow (w := World.drew w4) B4.out.drew (Nat.le_refl _) _⟩
      rw [HD.out.1, HD.out.2.1, HD.out.2.2, HE.out]
      exact results_tct rfl _ _ w.heap.size 34 (entC n3 i3 d3) (0, 0) _ _ _ rfl rfl rfl (Blk.row (w := World.drew w4) R4.out _) Tryd.underlying34 rfl infoD3
end Go.Proofs.YtcciaojdceejcaaDoor

namespace Go.Proofs.YtcciaojdceejcaaDoor
set_option linter.unusedVariables false
set_option linter.unusedSimpArgs false
open Go.RowKit

/-- openDirectory, whatever the length. -/
theorem openDir_all (H : Type) (cap : Nat) (a : Option Addr) (zs : List Int) (w : World) (h : Rd .u8 w (.slice a zs.length cap) zs) (hbd : ∀ z ∈ zs, 0 ≤ z ∧ z < 256) :
    Calls Tryd.prog 36 #[.slice a zs.length cap] w fun e w' => ∃ v ev, e = .returned (.tuple #[v, ev]) ∧ FaultIs w' w.heap.size (dirOk zs) ev 21 ∧ Below w.heap.size w w' ∧ (dirOk zs = true → ∃ d mb nn v', v = .pointer (some ⟨d, 0, none⟩) ∧ w.heap.size ≤ d ∧ w.heap.size ≤ mb ∧ nn ≤ zs.length / 32 ∧ Dr (H := H) w.heap.size w' d mb (zs.length / 32) nn v' (entsI (slotsL zs (zs.length / 32))) (mapR H zs (List.range (zs.length / 32)).reverse)) := by
  by_cases h512 : zs.length % 512 = 0
  · by_cases hl : zs.length ≤ 262144
    · exact openDir_ok (H := H) 0 0 cap a zs w h hbd hl h512
    · refine (openDir_long cap a zs w h h512 (by omega)).mono ?_
      rintro e w' ⟨v, ev, rfl, h1, h2⟩
      have hf : dirOk zs = false := by simp [dirOk, hl]
      exact ⟨v, ev, rfl, .inr ⟨hf, h1⟩, h2, fun h => by rw [hf] at h; cases h⟩
  · refine (openDir_odd cap a zs w h h512).mono ?_
    rintro e w' ⟨v, ev, rfl, h1, h2⟩
    have hf : dirOk zs = false := by simp [dirOk, h512]
    exact ⟨v, ev, rfl, .inr ⟨hf, h1⟩, h2, fun h => by rw [hf] at h; cases h⟩
theorem lookK {H : Type} {w : World} {mb nn : Nat} {D : DataW H} (h : w.ownsMap Tryd.prog 9 (plainElem (H := H) Tryd.prog 3) mb nn D) (nm : ByteArray) (hnm : nm.size ≤ maxLen) :
    ∃ c : Int, (Instr.lookup 66 (.map (some mb)) (.string nm) true).run Tryd.prog w = .ok (.tuple #[.int .i64 c, .bool (Maps.has D (.string nm.data.toList))]) w ∧ D.atKey (.string nm.data.toList) (.lit (.int .i64 0)) = .lit (.int .i64 c) := by
  obtain ⟨v, ps, hrun, hv⟩ := h.look_ok (Maps.string_keyed Tryd.underlying9) Tryd.underlying66 (z := .int .i64 0) (Tryd.zeroValue3 _) (plainElem_int Tryd.underlying3 (by decide)) (WideMaps.keyOf_string_mk Tryd.underlying9 hnm)
  obtain ⟨c, rfl, hc, _⟩ := plainElem_int_inv Tryd.underlying3 hv
  exact ⟨c, hrun, congrArg Prod.fst hc⟩
theorem entsI_at {L : List (ByteArray × Int × Int)} {k : Nat} {e : ByteArray × Int × Int} (h : L[k]? = some e) : ∀ j u, (entC e.1 e.2.1 e.2.2).toList[j]? = some u → (entsI L)[k * 3 + j]? = some u := by
  intro j u hu
  have hx := ext_ent L k e h
  have h2 : ((entsI L).toArray.extract (k * 3) (k * 3 + 3)).toList[j]? = some u := by rw [hx]; exact hu
  have hj : j < 3 := by
    rcases Nat.lt_or_ge j 3 with h1 | h1
    · exact h1
    · rw [List.getElem?_eq_none (by simp [entC]; omega)] at hu; cases hu
  simp [hj] at h2
  exact h2

set_option maxRecDepth 100000 in
set_option maxHeartbeats 2000000 in
theorem implDF_any (v : Value) (zs : List Int) (nm : ByteArray) (w : World) (h : Rd .u8 w v zs) (hbd : ∀ z ∈ zs, 0 ≤ z ∧ z < 256) (hnm : nm.size ≤ maxLen) (hg : ErrT w) :
    Calls Tryd.prog 17 #[v, .string nm] w fun e w' => e = .returned (dfV (dfI zs nm) (dfE zs nm) (dfC zs nm)) ∧ Below w.heap.size w w' := by
  have hsh : ∃ a cap, v = .slice a zs.length cap := by obtain ⟨a, cap, h1, _⟩ := h; exact ⟨a, cap, h1⟩
  obtain ⟨a, cap, rfl⟩ := hsh
  have HR := hide h
  have HX := hide hbd
  have HG := hide hg
  have B0 := hide (show Below w.heap.size w (w.alloc (.cells (entC ⟨#[]⟩ 0 0) 34)) from (Below.refl _ _).alloc (Nat.le_refl _) _)
  have K0 := hide (Blk.new w (entC ⟨#[]⟩ 0 0) 34)
  clear h hbd hg
  go_enter Tryd.func17, Tryd.ntmps17
  go_wp2_with (go_at_call 36; fail)
  refine (openDir_all Unit cap a zs _ (HR.out.below B0.out) HX.out).mono ?_
  rintro e w1 ⟨v1, ev, rfl, hf, b1, hd⟩
  have K1 := hide (K0.out.below b1 K0.out.lt)
  have B1 := hide (B0.out.trans (b1.mono B0.out.size))
  rw [World.size_alloc] at hf hd
  clear b1 K0 B0
  rcases hf with ⟨hok, rfl⟩ | ⟨hok, m, hF⟩
  · obtain ⟨d, mb, nn, v', rfl, hdl, hdm, hnn, hdr⟩ := hd hok
    have HL := hide (dirOk_len hok)
    have HOk := hide hok
    have HDr := hide hdr
    have cM : w1.cell? ⟨d, 1, none⟩ = some (.map (some mb)) := (hdr.blk.cell 1).trans rfl
    obtain ⟨lc, hlk, hat⟩ := lookK hdr.map nm hnm
    have hes : ∃ es, entT zs (zs.length / 32) = some es := by
      have h := hok
      rw [dirOk_eq HL.out.1 HL.out.2, Bool.and_eq_true] at h
      exact Option.isSome_iff_exists.1 h.1
    obtain ⟨es, hes⟩ := hes
    obtain ⟨hm1, hm2⟩ := map_first Unit nm hes
    rw [hm1] at hlk
    clear hd hok hdr hm1
    cases hf : firstK zs nm (zs.length / 32) with
    | none =>
      have HD := hide (df_none HOk.out hf)
      rw [hf] at hlk
      have hlk2 : (Instr.lookup 66 (.map (some mb)) (.string nm) true).run Tryd.prog w1 = .ok (.tuple #[.int .i64 lc, .bool false]) w1 := hlk
      clear hf hlk hat hm2 hes
      go_wp2_with (refine wpList_store_row rfl 34 _ _ rfl w.heap.size (entC ⟨#[]⟩ 0 0) rfl rfl 34 _ K1.out infoD3 rfl entC_one ?_)
      refine bodyPost_ret (v := dfV (dfI zs nm) (dfE zs nm) (dfC zs nm)) ?_ rfl ⟨rfl, below_setRow B1.out (Nat.le_refl _) _⟩
      rw [HD.out.1, HD.out.2.1, HD.out.2.2]
      exact results_tct rfl _ _ w.heap.size 34 (entC ⟨#[]⟩ 0 0) (0, 0) _ _ _ rfl rfl rfl (K1.out.row _) Tryd.underlying34 rfl infoD3
    | some k =>
      have HD := hide (df_some HOk.out hf)
      have hlc : lc = (k : Int) := by
        have h1 := hm2 k hf
        rw [hat] at h1
        injection h1 with h1
        injection h1
      rw [hf, hlc] at hlk
      have hlk2 : (Instr.lookup 66 (.map (some mb)) (.string nm) true).run Tryd.prog w1 = .ok (.tuple #[.int .i64 (k : Int), .bool true]) w1 := hlk
      have hkN := (firstK_lt hf).1
      have hN8 : zs.length / 32 ≤ 8192 := by have := HL.out.2; omega
      obtain ⟨g, cp, rfl, hg1, hg2, hgc⟩ := own_sliceD HDr.out.own (by omega)
      have hcp : zs.length / 32 ≤ cp ∧ cp ≤ 9223372036854775807 := by
        rcases HDr.out.own.2 with ⟨e4, _⟩ | ⟨g', cp', cur, e4, _, _, hn1, hn2, _⟩
        · cases e4
        · injection e4 with e5 e6 e7
          subst e7
          exact ⟨hn1, hn2⟩
      have HRg := hide (show w1.rangeAt g (k * 3) (entC (slotE zs k).1 (slotE zs k).2.1 (slotE zs k).2.2).toList from by
        intro j u hu
        have hL : (slotsL zs (zs.length / 32))[k]? = some (slotE zs k) := by simp [slotsL, hkN]
        have h1 := hgc (k * 3 + j) u (entsI_at hL j u hu)
        rwa [Addr.add_mid, Nat.zero_add] at h1)
      have cE : w1.cell? ⟨d, 0, none⟩ = some (.slice (some ⟨g, 0, none⟩) (zs.length / 32) cp) := (HDr.out.blk.cell 0).trans rfl
      have HcE := hide cE
      have hdw := HDr.out.blk.lt
      have hkI : ¬ ((zs.length : Int) / 32 ≤ (k : Int)) := by omega
      have hkJ : (k : Int) < (zs.length : Int) / 32 := by omega
      have hkK : k < zs.length / 32 := hkN
      clear hf hlk hat hm2 hes hlc hgc
      go_wp2_with fail
      refine wp_region_noPanic ?_
      refine wp_region_held_drew (S := fun w' => w'.cell? ⟨d, 0, none⟩ = some (.slice (some ⟨g, 0, none⟩) (zs.length / 32) cp) ∧ w'.rangeAt g (k * 3) (entC (slotE zs k).1 (slotE zs k).2.1 (slotE zs k).2.2).toList) (by kernel_rfl) ⟨HcE.out, HRg.out⟩ (fun hH => ?_)
      refine wpAnyH_take (i := 0) (oi := _) (v := .int .i64 (k : Int)) rfl (by kernel_rfl) (by kernel_rfl) (by kernel_rfl) (fun _ _ _ h => h) (Or.inl ⟨by rfl, fun w' hw' => by go_simp⟩) hH ?_
      try simp only [Act.put, List.getElem_toArray, List.getElem_cons_zero, List.getElem_cons_succ, List.setIfInBounds_toArray, List.set_cons_zero, List.set_cons_succ]
      refine wpAnyH_take (i := 1) (oi := _) (v := .pointer (some ⟨d, 0, none⟩)) rfl (by kernel_rfl) (by kernel_rfl) (by kernel_rfl) (fun _ _ _ h => h) (Or.inl ⟨by rfl, fun w' hw' => by go_simp⟩) hH ?_
      try simp only [Act.put, List.getElem_toArray, List.getElem_cons_zero, List.getElem_cons_succ, List.setIfInBounds_toArray, List.set_cons_zero, List.set_cons_succ]
      refine wpAnyH_take (i := 2) (oi := _) (v := .pointer (some ⟨d, 0, none⟩)) rfl (by kernel_rfl) (by kernel_rfl) (by kernel_rfl) (fun _ _ _ h => h) (Or.inl ⟨by rfl, fun w' hw' => by go_simp⟩) hH ?_
      try simp only [Act.put, List.getElem_toArray, List.getElem_cons_zero, List.getElem_cons_succ, List.setIfInBounds_toArray, List.set_cons_zero, List.set_cons_succ]
      refine wpAnyH_take (i := 3) (oi := _) (v := .pointer (some ⟨d, 0, none⟩)) rfl (by kernel_rfl) (by kernel_rfl) (by kernel_rfl) (fun _ _ _ h => h) (Or.inl ⟨by rfl, fun w' hw' => by go_simp⟩) hH ?_
      try simp only [Act.put, List.getElem_toArray, List.getElem_cons_zero, List.getElem_cons_succ, List.setIfInBounds_toArray, List.set_cons_zero, List.set_cons_succ]
      refine wpAnyH_take (i := 4) (oi := _) (v := .slice (some ⟨g, 0, none⟩) (zs.length / 32) cp) rfl (by kernel_rfl) (by kernel_rfl) (by kernel_rfl) (fun _ _ _ h => h) (Or.inl ⟨by rfl, fun w' hw' => by have hc := hw'.1; clear hw'; go_simp⟩) hH ?_
      try simp only [Act.put, List.getElem_toArray, List.getElem_cons_zero, List.getElem_cons_succ, List.setIfInBounds_toArray, List.set_cons_zero, List.set_cons_succ]
      refine wpAnyH_take (i := 5) (oi := _) (v := .int .i64 (k : Int)) rfl (by kernel_rfl) (by kernel_rfl) (by kernel_rfl) (fun _ _ _ h => h) (Or.inl ⟨by rfl, fun w' hw' => by go_simp⟩) hH ?_
      try simp only [Act.put, List.getElem_toArray, List.getElem_cons_zero, List.getElem_cons_succ, List.setIfInBounds_toArray, List.set_cons_zero, List.set_cons_succ]
      refine wpAnyH_take (i := 6) (oi := _) (v := .pointer (some ⟨g, k * 3, none⟩)) rfl (by kernel_rfl) (by kernel_rfl) (by kernel_rfl) (fun _ _ _ h => h) (Or.inl ⟨by rfl, fun w' hw' => by go_simp⟩) hH ?_
      try simp only [Act.put, List.getElem_toArray, List.getElem_cons_zero, List.getElem_cons_succ, List.setIfInBounds_toArray, List.set_cons_zero, List.set_cons_succ]
      refine wpAnyH_take (i := 7) (oi := _) (v := .agg (entC (slotE zs k).1 (slotE zs k).2.1 (slotE zs k).2.2)) rfl (by kernel_rfl) (by kernel_rfl) (by kernel_rfl) (fun _ _ _ h => h) (yieldsIf_load_mid (by rfl) 34 _ rfl g (k * 3) rfl (entC (slotE zs k).1 (slotE zs k).2.1 (slotE zs k).2.2).toList _ (fun w' h => h.2) Tryd.underlying34 rfl infoD3) hH ?_
      try simp only [Act.put, List.getElem_toArray, List.getElem_cons_zero, List.getElem_cons_succ, List.setIfInBounds_toArray, List.set_cons_zero, List.set_cons_succ]
      refine wpAnyH_take (i := 8) (oi := _) (v := .int .i64 (k : Int)) rfl (by kernel_rfl) (by kernel_rfl) (by kernel_rfl) (fun _ _ _ h => h) (Or.inl ⟨by rfl, fun w' hw' => by go_simp⟩) hH ?_
      try simp only [Act.put, List.getElem_toArray, List.getElem_cons_zero, List.getElem_cons_succ, List.setIfInBounds_toArray, List.set_cons_zero, List.set_cons_succ]
      refine wpAnyH_ready (rs := [9]) (by kernel_rfl) (by simp) ?_
      refine AllReadyH.cons (o := _) rfl (fun K hK => ?_) AllReadyH.nil
      rw [if_pos (by rfl)]
      refine wp_store_row 34 _ _ rfl w.heap.size (entC (slotE zs k).1 (slotE zs k).2.1 (slotE zs k).2.2) rfl rfl 34 (entC ⟨#[]⟩ 0 0) K1.out infoD3 rfl entC_one ?_
      refine hK.out _ _ ⟨(World.cell?_of_block (a := ⟨d, 0, none⟩) (setRow_block _ _ _ _ (by show d ≠ w.heap.size; omega))).trans hH.1, fun j u hu => (World.cell?_of_block (a := ⟨g, k * 3 + j, none⟩) (setRow_block _ _ _ _ (by show g ≠ w.heap.size; omega))).trans (hH.2 j u hu)⟩ (fun hH9 => ?_)
      clear hK K
      try simp only [Act.put, List.getElem_toArray, List.getElem_cons_zero, List.getElem_cons_succ, List.setIfInBounds_toArray, List.set_cons_zero, List.set_cons_succ]
      refine wpAnyH_take (i := 10) (oi := _) (v := .int .i64 0) rfl (by kernel_rfl) (by kernel_rfl) (by kernel_rfl) (fun _ _ _ h => h) (Or.inl ⟨by rfl, fun w' hw' => by go_simp⟩) hH9 ?_
      try simp only [Act.put, List.getElem_toArray, List.getElem_cons_zero, List.getElem_cons_succ, List.setIfInBounds_toArray, List.set_cons_zero, List.set_cons_succ]
      refine wpAnyH_done (by kernel_rfl) (NoPanic.normal ?_) _
      clear hH hH9
      go_wp2
      refine bodyPost_ret (v := dfV (dfI zs nm) (dfE zs nm) (dfC zs nm)) ?_ rfl ⟨rfl, below_setRow (w := World.drew w1) B1.out.drew (Nat.le_refl _) _⟩
      rw [HD.out.1, HD.out.2.1, HD.out.2.2]
      exact results_tct rfl _ _ w.heap.size 34 (entC (slotE zs k).1 (slotE zs k).2.1 (slotE zs k).2.2) (0, 0) _ _ _ rfl rfl rfl (Blk.row (w := World.drew w1) K1.out _) Tryd.underlying34 rfl infoD3
  · obtain ⟨t6, x6, rfl⟩ := hF.iface
    have HD := hide (df_bad (nm := nm) hok)
    have HF := hide hF
    clear hd hok hF
    go_wp2_with (go_at_call 37; fail)
    refine (codeOf_any m _ 21 _ _ HF.out (HG.out.below B1.out)).mono ?_
    rintro e w2 ⟨rfl, b2⟩
    have K2 := hide (K1.out.below b2 K1.out.lt)
    have B2 := hide (B1.out.trans (b2.mono B1.out.size))
    clear b2 K1 B1
    go_wp2_with (refine wpList_store_row rfl 34 _ _ rfl w.heap.size (entC ⟨#[]⟩ 0 0) rfl rfl 34 _ K2.out infoD3 rfl entC_one ?_)
    refine bodyPost_ret (v := dfV (dfI zs nm) (dfE zs nm) (dfC zs nm)) ?_ rfl ⟨rfl, below_setRow B2.out (Nat.le_refl _) _⟩
    rw [HD.out.1, HD.out.2.1, HD.out.2.2]
    exact results_tct rfl _ _ w.heap.size 34 (entC ⟨#[]⟩ 0 0) (0, 0) _ _ _ rfl rfl rfl (K2.out.row _) Tryd.underlying34 rfl infoD3
end Go.Proofs.YtcciaojdceejcaaDoor

namespace Go.Proofs.YtcciaojdceejcaaDoor
set_option linter.unusedVariables false
set_option linter.unusedSimpArgs false
open Go.RowKit

theorem wpList_load_midD {P : Program} {ops : Array Oper} {rest : List Oper} {op : Oper} {a : Act} {w : World} {Q : Exit → Act → World → Prop} (hw : Region.wanted op (yielded ops a.tmps) = true) (ty : TypeId) (x : Operand) (ho : op.op = .load ty x)
    (b o : Nat) (hx : a.eval x = .pointer (some ⟨b, o, none⟩)) (cs : List Value) (d : TypeDesc) (hc : w.rangeAt b o cs)
    (hu : P.underlying ty = some d) (hd : d.isRow = true) (hi : (P.info? ty).map (·.size) = some cs.length)
    (h : wpList P ops Q rest (a.put op.dst (.agg cs.toArray)) w) : wpList P ops Q (op :: rest) a w :=
  Go.BigFrame.wpList_want hw fun _ hK => wp_load_mid ty x ho b o hx cs d hc hu hd hi (hK _ _ h)
theorem eqDirent_same (e : ByteArray × Int × Int) (w : World) :
    Calls Tryd.prog 24 #[.agg (entC e.1 e.2.1 e.2.2), .agg (entC e.1 e.2.1 e.2.2)] w fun x w' => x = .returned (.bool true) ∧ Below w.heap.size w w' := by
  obtain ⟨nm, i, k⟩ := e
  have HB := hide (show ∀ o o2, Below w.heap.size w ((w.alloc o).alloc o2) from fun o o2 => ((Below.refl _ _).alloc (Nat.le_refl _) o).alloc (by simp) o2)
  unfold entC
  go_enter Tryd.func24, Tryd.ntmps24
  go_wp2
  go_ret
  exact ⟨rfl, HB.out _ _⟩

set_option maxRecDepth 100000 in
set_option maxHeartbeats 1000000 in
theorem lawDirF (v : Value) (zs : List Int) (nm : ByteArray) (w : World) (h : Rd .u8 w v zs) (hbd : ∀ z ∈ zs, 0 ≤ z ∧ z < 256) (hnm : nm.size ≤ maxLen) (hg : ErrT w) :
    Calls Tryd.prog 5 #[v, .string nm] w fun e w' => e = .returned (.bool true) ∧ Below w.heap.size w w' := by
  have hm := h.len
  have hq := hnm
  unfold maxLen at hm hq
  have HN := hide hnm
  have HR := hide h
  have HB := hide hbd
  have HG := hide hg
  have hsh : ∃ a cap, v = .slice a zs.length cap := by obtain ⟨a, cap, h1, _⟩ := h; exact ⟨a, cap, h1⟩
  obtain ⟨a, cap, rfl⟩ := hsh
  clear h hbd hg hnm
  by_cases hbig : (1048576 : Int) < (zs.length : Int)
  · go_enter Tryd.func5, Tryd.ntmps5
    go_wp2
    go_ret
    exact ⟨rfl, Below.refl _ _⟩
  by_cases hbig2 : (1048576 : Int) < (nm.size : Int)
  · go_enter Tryd.func5, Tryd.ntmps5
    go_wp2
    go_ret
    exact ⟨rfl, Below.refl _ _⟩
  have hsm : zs.length ≤ 1048576 := by omega
  have hsn : nm.size ≤ 1048576 := by omega
  clear hbig hbig2
  go_enter Tryd.func5, Tryd.ntmps5
  go_wp2_with fail
  refine (toByteS_any _ zs _ HR.out (by omega)).mono ?_
  rintro e w1 ⟨v1, rfl, o1, b1⟩
  have R1 := hide (Rd.own o1)
  have B1 := hide b1
  clear o1 b1
  go_wp2_with (go_at_call 23; fail)
  refine (specDF_any v1 zs nm _ R1.out HB.out).mono ?_
  rintro e w2 ⟨rfl, b2⟩
  unfold dfV
  have B2 := hide (B1.out.trans (b2.mono B1.out.size))
  have HK2 := hide (show Blk (w2.alloc (.cells (entC ⟨#[]⟩ 0 0) 34)) w2.heap.size (entC ⟨#[]⟩ 0 0) 34 ∧ Below w2.heap.size w2 (w2.alloc (.cells (entC ⟨#[]⟩ 0 0) 34)) from ⟨Blk.new _ _ _, (Below.refl _ _).alloc (Nat.le_refl _) _⟩)
  clear b2 R1 B1
  go_wp2_with first
    | (go_at_call 10; fail)
    | (refine wpList_store_newD w2.heap.size w2 rfl 34 _ _ rfl w2.heap.size (entC (dfE zs nm).1 (dfE zs nm).2.1 (dfE zs nm).2.2) rfl rfl 34 (entC ⟨#[]⟩ 0 0) HK2.out.1 infoD3 rfl entC_one HK2.out.2 (Nat.le_refl _) ?_; intro w3 k3 b3; have K3 := hide k3; have B3 := hide (B2.out.trans (b3.mono B2.out.size)); clear k3 b3 HK2)
  refine (toByteS_any _ zs _ (HR.out.below B3.out) (by omega)).mono ?_
  rintro e w4 ⟨v4, rfl, o4, b4⟩
  have R4 := hide (Rd.own o4)
  have K4 := hide (K3.out.below b4 K3.out.lt)
  have B4 := hide (B3.out.trans (b4.mono B3.out.size))
  clear o4 b4 B3 K3 B2
  go_wp2_with (go_at_call 17; fail)
  refine (implDF_any v4 zs nm _ R4.out HB.out HN.out (HG.out.below B4.out)).mono ?_
  rintro e w5 ⟨rfl, b5⟩
  unfold dfV
  have R5 := hide (R4.out.below b5)
  have K5 := hide (K4.out.below b5 K4.out.lt)
  have B5 := hide (B4.out.trans (b5.mono B4.out.size))
  have HK5 := hide (show Blk (w5.alloc (.cells (entC ⟨#[]⟩ 0 0) 34)) w5.heap.size (entC ⟨#[]⟩ 0 0) 34 ∧ Below w5.heap.size w5 (w5.alloc (.cells (entC ⟨#[]⟩ 0 0) 34)) from ⟨Blk.new _ _ _, (Below.refl _ _).alloc (Nat.le_refl _) _⟩)
  clear b5 R4 B4 K4
  go_wp2_with first
    | (refine wpList_store_newD w5.heap.size w5 rfl 34 _ _ rfl w5.heap.size (entC (dfE zs nm).1 (dfE zs nm).2.1 (dfE zs nm).2.2) rfl rfl 34 (entC ⟨#[]⟩ 0 0) HK5.out.1 infoD3 rfl entC_one HK5.out.2 (Nat.le_refl _) ?_; intro w6 k6 b6; have K6 := hide k6; have L6 := hide (K5.out.below b6 K5.out.lt); have R6 := hide (R5.out.below b6); have B6 := hide (B5.out.trans (b6.mono B5.out.size)); clear k6 b6 HK5)
    | (refine wpList_load_midD (by first | rfl | (simp [Region.wanted, yielded]; done)) 34 _ rfl w5.heap.size 0 rfl (entC (dfE zs nm).1 (dfE zs nm).2.1 (dfE zs nm).2.2).toList _ (ent_range K6.out) Tryd.underlying34 rfl infoD3 ?_)
    | (refine wpList_load_midD (by first | rfl | (simp [Region.wanted, yielded]; done)) 34 _ rfl w2.heap.size 0 rfl (entC (dfE zs nm).1 (dfE zs nm).2.1 (dfE zs nm).2.2).toList _ (ent_range L6.out) Tryd.underlying34 rfl infoD3 ?_)
    | (go_at_call 24; fail)
  refine (eqDirent_same (dfE zs nm) _).mono ?_
  rintro e w7 ⟨rfl, b7⟩
  have R7 := hide (R6.out.below b7)
  have B7 := hide (B6.out.trans (b7.mono B6.out.size))
  clear b7 R6 B6 K6 L6 K5 R5 B5
  go_wp2_with (go_at_call 10; fail)
  refine (toByteS_any _ zs _ (HR.out.below B7.out) (by omega)).mono ?_
  rintro e w8 ⟨v8, rfl, o8, b8⟩
  have R8 := hide (Rd.own o8)
  have R48 := hide (R7.out.below b8)
  have B8 := hide (B7.out.trans (b8.mono B7.out.size))
  clear o8 b8 R7 B7
  go_wp2_with (go_at_call 12; fail)
  refine (eqByteS_same v4 v8 zs _ R48.out R8.out).mono ?_
  rintro e w9 ⟨rfl, b9⟩
  have B9 := hide (B8.out.trans (b9.mono B8.out.size))
  clear b9 B8 R8 R48
  go_wp2
  go_ret
  exact ⟨rfl, B9.out⟩
end Go.Proofs.YtcciaojdceejcaaDoor
