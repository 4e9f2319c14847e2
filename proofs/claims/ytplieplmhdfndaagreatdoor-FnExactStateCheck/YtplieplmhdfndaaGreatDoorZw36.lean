/- DirFind of the model. DirFind of the program; the law. An opened node: openNode. -/
import Derived.Test.YtplieplmhdfndaaGreatDoorZw35
import Derived.Test.YtplieplmhdfndaaGreatDoorZw32
namespace Go.Proofs.YtplieplmhdfndaaGreatDoor
set_option linter.unusedVariables false
set_option linter.unusedSimpArgs false
open Go.RowKit

/-- What DirFind answers: the slot, the entry, the code. -/
def dfI (zs : List Int) (nm : ByteArray) : Int := if dirOk zs = true then (match firstK zs nm (zs.length / 32) with | some k => (k : Int) | none => 0) else 0
def dfE (zs : List Int) (nm : ByteArray) : ByteArray × Int × Int := if dirOk zs = true then (match firstK zs nm (zs.length / 32) with | some k => slotE zs k | none => (⟨#[]⟩, 0, 0)) else (⟨#[]⟩, 0, 0)
def dfC (zs : List Int) (nm : ByteArray) : Int := if dirOk zs = true then (match firstK zs nm (zs.length / 32) with | some k => 0 | none => 2) else 21
theorem df_bad {zs : List Int} {nm : ByteArray} (h : dirOk zs = false) : dfI zs nm = 0 ∧ dfE zs nm = (⟨#[]⟩, 0, 0) ∧ dfC zs nm = 21 := by simp [dfI, dfE, dfC, h]
theorem df_none {zs : List Int} {nm : ByteArray} (h : dirOk zs = true) (hf : firstK zs nm (zs.length / 32) = none) : dfI zs nm = 0 ∧ dfE zs nm = (⟨#[]⟩, 0, 0) ∧ dfC zs nm = 2 := by simp [dfI, dfE, dfC, h, hf]
theorem df_some {zs : List Int} {nm : ByteArray} {k : Nat} (h : dirOk zs = true) (hf : firstK zs nm (zs.length / 32) = some k) : dfI zs nm = (k : Int) ∧ dfE zs nm = slotE zs k ∧ dfC zs nm = 0 := by simp [dfI, dfE, dfC, h, hf]
def dfV (i : Int) (e : ByteArray × Int × Int) (c : Int) : Value := .tuple #[.int .i64 i, .agg (entC e.1 e.2.1 e.2.2), .int .i64 c]
theorem dirOk_len {zs : List Int} (h : dirOk zs = true) : zs.length % 512 = 0 ∧ zs.length ≤ 262144 := by
  unfold dirOk at h
  simp only [Bool.and_eq_true, decide_eq_true_eq] at h
  exact ⟨h.1, h.2.1⟩
theorem results_tct {P : Program} {fn : Func} {t p u : Tmp} {ty : TypeId} (h : fn.results = #[.tmp t, .cell p ty, .tmp u]) (tmps : Array Value) (w : World) (g : Nat) (ti : TypeId) (cs : Array Value) (fr : Nat × Nat) (d : TypeDesc) (x y : Value)
    (ht : tmps.getD t undef = x) (hp : tmps.getD p undef = .pointer (some ⟨g, 0, none⟩)) (hy : tmps.getD u undef = y) (hg : w.heap[g]? = some (.cells cs ti fr))
    (hu : P.underlying ty = some d) (hd : (match d with | .struct _ | .array _ _ => true | _ => false) = true) (hi : (P.info? ty).map (·.size) = some cs.size) :
    (results fn tmps).run P w = .ok (.tuple #[x, .agg cs, y]) w := by
  simp only [results, h]
  simp [Sem.run_bind, Result.andThen, ← Array.getD_eq_getD_getElem?, ht, hp, hy, asAddr, run_loadVar_row w g ti ty cs fr d hg hu hd hi]
end Go.Proofs.YtplieplmhdfndaaGreatDoor

namespace Go.Proofs.YtplieplmhdfndaaGreatDoor
set_option linter.unusedVariables false
set_option linter.unusedSimpArgs false
open Go.RowKit

/-- openDirectory, whatever the length. -/
theorem openDir_all (H : Type) (cap : Nat) (a : Option Addr) (zs : List Int) (w : World) (h : Rd .u8 w (.slice a zs.length cap) zs) (hbd : ∀ z ∈ zs, 0 ≤ z ∧ z < 256) :
    Calls Tryz.prog 52 #[.slice a zs.length cap] w fun e w' => ∃ pa ev, e = .returned (.tuple #[.pointer pa, ev]) ∧ FaultIs w' w.heap.size (dirOk zs) ev 21 ∧ Below w.heap.size w w' ∧ (dirOk zs = true → ∃ d mb nn v', pa = some ⟨d, 0, none⟩ ∧ w.heap.size ≤ d ∧ w.heap.size ≤ mb ∧ nn ≤ zs.length / 32 ∧ Dr (H := H) w.heap.size w' d mb (zs.length / 32) nn v' (entsI (slotsL zs (zs.length / 32))) (mapR H zs (List.range (zs.length / 32)).reverse)) := by
  by_cases h512 : zs.length % 512 = 0
  · by_cases hl : zs.length ≤ 262144
    · exact openDir_ok (H := H) 0 0 cap a zs w h hbd hl h512
    · refine (openDir_long cap a zs w h h512 (by omega)).mono ?_
      rintro e w' ⟨v, ev, rfl, h1, h2⟩
      have hf : dirOk zs = false := by simp [dirOk, hl]
      exact ⟨v, ev, rfl, .inr ⟨hf, h1⟩, h2, fun h => by rw [hf] at h; cases h⟩
  · refine (openDir_odd cap a zs w h h512).mono ?_
    rintro e w' ⟨v, ev, rfl, h1, h2⟩
    have hf : dirOk zs = false := by simp [dirOk, h512]
    exact ⟨v, ev, rfl, .inr ⟨hf, h1⟩, h2, fun h => by rw [hf] at h; cases h⟩
theorem lookK {H : Type} {w : World} {mb nn : Nat} {D : DataW H} (h : w.ownsMap Tryz.prog 9 (plainElem (H := H) Tryz.prog 3) mb nn D) (nm : ByteArray) (hnm : nm.size ≤ maxLen) :
    ∃ c : Int, (Instr.lookup 114 (.map (some mb)) (.string nm) true).run Tryz.prog w = .ok (.tuple #[.int .i64 c, .bool (Maps.has D (.string nm.data.toList))]) w ∧ D.atKey (.string nm.data.toList) (.lit (.int .i64 0)) = .lit (.int .i64 c) := by
  obtain ⟨v, ps, hrun, hv⟩ := h.look_ok (Maps.string_keyed Tryz.underlying9) Tryz.underlying114 (z := .int .i64 0) (Tryz.zeroValue3 _) (plainElem_int Tryz.underlying3 (by decide)) (WideMaps.keyOf_string_mk Tryz.underlying9 hnm)
  obtain ⟨c, rfl, hc, _⟩ := plainElem_int_inv Tryz.underlying3 hv
  exact ⟨c, hrun, congrArg Prod.fst hc⟩
theorem entsI_at {L : List (ByteArray × Int × Int)} {k : Nat} {e : ByteArray × Int × Int} (h : L[k]? = some e) : ∀ j u, (entC e.1 e.2.1 e.2.2).toList[j]? = some u → (entsI L)[k * 3 + j]? = some u := by
  intro j u hu
  have hx := ext_ent L k e h
  have h2 : ((entsI L).toArray.extract (k * 3) (k * 3 + 3)).toList[j]? = some u := by rw [hx]; exact hu
  have hj : j < 3 := by
    rcases Nat.lt_or_ge j 3 with h1 | h1
    · exact h1
    · rw [List.getElem?_eq_none (by simp [entC]; omega)] at hu; cases hu
  simp [hj] at h2
  exact h2

set_option maxRecDepth 100000 in
set_option maxHeartbeats 2000000 in
theorem implDF_any (v : Value) (zs : List Int) (nm : ByteArray) (w : World) (h : Rd .u8 w v zs) (hbd : ∀ z ∈ zs, 0 ≤ z ∧ z < 256) (hnm : nm.size ≤ maxLen) (hg : ErrT w) :
    Calls Tryz.prog 29 #[v, .string nm] w fun e w' => e = .returned (dfV (dfI zs nm) (dfE zs nm) (dfC zs nm)) ∧ Below w.heap.size w w' := by
  have hsh : ∃ a cap, v = .slice a zs.length cap := by obtain ⟨a, cap, h1, _⟩ := h; exact ⟨a, cap, h1⟩
  obtain ⟨a, cap, rfl⟩ := hsh
  have HR := hide h
  have HX := hide hbd
  have HG := hide hg
  have B0 := hide (show Below w.heap.size w (w.alloc (.cells (entC ⟨#[]⟩ 0 0) 61)) from (Below.refl _ _).alloc (Nat.le_refl _) _)
  have K0 := hide (Blk.new w (entC ⟨#[]⟩ 0 0) 61)
  clear h hbd hg
  go_enter Tryz.func29, Tryz.ntmps29
  go_wp2_with (go_at_call 52; fail)
  refine (openDir_all Unit cap a zs _ (HR.out.below B0.out) HX.out).mono ?_
  rintro e w1 ⟨v1, ev, rfl, hf, b1, hd⟩
  have K1 := hide (K0.out.below b1 K0.out.lt)
  have B1 := hide (B0.out.trans (b1.mono B0.out.size))
  rw [World.size_alloc] at hf hd
  clear b1 K0 B0
  rcases hf with ⟨hok, rfl⟩ | ⟨hok, m, hF⟩
  · obtain ⟨d, mb, nn, v', rfl, hdl, hdm, hnn, hdr⟩ := hd hok
    have HL := hide (dirOk_len hok)
    have HOk := hide hok
    have HDr := hide hdr
    have cM : w1.cell? ⟨d, 1, none⟩ = some (.map (some mb)) := (hdr.blk.cell 1).trans rfl
    obtain ⟨lc, hlk, hat⟩ := lookK hdr.map nm hnm
    have hes : ∃ es, entT zs (zs.length / 32) = some es := by
      have h := hok
      rw [dirOk_eq HL.out.1 HL.out.2, Bool.and_eq_true] at h
      exact Option.isSome_iff_exists.1 h.1
    obtain ⟨es, hes⟩ := hes
    obtain ⟨hm1, hm2⟩ := map_first Unit nm hes
    rw [hm1] at hlk
    clear hd hok hdr hm1
    cases hf : firstK zs nm (zs.length / 32) with
    | none =>
      have HD := hide (df_none HOk.out hf)
      rw [hf] at hlk
      have hlk2 : (Instr.lookup 114 (.map (some mb)) (.string nm) true).run Tryz.prog w1 = .ok (.tuple #[.int .i64 lc, .bool false]) w1 := hlk
      clear hf hlk hat hm2 hes
      go_wp2_with (refine wpList_store_row rfl 61 _ _ rfl w.heap.size (entC ⟨#[]⟩ 0 0) rfl rfl 61 _ K1.out infoD3 rfl entC_one ?_)
      refine bodyPost_ret (v := dfV (dfI zs nm) (dfE zs nm) (dfC zs nm)) ?_ rfl ⟨rfl, below_setRow B1.out (Nat.le_refl _) _⟩
      rw [HD.out.1, HD.out.2.1, HD.out.2.2]
      exact results_tct rfl _ _ w.heap.size 61 (entC ⟨#[]⟩ 0 0) (0, 0) _ _ _ rfl rfl rfl (K1.out.row _) Tryz.underlying61 rfl infoD3
    | some k =>
      have HD := hide (df_some HOk.out hf)
      have hlc : lc = (k : Int) := by
        have h1 := hm2 k hf
        rw [hat] at h1
        injection h1 with h1
        injection h1
      rw [hf, hlc] at hlk
      have hlk2 : (Instr.lookup 114 (.map (some mb)) (.string nm) true).run Tryz.prog w1 = .ok (.tuple #[.int .i64 (k : Int), .bool true]) w1 := hlk
      have hkN := (firstK_lt hf).1
      have hN8 : zs.length / 32 ≤ 8192 := by have := HL.out.2; omega
      obtain ⟨g, cp, rfl, hg1, hg2, hgc⟩ := own_sliceD HDr.out.own (by omega)
      have hcp : zs.length / 32 ≤ cp ∧ cp ≤ 9223372036854775807 := by
        rcases HDr.out.own.2 with ⟨e4, _⟩ | ⟨g', cp', cur, e4, _, _, hn1, hn2, _⟩
        · cases e4
        · injection e4 with e5 e6 e7
          subst e7
          exact ⟨hn1, hn2⟩
      have HRg := hide (show w1.rangeAt g (k * 3) (entC (slotE zs k).1 (slotE zs k).2.1 (slotE zs k).2.2).toList from by
        intro j u hu
        have hL : (slotsL zs (zs.length / 32))[k]? = some (slotE zs k) := by simp [slotsL, hkN]
        have h1 := hgc (k * 3 + j) u (entsI_at hL j u hu)
        rwa [Addr.add_mid, Nat.zero_add] at h1)
      have cE : w1.cell? ⟨d, 0, none⟩ = some (.slice (some ⟨g, 0, none⟩) (zs.length / 32) cp) := (HDr.out.blk.cell 0).trans rfl
      have HcE := hide cE
      have hdw := HDr.out.blk.lt
      have hkI : ¬ ((zs.length : Int) / 32 ≤ (k : Int)) := by omega
      have hkJ : (k : Int) < (zs.length : Int) / 32 := by omega
      have hkK : k < zs.length / 32 := hkN
      clear hf hlk hat hm2 hes hlc hgc
      go_wp2_with fail
      refine wp_region_noPanic ?_
      refine wp_region_held_drew (S := fun w' => w'.cell? ⟨d, 0, none⟩ = some (.slice (some ⟨g, 0, none⟩) (zs.length / 32) cp) ∧ w'.rangeAt g (k * 3) (entC (slotE zs k).1 (slotE zs k).2.1 (slotE zs k).2.2).toList) (by kernel_rfl) ⟨HcE.out, HRg.out⟩ (fun hH => ?_)
      refine wpAnyH_take (i := 0) (oi := _) (v := .int .i64 (k : Int)) rfl (by kernel_rfl) (by kernel_rfl) (by kernel_rfl) (fun _ _ _ h => h) (Or.inl ⟨by rfl, fun w' hw' => by go_simp⟩) hH ?_
      try simp only [Act.put, List.getElem_toArray, List.getElem_cons_zero, List.getElem_cons_succ, List.setIfInBounds_toArray, List.set_cons_zero, List.set_cons_succ]
      refine wpAnyH_take (i := 1) (oi := _) (v := .pointer (some ⟨d, 0, none⟩)) rfl (by kernel_rfl) (by kernel_rfl) (by kernel_rfl) (fun _ _ _ h => h) (Or.inl ⟨by rfl, fun w' hw' => by go_simp⟩) hH ?_
      try simp only [Act.put, List.getElem_toArray, List.getElem_cons_zero, List.getElem_cons_succ, List.setIfInBounds_toArray, List.set_cons_zero, List.set_cons_succ]
      refine wpAnyH_take (i := 2) (oi := _) (v := .pointer (some ⟨d, 0, none⟩)) rfl (by kernel_rfl) (by kernel_rfl) (by kernel_rfl) (fun _ _ _ h => h) (Or.inl ⟨by rfl, fun w' hw' => by go_simp⟩) hH ?_
      try simp only [Act.put, List.getElem_toArray, List.getElem_cons_zero, List.getElem_cons_succ, List.setIfInBounds_toArray, List.set_cons_zero, List.set_cons_succ]
      refine wpAnyH_take (i := 3) (oi := _) (v := .pointer (some ⟨d, 0, none⟩)) rfl (by kernel_rfl) (by kernel_rfl) (by kernel_rfl) (fun _ _ _ h => h) (Or.inl ⟨by rfl, fun w' hw' => by go_simp⟩) hH ?_
      try simp only [Act.put, List.getElem_toArray, List.getElem_cons_zero, List.getElem_cons_succ, List.setIfInBounds_toArray, List.set_cons_zero, List.set_cons_succ]
      refine wpAnyH_take (i := 4) (oi := _) (v := .slice (some ⟨g, 0, none⟩) (zs.length / 32) cp) rfl (by kernel_rfl) (by kernel_rfl) (by kernel_rfl) (fun _ _ _ h => h) (Or.inl ⟨by rfl, fun w' hw' => by have hc := hw'.1; clear hw'; go_simp⟩) hH ?_
      try simp only [Act.put, List.getElem_toArray, List.getElem_cons_zero, List.getElem_cons_succ, List.setIfInBounds_toArray, List.set_cons_zero, List.set_cons_succ]
      refine wpAnyH_take (i := 5) (oi := _) (v := .int .i64 (k : Int)) rfl (by kernel_rfl) (by kernel_rfl) (by kernel_rfl) (fun _ _ _ h => h) (Or.inl ⟨by rfl, fun w' hw' => by go_simp⟩) hH ?_
      try simp only [Act.put, List.getElem_toArray, List.getElem_cons_zero, List.getElem_cons_succ, List.setIfInBounds_toArray, List.set_cons_zero, List.set_cons_succ]
      refine wpAnyH_take (i := 6) (oi := _) (v := .pointer (some ⟨g, k * 3, none⟩)) rfl (by kernel_rfl) (by kernel_rfl) (by kernel_rfl) (fun _ _ _ h => h) (Or.inl ⟨by rfl, fun w' hw' => by go_simp⟩) hH ?_
      try simp only [Act.put, List.getElem_toArray, List.getElem_cons_zero, List.getElem_cons_succ, List.setIfInBounds_toArray, List.set_cons_zero, List.set_cons_succ]
      refine wpAnyH_take (i := 7) (oi := _) (v := .agg (entC (slotE zs k).1 (slotE zs k).2.1 (slotE zs k).2.2)) rfl (by kernel_rfl) (by kernel_rfl) (by kernel_rfl) (fun _ _ _ h => h) (yieldsIf_load_mid (by rfl) 61 _ rfl g (k * 3) rfl (entC (slotE zs k).1 (slotE zs k).2.1 (slotE zs k).2.2).toList _ (fun w' h => h.2) Tryz.underlying61 rfl infoD3) hH ?_
      try simp only [Act.put, List.getElem_toArray, List.getElem_cons_zero, List.getElem_cons_succ, List.setIfInBounds_toArray, List.set_cons_zero, List.set_cons_succ]
      refine wpAnyH_take (i := 8) (oi := _) (v := .int .i64 (k : Int)) rfl (by kernel_rfl) (by kernel_rfl) (by kernel_rfl) (fun _ _ _ h => h) (Or.inl ⟨by rfl, fun w' hw' => by go_simp⟩) hH ?_
      try simp only [Act.put, List.getElem_toArray, List.getElem_cons_zero, List.getElem_cons_succ, List.setIfInBounds_toArray, List.set_cons_zero, List.set_cons_succ]
      refine wpAnyH_ready (rs := [9]) (by kernel_rfl) (by simp) ?_
      refine AllReadyH.cons (o := _) rfl (fun K hK => ?_) AllReadyH.nil
      rw [if_pos (by rfl)]
      refine wp_store_row 61 _ _ rfl w.heap.size (entC (slotE zs k).1 (slotE zs k).2.1 (slotE zs k).2.2) rfl rfl 61 (entC ⟨#[]⟩ 0 0) K1.out infoD3 rfl entC_one ?_
      refine hK.out _ _ ⟨(World.cell?_of_block (a := ⟨d, 0, none⟩) (setRow_block _ _ _ _ (by show d ≠ w.heap.size; omega))).trans hH.1, fun j u hu => (World.cell?_of_block (a := ⟨g, k * 3 + j, none⟩) (setRow_block _ _ _ _ (by show g ≠ w.heap.size; omega))).trans (hH.2 j u hu)⟩ (fun hH9 => ?_)
      clear hK K
      try simp only [Act.put, List.getElem_toArray, List.getElem_cons_zero, List.getElem_cons_succ, List.setIfInBounds_toArray, List.set_cons_zero, List.set_cons_succ]
      refine wpAnyH_take (i := 10) (oi := _) (v := .int .i64 0) rfl (by kernel_rfl) (by kernel_rfl) (by kernel_rfl) (fun _ _ _ h => h) (Or.inl ⟨by rfl, fun w' hw' => by go_simp⟩) hH9 ?_
      try simp only [Act.put, List.getElem_toArray, List.getElem_cons_zero, List.getElem_cons_succ, List.setIfInBounds_toArray, List.set_cons_zero, List.set_cons_succ]
      refine wpAnyH_done (by kernel_rfl) (NoPanic.normal ?_) _
      clear hH hH9
      go_wp2
      refine bodyPost_ret (v := dfV (dfI zs nm) (dfE zs nm) (dfC zs nm)) ?_ rfl ⟨rfl, below_setRow (w := World.drew w1) B1.out.drew (Nat.le_refl _) _⟩
      rw [HD.out.1, HD.out.2.1, HD.out.2.2]
      exact results_tct rfl _ _ w.heap.size 61 (entC (slotE zs k).1 (slotE zs k).2.1 (slotE zs k).2.2) (0, 0) _ _ _ rfl rfl rfl (Blk.row (w := World.drew w1) K1.out _) Tryz.underlying61 rfl infoD3
  · obtain ⟨t6, x6, rfl⟩ := hF.iface
    have HD := hide (df_bad (nm := nm) hok)
    have HF := hide hF
    clear hd hok hF
    go_wp2_with (go_at_call 36; fail)
    refine (codeOf_any m _ 21 _ _ HF.out (HG.out.below B1.out)).mono ?_
    rintro e w2 ⟨rfl, b2⟩
    have K2 := hide (K1.out.below b2 K1.out.lt)
    have B2 := hide (B1.out.trans (b2.mono B1.out.size))
    clear b2 K1 B1
    go_wp2_with (refine wpList_store_row rfl 61 _ _ rfl w.heap.size (entC ⟨#[]⟩ 0 0) rfl rfl 61 _ K2.out infoD3 rfl entC_one ?_)
    refine bodyPost_ret (v := dfV (dfI zs nm) (dfE zs nm) (dfC zs nm)) ?_ rfl ⟨rfl, below_setRow B2.out (Nat.le_refl _) _⟩
    rw [HD.out.1, HD.out.2.1, HD.out.2.2]
    exact results_tct rfl _ _ w.heap.size 61 (entC ⟨#[]⟩ 0 0) (0, 0) _ _ _ rfl rfl rfl (K2.out.row _) Tryz.underlying61 rfl infoD3
end Go.Proofs.YtplieplmhdfndaaGreatDoor

namespace Go.Proofs.YtplieplmhdfndaaGreatDoor
set_option linter.unusedVariables false
set_option linter.unusedSimpArgs false
open Go.RowKit

/-- A directory that was opened: its entries and its map, as openDirectory leaves them. -/
def DirR (w : World) (d : Nat) (zs : List Int) : Prop := ∃ base mb nn v, Dr (H := Unit) base w d mb (zs.length / 32) nn v (entsI (slotsL zs (zs.length / 32))) (mapR Unit zs (List.range (zs.length / 32)).reverse) ∧ nn ≤ zs.length / 32 ∧ dirOk zs = true
theorem Dr.belowS {H : Type} {base : Nat} {w w' : World} {b mb n nn : Nat} {v : Value} {xs : List Value} {D : DataW H} (h : Dr base w b mb n nn v xs D) (hb : Below w.heap.size w w') : Dr base w' b mb n nn v xs D := by
  have hg : w.grownBy w' none := ⟨hb.os, hb.tape, hb.output, hb.size, fun k hk _ => hb.block k hk⟩
  exact ⟨h.blk.below hb h.blk.lt, h.own.kept hg (by cases v.ownBlock <;> simp), h.ne, h.map.kept hg (by simp), h.nb⟩
theorem DirR.below {w w' : World} {d : Nat} {zs : List Int} (h : DirR w d zs) (hb : Below w.heap.size w w') : DirR w' d zs := by
  obtain ⟨base, mb, nn, v, h1, h2⟩ := h
  exact ⟨base, mb, nn, v, h1.belowS hb, h2⟩
/-- A pointer to an opened node; nil for a free one. -/
def OpN (w : World) (x : Nd) (p : Value) : Prop := (x.k = 0 ∧ p = .pointer none) ∨ (x.k ≠ 0 ∧ ∃ g a c dp, p = .pointer (some ⟨g, 0, none⟩) ∧ Blk w g #[.int .i64 x.k, .int .i64 x.l, .int .i64 x.m, .int .i64 x.u, .int .i64 x.g, .int .i64 x.p, .int .i64 x.e, .int .i64 x.t, .int .i64 x.c, .slice a x.d.length c, dp] 81 ∧ Rd .u8 w (.slice a x.d.length c) x.d ∧ (a = none → c = 0) ∧ ((x.k ≠ 2 ∧ dp = .pointer none) ∨ (x.k = 2 ∧ ∃ d, dp = .pointer (some ⟨d, 0, none⟩) ∧ DirR w d x.d)))
theorem OpN.below {w w' : World} {x : Nd} {p : Value} (h : OpN w x p) (hb : Below w.heap.size w w') : OpN w' x p := by
  rcases h with h | ⟨h0, g, a, c, dp, h1, h2, h3, hn, h4⟩
  · exact .inl h
  · refine .inr ⟨h0, g, a, c, dp, h1, h2.below hb h2.lt, h3.below hb, hn, ?_⟩
    rcases h4 with h4 | ⟨h4, d, h5, h6⟩
    · exact .inl h4
    · exact .inr ⟨h4, d, h5, h6.below hb⟩
/-- The same, with all that was made lying from lo on; the bytes are the slice dv. -/
def OpB (lo : Nat) (w : World) (x : Nd) (dv p : Value) : Prop := (x.k = 0 ∧ p = .pointer none) ∨ (x.k ≠ 0 ∧ ∃ g dp, p = .pointer (some ⟨g, 0, none⟩) ∧ lo ≤ g ∧ Blk w g #[.int .i64 x.k, .int .i64 x.l, .int .i64 x.m, .int .i64 x.u, .int .i64 x.g, .int .i64 x.p, .int .i64 x.e, .int .i64 x.t, .int .i64 x.c, dv, dp] 81 ∧ ((x.k ≠ 2 ∧ dp = .pointer none) ∨ (x.k = 2 ∧ ∃ d base mb nn v, dp = .pointer (some ⟨d, 0, none⟩) ∧ Dr (H := Unit) base w d mb (x.d.length / 32) nn v (entsI (slotsL x.d (x.d.length / 32))) (mapR Unit x.d (List.range (x.d.length / 32)).reverse) ∧ nn ≤ x.d.length / 32 ∧ dirOk x.d = true ∧ lo ≤ d ∧ lo ≤ base ∧ lo ≤ mb)))
theorem OpB.opN {lo : Nat} {w : World} {x : Nd} {a : Option Addr} {c : Nat} {p : Value} (h : OpB lo w x (.slice a x.d.length c) p) (hr : Rd .u8 w (.slice a x.d.length c) x.d) (hn : a = none → c = 0) : OpN w x p := by
  rcases h with h | ⟨h0, g, dp, h1, _, h2, h3⟩
  · exact .inl h
  · refine .inr ⟨h0, g, a, c, dp, h1, h2, hr, hn, ?_⟩
    rcases h3 with h3 | ⟨h3, d, base, mb, nn, v, h4, h5, h6, h7, _⟩
    · exact .inl h3
    · exact .inr ⟨h3, d, h4, base, mb, nn, v, h5, h6, h7⟩
theorem OpB.keepF {lo : Nat} {W W' : World} {x : Nd} {dv p : Value} (h : OpB lo W x dv p) (hk : ∀ k, lo ≤ k → k < W.heap.size → W'.heap[k]? = W.heap[k]?) : OpB lo W' x dv p := by
  rcases h with h | ⟨h0, g, dp, h1, hg, h2, h3⟩
  · exact .inl h
  · refine .inr ⟨h0, g, dp, h1, hg, (hk g hg h2.lt).trans h2, ?_⟩
    rcases h3 with h3 | ⟨h3, d, base, mb, nn, v, h4, h5, h6, h7, h8, h9, h10⟩
    · exact .inl h3
    · refine .inr ⟨h3, d, base, mb, nn, v, h4, ?_, h6, h7, h8, h9, h10⟩
      refine ⟨(hk d h8 h5.blk.lt).trans h5.blk, ⟨h5.own.1, ?_⟩, h5.ne, ?_, h5.nb⟩
      · rcases h5.own.2 with h | ⟨g', cap, cur, e, hb, hh, hr⟩
        · exact .inl h
        · exact .inr ⟨g', cap, cur, e, hb, (hk g' (Nat.le_trans h9 hb) (Array.getElem?_eq_some_iff.1 hh).1).trans hh, hr⟩
      · have hm := h5.map.lt
        obtain ⟨es, ck, e1, e2⟩ := h5.map
        exact ⟨es, ck, (hk mb h10 hm).trans e1, e2⟩
theorem OpB.mono {lo lo' : Nat} {W : World} {x : Nd} {dv p : Value} (h : OpB lo W x dv p) (hl : lo' ≤ lo) : OpB lo' W x dv p := by
  rcases h with h | ⟨h0, g, dp, h1, hg, h2, h3⟩
  · exact .inl h
  · refine .inr ⟨h0, g, dp, h1, Nat.le_trans hl hg, h2, ?_⟩
    rcases h3 with h3 | ⟨h3, d, base, mb, nn, v, h4, h5, h6, h7, h8, h9, h10⟩
    · exact .inl h3
    · exact .inr ⟨h3, d, base, mb, nn, v, h4, h5, h6, h7, Nat.le_trans hl h8, Nat.le_trans hl h9, Nat.le_trans hl h10⟩
def dkB (x : Nd) : Bool := !decide (x.k = 2) || dirOk x.d
set_option maxRecDepth 100000 in
set_option maxHeartbeats 4000000 in
theorem openNode_any (x : Nd) (a : Option Addr) (c : Nat) (w : World) (hd : Rd .u8 w (.slice a x.d.length c) x.d) (hbd : ∀ z ∈ x.d, 0 ≤ z ∧ z < 256) (hnil : a = none → c = 0) :
    Calls Tryz.prog 63 #[.agg #[.int .i64 x.k, .int .i64 x.l, .int .i64 x.m, .int .i64 x.u, .int .i64 x.g, .int .i64 x.p, .int .i64 x.e, .int .i64 x.t, .int .i64 x.c, .slice a x.d.length c]] w fun e w' => ∃ pa ev, e = .returned (.tuple #[.pointer pa, ev]) ∧ FaultIs w' w.heap.size (dkB x) ev 21 ∧ Below w.heap.size w w' ∧ (dkB x = true → OpB w.heap.size w' x (.slice a x.d.length c) (.pointer pa)) := by
  obtain ⟨q, hq⟩ : ∃ q, q = x.d.length := ⟨_, rfl⟩
  obtain ⟨W1, hW1⟩ : ∃ W1, W1 = w.alloc (.cells #[.int .i64 x.k, .int .i64 x.l, .int .i64 x.m, .int .i64 x.u, .int .i64 x.g, .int .i64 x.p, .int .i64 x.e, .int .i64 x.t, .int .i64 x.c, .slice a q c] 56) := ⟨_, rfl⟩
  have b1 : Below w.heap.size w W1 := by rw [hW1]; exact (Below.refl _ _).alloc (Nat.le_refl _) _
  have K1 := hide (show Blk W1 w.heap.size #[.int .i64 x.k, .int .i64 x.l, .int .i64 x.m, .int .i64 x.u, .int .i64 x.g, .int .i64 x.p, .int .i64 x.e, .int .i64 x.t, .int .i64 x.c, .slice a q c] 56 from by rw [hW1]; exact Blk.new w _ _)
  have HD := hide (And.intro (hd.below b1) (And.intro hbd hnil))
  have HB := hide b1
  have HW1 := hide hW1
  have HQ := hide hq
  have HOD := hide (show Calls Tryz.prog 52 #[.slice a q c] W1 _ from by rw [hq]; exact openDir_all Unit c a x.d W1 (hd.below b1) hbd)
  rw [← hq]
  clear hq hd hbd hnil b1 hW1
  have c0 := (K1.out.cell 0).trans (show _ = some (.int .i64 x.k) from rfl)
  have c9 := (K1.out.cell 9).trans (show _ = some (.slice a q c) from rfl)
  by_cases h0 : x.k = 0
  · have h0b : (x.k == 0) = true := by simp [h0]
    have HDK := hide (show dkB x = true from by unfold dkB; rw [h0]; rfl)
    have H0 := hide h0
    clear h0
    go_enter Tryz.func63, Tryz.ntmps63
    go_upto_region 1 with fail
    rw [← HW1.out]
    go_wp2
    refine bodyPost_ret (results_tmp2 rfl _ _ _) rfl ?_
    exact ⟨_, _, rfl, .inl ⟨HDK.out, rfl⟩, HB.out, fun _ => .inl ⟨H0.out, rfl⟩⟩
  have h0b : (x.k == 0) = false := by simpa using h0
  by_cases h2 : x.k = 2
  rotate_left
  · have h2b : (x.k == 2) = false := by simpa using h2
    have HDK := hide (show dkB x = true from by unfold dkB; rw [decide_eq_false h2]; rfl)
    have H0 := hide (And.intro h0 h2)
    obtain ⟨W2, hW2⟩ : ∃ W2, W2 = W1.alloc (.cells #[.int .i64 x.k, .int .i64 x.l, .int .i64 x.m, .int .i64 x.u, .int .i64 x.g, .int .i64 x.p, .int .i64 x.e, .int .i64 x.t, .int .i64 x.c, .slice a q c, .pointer none] 81) := ⟨_, rfl⟩
    have HFin := hide (show Below w.heap.size w W2 ∧ OpB w.heap.size W2 x (.slice a q c) (.pointer (some ⟨W1.heap.size, 0, none⟩)) from by
      have b2 : Below W1.heap.size W1 W2 := by rw [hW2]; exact (Below.refl _ _).alloc (Nat.le_refl _) _
      refine ⟨HB.out.trans (b2.mono HB.out.size), .inr ⟨h0, W1.heap.size, .pointer none, rfl, HB.out.size, ?_, .inl ⟨h2, rfl⟩⟩⟩
      rw [hW2]
      exact Blk.new W1 _ _)
    have HW2 := hide hW2
    clear h0 h2 hW2
    go_enter Tryz.func63, Tryz.ntmps63
    go_upto_region 1 with fail
    rw [← HW1.out]
    go_wp2_with (refine wpList_load_row rfl 56 _ rfl w.heap.size rfl 56 #[.int .i64 x.k, .int .i64 x.l, .int .i64 x.m, .int .i64 x.u, .int .i64 x.g, .int .i64 x.p, .int .i64 x.e, .int .i64 x.t, .int .i64 x.c, .slice a q c] (0, 0) _ K1.out Tryz.underlying56 rfl infoNd ?_)
    rw [← HW2.out]
    refine bodyPost_ret (results_tmp2 rfl _ _ _) rfl ?_
    exact ⟨_, _, rfl, .inl ⟨HDK.out, rfl⟩, HFin.out.1, fun _ => HFin.out.2⟩
  have h2b : (x.k == 2) = true := by simp [h2]
  have HDK := hide (show dkB x = dirOk x.d from by unfold dkB; rw [decide_eq_true h2]; rfl)
  have H0 := hide (And.intro h0 h2)
  clear h0 h2
  go_enter Tryz.func63, Tryz.ntmps63
  go_upto_region 1 with fail
  rw [← HW1.out]
  go_wp2_with (go_at_call 52; fail)
  refine HOD.out.mono ?_
  rintro e w2 ⟨dp, ev, rfl, hf, b2, hdr⟩
  have KB := hide (K1.out.below b2 K1.out.lt)
  have HF := hide hf
  have HB2 := hide b2
  have HDR := hide hdr
  clear hf b2 hdr c0 c9
  go_wp2_with (refine wpList_load_row rfl 56 _ rfl w.heap.size rfl 56 #[.int .i64 x.k, .int .i64 x.l, .int .i64 x.m, .int .i64 x.u, .int .i64 x.g, .int .i64 x.p, .int .i64 x.e, .int .i64 x.t, .int .i64 x.c, .slice a q c] (0, 0) _ KB.out Tryz.underlying56 rfl infoNd ?_)
  obtain ⟨W3, hW3⟩ : ∃ W3, W3 = w2.alloc (.cells #[.int .i64 x.k, .int .i64 x.l, .int .i64 x.m, .int .i64 x.u, .int .i64 x.g, .int .i64 x.p, .int .i64 x.e, .int .i64 x.t, .int .i64 x.c, .slice a q c, .pointer dp] 81) := ⟨_, rfl⟩
  have b3 : Below w2.heap.size w2 W3 := by rw [hW3]; exact (Below.refl _ _).alloc (Nat.le_refl _) _
  have HB3 := hide (show Below w.heap.size w W3 from (HB.out.trans (HB2.out.mono HB.out.size)).trans (b3.mono (Nat.le_trans HB.out.size HB2.out.size)))
  have HF3 := hide ((HF.out.below b3).mono HB.out.size)
  rw [← hW3]
  refine bodyPost_ret (results_tmp2 rfl _ _ _) rfl ?_
  refine ⟨_, _, rfl, by rw [HDK.out]; exact HF3.out, HB3.out, fun hok => .inr ⟨H0.out.1, w2.heap.size, .pointer dp, rfl, Nat.le_trans HB.out.size HB2.out.size, ?_, .inr ⟨H0.out.2, ?_⟩⟩⟩
  · rw [hW3]
    exact Blk.new w2 _ _
  · rw [HDK.out] at hok
    obtain ⟨d, mb, nn, v', rfl, hd1, hd2, hnn, hdr⟩ := HDR.out hok
    exact ⟨d, W1.heap.size, mb, nn, v', rfl, hdr.belowS b3, hnn, hok, Nat.le_trans HB.out.size hd1, HB.out.size, Nat.le_trans HB.out.size hd2⟩
end Go.Proofs.YtplieplmhdfndaaGreatDoor
