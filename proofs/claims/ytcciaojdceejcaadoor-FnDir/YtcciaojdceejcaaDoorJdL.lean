/- slices.Index of an empty entry. The program puts an entry into a directory: add. DirAdd of the program. append of a number of zeros to an owned row of bytes. The model puts an entry into a directory: l06Add. The model puts an entry into a directory: l06Add, walked. DirAdd of the model. DirAdd of the model, walked. -/
import Derived.Test.YtcciaojdceejcaaDoorJdJ
import Derived.Laws.AppendOwn
import Derived.Great.Walk
import Derived.Deep.Cut
import Derived.Lib.AppendZerosOnto
namespace Go.Proofs.YtcciaojdceejcaaDoor
set_option linter.unusedVariables false
set_option linter.unusedSimpArgs false
open Go.RowKit

theorem yieldsIf_eqlD {P : Program} {ops : Array Oper} {S : World → Prop} {o : Oper} {a : Act} (hw : Region.wanted o (yielded ops a.tmps) = true) (t u : TypeId) (x y : Operand) (ho : o.op = .binOp .eql t x y u)
    (cs ds : Array Value) (hx : a.eval x = .agg cs) (hy : a.eval y = .agg ds) (hm : P.eqGuardType P.depth t = false) (b : Bool) (hE : ∀ w, (Op.equalIn 10000 t (.agg cs) (.agg ds)).run P w = .ok b w) : YieldsIf P ops S o (.bool b) a :=
  .inl ⟨hw, fun w hw' => by simp [execOp, ho, hx, hy, run_eqGuard_agg w _ _ _ _ _ _ hm, run_eql_struct, hE w, Result.andThen]⟩
/-- The first empty slot, or -1. -/
def idxE (L : List (ByteArray × Int × Int)) : Int := match L.findIdx? zE with | some k => (k : Int) | none => -1
theorem entEq_comm (n1 : ByteArray) (i1 k1 : Int) (n2 : ByteArray) (i2 k2 : Int) : entEq n1 i1 k1 n2 i2 k2 = entEq n2 i2 k2 n1 i1 k1 := by
  unfold entEq
  rw [Bool.beq_comm (a := n1.toList), Bool.beq_comm (a := i1), Bool.beq_comm (a := k1)]
theorem idxE_some {L : List (ByteArray × Int × Int)} {k : Nat} (hk : k < L.length) (h : ∀ j (hj : j < L.length), j < k → zE L[j] = false) (hz : zE L[k] = true) : idxE L = (k : Int) := by
  unfold idxE
  rw [List.findIdx?_eq_some_iff_getElem.2 ⟨hk, hz, fun j hj => by rw [h j (by omega) hj]; decide⟩]
theorem idxE_none {L : List (ByteArray × Int × Int)} (h : ∀ j (hj : j < L.length), zE L[j] = false) : idxE L = -1 := by
  unfold idxE
  rw [List.findIdx?_eq_none_iff.2 (fun x hx => by obtain ⟨j, hj, rfl⟩ := List.getElem_of_mem hx; exact h j hj)]

set_option maxRecDepth 100000 in
set_option maxHeartbeats 1000000 in
theorem index_any (base : Nat) (w : World) (v : Value) (L : List (ByteArray × Int × Int)) (h : w.ownsRow base 34 3 v L.length (entsI L)) (hn : L.length ≤ 8192) :
    Calls Tryd.prog 62 #[v, .agg (entC ⟨#[]⟩ 0 0)] w fun e w' => e = .returned (.int .i64 (idxE L)) ∧ Below w.heap.size w w' := by
  have HG := hide (fun hp : 0 < L.length => own_sliceD h hp)
  have hcp : ∀ la lc, v = .slice la L.length lc → L.length ≤ lc ∧ lc ≤ 9223372036854775807 := by
    intro la lc e
    rcases h.2 with ⟨e4, e5⟩ | ⟨g', cp', cur, e4, _, _, hn1, hn2, _⟩
    · rw [e4] at e; injection e with e6 e7 e8; omega
    · rw [e4] at e; injection e with e6 e7 e8; subst e8; exact ⟨hn1, hn2⟩
  obtain ⟨la, lc, rfl⟩ := ownD_shape h
  obtain ⟨hc1, hc2⟩ := hcp la lc rfl
  clear h hcp
  have K0 := hide (Blk.new w (entC ⟨#[]⟩ 0 0) 34)
  have B0 := hide (show Below w.heap.size w (w.alloc (.cells (entC ⟨#[]⟩ 0 0) 34)) from (Below.refl _ _).alloc (Nat.le_refl _) _)
  go_enter Tryd.func62, Tryd.ntmps62
  go_wp2
  go_loopw [8] (fun i wr => ∃ k : Nat, k ≤ L.length ∧ i = .int .i64 k ∧ (∀ j (hj : j < L.length), j < k → zE L[j] = false) ∧ Blk wr w.heap.size (entC ⟨#[]⟩ 0 0) 34 ∧ Below w.heap.size w wr) (fun i _ => L.length - (intOf i).toNat)
  case atStart => exact ⟨0, by omega, rfl, fun j hj h => by omega, K0.out, B0.out⟩
  case round =>
    clear K0 B0
    obtain ⟨k, hk, rfl, hno, hblk, hb1⟩ := hrel
    have HNo := hide hno
    have HBk := hide hblk
    have HBw := hide hb1
    clear hno hblk
    by_cases hlt : k < L.length
    · obtain ⟨g, cap, e, hg1, hg2, hgc⟩ := HG.out (by omega)
      injection e with e1 e2 e3
      subst e1 e3
      obtain ⟨en, hen⟩ : ∃ en, en = L[k] := ⟨_, rfl⟩
      obtain ⟨nm, ino, kd⟩ := en
      have HRg := hide (show wr.rangeAt g (k * 3) (entC nm ino kd).toList from by
        intro j u hu
        have hL : L[k]? = some (nm, ino, kd) := by rw [List.getElem?_eq_getElem hlt, ← hen]
        have h1 := hgc (k * 3 + j) u (entsI_at hL j u hu)
        rw [Addr.add_mid, Nat.zero_add] at h1
        exact (hb1.cell (p := ⟨g, k * 3 + j, none⟩) hg2).trans h1)
      have HE := hide (show ∀ w, (Op.equalIn 10000 34 (.agg (entC ⟨#[]⟩ 0 0)) (.agg (entC nm ino kd))).run Tryd.prog w = .ok (zE L[k]) w from fun w => by
        rw [← hen]
        exact (eqEnt w 9998 ⟨#[]⟩ 0 0 nm ino kd).trans (by rw [entEq_comm]; rfl))
      have hkI : ¬ ((L.length : Int) ≤ (k : Int)) := by omega
      clear hb1 hgc hen
      go_wp2_with fail
      refine wp_region_noPanic ?_
      refine wp_region_held_drew (S := fun w' => w'.rangeAt w.heap.size 0 (entC ⟨#[]⟩ 0 0).toList ∧ w'.rangeAt g (k * 3) (entC nm ino kd).toList) (by kernel_rfl) ⟨ent_range HBk.out, HRg.out⟩ (fun hH => ?_)
      refine wpAnyH_take (i := 0) (oi := _) (v := (.agg (entC ⟨#[]⟩ 0 0))) rfl (by kernel_rfl) (by kernel_rfl) (by kernel_rfl) (fun _ _ _ h => h) (yieldsIf_load_mid (by rfl) 34 _ rfl w.heap.size 0 rfl (entC ⟨#[]⟩ 0 0).toList _ (fun w' h => h.1) Tryd.underlying34 rfl infoD3) hH ?_
      try simp only [Act.put, List.getElem_toArray, List.getElem_cons_zero, List.getElem_cons_succ, List.setIfInBounds_toArray, List.set_cons_zero, List.set_cons_succ]
      refine wpAnyH_take (i := 1) (oi := _) (v := (.slice (some ⟨g, 0, none⟩) L.length lc)) rfl (by kernel_rfl) (by kernel_rfl) (by kernel_rfl) (fun _ _ _ h => h) (Or.inl ⟨by rfl, fun w' hw' => by go_simp⟩) hH ?_
      try simp only [Act.put, List.getElem_toArray, List.getElem_cons_zero, List.getElem_cons_succ, List.setIfInBounds_toArray, List.set_cons_zero, List.set_cons_succ]
      refine wpAnyH_take (i := 2) (oi := _) (v := (.int .i64 (k : Int))) rfl (by kernel_rfl) (by kernel_rfl) (by kernel_rfl) (fun _ _ _ h => h) (Or.inl ⟨by rfl, fun w' hw' => by go_simp⟩) hH ?_
      try simp only [Act.put, List.getElem_toArray, List.getElem_cons_zero, List.getElem_cons_succ, List.setIfInBounds_toArray, List.set_cons_zero, List.set_cons_succ]
      refine wpAnyH_take (i := 3) (oi := _) (v := (.pointer (some ⟨g, k * 3, none⟩))) rfl (by kernel_rfl) (by kernel_rfl) (by kernel_rfl) (fun _ _ _ h => h) (Or.inl ⟨by rfl, fun w' hw' => by go_simp⟩) hH ?_
      try simp only [Act.put, List.getElem_toArray, List.getElem_cons_zero, List.getElem_cons_succ, List.setIfInBounds_toArray, List.set_cons_zero, List.set_cons_succ]
      refine wpAnyH_take (i := 4) (oi := _) (v := (.agg (entC nm ino kd))) rfl (by kernel_rfl) (by kernel_rfl) (by kernel_rfl) (fun _ _ _ h => h) (yieldsIf_load_mid (by rfl) 34 _ rfl g (k * 3) rfl (entC nm ino kd).toList _ (fun w' h => h.2) Tryd.underlying34 rfl infoD3) hH ?_
      try simp only [Act.put, List.getElem_toArray, List.getElem_cons_zero, List.getElem_cons_succ, List.setIfInBounds_toArray, List.set_cons_zero, List.set_cons_succ]
      refine wpAnyH_take (i := 5) (oi := _) (v := (.bool (zE L[k]))) rfl (by kernel_rfl) (by kernel_rfl) (by kernel_rfl) (fun _ _ _ h => h) (yieldsIf_eqlD (by rfl) 34 _ _ _ rfl (entC ⟨#[]⟩ 0 0) (entC nm ino kd) rfl rfl guardEnt _ HE.out) hH ?_
      try simp only [Act.put, List.getElem_toArray, List.getElem_cons_zero, List.getElem_cons_succ, List.setIfInBounds_toArray, List.set_cons_zero, List.set_cons_succ]
      refine wpAnyH_done (by kernel_rfl) (NoPanic.normal ?_) _
      clear hH
      have HK5 := hide (show Blk (World.drew wr) w.heap.size (entC ⟨#[]⟩ 0 0) 34 ∧ Below w.heap.size w (World.drew wr) from ⟨HBk.out, HBw.out.drew⟩)
      cases hz : zE L[k] with
      | true =>
        have HI := hide (idxE_some hlt HNo.out hz)
        clear hz HE
        go_wp2
        go_ret
        rw [HI.out]
        exact ⟨rfl, HK5.out.2⟩
      | false =>
        have HN2 := hide (show ∀ j (hj : j < L.length), j < k + 1 → zE L[j] = false from fun j hj h => by
          rcases Nat.lt_or_ge j k with h1 | h1
          · exact HNo.out j hj h1
          · obtain rfl : j = k := by omega
            exact hz)
        clear hz HE
        go_wp2
        go_roundw
        case rel => exact ⟨k + 1, by omega, by go_num, HN2.out, HK5.out.1, HK5.out.2⟩
        case measure => simp [intOf]; omega
    · have HI := hide (show idxE L = -1 from idxE_none (fun j hj => HNo.out j hj (by omega)))
      clear hb1
      go_wp2
      go_ret
      rw [HI.out]
      exact ⟨rfl, HBw.out⟩
end Go.Proofs.YtcciaojdceejcaaDoor

namespace Go.Proofs.YtcciaojdceejcaaDoor
set_option linter.unusedVariables false
set_option linter.unusedSimpArgs false
open Go.RowKit

/-- Whether there is room, and the entries with one put in. -/
def roomE (L : List (ByteArray × Int × Int)) : Bool := match L.findIdx? zE with | some _ => true | none => decide (L.length * 32 < 262144)
def addE (L : List (ByteArray × Int × Int)) (e : ByteArray × Int × Int) : List (ByteArray × Int × Int) := match L.findIdx? zE with | some k => L.set k e | none => (L ++ zeroes 16).set L.length e
theorem zeroes_len : ∀ n, (zeroes n).length = n
  | 0 => rfl
  | n + 1 => by simp [zeroes, zeroes_len n]
/-- Sixteen empty entries. -/
def zB : Array Value := (entsI (zeroes 16)).toArray
theorem entsI_one : ∀ (L : List (ByteArray × Int × Int)) u, u ∈ entsI L → u.oneCell' = true
  | [], u, h => by cases h
  | e :: es, u, h => by
    unfold entsI at h
    simp only [List.mem_cons] at h
    rcases h with rfl | rfl | rfl | h
    · rfl
    · rfl
    · rfl
    · exact entsI_one es u h
theorem Dr.belowD {H : Type} {base : Nat} {w w' : World} {b mb n nn : Nat} {v : Value} {xs : List Value} {D : DataW H} (h : Dr base w b mb n nn v xs D) (hb : Below w.heap.size w w') : Dr base w' b mb n nn v xs D :=
  ⟨h.blk.below hb h.blk.lt, own_below h.own hb, h.ne, by
    have hm := h.map.lt
    obtain ⟨es, ck, h1, h2⟩ := h.map
    exact ⟨es, ck, (hb.block mb hm).trans h1, h2⟩, h.nb⟩
set_option maxRecDepth 100000 in
set_option maxHeartbeats 2000000 in
theorem add_any {H : Type} (base : Nat) (w : World) (b mb nn : Nat) (v : Value) (L : List (ByteArray × Int × Int)) (D : DataW H) (nm : ByteArray) (ino kd : Int) (h : Dr base w b mb L.length nn v (entsI L) D) (hn : L.length ≤ 8192) (hnn : nn < maxLen) (hnm : nm.size ≤ maxLen)
    (hbb : base ≤ b) (hbm : base ≤ mb) :
    Calls Tryd.prog 41 #[.pointer (some ⟨b, 0, none⟩), .agg (entC nm ino kd)] w fun e w' => e = .returned (.bool (roomE L)) ∧ (roomE L = true → ∃ v' D', Dr (H := H) base w' b mb (addE L (nm, ino, kd)).length (nn + 1) v' (entsI (addE L (nm, ino, kd))) D') ∧ Below base w w' := by
  have hbw := h.blk.lt
  have HBo := hide (show ∀ r, v.ownBlock = some r → r < w.heap.size from fun r hr => (h.own.lt r hr).2)
  have hmw := h.map.lt
  obtain ⟨la, lc, rfl⟩ := ownD_shape h.own
  have HB0 := hide (show Below w.heap.size w (w.alloc (.cells (entC nm ino kd) 34)) from (Below.refl _ _).alloc (Nat.le_refl _) _)
  have K0 := hide (Blk.new w (entC nm ino kd) 34)
  have HD := hide (show Dr base (w.alloc (.cells (entC nm ino kd) 34)) b mb L.length nn (.slice la L.length lc) (entsI L) D from ⟨h.blk.alloc _, h.own.alloc _, h.ne, h.map.alloc _, h.nb⟩)
  have c0 : (w.alloc (.cells (entC nm ino kd) 34)).cell? ⟨b, 0, none⟩ = some (.slice la L.length lc) := (HD.out.blk.cell 0).trans rfl
  clear h
  go_enter Tryd.func41, Tryd.ntmps41
  go_wp2_with (go_at_call 62; fail)
  refine (index_any base _ _ L HD.out.own hn).mono ?_
  rintro e w1 ⟨rfl, b1⟩
  have hs1 := b1.size
  rw [World.size_alloc] at hs1
  have HD1 := hide (show Dr base w1 b mb L.length nn (.slice la L.length lc) (entsI L) D from HD.out.belowD b1)
  have K1 := hide (K0.out.below b1 K0.out.lt)
  have B1 := hide (HB0.out.trans (b1.mono HB0.out.size))
  clear b1 HD K0 HB0 c0
  cases hx : L.findIdx? zE with
  | some k =>
    have hk : k < L.length := (List.findIdx?_eq_some_iff_getElem.1 hx).1
    have hidx : idxE L = (k : Int) := by unfold idxE; rw [hx]
    have HRm := hide (show roomE L = true from by unfold roomE; rw [hx])
    have HAd := hide (show addE L (nm, ino, kd) = L.set k (nm, ino, kd) from by unfold addE; rw [hx])
    rw [hidx]
    clear hx hidx
    obtain ⟨g, cap, e, hg1, hg2, _⟩ := own_sliceD HD1.out.own (by omega)
    injection e with e1 _ e3
    subst e1 e3
    have hbg : b ≠ g := fun e => HD1.out.ne (by rw [e]; rfl)
    have hgm : g ≠ mb := fun e => HD1.out.nm (by rw [← e]; rfl)
    go_wp2_with (first
      | (refine wpList_load_midD (by first | rfl | (simp [Region.wanted, yielded]; done)) 34 _ rfl w.heap.size 0 rfl (entC nm ino kd).toList _ (ent_range K1.out) Tryd.underlying34 rfl infoD3 ?_)
      | (go_at_call 63; fail))
    refine (dput_any (H := H) _ b mb g lc L.length nn base (entsI L) D k nm ino kd hk (by omega) ((HD1.out.blk.cell 0).trans rfl) ((HD1.out.blk.cell 1).trans rfl) HD1.out.own HD1.out.map hnn hnm hbg HD1.out.nb hgm).mono ?_
    rintro e w2 ⟨rfl, o2, m2, k2, b2⟩
    have HD2 := hide (show Dr base w2 b mb (L.set k (nm, ino, kd)).length (nn + 1) (.slice (some ⟨g, 0, none⟩) L.length lc) (entsI (L.set k (nm, ino, kd))) (D.put (.string nm.data.toList) (.lit (.int .i64 k))) from by
      rw [List.length_set, ← putE_set]
      exact ⟨(k2 b HD1.out.blk.lt hbg HD1.out.nb).trans HD1.out.blk, o2, HD1.out.ne, m2, HD1.out.nb⟩)
    have B2 := hide (show Below base w w2 from (B1.out.mono (by omega)).trans (b2 base hg1 hbm (by omega)))
    clear o2 m2 k2 b2 B1 K1 HD1
    go_wp2
    go_ret
    rw [HRm.out]
    exact ⟨rfl, fun _ => ⟨_, _, by rw [HAd.out]; exact HD2.out⟩, B2.out⟩
  | none =>
    have hidx : idxE L = -1 := by unfold idxE; rw [hx]
    have HAd := hide (show addE L (nm, ino, kd) = (L ++ zeroes 16).set L.length (nm, ino, kd) from by unfold addE; rw [hx])
    have HRm := hide (show roomE L = decide (L.length * 32 < 262144) from by unfold roomE; rw [hx])
    have c1 : w1.cell? ⟨b, 0, none⟩ = some (.slice la L.length lc) := (HD1.out.blk.cell 0).trans rfl
    rw [hidx]
    clear hx hidx
    by_cases hroom : L.length * 32 < 262144
    · have HRo := hide hroom
      have hr1 : (L.length : Int) < 8192 := by omega
      clear hroom
      have hr2 : ¬ ((262144 : Int) ≤ (L.length : Int) * 32) := by omega
      go_upto_if 22 with fail
      rw [show decide ((262144 : Int) ≤ (L.length : Int) * 32) = false from decide_eq_false (by omega)]
      clear hr2
      go_upto_region 6 with fail
      have KZ := hide (show Blk (w1.alloc (.cells zB 104)) w1.heap.size zB 104 from Blk.new _ _ _)
      have HD2 := hide (HD1.out.belowD ((Below.refl _ _).alloc (Nat.le_refl _) (.cells zB 104)))
      have K2 := hide (K1.out.alloc (.cells zB 104))
      have B2 := hide (show Below w.heap.size w (w1.alloc (.cells zB 104)) from B1.out.trans ((Below.refl _ _).alloc (by omega) _))
      refine wp_region_list ?_
      refine Go.Great.wpList_allocTo rfl (some 6) rfl (.pointer (some ⟨w1.heap.size, 0, none⟩)) (.cells zB 104) (by kernel_rfl) ?_
      go_wp2_with fail
      obtain ⟨w2, hw2⟩ : ∃ w2, w2 = w1.alloc (.cells zB 104) := ⟨_, rfl⟩
      have hs2 : w2.heap.size = w1.heap.size + 1 := by rw [hw2]; simp
      rw [← hw2] at KZ HD2 K2 B2 ⊢
      clear hw2 HD1 K1 B1 c1
      refine wp_region_noPanic ?_
      refine wp_region_held_drew (S := fun _ => True) (by kernel_rfl) trivial (fun hH => ?_)
      refine wpAnyH_take (i := 0) (oi := _) (v := (.pointer (some ⟨b, 0, none⟩))) rfl (by kernel_rfl) (by kernel_rfl) (by kernel_rfl) (fun _ _ _ h => h) (Or.inl ⟨by rfl, fun w' hw' => by go_simp⟩) hH ?_
      try simp only [Act.put, List.getElem_toArray, List.getElem_cons_zero, List.getElem_cons_succ, List.setIfInBounds_toArray, List.set_cons_zero, List.set_cons_succ]
      refine wpAnyH_take (i := 1) (oi := _) (v := (.pointer (some ⟨b, 0, none⟩))) rfl (by kernel_rfl) (by kernel_rfl) (by kernel_rfl) (fun _ _ _ h => h) (Or.inl ⟨by rfl, fun w' hw' => by go_simp⟩) hH ?_
      try simp only [Act.put, List.getElem_toArray, List.getElem_cons_zero, List.getElem_cons_succ, List.setIfInBounds_toArray, List.set_cons_zero, List.set_cons_succ]
      refine wpAnyH_take (i := 2) (oi := _) (v := (.pointer (some ⟨b, 0, none⟩))) rfl (by kernel_rfl) (by kernel_rfl) (by kernel_rfl) (fun _ _ _ h => h) (Or.inl ⟨by rfl, fun w' hw' => by go_simp⟩) hH ?_
      try simp only [Act.put, List.getElem_toArray, List.getElem_cons_zero, List.getElem_cons_succ, List.setIfInBounds_toArray, List.set_cons_zero, List.set_cons_succ]
      refine wpAnyH_take (i := 3) (oi := _) (v := (.pointer (some ⟨b, 0, none⟩))) rfl (by kernel_rfl) (by kernel_rfl) (by kernel_rfl) (fun _ _ _ h => h) (Or.inl ⟨by rfl, fun w' hw' => by go_simp⟩) hH ?_
      try simp only [Act.put, List.getElem_toArray, List.getElem_cons_zero, List.getElem_cons_succ, List.setIfInBounds_toArray, List.set_cons_zero, List.set_cons_succ]
      refine wpAnyH_take (i := 5) (oi := _) (v := (.slice (some ⟨w1.heap.size, 0, none⟩) 16 16)) rfl (by kernel_rfl) (by kernel_rfl) (by kernel_rfl) (fun _ _ _ h => h) (Or.inl ⟨by rfl, fun w' hw' => by go_simp⟩) hH ?_
      try simp only [Act.put, List.getElem_toArray, List.getElem_cons_zero, List.getElem_cons_succ, List.setIfInBounds_toArray, List.set_cons_zero, List.set_cons_succ]
      have c2 : (World.drew w2).cell? ⟨b, 0, none⟩ = some (.slice la L.length lc) := (HD2.out.blk.cell 0).trans rfl
      refine wpAnyH_ready (rs := [4]) (by kernel_rfl) (by simp) ?_
      refine AllReadyH.cons (o := _) rfl (fun K hK => ?_) AllReadyH.nil
      go_simp
      refine hK.out _ _ trivial (fun hH4 => ?_)
      clear hK K hH
      try simp only [Act.put, List.getElem_toArray, List.getElem_cons_zero, List.getElem_cons_succ, List.setIfInBounds_toArray, List.set_cons_zero, List.set_cons_succ]
      refine wpAnyH_ready (rs := [6]) (by kernel_rfl) (by simp) ?_
      refine AllReadyH.cons (o := _) rfl (fun K hK => ?_) AllReadyH.nil
      rw [if_pos (by rfl)]
      obtain ⟨i0, hi, hz0, hz1, hz2⟩ := info_parts infoD
      refine wp_append_own _ (.tmp 27) (.tmp 28) 29 rfl base 34 i0 (.agg #[.string ⟨#[]⟩, .int .i64 0, .int .i64 0]) 3 32 Tryd.underlying29 hi hz0 hz1 hz2 rfl (by decide) _ L.length _ rfl (show (World.drew w2).ownsRow base 34 3 (.slice la L.length lc) L.length (entsI L) from HD2.out.own) ⟨w1.heap.size, 0, none⟩ 16 16 (entsI (zeroes 16)) rfl (by rw [entsI_len, zeroes_len]) (fun j u hj => ?_) (entsI_one _) (by unfold maxLen; omega) (by omega) (by show base ≤ w2.heap.size; omega) ?_
      · rw [Addr.add_mid, Nat.zero_add]
        exact (KZ.out.cell j).trans (by unfold zB; simpa using hj)
      intro v3 w3 o3 g3 _
      obtain ⟨ga, ca, rfl, hga1, hga2, _⟩ := own_sliceD o3 (by omega)
      have hg3s : w2.heap.size ≤ w3.heap.size := g3.size
      have K3 := hide (show Blk w3 b #[.slice la L.length lc, .map (some mb)] 68 from (g3.block b (by show b < w2.heap.size; omega) (fun e => HD2.out.ne e.symm)).trans HD2.out.blk)
      have hgab : ga ≠ b := fun e => by
        rcases o3.2 with ⟨e4, _⟩ | ⟨g', cp', cur, e4, _, hc4, _⟩
        · cases e4
        · injection e4 with e5 _ _
          injection e5 with e5
          injection e5 with e5 _ _
          rw [← e5, e, show w3.heap[b]? = _ from K3.out] at hc4
          injection hc4 with hc4
          injection hc4 with _ hc5 _
          exact absurd hc5 (by decide)
      have E3 := hide (show Blk w3 w.heap.size (entC nm ino kd) 34 from (g3.block w.heap.size (by show w.heap.size < w2.heap.size; omega) (fun e => by have h1 := K2.out; have := HBo.out _ e.symm; omega)).trans K2.out)
      have B3 := hide (show Below base w w3 from ((B2.out.mono (by omega)).drew).grown g3 (by show base ≤ w2.heap.size; omega) (fun r h => (HD2.out.own.lt r h).1))
      have M3 := hide (show w3.ownsMap Tryd.prog 9 (plainElem (H := H) Tryd.prog 3) mb nn D from (HD2.out.map.drew).kept g3 (fun e => HD2.out.nm e.symm))
      have O3 := hide (show w3.ownsRow base 34 3 (.slice (some ⟨ga, 0, none⟩) (L.length + 16) ca) (L.length + 16) (entsI (L ++ zeroes 16)) from by rw [entsI_append]; exact o3)
      refine hK.out _ _ trivial (fun hH6 => ?_)
      clear hK K hH4 o3 g3 c2
      try simp only [Act.put, List.getElem_toArray, List.getElem_cons_zero, List.getElem_cons_succ, List.setIfInBounds_toArray, List.set_cons_zero, List.set_cons_succ]
      refine wpAnyH_take (i := 7) (oi := _) (v := (.pointer (some ⟨b, 0, none⟩))) rfl (by kernel_rfl) (by kernel_rfl) (by kernel_rfl) (fun _ _ _ h => h) (Or.inl ⟨by rfl, fun w' hw' => by go_simp⟩) hH6 ?_
      try simp only [Act.put, List.getElem_toArray, List.getElem_cons_zero, List.getElem_cons_succ, List.setIfInBounds_toArray, List.set_cons_zero, List.set_cons_succ]
      refine wpAnyH_take (i := 8) (oi := _) (v := (.pointer (some ⟨b, 0, none⟩))) rfl (by kernel_rfl) (by kernel_rfl) (by kernel_rfl) (fun _ _ _ h => h) (Or.inl ⟨by rfl, fun w' hw' => by go_simp⟩) hH6 ?_
      try simp only [Act.put, List.getElem_toArray, List.getElem_cons_zero, List.getElem_cons_succ, List.setIfInBounds_toArray, List.set_cons_zero, List.set_cons_succ]
      have c3 := (K3.out.cell 0).trans (show (#[.slice la L.length lc, .map (some mb)] : Array Value)[0]? = some (.slice la L.length lc) from rfl)
      have fz3 := K3.out.frozen 0
      refine wpAnyH_ready (rs := [9]) (by kernel_rfl) (by simp) ?_
      refine AllReadyH.cons (o := _) rfl (fun K hK => ?_) AllReadyH.nil
      go_simp
      refine hK.out _ _ trivial (fun hH9 => ?_)
      clear hK K hH6
      try simp only [Act.put, List.getElem_toArray, List.getElem_cons_zero, List.getElem_cons_succ, List.setIfInBounds_toArray, List.set_cons_zero, List.set_cons_succ]
      refine wpAnyH_done (by kernel_rfl) (NoPanic.normal ?_) _
      obtain ⟨w4, hw4⟩ : ∃ w4, w4 = w3.setCell ⟨b, 0, none⟩ (.slice (some ⟨ga, 0, none⟩) (L.length + 16) ca) := ⟨_, rfl⟩
      have hgm4 : ga ≠ mb := fun e => by
        rcases O3.out.2 with ⟨e4, _⟩ | ⟨g', cp', cur, e4, _, hc4, _⟩
        · cases e4
        · injection e4 with e5 _ _
          injection e5 with e5
          injection e5 with e5 _ _
          obtain ⟨es, ck, h1, _⟩ := M3.out
          rw [← e5, e, h1] at hc4
          cases hc4
      have HD4 := hide (show Dr base w4 b mb (L.length + 16) nn (.slice (some ⟨ga, 0, none⟩) (L.length + 16) ca) (entsI (L ++ zeroes 16)) D from by
        rw [hw4]
        exact ⟨K3.out.set 0 _, ownsRow_setCell_other O3.out (by simpa [Value.ownBlock] using hgab) _, by simpa [Value.ownBlock] using hgab, mapSet M3.out _ (fun e => HD2.out.nb e.symm), HD2.out.nb⟩)
      have E4 := hide (show Blk w4 w.heap.size (entC nm ino kd) 34 from by rw [hw4]; exact E3.out.other ⟨b, 0, none⟩ _ (by show w.heap.size ≠ b; omega))
      have B4 := hide (show Below base w w4 from by rw [hw4]; exact B3.out.setCell (p := ⟨b, 0, none⟩) hbb _)
      rw [← hw4]
      clear hw4 hH9 c3 fz3 K3 E3 B3 M3 O3 HD2 K2 KZ B2
      go_wp2_with (first
        | (refine wpList_load_midD (by first | rfl | (simp [Region.wanted, yielded]; done)) 34 _ rfl w.heap.size 0 rfl (entC nm ino kd).toList _ (ent_range E4.out) Tryd.underlying34 rfl infoD3 ?_)
        | (go_at_call 63; fail))
      refine (dput_any (H := H) _ b mb ga ca (L.length + 16) nn base (entsI (L ++ zeroes 16)) D L.length nm ino kd (by omega) (by omega) ((HD4.out.blk.cell 0).trans rfl) ((HD4.out.blk.cell 1).trans rfl) HD4.out.own HD4.out.map hnn hnm (fun e => hgab e.symm) HD4.out.nb hgm4).mono ?_
      rintro e w5 ⟨rfl, o5, m5, k5, b5⟩
      have HD5 := hide (show Dr base w5 b mb ((L ++ zeroes 16).set L.length (nm, ino, kd)).length (nn + 1) (.slice (some ⟨ga, 0, none⟩) (L.length + 16) ca) (entsI ((L ++ zeroes 16).set L.length (nm, ino, kd))) (D.put (.string nm.data.toList) (.lit (.int .i64 L.length))) from by
        rw [List.length_set, List.length_append, zeroes_len, ← putE_set]
        exact ⟨(k5 b HD4.out.blk.lt (fun e => hgab e.symm) HD4.out.nb).trans HD4.out.blk, o5, HD4.out.ne, m5, HD4.out.nb⟩)
      have hs4 := B4.out.size
      have B5 := hide (show Below base w w5 from B4.out.trans (b5 base hga1 hbm (by omega)))
      clear o5 m5 k5 b5 B4 E4 HD4
      go_wp2
      go_ret
      rw [HRm.out, decide_eq_true HRo.out]
      exact ⟨rfl, (fun _ => ⟨_, _, by rw [HAd.out]; exact HD5.out⟩), B5.out⟩
    · have hr1 : (262144 : Int) ≤ (L.length : Int) * 32 := by omega
      go_wp2
      go_ret
      rw [HRm.out, decide_eq_false hroom]
      exact ⟨rfl, (fun h => by cases h), B1.out.mono (by omega)⟩
end Go.Proofs.YtcciaojdceejcaaDoor

namespace Go.Proofs.YtcciaojdceejcaaDoor
set_option linter.unusedVariables false
set_option linter.unusedSimpArgs false
open Go.RowKit

/-- What DirAdd answers: the code and the bytes. -/
def daC (zs : List Int) (nm : ByteArray) (ino kd : Int) : Int :=
  if dirOk zs = false then 21 else if Chk.chkS nm ≠ 0 then Chk.chkS nm else if (wi ino 1 1000 && wi kd 1 3) = false then 7 else if (firstK zs nm (zs.length / 32)).isSome = true then 4 else if roomE (slotsL zs (zs.length / 32)) = true then 0 else 8
def daB (zs : List Int) (nm : ByteArray) (ino kd : Int) : List Int := if daC zs nm ino kd = 0 then bytesE (addE (slotsL zs (zs.length / 32)) (nm, ino, kd)) else []
theorem chk_sizeA {nm : ByteArray} (h : Chk.chkS nm = 0) : nm.size ≤ 26 ∧ nm.toList ≠ [] := by
  unfold Chk.chkS at h
  split at h
  · cases h
  · rename_i h1
    split at h
    · cases h
    · exact ⟨by omega, fun e => h1 (.inl e)⟩
theorem addE_ok {L : List (ByteArray × Int × Int)} {e : ByteArray × Int × Int} (h : ∀ x ∈ L, okE x) (he : okE e) : ∀ x ∈ addE L e, okE x := by
  intro x hx
  unfold addE at hx
  split at hx
  · rcases List.mem_or_eq_of_mem_set hx with h1 | h1
    · exact h x h1
    · rw [h1]; exact he
  · rcases List.mem_or_eq_of_mem_set hx with h1 | h1
    · rcases List.mem_append.1 h1 with h2 | h2
      · exact h x h2
      · have hz : ∀ (n : Nat) (y : ByteArray × Int × Int), y ∈ zeroes n → y = (⟨#[]⟩, 0, 0) := by
          intro n
          induction n with
          | zero => intro y hy; cases hy
          | succ n ih =>
            intro y hy
            unfold zeroes at hy
            rcases List.mem_cons.1 hy with h3 | h3
            · exact h3
            · exact ih y h3
        rw [hz 16 x h2]
        exact good_zero.1
    · rw [h1]; exact he
theorem addE_len {L : List (ByteArray × Int × Int)} {e : ByteArray × Int × Int} (h : roomE L = true) (hL : L.length ≤ 8192) (h16 : L.length % 16 = 0) : (addE L e).length ≤ 8192 := by
  unfold roomE at h
  unfold addE
  split at h
  · rename_i k hk
    show (L.set k e).length ≤ 8192
    rw [List.length_set]
    exact hL
  · rename_i hk
    show ((L ++ zeroes 16).set L.length e).length ≤ 8192
    rw [List.length_set, List.length_append, zeroes_len]
    simp only [decide_eq_true_eq] at h
    omega
theorem wi_both {i k : Int} (h : (wi i 1 1000 && wi k 1 3) = true) : (1 ≤ i ∧ i ≤ 1000) ∧ 1 ≤ k ∧ k ≤ 3 := by
  rw [Bool.and_eq_true] at h
  exact ⟨wi_true h.1, wi_true h.2⟩
theorem lookW {zs : List Int} {nm : ByteArray} {lc : Int} {mb nn : Nat} {D : DataW Unit} {w1 : World} (h1 : w1.ownsMap Tryd.prog 9 (plainElem (H := Unit) Tryd.prog 3) mb nn D) (hnm : nm.size ≤ maxLen) (hat : D.atKey (.string nm.data.toList) (.lit (.int .i64 0)) = .lit (.int .i64 lc)) :
    ∀ w : World, w.ownsMap Tryd.prog 9 (plainElem (H := Unit) Tryd.prog 3) mb nn D → (Instr.lookup 66 (.map (some mb)) (.string nm) true).run Tryd.prog w = .ok (.tuple #[.int .i64 lc, .bool (Maps.has D (.string nm.data.toList))]) w := by
  intro w h
  obtain ⟨c, hr, hc⟩ := lookK h nm hnm
  have e : lc = c := by
    have h2 := hat.symm.trans hc
    simpa using h2
  rw [e]
  exact hr

set_option maxRecDepth 100000 in
set_option maxHeartbeats 2000000 in
theorem implDA_any (v : Value) (zs : List Int) (nm : ByteArray) (ino kd : Int) (w : World) (h : Rd .u8 w v zs) (hbd : ∀ z ∈ zs, 0 ≤ z ∧ z < 256) (hnm : nm.size ≤ maxLen) (hg : ErrT w) :
    Calls Tryd.prog 19 #[v, .agg (entC nm ino kd)] w fun e w' => ∃ v', e = .returned (.tuple #[v', .int .i64 (daC zs nm ino kd)]) ∧ w'.ownsRow w.heap.size 5 1 v' (daB zs nm ino kd).length ((daB zs nm ino kd).map (Value.int .u8)) ∧ Below w.heap.size w w' := by
  have hsh : ∃ a cap, v = .slice a zs.length cap := by obtain ⟨a, cap, h1, _⟩ := h; exact ⟨a, cap, h1⟩
  obtain ⟨a, cap, rfl⟩ := hsh
  have HR := hide h
  have HX := hide hbd
  have HG := hide hg
  have B0 := hide (show Below w.heap.size w (w.alloc (.cells (entC nm ino kd) 34)) from (Below.refl _ _).alloc (Nat.le_refl _) _)
  have K0 := hide (Blk.new w (entC nm ino kd) 34)
  clear h hbd hg
  go_enter Tryd.func19, Tryd.ntmps19
  go_wp2_with (go_at_call 36; fail)
  refine (openDir_all Unit cap a zs _ (HR.out.below B0.out) HX.out).mono ?_
  rintro e w1 ⟨v1, ev, rfl, hf, b1, hd⟩
  have hs1 : w.heap.size < w1.heap.size := Nat.lt_of_lt_of_le (by simp) b1.size
  have K1 := hide (K0.out.below b1 K0.out.lt)
  have B1 := hide (B0.out.trans (b1.mono B0.out.size))
  clear b1 K0 B0
  rcases hf with ⟨hok, rfl⟩ | ⟨hok, m, hF⟩
  · obtain ⟨d, mb, nn, v', rfl, hdl, hdm, hnn, hdr⟩ := hd hok
    rw [World.size_alloc] at hdl hdm hdr
    have HL := hide (dirOk_len hok)
    have HOk := hide hok
    have HDr := hide hdr
    have hes : ∃ es, entT zs (zs.length / 32) = some es := by
      have h := hok
      rw [dirOk_eq HL.out.1 HL.out.2, Bool.and_eq_true] at h
      exact Option.isSome_iff_exists.1 h.1
    have HEs := hide hes
    clear hd hok hdr hes
    have cN := (K1.out.cell 0).trans (show (entC nm ino kd)[0]? = some (.string nm) from rfl)
    go_wp2_with (go_at_call 39; fail)
    refine (Chk.impl_any nm _ hnm).mono ?_
    rintro e w2 ⟨rfl, hw2⟩
    have b2 : Below w1.heap.size w1 w2 := by
      rcases hw2 with rfl | ⟨pos, rfl⟩
      · exact Below.refl _ _
      · exact Below.iterD _ _ _
    have HDr2 := hide (HDr.out.belowD b2)
    have K2 := hide (K1.out.below b2 K1.out.lt)
    have B2 := hide (B1.out.trans (b2.mono B1.out.size))
    have hs2 := b2.size
    clear b2 hw2 HDr K1 B1 cN
    by_cases hck : Chk.chkS nm = 0
    · rw [hck]
      go_wp2_with (first
        | (refine wpList_load_midD (by first | rfl | (simp [Region.wanted, yielded]; done)) 34 _ rfl w.heap.size 0 rfl (entC nm ino kd).toList _ (ent_range K2.out) Tryd.underlying34 rfl infoD3 ?_)
        | (go_at_call 40; fail))
      refine (direntFault_any nm ino kd 7 _).mono ?_
      rintro e w3 ⟨ev, rfl, hf3, b3⟩
      have HDr3 := hide (HDr2.out.belowD b3)
      have K3 := hide (K2.out.below b3 K2.out.lt)
      have B3 := hide (B2.out.trans (b3.mono B2.out.size))
      have hs3 := b3.size
      clear b3 HDr2 K2 B2
      rcases hf3 with ⟨hwi, rfl⟩ | ⟨hwi, m, hF⟩
      · obtain ⟨es, hes⟩ := HEs.out
        obtain ⟨hm1, hm2⟩ := map_first Unit nm hes
        obtain ⟨lc, hlk, hat⟩ := lookK HDr3.out.map nm hnm
        have HLk := hide (lookW (zs := zs) HDr3.out.map hnm hat)
        rw [hm1] at HLk
        have HEo := hide (entT_ok hes)
        clear hm2 hlk hat hm1 hes HEs
        cases hf : firstK zs nm (zs.length / 32) with
        | some k =>
          have HC := hide (show daC zs nm ino kd = 4 from by unfold daC; rw [if_neg (by rw [HOk.out]; decide), if_neg (by rw [hck]; decide), if_neg (by rw [hwi]; decide), if_pos (by rw [hf]; rfl)])
          have HB := hide (show daB zs nm ino kd = [] from by unfold daB; rw [if_neg (by rw [HC.out]; decide)])
          rw [hf] at HLk
          replace HLk := hide (show ∀ w : World, w.ownsMap Tryd.prog 9 (plainElem (H := Unit) Tryd.prog 3) mb nn (mapR Unit zs (List.range (zs.length / 32)).reverse) → (Instr.lookup 66 (.map (some mb)) (.string nm) true).run Tryd.prog w = .ok (.tuple #[.int .i64 lc, .bool true]) w from HLk.out)
          clear hf
          go_wp2_with fail
          refine wp_region_noPanic ?_
          refine wp_region_held_drew (S := fun w' => w'.cell? ⟨d, 1, none⟩ = some (.map (some mb)) ∧ w'.cell? ⟨w.heap.size, 0, none⟩ = some (.string nm) ∧ w'.ownsMap Tryd.prog 9 (plainElem (H := Unit) Tryd.prog 3) mb nn (mapR Unit zs (List.range (zs.length / 32)).reverse)) (by kernel_rfl) ⟨(HDr3.out.blk.cell 1).trans rfl, (K3.out.cell 0).trans rfl, HDr3.out.map⟩ (fun hH => ?_)
          refine wpAnyH_take (i := 0) (oi := _) (v := (.pointer (some ⟨d, 0, none⟩))) rfl (by kernel_rfl) (by kernel_rfl) (by kernel_rfl) (fun _ _ _ h => h) (Or.inl ⟨by rfl, fun w' hw' => by go_simp⟩) hH ?_
          try simp only [Act.put, List.getElem_toArray, List.getElem_cons_zero, List.getElem_cons_succ, List.setIfInBounds_toArray, List.set_cons_zero, List.set_cons_succ]
          refine wpAnyH_take (i := 1) (oi := _) (v := (.pointer (some ⟨d, 0, none⟩))) rfl (by kernel_rfl) (by kernel_rfl) (by kernel_rfl) (fun _ _ _ h => h) (Or.inl ⟨by rfl, fun w' hw' => by go_simp⟩) hH ?_
          try simp only [Act.put, List.getElem_toArray, List.getElem_cons_zero, List.getElem_cons_succ, List.setIfInBounds_toArray, List.set_cons_zero, List.set_cons_succ]
          refine wpAnyH_take (i := 2) (oi := _) (v := (.pointer (some ⟨d, 1, none⟩))) rfl (by kernel_rfl) (by kernel_rfl) (by kernel_rfl) (fun _ _ _ h => h) (Or.inl ⟨by rfl, fun w' hw' => by go_simp⟩) hH ?_
          try simp only [Act.put, List.getElem_toArray, List.getElem_cons_zero, List.getElem_cons_succ, List.setIfInBounds_toArray, List.set_cons_zero, List.set_cons_succ]
          refine wpAnyH_take (i := 3) (oi := _) (v := (.map (some mb))) rfl (by kernel_rfl) (by kernel_rfl) (by kernel_rfl) (fun _ _ _ h => h) (Or.inl ⟨by rfl, fun w' hw' => by have hc := hw'.1; clear hw'; go_simp⟩) hH ?_
          try simp only [Act.put, List.getElem_toArray, List.getElem_cons_zero, List.getElem_cons_succ, List.setIfInBounds_toArray, List.set_cons_zero, List.set_cons_succ]
          refine wpAnyH_take (i := 4) (oi := _) (v := (.pointer (some ⟨w.heap.size, 0, none⟩))) rfl (by kernel_rfl) (by kernel_rfl) (by kernel_rfl) (fun _ _ _ h => h) (Or.inl ⟨by rfl, fun w' hw' => by go_simp⟩) hH ?_
          try simp only [Act.put, List.getElem_toArray, List.getElem_cons_zero, List.getElem_cons_succ, List.setIfInBounds_toArray, List.set_cons_zero, List.set_cons_succ]
          refine wpAnyH_take (i := 5) (oi := _) (v := (.string nm)) rfl (by kernel_rfl) (by kernel_rfl) (by kernel_rfl) (fun _ _ _ h => h) (Or.inl ⟨by rfl, fun w' hw' => by have hc := hw'.2.1; clear hw'; go_simp⟩) hH ?_
          try simp only [Act.put, List.getElem_toArray, List.getElem_cons_zero, List.getElem_cons_succ, List.setIfInBounds_toArray, List.set_cons_zero, List.set_cons_succ]
          refine wpAnyH_take (i := 6) (oi := _) (v := (.tuple #[.int .i64 lc, .bool true])) rfl (by kernel_rfl) (by kernel_rfl) (by kernel_rfl) (fun _ _ _ h => h) (Or.inl ⟨by rfl, fun w' hw' => by have hl := HLk.out w' hw'.2.2; clear hw'; go_simp⟩) hH ?_
          try simp only [Act.put, List.getElem_toArray, List.getElem_cons_zero, List.getElem_cons_succ, List.setIfInBounds_toArray, List.set_cons_zero, List.set_cons_succ]
          refine wpAnyH_take (i := 7) (oi := _) (v := (.tuple #[.int .i64 lc, .bool true])) rfl (by kernel_rfl) (by kernel_rfl) (by kernel_rfl) (fun _ _ _ h => h) (Or.inl ⟨by rfl, fun w' hw' => by go_simp⟩) hH ?_
          try simp only [Act.put, List.getElem_toArray, List.getElem_cons_zero, List.getElem_cons_succ, List.setIfInBounds_toArray, List.set_cons_zero, List.set_cons_succ]
          refine wpAnyH_take (i := 8) (oi := _) (v := (.int .i64 lc)) rfl (by kernel_rfl) (by kernel_rfl) (by kernel_rfl) (fun _ _ _ h => h) (Or.inl ⟨by rfl, fun w' hw' => by go_simp⟩) hH ?_
          try simp only [Act.put, List.getElem_toArray, List.getElem_cons_zero, List.getElem_cons_succ, List.setIfInBounds_toArray, List.set_cons_zero, List.set_cons_succ]
          refine wpAnyH_take (i := 9) (oi := _) (v := (.bool true)) rfl (by kernel_rfl) (by kernel_rfl) (by kernel_rfl) (fun _ _ _ h => h) (Or.inl ⟨by rfl, fun w' hw' => by go_simp⟩) hH ?_
          try simp only [Act.put, List.getElem_toArray, List.getElem_cons_zero, List.getElem_cons_succ, List.setIfInBounds_toArray, List.set_cons_zero, List.set_cons_succ]
          refine wpAnyH_take (i := 10) (oi := _) (v := (.int .i64 lc)) rfl (by kernel_rfl) (by kernel_rfl) (by kernel_rfl) (fun _ _ _ h => h) (Or.inl ⟨by rfl, fun w' hw' => by go_simp⟩) hH ?_
          try simp only [Act.put, List.getElem_toArray, List.getElem_cons_zero, List.getElem_cons_succ, List.setIfInBounds_toArray, List.set_cons_zero, List.set_cons_succ]
          refine wpAnyH_take (i := 11) (oi := _) (v := (.bool true)) rfl (by kernel_rfl) (by kernel_rfl) (by kernel_rfl) (fun _ _ _ h => h) (Or.inl ⟨by rfl, fun w' hw' => by go_simp⟩) hH ?_
          try simp only [Act.put, List.getElem_toArray, List.getElem_cons_zero, List.getElem_cons_succ, List.setIfInBounds_toArray, List.set_cons_zero, List.set_cons_succ]
          refine wpAnyH_done (by kernel_rfl) (NoPanic.normal ?_) _
          clear hH
          go_wp2
          go_ret2
          rw [HC.out, HB.out]
          exact ⟨_, rfl, own_nilB _ _, B3.out.drew⟩
        | none =>
          rw [hf] at HLk
          replace HLk := hide (show ∀ w : World, w.ownsMap Tryd.prog 9 (plainElem (H := Unit) Tryd.prog 3) mb nn (mapR Unit zs (List.range (zs.length / 32)).reverse) → (Instr.lookup 66 (.map (some mb)) (.string nm) true).run Tryd.prog w = .ok (.tuple #[.int .i64 lc, .bool false]) w from HLk.out)
          have HF := hide hf
          have HW := hide hwi
          have HCk := hide hck
          clear hf hwi hck
          go_wp2_with fail
          refine wp_region_noPanic ?_
          refine wp_region_held_drew (S := fun w' => w'.cell? ⟨d, 1, none⟩ = some (.map (some mb)) ∧ w'.cell? ⟨w.heap.size, 0, none⟩ = some (.string nm) ∧ w'.ownsMap Tryd.prog 9 (plainElem (H := Unit) Tryd.prog 3) mb nn (mapR Unit zs (List.range (zs.length / 32)).reverse)) (by kernel_rfl) ⟨(HDr3.out.blk.cell 1).trans rfl, (K3.out.cell 0).trans rfl, HDr3.out.map⟩ (fun hH => ?_)
          refine wpAnyH_take (i := 0) (oi := _) (v := (.pointer (some ⟨d, 0, none⟩))) rfl (by kernel_rfl) (by kernel_rfl) (by kernel_rfl) (fun _ _ _ h => h) (Or.inl ⟨by rfl, fun w' hw' => by go_simp⟩) hH ?_
          try simp only [Act.put, List.getElem_toArray, List.getElem_cons_zero, List.getElem_cons_succ, List.setIfInBounds_toArray, List.set_cons_zero, List.set_cons_succ]
          refine wpAnyH_take (i := 1) (oi := _) (v := (.pointer (some ⟨d, 0, none⟩))) rfl (by kernel_rfl) (by kernel_rfl) (by kernel_rfl) (fun _ _ _ h => h) (Or.inl ⟨by rfl, fun w' hw' => by go_simp⟩) hH ?_
          try simp only [Act.put, List.getElem_toArray, List.getElem_cons_zero, List.getElem_cons_succ, List.setIfInBounds_toArray, List.set_cons_zero, List.set_cons_succ]
          refine wpAnyH_take (i := 2) (oi := _) (v := (.pointer (some ⟨d, 1, none⟩))) rfl (by kernel_rfl) (by kernel_rfl) (by kernel_rfl) (fun _ _ _ h => h) (Or.inl ⟨by rfl, fun w' hw' => by go_simp⟩) hH ?_
          try simp only [Act.put, List.getElem_toArray, List.getElem_cons_zero, List.getElem_cons_succ, List.setIfInBounds_toArray, List.set_cons_zero, List.set_cons_succ]
          refine wpAnyH_take (i := 3) (oi := _) (v := (.map (some mb))) rfl (by kernel_rfl) (by kernel_rfl) (by kernel_rfl) (fun _ _ _ h => h) (Or.inl ⟨by rfl, fun w' hw' => by have hc := hw'.1; clear hw'; go_simp⟩) hH ?_
          try simp only [Act.put, List.getElem_toArray, List.getElem_cons_zero, List.getElem_cons_succ, List.setIfInBounds_toArray, List.set_cons_zero, List.set_cons_succ]
          refine wpAnyH_take (i := 4) (oi := _) (v := (.pointer (some ⟨w.heap.size, 0, none⟩))) rfl (by kernel_rfl) (by kernel_rfl) (by kernel_rfl) (fun _ _ _ h => h) (Or.inl ⟨by rfl, fun w' hw' => by go_simp⟩) hH ?_
          try simp only [Act.put, List.getElem_toArray, List.getElem_cons_zero, List.getElem_cons_succ, List.setIfInBounds_toArray, List.set_cons_zero, List.set_cons_succ]
          refine wpAnyH_take (i := 5) (oi := _) (v := (.string nm)) rfl (by kernel_rfl) (by kernel_rfl) (by kernel_rfl) (fun _ _ _ h => h) (Or.inl ⟨by rfl, fun w' hw' => by have hc := hw'.2.1; clear hw'; go_simp⟩) hH ?_
          try simp only [Act.put, List.getElem_toArray, List.getElem_cons_zero, List.getElem_cons_succ, List.setIfInBounds_toArray, List.set_cons_zero, List.set_cons_succ]
          refine wpAnyH_take (i := 6) (oi := _) (v := (.tuple #[.int .i64 lc, .bool false])) rfl (by kernel_rfl) (by kernel_rfl) (by kernel_rfl) (fun _ _ _ h => h) (Or.inl ⟨by rfl, fun w' hw' => by have hl := HLk.out w' hw'.2.2; clear hw'; go_simp⟩) hH ?_
          try simp only [Act.put, List.getElem_toArray, List.getElem_cons_zero, List.getElem_cons_succ, List.setIfInBounds_toArray, List.set_cons_zero, List.set_cons_succ]
          refine wpAnyH_take (i := 7) (oi := _) (v := (.tuple #[.int .i64 lc, .bool false])) rfl (by kernel_rfl) (by kernel_rfl) (by kernel_rfl) (fun _ _ _ h => h) (Or.inl ⟨by rfl, fun w' hw' => by go_simp⟩) hH ?_
          try simp only [Act.put, List.getElem_toArray, List.getElem_cons_zero, List.getElem_cons_succ, List.setIfInBounds_toArray, List.set_cons_zero, List.set_cons_succ]
          refine wpAnyH_take (i := 8) (oi := _) (v := (.int .i64 lc)) rfl (by kernel_rfl) (by kernel_rfl) (by kernel_rfl) (fun _ _ _ h => h) (Or.inl ⟨by rfl, fun w' hw' => by go_simp⟩) hH ?_
          try simp only [Act.put, List.getElem_toArray, List.getElem_cons_zero, List.getElem_cons_succ, List.setIfInBounds_toArray, List.set_cons_zero, List.set_cons_succ]
          refine wpAnyH_take (i := 9) (oi := _) (v := (.bool false)) rfl (by kernel_rfl) (by kernel_rfl) (by kernel_rfl) (fun _ _ _ h => h) (Or.inl ⟨by rfl, fun w' hw' => by go_simp⟩) hH ?_
          try simp only [Act.put, List.getElem_toArray, List.getElem_cons_zero, List.getElem_cons_succ, List.setIfInBounds_toArray, List.set_cons_zero, List.set_cons_succ]
          refine wpAnyH_take (i := 10) (oi := _) (v := (.int .i64 lc)) rfl (by kernel_rfl) (by kernel_rfl) (by kernel_rfl) (fun _ _ _ h => h) (Or.inl ⟨by rfl, fun w' hw' => by go_simp⟩) hH ?_
          try simp only [Act.put, List.getElem_toArray, List.getElem_cons_zero, List.getElem_cons_succ, List.setIfInBounds_toArray, List.set_cons_zero, List.set_cons_succ]
          refine wpAnyH_take (i := 11) (oi := _) (v := (.bool false)) rfl (by kernel_rfl) (by kernel_rfl) (by kernel_rfl) (fun _ _ _ h => h) (Or.inl ⟨by rfl, fun w' hw' => by go_simp⟩) hH ?_
          try simp only [Act.put, List.getElem_toArray, List.getElem_cons_zero, List.getElem_cons_succ, List.setIfInBounds_toArray, List.set_cons_zero, List.set_cons_succ]
          refine wpAnyH_done (by kernel_rfl) (NoPanic.normal ?_) _
          clear hH
          have hN8 : zs.length / 32 ≤ 8192 := by have := HL.out.2; omega
          have HLn := hide (slotsL_len zs (zs.length / 32))
          have HDr4 := hide (show Dr (H := Unit) (w.heap.size + 1) (World.drew w3) d mb (slotsL zs (zs.length / 32)).length nn v' (entsI (slotsL zs (zs.length / 32))) (mapR Unit zs (List.range (zs.length / 32)).reverse) from by rw [HLn.out]; exact ⟨HDr3.out.blk, HDr3.out.own, HDr3.out.ne, HDr3.out.map, HDr3.out.nb⟩)
          have K4 := hide (show Blk (World.drew w3) w.heap.size (entC nm ino kd) 34 from K3.out)
          have B4 := hide B3.out.drew
          obtain ⟨w4, hw4⟩ : ∃ w4, w4 = World.drew w3 := ⟨_, rfl⟩
          have hs4 : w3.heap.size ≤ w4.heap.size := by rw [hw4]; exact Nat.le_refl _
          rw [← hw4] at HDr4 K4 B4 ⊢
          clear hw4 HDr3 K3 B3 HLk
          go_wp2_with (first
            | (refine wpList_load_midD (by first | rfl | (simp [Region.wanted, yielded]; done)) 34 _ rfl w.heap.size 0 rfl (entC nm ino kd).toList _ (ent_range K4.out) Tryd.underlying34 rfl infoD3 ?_)
            | (go_at_call 41; fail))
          refine (add_any (H := Unit) (w.heap.size + 1) _ d mb nn v' (slotsL zs (zs.length / 32)) _ nm ino kd HDr4.out (by rw [HLn.out]; exact hN8) (by unfold maxLen; omega) hnm hdl hdm).mono ?_
          rintro e w5 ⟨rfl, hroom, b5⟩
          have B5 := hide (B4.out.trans (b5.mono (Nat.le_succ _)))
          have HRo := hide hroom
          clear hroom b5 B4 K4 HDr4
          have HWi := hide (wi_both HW.out)
          have HOe := hide (show ∀ x ∈ addE (slotsL zs (zs.length / 32)) (nm, ino, kd), okE x from addE_ok (fun x hx => (slots_good HX.out (by omega) HEo.out x hx).1) ⟨(chk_sizeA HCk.out).1, by show (0 : Int) ≤ ino; have := HWi.out; omega, by show ino < _; have := HWi.out; omega, by show (0 : Int) ≤ kd; have := HWi.out; omega, by show kd < _; have := HWi.out; omega⟩)
          cases hr : roomE (slotsL zs (zs.length / 32)) with
          | false =>
            have HC := hide (show daC zs nm ino kd = 8 from by unfold daC; rw [if_neg (by rw [HOk.out]; decide), if_neg (by rw [HCk.out]; decide), if_neg (by rw [HW.out]; decide), if_neg (by rw [HF.out]; decide), if_neg (by rw [hr]; decide)])
            have HB := hide (show daB zs nm ino kd = [] from by unfold daB; rw [if_neg (by rw [HC.out]; decide)])
            clear hr
            go_wp2
            go_ret2
            rw [HC.out, HB.out]
            exact ⟨_, rfl, own_nilB _ _, B5.out⟩
          | true =>
            have HC := hide (show daC zs nm ino kd = 0 from by unfold daC; rw [if_neg (by rw [HOk.out]; decide), if_neg (by rw [HCk.out]; decide), if_neg (by rw [HW.out]; decide), if_neg (by rw [HF.out]; decide), if_pos hr])
            have HB := hide (show daB zs nm ino kd = bytesE (addE (slotsL zs (zs.length / 32)) (nm, ino, kd)) from by unfold daB; rw [if_pos HC.out])
            have HLe := hide (addE_len (e := (nm, ino, kd)) hr (by rw [HLn.out]; exact hN8) (by rw [HLn.out]; have := HL.out.1; omega))
            obtain ⟨v5, D5, hD5⟩ := HRo.out hr
            have HD5 := hide hD5
            clear hD5 hr HRo
            go_wp2_with (go_at_call 42; fail)
            refine (bytesD_any (H := Unit) (w.heap.size + 1) _ d mb (nn + 1) v5 _ D5 HD5.out HLe.out HOe.out).mono ?_
            rintro e w6 ⟨v6, rfl, o6, b6⟩
            have O6 := hide (show w6.ownsRow w.heap.size 5 1 v6 (daB zs nm ino kd).length ((daB zs nm ino kd).map (Value.int .u8)) from by
              have h := own_mono o6 B5.out.size
              rw [← bytesE_len _ HOe.out, ← HB.out] at h
              exact h)
            have B6 := hide (B5.out.trans (b6.mono B5.out.size))
            clear o6 b6 B5
            go_wp2
            go_ret2
            rw [HC.out]
            exact ⟨_, rfl, O6.out, B6.out⟩
      · obtain ⟨t6, x6, rfl⟩ := hF.iface
        have HC := hide (show daC zs nm ino kd = 7 from by unfold daC; rw [if_neg (by rw [HOk.out]; decide), if_neg (by rw [hck]; decide), if_pos hwi])
        have HB := hide (show daB zs nm ino kd = [] from by unfold daB; rw [if_neg (by rw [HC.out]; decide)])
        have HF := hide hF
        clear hF hwi
        go_wp2_with (go_at_call 37; fail)
        refine (codeOf_any m _ 7 _ _ HF.out (HG.out.below B3.out)).mono ?_
        rintro e w4 ⟨rfl, b4⟩
        have B4 := hide (B3.out.trans (b4.mono B3.out.size))
        clear b4 B3
        go_wp2
        go_ret2
        rw [HC.out, HB.out]
        exact ⟨_, rfl, own_nilB _ _, B4.out⟩
    · have HC := hide (show daC zs nm ino kd = Chk.chkS nm from by unfold daC; rw [if_neg (by rw [HOk.out]; decide), if_pos hck])
      have HB := hide (show daB zs nm ino kd = [] from by unfold daB; rw [if_neg (by rw [HC.out]; exact hck)])
      go_wp2
      go_ret2
      rw [HC.out, HB.out]
      exact ⟨_, rfl, own_nilB _ _, B2.out⟩
  · obtain ⟨t6, x6, rfl⟩ := hF.iface
    have HC := hide (show daC zs nm ino kd = 21 from by unfold daC; rw [if_pos hok])
    have HB := hide (show daB zs nm ino kd = [] from by unfold daB; rw [if_neg (by rw [HC.out]; decide)])
    have HF := hide hF
    clear hd hok hF
    go_wp2_with (go_at_call 37; fail)
    refine (codeOf_any m _ 21 _ _ HF.out (HG.out.below B1.out)).mono ?_
    rintro e w2 ⟨rfl, b2⟩
    have B2 := hide (B1.out.trans (b2.mono B1.out.size))
    clear b2 B1
    go_wp2
    go_ret2
    rw [HC.out, HB.out]
    exact ⟨_, rfl, own_nilB _ _, B2.out⟩
end Go.Proofs.YtcciaojdceejcaaDoor

namespace Go.Proofs.YtcciaojdceejcaaDoor
set_option linter.unusedVariables false
set_option linter.unusedSimpArgs false
open Go.RowKit

theorem zc8 (k : Nat) : Builtin.zeroCells (Value.int .u8 0).cells k = (List.replicate k (Value.int .u8 0)).toArray := by
  apply Array.ext
  · simp [Builtin.zeroCells, Value.cells]
  · intro i h1 h2
    simp [Builtin.zeroCells, Value.cells, Nat.mod_one]
theorem run_append_zeros {P : Program} (w : World) (base : Nat) (t tn ty e : TypeId) (i : TypeInfo) (kn : IntKind) (ht : P.underlying t = some (.slice e)) (htn : P.underlying tn = some (.int kn)) (hi : P.info? e = some i) (hz : i.zero = some (.int .u8 0)) (hsize : i.size = 1) (hby : i.bytes = 1)
    (g n cap : Nat) (xs : List Value) (hown : w.ownsRow base e 1 (.slice (some ⟨g, 0, none⟩) n cap) n xs) (k : Nat) (h0 : 0 < k) (hk : n + k ≤ 1000000) (hbase : base ≤ w.heap.size) :
    ∃ v' w', (Builtin.append_ #[t, tn] ty #[.slice (some ⟨g, 0, none⟩) n cap, .int .i64 k]).run P w = .ok v' w' ∧ w'.ownsRow base e 1 v' (n + k) (xs ++ List.replicate k (.int .u8 0)) ∧ w.grownBy w' (some g) := by
  have hlen : (xs ++ List.replicate k (Value.int .u8 0)).length = (n + k) * 1 := by rw [List.length_append, hown.1, List.length_replicate]; omega
  rcases hown.2 with ⟨h, _⟩ | ⟨g', cap', cur, h, hbg, hg, hnc, hcm, hcs, htake⟩
  · simp at h
  · simp only [Value.slice.injEq, Option.some.injEq, Addr.mk.injEq, and_true, true_and] at h
    obtain ⟨rfl, rfl⟩ := h
    have hw : IntKind.i64.wrap (k : Int) = k := by rw [IntKind.wrap_i64]; omega
    have hneg : ¬ ((k : Int) < 0) := by omega
    have hk0 : k ≠ 0 := by omega
    have h48i : ¬ (281474976710656 < (k : Int) * (i.bytes : Int)) := by rw [hby]; omega
    by_cases hroom : n + k ≤ cap
    · have hfit : n * 1 + (List.replicate k (Value.int .u8 0)).length ≤ cur.size := by rw [hcs, List.length_replicate]; omega
      have hst := run_storeCells_at P g (n * i.size) e (List.replicate k (Value.int .u8 0)) 0 cur w hg (by rw [hsize]; simpa using hfit) (fun u hu => by rw [List.eq_of_mem_replicate hu]; rfl)
      simp only [Nat.add_zero] at hst
      refine ⟨.slice (some ⟨g, 0, none⟩) (n + k) cap, w.setRow g (cur.toList.take (n * i.size) ++ List.replicate k (Value.int .u8 0) ++ cur.toList.drop (n * i.size + (List.replicate k (Value.int .u8 0)).length)).toArray, ?_, ⟨hlen, .inr ⟨g, cap, _, rfl, hbg, setRow_heap w g cur _ e _ hg, hroom, hcm, ?_, ?_⟩⟩, ⟨rfl, rfl, rfl, by simp, fun k _ hk => setRow_other w g k _ (fun e => hk (by simp [e]))⟩⟩
      · simp [Builtin.append_, run_underlying ht, run_underlying htn, sizeOf, typeInfo, zeroValue, hi, hz, asInt, asIntOf, hw, hneg, h48i, hroom, hsize, hk0, zc8, Addr.add_lit] 
        simpa [hsize] using congrArg (fun r => Result.andThen r (fun _ w' => Result.ok (Value.slice (some ⟨g, 0, none⟩) (n + k) cap) w')) hst
      · simp only [List.size_toArray, List.length_append, List.length_take, List.length_drop, Array.length_toList, List.length_replicate, hsize]
        omega
      · rw [hsize, htake, ← hlen]
        exact List.take_left
    · have holds : (Builtin.firstCells i.size n (.slice (some ⟨g, 0, none⟩) n cap)).run P w.drew = .ok xs.toArray w.drew := run_firstCells_some (P := P) w.drew i.size n ⟨g, 0, none⟩ n cap xs (by rw [hsize]; exact hown.1) (hown.cells (g := g) rfl)
      have hr := Go.Lib.run_append_grow_zeros (P := P) w t tn ty e i (.int .u8 0) .i64 kn ht htn hi hz (some ⟨g, 0, none⟩) n cap xs holds k h0 (by omega) (by omega) (by omega) (by rw [hby]; omega) (growslice_fits (by omega) (by rw [hby]; omega))
      refine ⟨_, _, hr, ⟨hlen, .inr ⟨w.heap.size, _, _, rfl, hbase, heap_alloc_new w.drew _, grownCap_ge w (n + k) cap e, grownCap_le_maxLen w (n + k) cap e (by unfold maxLen; omega), ?_, ?_⟩⟩, ⟨rfl, rfl, rfl, by simp, fun k hk _ => Below.heap_alloc w.drew _ k hk⟩⟩
      · have hge := grownCap_ge w (n + k) cap e
        simp only [Array.size_append, List.size_toArray, zc8, List.length_replicate, hown.1]
        omega
      · simp only [Array.toList_append, zc8]
        rw [← hlen]
        exact List.take_left
end Go.Proofs.YtcciaojdceejcaaDoor

namespace Go.Proofs.YtcciaojdceejcaaDoor
set_option linter.unusedVariables false
set_option linter.unusedSimpArgs false
open Go.RowKit

/-- The first slot of zeros; the bytes with a slot put in. -/
def firstZ (zs : List Int) (n : Nat) : Option Nat := (List.range n).find? fun k => allZ (slotK zs k)
theorem firstZ_succ (zs : List Int) (n : Nat) : firstZ zs (n + 1) = (firstZ zs n).or (if allZ (slotK zs n) = true then some n else none) := by
  unfold firstZ
  rw [List.range_succ, List.find?_append]
  congr 1
  by_cases h : allZ (slotK zs n) = true <;> simp [List.find?, h]
def atZ (zs : List Int) (n : Nat) : Int := match firstZ zs n with | some k => 32 * (k : Int) | none => -1
def setB (M : List Int) (at_ : Nat) (B : List Int) : List Int := M.take at_ ++ (B ++ M.drop (at_ + 32))
def laR (zs : List Int) : Bool := match firstZ zs (zs.length / 32) with | some _ => true | none => decide (zs.length < 262144)
def laB (zs : List Int) (B : List Int) : List Int := match firstZ zs (zs.length / 32) with | some k => setB zs (32 * k) B | none => if zs.length < 262144 then setB (zs ++ List.replicate 512 0) zs.length B else []

theorem own_sliceD1 {w : World} {base : Nat} {e : TypeId} {v : Value} {n : Nat} {xs : List Value} (h : w.ownsRow base e 1 v n xs) (hn : 0 < n) : ∃ g cap, v = .slice (some ⟨g, 0, none⟩) n cap ∧ base ≤ g := by
  rcases h.2 with ⟨_, h0⟩ | ⟨g, cap, cur, rfl, hb, hg, _⟩
  · omega
  · exact ⟨g, cap, rfl, hb⟩
theorem wpList_append_rd {P : Program} (w : World) {ops : Array Oper} {rest : List Oper} {o : Oper} {a : Act} {Q : Exit → Act → World → Prop}
    (hg : o.guard = none) (s x : Operand) (t : TypeId) (hop : o.op = Op.call { callee := Callee.builtin Builtin.append, args := #[s, x], argTypes := #[t, t] })
    (base : Nat) (e : TypeId) (i : TypeInfo) (h1 : P.underlying t = some (.slice e)) (h2 : P.info? e = some i) (h3 : i.zero = some (.int .u8 0)) (h4 : i.size = 1) (h5 : i.bytes = 1)
    (g c n : Nat) (xs : List Value) (hs : a.eval s = .slice (some ⟨g, 0, none⟩) n c) (hown : w.ownsRow base e 1 (.slice (some ⟨g, 0, none⟩) n c) n xs)
    (v : Value) (zs : List Int) (hx : a.eval x = v) (hr : Rd .u8 w v zs) (hb : n + zs.length ≤ 1000000) (hbase : base ≤ w.heap.size)
    (hK : ∀ g' c' w', w'.ownsRow base e 1 (.slice (some ⟨g', 0, none⟩) (n + zs.length) c') (n + zs.length) (xs ++ zs.map (Value.int .u8)) → w.grownBy w' (some g) → wpList P ops Q rest (a.put o.dst (.slice (some ⟨g', 0, none⟩) (n + zs.length) c')) w') :
    wpList P ops Q (o :: rest) a w := by
  by_cases hz : 0 < zs.length
  · obtain ⟨bd, off, cp, rfl, hbw, _, _, hcell⟩ := hr.partsC hz
    refine append_fresh w hg s x t hop base e i (.int .u8 0) 1 1 h1 h2 h3 h4 h5 rfl (by decide) _ n xs hs hown ⟨bd, off, none⟩ zs.length cp (zs.map (Value.int .u8)) hx (by simp) (fun j u hj => ?_) (ints_oneCell _ _) hz (by unfold maxLen; omega) (by omega) hbase ?_
    · have hjl : j < zs.length := by
        rcases Nat.lt_or_ge j zs.length with h | h
        · exact h
        · rw [List.getElem?_eq_none (by simpa using h)] at hj; cases hj
      rw [Addr.add_mid, hcell j hjl]
      rw [List.getElem?_map, List.getElem?_eq_getElem hjl] at hj
      simp at hj
      rw [← hj]
      simp [List.getD, hjl]
    · intro v' w' r1 r2 _
      obtain ⟨g', c', rfl, _⟩ := own_sliceD1 r1 (by omega)
      exact hK g' c' w' r1 r2
  · have hz0 : zs = [] := List.eq_nil_of_length_eq_zero (by omega)
    subst hz0
    obtain ⟨a3, c3, rfl⟩ : ∃ a3 c3, v = .slice a3 0 c3 := by obtain ⟨a3, c3, e3, _⟩ := hr; exact ⟨a3, c3, e3⟩
    refine wpList_append_empty hg s x t hop base e i 1 h1 h2 _ n xs hs hown a3 c3 hx ?_
    exact hK g c w (by simpa using hown) (World.grownBy.refl _ _)
end Go.Proofs.YtcciaojdceejcaaDoor

namespace Go.Proofs.YtcciaojdceejcaaDoor
set_option linter.unusedVariables false
set_option linter.unusedSimpArgs false
open Go.RowKit

/-- The first k bytes of B laid into M at a place. -/
def putN (M : List Int) (at_ : Nat) (B : List Int) (k : Nat) : List Int := M.take at_ ++ (B.take k ++ M.drop (at_ + k))
theorem putN_len (M : List Int) (at_ : Nat) (B : List Int) (k : Nat) (h : at_ + k ≤ M.length) (hB : k ≤ B.length) : (putN M at_ B k).length = M.length := by
  unfold putN
  simp only [List.length_append, List.length_take, List.length_drop]
  omega
theorem putN_step (M : List Int) (at_ : Nat) (B : List Int) (k : Nat) (h : at_ + k < M.length) (hB : k < B.length) : (putN M at_ B k).set (at_ + k) (B.getD k 0) = putN M at_ B (k + 1) := by
  unfold putN
  have e1 : (M.take at_).length = at_ := by rw [List.length_take]; omega
  have e2 : (B.take k).length = k := by rw [List.length_take]; omega
  rw [List.set_append_right _ _ (by omega), e1, List.set_append_right _ _ (by omega), e2, show at_ + k - at_ - k = 0 by omega, List.drop_eq_getElem_cons h, List.set_cons_zero, List.take_succ_eq_append_getElem hB, List.append_assoc]
  simp [List.getD, hB, Nat.add_assoc]
theorem putN_all (M : List Int) (at_ : Nat) (B : List Int) (hB : B.length = 32) : putN M at_ B 32 = setB M at_ B := by
  unfold putN setB
  rw [List.take_of_length_le (l := B) (by omega)]
theorem own_frozen {w : World} {base : Nat} {e : TypeId} {g n cap : Nat} {xs : List Value} (h : w.ownsRow base e 1 (.slice (some ⟨g, 0, none⟩) n cap) n xs) (o : Nat) : w.frozen? ⟨g, o, none⟩ = false := by
  rcases h.2 with ⟨e4, _⟩ | ⟨g', cp', cur, e4, _, hc, _⟩
  · cases e4
  · injection e4 with e5 _ _
    injection e5 with e5
    injection e5 with e5 _ _
    subst e5
    have hB : Blk w g cur e := hc
    exact hB.frozen o
theorem putN_zero (M : List Int) (at_ : Nat) (B : List Int) : putN M at_ B 0 = M := by simp [putN]

set_option maxRecDepth 100000 in
set_option maxHeartbeats 2000000 in
theorem specLA_any (v : Value) (zs : List Int) (nm : ByteArray) (ino kd : Nat) (w : World) (h : Rd .u8 w v zs) (hl : zs.length ≤ 262144) (h512 : zs.length % 512 = 0) (hn : nm.size ≤ 26) (hn0 : 0 < nm.size) (hi0 : ino < 4294967296) (hk0 : kd < 256) :
    Calls Tryd.prog 51 #[v, .agg (entC nm (ino : Int) (kd : Int))] w fun e w' => ∃ v', e = .returned (.tuple #[v', .bool (laR zs)]) ∧ w'.ownsRow w.heap.size 5 1 v' (laB zs (slotB nm ino kd)).length ((laB zs (slotB nm ino kd)).map (Value.int .u8)) ∧ Below w.heap.size w w' := by
  obtain ⟨i0, hi, hz0, hz1', hz2⟩ := info_parts infoU8
  have hsh : ∃ a cap, v = .slice a zs.length cap := by obtain ⟨a, cap, h1, _⟩ := h; exact ⟨a, cap, h1⟩
  obtain ⟨a, cap, rfl⟩ := hsh
  obtain ⟨W0, hW0⟩ : ∃ W0, W0 = (w.alloc (.cells (entC nm (ino : Int) (kd : Int)) 34)).alloc (.cells #[] 5) := ⟨_, rfl⟩
  have B0 := hide (show Below w.heap.size w W0 from by rw [hW0]; exact ((Below.refl _ _).alloc (Nat.le_refl _) _).alloc (by simp) _)
  have HR := hide (h.below B0.out)
  have K0 := hide (show Blk W0 w.heap.size (entC nm (ino : Int) (kd : Int)) 34 from by rw [hW0]; exact (Blk.new w _ _).alloc _)
  have O0 := hide (show W0.ownsRow (w.heap.size + 1) 5 1 (.slice (some ⟨w.heap.size + 1, 0, none⟩) 0 0) 0 [] from by
    rw [hW0]
    have h := own_empty (w.alloc (.cells (entC nm (ino : Int) (kd : Int)) 34)) 5
    rwa [World.size_alloc] at h)
  have hs0 : W0.heap.size = w.heap.size + 1 + 1 := by rw [hW0]; simp
  have HW0 := hide hW0
  clear h hW0
  go_enter Tryd.func51, Tryd.ntmps51
  go_wp2_with (first
    | (go_at_call 52; fail)
    | (at_builtin; rw [← HW0.out]; refine wpList_append_rd W0 rfl (.tmp 12) (.tmp 13) 22 rfl (w.heap.size + 1) 5 i0 Tryd.underlying22 hi hz0 hz1' hz2 (w.heap.size + 1) 0 0 [] rfl O0.out _ zs rfl HR.out (by omega) (by omega) ?_; intro g c w1 o1 g1; rw [Nat.zero_add, List.nil_append] at o1; rw [Nat.zero_add]; have O1 := hide o1; have hg1 := (o1.lt g rfl); have K1 := hide (show Blk w1 w.heap.size (entC nm (ino : Int) (kd : Int)) 34 from (g1.block w.heap.size (by omega) (by simp)).trans K0.out); have B1 := hide (B0.out.grown g1 B0.out.size (fun r h => by cases h; omega)); have hs1 := g1.size; clear o1 g1))
  have hcc : zs.length ≤ c ∧ c ≤ 9223372036854775807 := by
    rcases O1.out.2 with ⟨e4, _⟩ | ⟨g', cp', cur, e4, _, _, hn1, hn2, _⟩
    · cases e4
    · injection e4 with e5 e6 e7
      subst e7
      exact ⟨hn1, hn2⟩
  refine (slots_any g 0 c zs w1 hcc.1 hcc.2 hl (by omega) (some ⟨g, 0, none⟩) (fun _ => rfl)).mono ?_
  rintro e w2 ⟨v2, rfl, o2, b2⟩
  have HSl := hide (fun hp : 0 < zs.length / 32 => (own_sliceD1 o2 hp))
  have hsc : ∃ sa sc, v2 = .slice sa (zs.length / 32) sc ∧ zs.length / 32 ≤ sc ∧ sc ≤ 9223372036854775807 := by
    rcases o2.2 with ⟨e4, e5⟩ | ⟨g', cp', cur, e4, _, _, hn1, hn2, _⟩
    · exact ⟨none, 0, by rw [e4, e5], by omega, by omega⟩
    · exact ⟨_, cp', e4, hn1, hn2⟩
  obtain ⟨sa, sc, rfl, hsc1, hsc2⟩ := hsc
  have O2 := hide o2
  have hs2 := b2.size
  have OM := hide (own_below O1.out b2)
  have K2 := hide (K1.out.below b2 (by omega))
  have B2 := hide (B1.out.trans (b2.mono (by omega)))
  have HCell := hide (show ∀ i, i < zs.length → w2.cell? ⟨g, 0 + i, none⟩ = some (.int .u8 (zs.getD i 0)) from fun i hi => by
    obtain ⟨bd, of2, c2, e2, _, _, _, hcell2⟩ := (Rd.own OM.out).partsC (by omega)
    injection e2 with e3 _ e4
    injection e3 with e3
    injection e3 with e3 e5 _
    subst e3 e4 e5
    exact hcell2 i hi)
  clear o2 b2 O1 K1 B1 K0 O0 HW0 B0 HR
  go_wp2_with fail
  go_loopw [7, 18] (fun t i wr => ∃ k : Nat, k ≤ zs.length / 32 ∧ i = .int .i64 k ∧ t = .int .i64 (atZ zs k) ∧ wr = w2) (fun _ i _ => zs.length / 32 - (intOf i).toNat)
  case atStart => exact ⟨0, by omega, rfl, rfl, rfl⟩
  case round =>
    obtain ⟨k, hk, rfl, rfl, rfl⟩ := hrel
    by_cases hlt : k < zs.length / 32
    · obtain ⟨gs, cs, e, hgs⟩ := HSl.out (by omega)
      injection e with e1 _ e3
      subst e1 e3
      have cS : wr.cell? ⟨gs, k, none⟩ = some (slotV g 0 c k) := by
        have h := O2.out.cells (g := gs) rfl k (slotV g 0 c k) (by simp [hlt])
        rwa [Addr.add_mid, Nat.zero_add] at h
      unfold slotV at cS
      have HRk := hide (show Rd .u8 wr (.slice (some ⟨g, 0 + k * 32, none⟩) 32 (c - k * 32)) (slotK zs k) from Rd.cut (k * 32) 32 (by omega) hcc.2 hcc.1 HCell.out (by omega))
      rw [Nat.zero_add] at cS HRk
      have hkI : ¬ ((zs.length : Int) / 32 ≤ (k : Int)) := by omega
      cases hf : firstZ zs k with
      | some j =>
        have hat : atZ zs k = 32 * (j : Int) := by unfold atZ; rw [hf]
        have HN := hide (show atZ zs (k + 1) = 32 * (j : Int) from by unfold atZ; rw [firstZ_succ, hf]; rfl)
        rw [hat]
        clear hf hat
        go_wp2
        go_roundw
        case rel => exact ⟨k + 1, by omega, by go_num, by rw [HN.out], by first | rfl | trivial⟩
        case measure => simp [intOf]; omega
      | none =>
        have hat : atZ zs k = -1 := by unfold atZ; rw [hf]
        rw [hat]
        go_wp2_with (go_at_call 53; fail)
        refine (zeroBytes_any _ (slotK zs k) _ HRk.out).mono ?_
        rintro e w3 ⟨rfl, rfl⟩
        cases hz : allZ (slotK zs k) with
        | true =>
          have HN := hide (show atZ zs (k + 1) = 32 * (k : Int) from by unfold atZ; rw [firstZ_succ, hf, if_pos hz]; rfl)
          clear hf hat hz
          go_wp2
          go_roundw
          case rel => exact ⟨k + 1, by omega, by go_num, by rw [HN.out], by first | rfl | trivial⟩
          case measure => simp [intOf]; omega
        | false =>
          have HN := hide (show atZ zs (k + 1) = -1 from by unfold atZ; rw [firstZ_succ, hf, if_neg (by rw [hz]; decide)]; rfl)
          clear hf hat hz
          go_wp2
          go_roundw
          case rel => exact ⟨k + 1, by omega, by go_num, by rw [HN.out], by first | rfl | trivial⟩
          case measure => simp [intOf]; omega
    · obtain rfl : k = zs.length / 32 := by omega
      cases hf : firstZ zs (zs.length / 32) with
      | some j =>
        have hat : atZ zs (zs.length / 32) = 32 * (j : Int) := by unfold atZ; rw [hf]
        rw [hat]
        have HLR := hide (show laR zs = true from by unfold laR; rw [hf])
        have HLB := hide (show laB zs (slotB nm ino kd) = setB zs (32 * j) (slotB nm ino kd) from by unfold laB; rw [hf])
        have hj : j < zs.length / 32 := by
          unfold firstZ at hf
          have := List.mem_of_find?_eq_some hf
          simpa using this
        clear hf hat
        go_wp2_with (first
          | (refine wpList_load_midD (by first | rfl | (simp [Region.wanted, yielded]; done)) 34 _ rfl w.heap.size 0 rfl (entC nm (ino : Int) (kd : Int)).toList _ (ent_range K2.out) Tryd.underlying34 rfl infoD3 ?_)
          | (go_at_call 69; fail))
        refine (slot_any nm ino kd _ hn hn0 hi0 hk0).mono ?_
        rintro e wS ⟨vS, rfl, hS, bS⟩
        obtain ⟨gS, cS, rfl, oS⟩ := hS
        have hgS := oS.lt gS rfl
        have hsS := bS.size
        have OS := hide (own_mono oS (show w.heap.size + 1 ≤ wr.heap.size by omega))
        have hne : gS ≠ g := by omega
        have hcS : 32 ≤ cS ∧ cS ≤ 9223372036854775807 := by
          rcases oS.2 with ⟨e4, _⟩ | ⟨g', cp', cur, e4, _, _, hn1, hn2, _⟩
          · cases e4
          · injection e4 with e5 e6 e7
            subst e7
            exact ⟨hn1, hn2⟩
        have OT := hide (own_below OM.out bS)
        have hgT := (OM.out.lt g rfl)
        have BT := hide (B2.out.trans (bS.mono (by omega)))
        have HSB := hide (slotB_len nm ino kd hn)
        clear oS bS
        go_wp2_with fail
        go_loopw [44] (fun i wr => ∃ k : Nat, k ≤ 32 ∧ i = .int .i64 k ∧ wr.ownsRow (w.heap.size + 1) 5 1 (.slice (some ⟨g, 0, none⟩) (zs).length c) (zs).length ((putN (zs) (32 * j) (slotB nm ino kd) k).map (Value.int .u8)) ∧ wr.ownsRow (w.heap.size + 1) 5 1 (.slice (some ⟨gS, 0, none⟩) 32 cS) 32 ((slotB nm ino kd).map (Value.int .u8)) ∧ Below w.heap.size w wr) (fun i _ => 32 - (intOf i).toNat)
        case atStart => exact ⟨0, by omega, rfl, by rw [putN_zero]; exact OT.out, OS.out, BT.out⟩
        case round =>
          obtain ⟨k, hk, rfl, hT, hS2, hb⟩ := hrel
          clear OT OS BT
          have HP := hide (putN_len zs (32 * j) (slotB nm ino kd) k (by omega) (by have := HSB.out; omega))
          by_cases hlt : k < 32
          · have cSk : wr.cell? ⟨gS, k, none⟩ = some (.int .u8 ((slotB nm ino kd).getD k 0)) := by
              have h := hS2.cells (g := gS) rfl k (.int .u8 ((slotB nm ino kd).getD k 0)) (by have := HSB.out; simp [List.getD, this, hlt])
              rwa [Addr.add_mid, Nat.zero_add] at h
            have cT : wr.cell? ⟨g, 32 * j + k, none⟩ = some (.int .u8 ((putN zs (32 * j) (slotB nm ino kd) k).getD (32 * j + k) 0)) := by
              have hq : 32 * j + k < (putN zs (32 * j) (slotB nm ino kd) k).length := by have := HP.out; omega
              have h := hT.cells (g := g) rfl (32 * j + k) (.int .u8 ((putN zs (32 * j) (slotB nm ino kd) k).getD (32 * j + k) 0)) (by simp [List.getD, hq])
              rwa [Addr.add_mid, Nat.zero_add] at h
            have fT : wr.frozen? ⟨g, 32 * j + k, none⟩ = false := own_frozen hT (32 * j + k)
            have HS3 := hide (show (wr.setCell ⟨g, 32 * j + k, none⟩ (.int .u8 ((slotB nm ino kd).getD k 0))).ownsRow (w.heap.size + 1) 5 1 (.slice (some ⟨g, 0, none⟩) zs.length c) zs.length ((putN zs (32 * j) (slotB nm ino kd) (k + 1)).map (Value.int .u8)) ∧ (wr.setCell ⟨g, 32 * j + k, none⟩ (.int .u8 ((slotB nm ino kd).getD k 0))).ownsRow (w.heap.size + 1) 5 1 (.slice (some ⟨gS, 0, none⟩) 32 cS) 32 ((slotB nm ino kd).map (Value.int .u8)) ∧ Below w.heap.size w (wr.setCell ⟨g, 32 * j + k, none⟩ (.int .u8 ((slotB nm ino kd).getD k 0))) from by
              refine ⟨?_, ownsRow_setCell_other hS2 (by simpa [Value.ownBlock] using hne) _, hb.setCell (p := ⟨g, 32 * j + k, none⟩) (by show w.heap.size ≤ g; omega) _⟩
              have h := own_setCell hT (g := g) rfl (32 * j + k) (.int .u8 ((slotB nm ino kd).getD k 0))
              rwa [← List.map_set, putN_step zs (32 * j) (slotB nm ino kd) k (by omega) (by have := HSB.out; omega)] at h)
            generalize (slotB nm ino kd).getD k 0 = x at cSk HS3
            generalize (putN zs (32 * j) (slotB nm ino kd) k).getD (32 * j + k) 0 = y at cT
            have hix : ¬ ((zs.length : Int) ≤ 32 * (j : Int) + (k : Int)) := by omega
            clear hT hS2 hb HP
            go_wp2
            go_roundw
            case rel => exact ⟨k + 1, by omega, by go_num, HS3.out.1, HS3.out.2.1, HS3.out.2.2⟩
            case measure => simp [intOf]; omega
          · obtain rfl : k = 32 := by omega
            have HF := hide (And.intro hT hb)
            clear hT hS2 hb
            go_wp2
            go_ret2
            rw [HLR.out, HLB.out]
            have h1 := HF.out.1
            have e1 : putN zs (32 * j) (slotB nm ino kd) 32 = setB zs (32 * j) (slotB nm ino kd) := putN_all zs (32 * j) _ HSB.out
            rw [e1] at h1
            have e2 : (setB zs (32 * j) (slotB nm ino kd)).length = zs.length := by rw [← e1]; exact HP.out
            rw [e2]
            exact ⟨_, rfl, own_mono h1 (by omega), HF.out.2⟩
      | none =>
        have hat : atZ zs (zs.length / 32) = -1 := by unfold atZ; rw [hf]
        rw [hat]
        by_cases hroom : zs.length < 262144
        · obtain ⟨M, hM⟩ : ∃ M, M = zs ++ List.replicate 512 0 := ⟨_, rfl⟩
          obtain ⟨n3, hn3⟩ : ∃ n3, n3 = zs.length + 512 := ⟨_, rfl⟩
          have HML := hide (show M.length = n3 from by rw [hM, hn3]; simp)
          have HN3 := hide hn3
          have HLR := hide (show laR zs = true from by unfold laR; rw [hf]; simp [hroom])
          have HLB := hide (show laB zs (slotB nm ino kd) = setB M zs.length (slotB nm ino kd) from by unfold laB; rw [hf, hM]; simp [hroom])
          obtain ⟨v3, w3, hr3, o3, gr3⟩ := run_append_zeros wr (w.heap.size + 1) 22 3 22 5 i0 .i64 Tryd.underlying22 Tryd.underlying3 hi hz0 hz1' hz2 g zs.length c _ OM.out 512 (by omega) (by omega) (by omega)
          rw [← hn3] at o3
          obtain ⟨g3, c3, rfl, hg3⟩ := own_sliceD1 o3 (by omega)
          have hs3 := gr3.size
          have hg3l := (o3.lt g3 rfl).2
          have O3 := hide (show w3.ownsRow (w.heap.size + 1) 5 1 (.slice (some ⟨g3, 0, none⟩) n3 c3) n3 (M.map (Value.int .u8)) from by rw [hM, List.map_append, List.map_replicate]; exact o3)
          have K3 := hide (show Blk w3 w.heap.size (entC nm (ino : Int) (kd : Int)) 34 from (gr3.block w.heap.size (by omega) (by simp; omega)).trans K2.out)
          have B3 := hide (show Below w.heap.size w w3 from B2.out.grown gr3 (by omega) (fun r h => by cases h; omega))
          have hcc3 : n3 ≤ c3 ∧ c3 ≤ 9223372036854775807 := by
            rcases O3.out.2 with ⟨e4, _⟩ | ⟨g', cp', cur, e4, _, _, hn1, hn2, _⟩
            · cases e4
            · injection e4 with e5 e6 e7
              subst e7
              exact ⟨hn1, hn2⟩
          have HR3 := hide hr3
          have hn3a : zs.length + 512 ≤ n3 := by omega
          have hn3b : n3 ≤ 1000000 := by omega
          have hrI : (zs.length : Int) < 262144 := by omega
          clear hf hat hM o3 gr3 hr3 hroom hn3
          go_upto_if 36 with fail
          rw [show decide ((262144 : Int) ≤ (zs.length : Int)) = false from decide_eq_false (by omega)]
          go_upto_region 13 with fail
          refine wp_region_list ?_
          go_wp2_with (first
            | (at_builtin; refine Go.Lib.wpList_append_run wr rfl (.tmp 39) _ 22 3 rfl _ _ rfl rfl _ _ HR3.out ?_)
            | (refine wpList_load_midD (by first | rfl | (simp [Region.wanted, yielded]; done)) 34 _ rfl w.heap.size 0 rfl (entC nm (ino : Int) (kd : Int)).toList _ (ent_range K3.out) Tryd.underlying34 rfl infoD3 ?_)
            | (go_at_call 69; fail))
          refine (slot_any nm ino kd _ hn hn0 hi0 hk0).mono ?_
          rintro e wS ⟨vS, rfl, hS, bS⟩
          obtain ⟨gS, cS, rfl, oS⟩ := hS
          have hgS := oS.lt gS rfl
          have hsS := bS.size
          have OS := hide (own_mono oS (show w.heap.size + 1 ≤ w3.heap.size by omega))
          have hne : gS ≠ g3 := by omega
          have hcS : 32 ≤ cS ∧ cS ≤ 9223372036854775807 := by
            rcases oS.2 with ⟨e4, _⟩ | ⟨g', cp', cur, e4, _, _, hn1, hn2, _⟩
            · cases e4
            · injection e4 with e5 e6 e7
              subst e7
              exact ⟨hn1, hn2⟩
          have OT := hide (own_below O3.out bS)
          have hgT := (O3.out.lt g3 rfl)
          have BT := hide (B3.out.trans (bS.mono (by omega)))
          have HSB := hide (slotB_len nm ino kd hn)
          clear oS bS
          go_wp2_with fail
          go_loopw [44] (fun i wr => ∃ k : Nat, k ≤ 32 ∧ i = .int .i64 k ∧ wr.ownsRow (w.heap.size + 1) 5 1 (.slice (some ⟨g3, 0, none⟩) n3 c3) n3 ((putN M zs.length (slotB nm ino kd) k).map (Value.int .u8)) ∧ wr.ownsRow (w.heap.size + 1) 5 1 (.slice (some ⟨gS, 0, none⟩) 32 cS) 32 ((slotB nm ino kd).map (Value.int .u8)) ∧ Below w.heap.size w wr) (fun i _ => 32 - (intOf i).toNat)
          case atStart => exact ⟨0, by omega, rfl, by rw [putN_zero]; exact OT.out, OS.out, BT.out⟩
          case round =>
            obtain ⟨k, hk, rfl, hT, hS2, hb⟩ := hrel
            clear OT OS BT
            have HP := hide (putN_len M zs.length (slotB nm ino kd) k (by have := HML.out; omega) (by have := HSB.out; omega))
            by_cases hlt : k < 32
            · have cSk : wr.cell? ⟨gS, k, none⟩ = some (.int .u8 ((slotB nm ino kd).getD k 0)) := by
                have h := hS2.cells (g := gS) rfl k (.int .u8 ((slotB nm ino kd).getD k 0)) (by have := HSB.out; simp [List.getD, this, hlt])
                rwa [Addr.add_mid, Nat.zero_add] at h
              have cT : wr.cell? ⟨g3, zs.length + k, none⟩ = some (.int .u8 ((putN M zs.length (slotB nm ino kd) k).getD (zs.length + k) 0)) := by
                have hq : zs.length + k < (putN M zs.length (slotB nm ino kd) k).length := by have := HP.out; have := HML.out; omega
                have h := hT.cells (g := g3) rfl (zs.length + k) (.int .u8 ((putN M zs.length (slotB nm ino kd) k).getD (zs.length + k) 0)) (by simp [List.getD, hq])
                rwa [Addr.add_mid, Nat.zero_add] at h
              have fT : wr.frozen? ⟨g3, zs.length + k, none⟩ = false := own_frozen hT (zs.length + k)
              have HS3 := hide (show (wr.setCell ⟨g3, zs.length + k, none⟩ (.int .u8 ((slotB nm ino kd).getD k 0))).ownsRow (w.heap.size + 1) 5 1 (.slice (some ⟨g3, 0, none⟩) n3 c3) n3 ((putN M zs.length (slotB nm ino kd) (k + 1)).map (Value.int .u8)) ∧ (wr.setCell ⟨g3, zs.length + k, none⟩ (.int .u8 ((slotB nm ino kd).getD k 0))).ownsRow (w.heap.size + 1) 5 1 (.slice (some ⟨gS, 0, none⟩) 32 cS) 32 ((slotB nm ino kd).map (Value.int .u8)) ∧ Below w.heap.size w (wr.setCell ⟨g3, zs.length + k, none⟩ (.int .u8 ((slotB nm ino kd).getD k 0))) from by
                refine ⟨?_, ownsRow_setCell_other hS2 (by simpa [Value.ownBlock] using hne) _, hb.setCell (p := ⟨g3, zs.length + k, none⟩) (by show w.heap.size ≤ g3; omega) _⟩
                have h := own_setCell hT (g := g3) rfl (zs.length + k) (.int .u8 ((slotB nm ino kd).getD k 0))
                rwa [← List.map_set, putN_step M zs.length (slotB nm ino kd) k (by have := HML.out; omega) (by have := HSB.out; omega)] at h)
              generalize (slotB nm ino kd).getD k 0 = x at cSk HS3
              generalize (putN M zs.length (slotB nm ino kd) k).getD (zs.length + k) 0 = y at cT
              have hix : ¬ ((n3 : Int) ≤ (zs.length : Int) + (k : Int)) := by omega
              have hb0 : (zs.length : Int) + (k : Int) ≤ 262176 := by omega
              have hb1 : (0 : Int) ≤ (zs.length : Int) + (k : Int) := by omega
              generalize hze : zs.length = z0 at *
              clear hn3a hn3b h512 hrI hsc1 hsc2 hze
              clear hT hS2 hb HP
              go_wp2
              go_roundw
              case rel => exact ⟨k + 1, by omega, by go_num, HS3.out.1, HS3.out.2.1, HS3.out.2.2⟩
              case measure => simp [intOf]; omega
            · obtain rfl : k = 32 := by omega
              have HF := hide (And.intro hT hb)
              clear hT hS2 hb
              go_wp2
              go_ret2
              rw [HLR.out, HLB.out]
              have h1 := HF.out.1
              have e1 : putN M zs.length (slotB nm ino kd) 32 = setB M zs.length (slotB nm ino kd) := putN_all M zs.length _ HSB.out
              rw [e1] at h1
              have e2 : (setB M zs.length (slotB nm ino kd)).length = n3 := by rw [← e1, HP.out, HML.out]
              rw [e2]
              exact ⟨_, rfl, own_mono h1 (by omega), HF.out.2⟩
        · have hrI : (262144 : Int) ≤ (zs.length : Int) := by omega
          have HLR := hide (show laR zs = false from by unfold laR; rw [hf]; simp [hroom])
          have HLB := hide (show laB zs (slotB nm ino kd) = [] from by unfold laB; rw [hf]; simp [hroom])
          clear hf hat
          go_wp2
          go_ret2
          rw [HLR.out, HLB.out]
          exact ⟨_, rfl, own_nilB _ _, B2.out⟩
end Go.Proofs.YtcciaojdceejcaaDoor

namespace Go.Proofs.YtcciaojdceejcaaDoor
set_option linter.unusedVariables false
set_option linter.unusedSimpArgs false
open Go.RowKit

theorem firstZ_idx {zs : List Int} {n : Nat} (h : ∀ j, j < n → (sZero (slotK zs j) || sRight (slotK zs j)) = true) : firstZ zs n = (slotsL zs n).findIdx? zE := by
  induction n with
  | zero => rfl
  | succ n ih =>
    rw [firstZ_succ, ih (fun j hj => h j (by omega)), slotsL_succ, List.findIdx?_append]
    have e : zE (slotE zs n) = allZ (slotK zs n) := by rw [zE_slot (h n (by omega))]; rfl
    congr 1
    by_cases hz : allZ (slotK zs n) = true
    · simp [hz, e, slotsL_len]
    · simp [hz, e]
theorem entB_nat (nm : ByteArray) (ino kd : Nat) : entB (nm, (ino : Int), (kd : Int)) = slotB nm ino kd := by
  show slotB nm ((ino : Int)).toNat ((kd : Int)).toNat = _
  rw [Int.toNat_natCast, Int.toNat_natCast]
theorem bytes_zeroes : ∀ n, bytesE (zeroes n) = List.replicate (n * 32) 0
  | 0 => rfl
  | n + 1 => by
    rw [show zeroes (n + 1) = [(⟨#[]⟩, 0, 0)] ++ zeroes n from rfl, bytesE_append, bytes_zeroes n, show bytesE [(⟨#[]⟩, 0, 0)] = List.replicate 32 0 from by
      show slotB ⟨#[]⟩ 0 0 ++ [] = _
      rw [slotB_zero, List.append_nil], List.replicate_append_replicate]
    congr 1
    omega
theorem bytes_set {L : List (ByteArray × Int × Int)} (hok : ∀ x ∈ L, okE x) (e : ByteArray × Int × Int) {k : Nat} (hk : k < L.length) : bytesE (L.set k e) = setB (bytesE L) (k * 32) (entB e) := by
  have c1 := (bytesE_cut hok k (by omega)).1
  have c2 := (bytesE_cut hok (k + 1) (by omega)).2
  rw [List.set_eq_take_append_cons_drop, if_pos (by omega), bytesE_append, c1]
  show _ ++ bytesE ([e] ++ L.drop (k + 1)) = _
  rw [bytesE_append, c2, show bytesE [e] = entB e from by simp [bytesE]]
  unfold setB
  rw [show k * 32 + 32 = (k + 1) * 32 by omega]
theorem zeroes_ok (n : Nat) : ∀ y ∈ zeroes n, okE y := by
  induction n with
  | zero => intro y hy; cases hy
  | succ n ih =>
    intro y hy
    unfold zeroes at hy
    rcases List.mem_cons.1 hy with h3 | h3
    · rw [h3]; exact good_zero.1
    · exact ih y h3
/-- What both leave. -/
theorem added_same {zs : List Int} (hbd : ∀ z ∈ zs, 0 ≤ z ∧ z < 256) {n : Nat} (hn : zs.length = n * 32) (h : ∀ j, j < n → (sZero (slotK zs j) || sRight (slotK zs j)) = true) (nm : ByteArray) (ino kd : Nat) (hr : laR zs = true) :
    bytesE (addE (slotsL zs n) (nm, (ino : Int), (kd : Int))) = laB zs (slotB nm ino kd) := by
  have hg := slots_good hbd (by omega) h
  have hok : ∀ e ∈ slotsL zs n, okE e := fun e he => (hg e he).1
  have hb := bytes_slots hbd (n := n) (by omega) h
  rw [List.take_of_length_le (by omega)] at hb
  have hl : (slotsL zs n).length = n := slotsL_len zs n
  have hn2 : zs.length / 32 = n := by omega
  unfold addE laB
  unfold laR at hr
  rw [hn2, firstZ_idx h] at hr ⊢
  cases hf : (slotsL zs n).findIdx? zE with
  | some k =>
    have hk : k < (slotsL zs n).length := (List.findIdx?_eq_some_iff_getElem.1 hf).1
    show bytesE ((slotsL zs n).set k _) = setB zs (32 * k) _
    rw [bytes_set hok _ hk, hb, entB_nat, show 32 * k = k * 32 by omega]
  | none =>
    rw [hf] at hr
    have hr2 : zs.length < 262144 := by simpa using hr
    show bytesE ((slotsL zs n ++ zeroes 16).set (slotsL zs n).length _) = if zs.length < 262144 then _ else _
    rw [if_pos hr2, bytes_set (fun x hx => (List.mem_append.1 hx).elim (hok x) (zeroes_ok 16 x)) _ (by rw [List.length_append, zeroes_len]; omega), bytesE_append, hb, bytes_zeroes, entB_nat, hl, ← hn]
theorem room_same {zs : List Int} {n : Nat} (hn : zs.length = n * 32) (h : ∀ j, j < n → (sZero (slotK zs j) || sRight (slotK zs j)) = true) : roomE (slotsL zs n) = laR zs := by
  have hn2 : zs.length / 32 = n := by omega
  unfold roomE laR
  rw [hn2, firstZ_idx h, slotsL_len, hn]
  first | done | (cases List.findIdx? zE (slotsL zs n) <;> rfl)

end Go.Proofs.YtcciaojdceejcaaDoor

namespace Go.Proofs.YtcciaojdceejcaaDoor
set_option linter.unusedVariables false
set_option linter.unusedSimpArgs false
open Go.RowKit

set_option maxRecDepth 100000 in
set_option maxHeartbeats 600000 in
theorem specDA_any (v : Value) (zs : List Int) (nm : ByteArray) (ino kd : Int) (w : World) (h : Rd .u8 w v zs) (hbd : ∀ z ∈ zs, 0 ≤ z ∧ z < 256) (hnm : nm.size ≤ maxLen) :
    Calls Tryd.prog 33 #[v, .agg (entC nm ino kd)] w fun e w' => ∃ v', e = .returned (.tuple #[v', .int .i64 (daC zs nm ino kd)]) ∧ w'.ownsRow w.heap.size 5 1 v' (daB zs nm ino kd).length ((daB zs nm ino kd).map (Value.int .u8)) ∧ Below w.heap.size w w' := by
  have hsh : ∃ a cap, v = .slice a zs.length cap := by obtain ⟨a, cap, h1, _⟩ := h; exact ⟨a, cap, h1⟩
  obtain ⟨a, cap, rfl⟩ := hsh
  have HR := hide h
  have HX := hide hbd
  have B0 := hide (show Below w.heap.size w (w.alloc (.cells (entC nm ino kd) 34)) from (Below.refl _ _).alloc (Nat.le_refl _) _)
  have K0 := hide (Blk.new w (entC nm ino kd) 34)
  clear h hbd
  go_enter Tryd.func33, Tryd.ntmps33
  go_wp2_with (go_at_call 9; fail)
  refine (specDC_any _ zs _ (HR.out.below B0.out) HX.out).mono ?_
  rintro e w1 ⟨rfl, b1⟩
  have hs1 : w.heap.size < w1.heap.size := Nat.lt_of_lt_of_le (by simp) b1.size
  have K1 := hide (K0.out.below b1 K0.out.lt)
  have B1 := hide (B0.out.trans (b1.mono B0.out.size))
  clear b1 K0 B0
  cases hok : dirOk zs with
  | false =>
    have HC := hide (show daC zs nm ino kd = 21 from by unfold daC; rw [if_pos hok])
    have HB := hide (show daB zs nm ino kd = [] from by unfold daB; rw [if_neg (by rw [HC.out]; decide)])
    have hcd : codeDC zs = 21 := by simp [codeDC, hok]
    rw [hcd]
    clear hok hcd
    go_wp2
    go_ret2
    rw [HC.out, HB.out]
    exact ⟨_, rfl, own_nilB _ _, B1.out⟩
  | true =>
    have hcd : codeDC zs = 0 := by simp [codeDC, hok]
    rw [hcd]
    have HL := hide (dirOk_len hok)
    have HOk := hide hok
    have hes : ∃ es, entT zs (zs.length / 32) = some es := by
      have h := hok
      rw [dirOk_eq HL.out.1 HL.out.2, Bool.and_eq_true] at h
      exact Option.isSome_iff_exists.1 h.1
    have HEo := hide (show ∀ j, j < zs.length / 32 → (sZero (slotK zs j) || sRight (slotK zs j)) = true from by obtain ⟨es, h⟩ := hes; exact entT_ok h)
    have HN := hide (show zs.length = zs.length / 32 * 32 by have := HL.out.1; omega)
    clear hok hcd hes
    have cN := (K1.out.cell 0).trans (show (entC nm ino kd)[0]? = some (.string nm) from rfl)
    have cI := (K1.out.cell 1).trans (show (entC nm ino kd)[1]? = some (.int .i64 ino) from rfl)
    have cK := (K1.out.cell 2).trans (show (entC nm ino kd)[2]? = some (.int .i64 kd) from rfl)
    go_wp2_with (go_at_call 20; fail)
    refine (Chk.spec_any nm _ hnm).mono ?_
    rintro e w2 ⟨rfl, rfl⟩
    by_cases hck : Chk.chkS nm = 0
    · rw [hck]
      have HCk := hide hck
      clear hck
      cases hw1 : wi ino 1 1000 with
      | false =>
        have HC := hide (show daC zs nm ino kd = 7 from by unfold daC; rw [if_neg (by rw [HOk.out]; decide), if_neg (by rw [HCk.out]; decide), if_pos (by rw [hw1]; rfl)])
        have HB := hide (show daB zs nm ino kd = [] from by unfold daB; rw [if_neg (by rw [HC.out]; decide)])
        go_wp2_with (go_at_call 50; refine (l02Within_any _ _ _ _).mono ?_; rintro e w3 ⟨rfl, rfl⟩; rw [hw1])
        go_ret2
        rw [HC.out, HB.out]
        exact ⟨_, rfl, own_nilB _ _, B1.out⟩
      | true =>
        cases hw2 : wi kd 1 3 with
        | false =>
          have HC := hide (show daC zs nm ino kd = 7 from by unfold daC; rw [if_neg (by rw [HOk.out]; decide), if_neg (by rw [HCk.out]; decide), if_pos (by rw [hw1, hw2]; rfl)])
          have HB := hide (show daB zs nm ino kd = [] from by unfold daB; rw [if_neg (by rw [HC.out]; decide)])
          go_wp2_with (first | (go_at_call 50; refine (l02Within_any _ _ _ _).mono ?_; rintro e w3 ⟨rfl, rfl⟩; first | rw [hw1] | rw [hw2]))
          go_ret2
          rw [HC.out, HB.out]
          exact ⟨_, rfl, own_nilB _ _, B1.out⟩
        | true =>
          go_wp2_with (first | (go_at_call 50; refine (l02Within_any _ _ _ _).mono ?_; rintro e w3 ⟨rfl, rfl⟩; first | rw [hw1] | rw [hw2]) | (go_at_call 45; fail))
          refine (specAt_any _ zs nm _ (HR.out.below B1.out) HX.out HL.out.2 (by have := HL.out.1; omega)).mono ?_
          rintro e w4 ⟨rfl, b4⟩
          have K4 := hide (K1.out.below b4 K1.out.lt)
          have B4 := hide (B1.out.trans (b4.mono B1.out.size))
          have hs4 := b4.size
          have hwb := wi_both (show (wi ino 1 1000 && wi kd 1 3) = true from by rw [hw1, hw2]; rfl)
          obtain ⟨i, rfl⟩ := Int.eq_ofNat_of_zero_le (show 0 ≤ ino by omega)
          obtain ⟨q, rfl⟩ := Int.eq_ofNat_of_zero_le (show 0 ≤ kd by omega)
          clear b4 B1 K1 cN cI cK
          cases hf : firstK zs nm (zs.length / 32) with
          | some k =>
            have HC := hide (show daC zs nm (i : Int) (q : Int) = 4 from by unfold daC; rw [if_neg (by rw [HOk.out]; decide), if_neg (by rw [HCk.out]; decide), if_neg (by rw [hw1, hw2]; decide), if_pos (by rw [hf]; rfl)])
            have HB := hide (show daB zs nm (i : Int) (q : Int) = [] from by unfold daB; rw [if_neg (by rw [HC.out]; decide)])
            have hat : atI zs nm = (k : Int) := by simp [atI, hf]
            rw [hat]
            clear hf hat hw1 hw2
            go_wp2
            go_ret2
            rw [HC.out, HB.out]
            exact ⟨_, rfl, own_nilB _ _, B4.out⟩
          | none =>
            have hat : atI zs nm = -1 := by simp [atI, hf]
            rw [hat]
            have HCc := hide (show daC zs nm (i : Int) (q : Int) = if laR zs = true then 0 else 8 from by
              unfold daC
              rw [if_neg (by rw [HOk.out]; decide), if_neg (by rw [HCk.out]; decide), if_neg (by rw [hw1, hw2]; decide), if_neg (by rw [hf]; decide), room_same HN.out HEo.out])
            have hsz : 0 < nm.size := by
              rcases Nat.eq_zero_or_pos nm.size with h0 | h0
              · exact absurd (by rw [ByteArray.toList_eq]; exact List.eq_nil_of_length_eq_zero (by simpa using h0)) (chk_sizeA HCk.out).2
              · exact h0
            clear hf hat hw1 hw2
            go_wp2_with (first
              | (refine wpList_load_midD (by first | rfl | (simp [Region.wanted, yielded]; done)) 34 _ rfl w.heap.size 0 rfl (entC nm (i : Int) (q : Int)).toList _ (ent_range K4.out) Tryd.underlying34 rfl infoD3 ?_)
              | (go_at_call 51; fail))
            refine (specLA_any _ zs nm i q _ (HR.out.below B4.out) HL.out.2 HL.out.1 (chk_sizeA HCk.out).1 hsz (by omega) (by omega)).mono ?_
            rintro e w5 ⟨v5, rfl, o5, b5⟩
            have B5 := hide (B4.out.trans (b5.mono B4.out.size))
            have O5 := hide (own_mono o5 B4.out.size)
            clear o5 b5 B4 K4
            cases hr : laR zs with
            | false =>
              have HC := hide (show daC zs nm (i : Int) (q : Int) = 8 from by rw [HCc.out, hr]; rfl)
              have HB := hide (show daB zs nm (i : Int) (q : Int) = [] from by unfold daB; rw [if_neg (by rw [HC.out]; decide)])
              clear hr
              go_wp2
              go_ret2
              rw [HC.out, HB.out]
              exact ⟨_, rfl, own_nilB _ _, B5.out⟩
            | true =>
              have HC := hide (show daC zs nm (i : Int) (q : Int) = 0 from by rw [HCc.out, hr]; rfl)
              have HB := hide (show daB zs nm (i : Int) (q : Int) = laB zs (slotB nm i q) from by unfold daB; rw [if_pos HC.out]; exact added_same HX.out HN.out HEo.out nm i q hr)
              clear hr
              go_wp2
              go_ret2
              rw [HC.out, HB.out]
              exact ⟨_, rfl, O5.out, B5.out⟩
    · have HC := hide (show daC zs nm ino kd = Chk.chkS nm from by unfold daC; rw [if_neg (by rw [HOk.out]; decide), if_pos hck])
      have HB := hide (show daB zs nm ino kd = [] from by unfold daB; rw [if_neg (by rw [HC.out]; exact hck)])
      go_wp2
      go_ret2
      rw [HC.out, HB.out]
      exact ⟨_, rfl, own_nilB _ _, B1.out⟩
end Go.Proofs.YtcciaojdceejcaaDoor
