/- Copies by append to an empty literal. The model's TreeRead. A range over a function that has memory of its own, writes into it between two rounds, and hands over what it made there. -/
import Derived.Test.YtkbbnflblkkepaaGreatDoorZm08
import Derived.Test.YtkbbnflblkkepaaGreatDoorZm06
import Derived.Maps.AppendAt
import Derived.Test.YtkbbnflblkkepaaGreatDoorZm09
import Derived.RangeFuncNested
import Derived.RangeFuncBound
import Derived.RangeFuncCalls
import Derived.RangeFuncLeaves
import Derived.Test.YtkbbnflblkkepaaGreatDoorZm01
namespace Go.Proofs.YtkbbnflblkkepaaGreatDoor
set_option linter.unusedVariables false
set_option linter.unusedSimpArgs false
open Go.RowKit

theorem own_emptyM (w : World) (e : TypeId) (sz : Nat) : (w.alloc (.cells #[] e)).ownsRow w.heap.size e sz (.slice (some ⟨w.heap.size, 0, none⟩) 0 0) 0 [] :=
  ⟨by simp, .inr ⟨w.heap.size, 0, #[], rfl, Nat.le_refl _, heap_alloc_new w _, Nat.le_refl _, by simp, by simp, by simp⟩⟩
theorem run_append_emptyM {P : Program} {w : World} (base : Nat) (t ty e : TypeId) (i : TypeInfo) (size : Nat) (ht : P.underlying t = some (.slice e)) (hi : P.info? e = some i)
    (v : Value) (n : Nat) (xs : List Value) (hown : w.ownsRow base e size v n xs) (a : Option Addr) (c : Nat) :
    (Builtin.append_ #[t, t] ty #[v, .slice a 0 c]).run P w = .ok v w := by
  rcases hown.2 with ⟨rfl, rfl⟩ | ⟨g, cap, cur, rfl, _, _, hnc, _⟩
  · cases a <;> simp [Builtin.append_, run_underlying ht, sizeOf, typeInfo, hi, Builtin.lenOf, Builtin.firstCells, loadCells, loadCellsFrom]
  · cases a <;> simp [Builtin.append_, run_underlying ht, sizeOf, typeInfo, hi, Builtin.lenOf, Builtin.firstCells, hnc, storeCells, loadCells, loadCellsFrom]
theorem wpList_append_emptyM {P : Program} {w : World} {ops : Array Oper} {rest : List Oper} {o : Oper} {a : Act} {Q : Exit → Act → World → Prop} (hgd : o.guard = none) (s x : Operand) (t : TypeId)
    (ho : o.op = .call { callee := .builtin .append, args := #[s, x], argTypes := #[t, t] })
    (base : Nat) (e : TypeId) (i : TypeInfo) (size : Nat) (ht : P.underlying t = some (.slice e)) (hi : P.info? e = some i)
    (v : Value) (n : Nat) (xs : List Value) (hs : a.eval s = v) (hown : w.ownsRow base e size v n xs) (ad : Option Addr) (c : Nat) (hx : a.eval x = .slice ad 0 c)
    (h : wpList P ops Q rest (a.put o.dst v) w) : wpList P ops Q (o :: rest) a w := by
  refine wpList_plain hgd fun K hK => ?_
  have hrun := run_append_emptyM (P := P) (w := w) base t o.type e i size ht hi v n xs hown ad c
  unfold Oper.wp
  simp [execOp, ho, resolve, invoke, builtin, hs, hx, hrun, Result.andThen]
  exact hK _ _ h
theorem wpList_append_copyM {P : Program} (w : World) {ops : Array Oper} {rest : List Oper} {o : Oper} {a : Act} {Q : Exit → Act → World → Prop}
    (hg : o.guard = none) (s x : Operand) (t : TypeId) (hop : o.op = Op.call { callee := Callee.builtin Builtin.append, args := #[s, x], argTypes := #[t, t] })
    (e : TypeId) (i : TypeInfo) (z : Value) (size bytes : Nat) (h1 : P.underlying t = some (.slice e)) (h2 : P.info? e = some i) (h3 : i.zero = some z) (h4 : i.size = size) (h5 : i.bytes = bytes) (h6 : z.cells.size = size) (h7 : 0 < size)
    (hs : a.eval s = .slice (some ⟨w.heap.size, 0, none⟩) 0 0) (ad : Option Addr) (m c : Nat) (xs : List Value) (hx : a.eval x = .slice ad m c) (hl : xs.length = m * size)
    (hr : 0 < m → ∃ bd off, ad = some ⟨bd, off, none⟩ ∧ bd < w.heap.size ∧ ∀ j u, xs[j]? = some u → w.cell? ⟨bd, off + j, none⟩ = some u) (hone : ∀ u ∈ xs, u.oneCell' = true) (hm : m ≤ maxLen) (hb : m * bytes ≤ 140737488355328)
    (hK : ∀ v' w', w'.ownsRow w.heap.size e size v' m xs → Below w.heap.size w w' → wpList P ops Q rest (a.put o.dst v') w') :
    wpList P ops Q (o :: rest) a (w.alloc (.cells #[] e)) := by
  have hB : Below w.heap.size w (w.alloc (.cells #[] e)) := (Below.refl _ _).alloc (Nat.le_refl _) _
  have hO := own_emptyM w e size
  by_cases hp : 0 < m
  · obtain ⟨bd, off, rfl, hbd, hc⟩ := hr hp
    refine append_fresh (w.alloc (.cells #[] e)) hg s x t hop w.heap.size e i z size bytes h1 h2 h3 h4 h5 h6 h7 _ 0 [] hs hO ⟨bd, off, none⟩ m c xs hx hl (fun j u hj => ?_) hone hp (by omega) (by rw [Nat.zero_add]; exact hb) (by simp) ?_
    · rw [Addr.add_mid]
      exact (hB.cell (p := ⟨bd, off + j, none⟩) hbd).trans (hc j u hj)
    · intro v' w' r1 r2 _
      rw [Nat.zero_add, List.nil_append] at r1
      exact hK v' w' r1 (hB.grown r2 hB.size (fun k e => by cases e; exact Nat.le_refl _))
  · obtain rfl : m = 0 := by omega
    have hx0 : xs = [] := List.eq_nil_of_length_eq_zero (by omega)
    subst hx0
    refine wpList_append_emptyM hg s x t hop w.heap.size e i size h1 h2 _ 0 [] hs hO ad c hx ?_
    exact hK _ _ hO hB
theorem Rd.srcM {w : World} {a : Option Addr} {cap : Nat} {zs : List Int} (h : Rd .u8 w (.slice a zs.length cap) zs) : 0 < zs.length → ∃ bd off, a = some ⟨bd, off, none⟩ ∧ bd < w.heap.size ∧ ∀ j u, (zs.map (Value.int .u8))[j]? = some u → w.cell? ⟨bd, off + j, none⟩ = some u := by
  intro hn
  obtain ⟨bd, off, cp, e, hbw, _, _, hcell⟩ := h.partsC hn
  injection e with e1 e2 e3
  refine ⟨bd, off, e1, hbw, fun j u hu => ?_⟩
  rw [List.getElem?_map] at hu
  have hj : j < zs.length := by
    rcases Nat.lt_or_ge j zs.length with h | h
    · exact h
    · rw [List.getElem?_eq_none h] at hu; cases hu
  rw [hcell j hj]
  rw [List.getElem?_eq_getElem hj] at hu
  simp at hu
  rw [← hu]
  simp [List.getD, hj]
end Go.Proofs.YtkbbnflblkkepaaGreatDoor

namespace Go.Proofs.YtkbbnflblkkepaaGreatDoor
set_option linter.unusedVariables false
set_option linter.unusedSimpArgs false
open Go.RowKit

theorem own_ownT {W W' : World} {b1 b2 n m : Nat} {e1 e2 : TypeId} {u v : Value} {L M : List Value} (hu : W.ownsRow b1 e1 1 u n L) (hv : W.ownsRow b2 e2 1 v m M) (hne : e1 ≠ e2) (hg : W.grownBy W' v.ownBlock) : W'.ownsRow b1 e1 1 u n L := by
  refine hu.kept hg ?_
  cases hb : u.ownBlock with
  | none => exact .inl rfl
  | some g =>
    refine .inr fun e => ?_
    rcases hu.2 with ⟨rfl, _⟩ | ⟨g1, cap, cur, rfl, _, hg1, _⟩
    · simp [Value.ownBlock] at hb
    · simp [Value.ownBlock] at hb
      subst hb
      exact blk_off hv (show Blk W g1 cur e1 from hg1) hne e.symm
/-- The bytes of the first i data blocks. -/
def bytI (zs : List Int) (D : Nat → Int) (i : Nat) : List Int := (List.range i).flatMap (fun j => datB zs (D j))
theorem bytI_succ (zs : List Int) (D : Nat → Int) (i : Nat) : bytI zs D (i + 1) = bytI zs D i ++ datB zs (D i) := by
  unfold bytI
  rw [List.range_succ, List.flatMap_append]
  simp
theorem datB_len {zs : List Int} {p : Int} (h : goodP (zs.length / 512) p = true) : (datB zs p).length = 512 := by
  unfold datB
  by_cases h0 : p = 0
  · rw [if_pos h0, List.length_replicate]
  · rw [if_neg h0]
    have := good_pos h h0
    unfold blkP
    rw [List.length_take, List.length_drop]
    omega
theorem bytI_len {zs : List Int} {D : Nat → Int} : ∀ (i : Nat), (∀ j, j < i → goodP (zs.length / 512) (D j) = true) → (bytI zs D i).length = i * 512
  | 0, _ => by simp [bytI]
  | i + 1, h => by rw [bytI_succ, List.length_append, bytI_len i (fun j hj => h j (by omega)), datB_len (h i (by omega))]; omega
theorem rd_takeT {k : IntKind} {w : World} {a : Option Addr} {n c : Nat} {zs : List Int} (h : Rd k w (.slice a n c) zs) (m : Nat) (hm : m ≤ zs.length) : Rd k w (.slice a m c) (zs.take m) := by
  obtain ⟨a', c', e, h1, h2, h3, h4⟩ := h
  injection e with e1 e2 e3
  subst e1 e2 e3
  have hl : (zs.take m).length = m := by rw [List.length_take]; omega
  refine ⟨a, c, by rw [hl], by omega, fun hne => ?_, by omega, h4⟩
  obtain ⟨b, off, hb, hlt, hc⟩ := h2 (fun e => hne (by rw [e]; simp))
  refine ⟨b, off, hb, hlt, fun i hi => ?_⟩
  rw [hl] at hi
  rw [hc i (by omega)]
  simp [List.getD, hi]
theorem rd_lenT {k : IntKind} {w : World} {a : Option Addr} {m c : Nat} {zs : List Int} (h : Rd k w (.slice a m c) zs) : (zs.map (Value.int k)).length = m * 1 := by
  obtain ⟨a', c', e, _⟩ := h
  injection e with e1 e2 e3
  simp [e2]
theorem rd_srcT {w : World} {a : Option Addr} {m c : Nat} {zs : List Int} (h : Rd .u8 w (.slice a m c) zs) : 0 < m → ∃ bd off, a = some ⟨bd, off, none⟩ ∧ bd < w.heap.size ∧ ∀ j u, (zs.map (Value.int .u8))[j]? = some u → w.cell? ⟨bd, off + j, none⟩ = some u := by
  have e : m = zs.length := by
    obtain ⟨a', c', e, _⟩ := h
    injection e
  subst e
  exact Rd.srcM h
open Classical in
/-- The model's answer of TreeRead. -/
noncomputable def mrC (zs : List Int) (s : Int) (ds : List Int) (p q : Int) : Int := if faultT zs s ds p q ≠ 0 then 7 else if apartP ((s.toNat + 511) / 512) (zs.length / 512) (wrdP zs) (fun i => ds.getD i 0) p q then 0 else 21
open Classical in
noncomputable def mrB (zs : List Int) (s : Int) (ds : List Int) (p q : Int) : List Int := if faultT zs s ds p q = 0 ∧ apartP ((s.toNat + 511) / 512) (zs.length / 512) (wrdP zs) (fun i => ds.getD i 0) p q then (bytI zs (datP (wrdP zs) (fun i => ds.getD i 0) p q) ((s.toNat + 511) / 512)).take s.toNat else []
theorem fault_two (zs : List Int) (s : Int) (ds : List Int) (p q : Int) : faultT zs s ds p q = 0 ∨ faultT zs s ds p q = 7 := by unfold faultT; split <;> simp
theorem fault_right {zs : List Int} {s : Int} {ds : List Int} {p q : Int} (h : faultT zs s ds p q = 0) : 0 ≤ s ∧ s ≤ 262144 := by
  unfold faultT at h
  split at h
  · rename_i hr
    have := hr.2
    unfold rightR at this
    simp only [Bool.and_eq_true, decide_eq_true_eq] at this
    exact this.1
  · cases h
set_option maxRecDepth 100000 in
set_option maxHeartbeats 2000000 in
theorem specTR_any (img : Value) (zs : List Int) (s : Int) (ds : List Int) (p q : Int) (w : World) (h : Rd .u8 w img zs) (h1 : zs.length ≤ 1048576) (hbd : ∀ z ∈ zs, 0 ≤ z ∧ z < 256) (hd : ds.length = 12) :
    Calls Tryz.prog 21 #[img, .agg (cellsI (rootI s ds p q))] w fun e w' => ∃ v, e = .returned (.tuple #[v, .int .i64 (mrC zs s ds p q)]) ∧ w'.ownsRow w.heap.size 5 1 v (mrB zs s ds p q).length ((mrB zs s ds p q).map (Value.int .u8)) ∧ Below w.heap.size w w' := by
  obtain ⟨i0, hi, hz0, hz1, hz2⟩ := info_parts infoU8
  have HR := hide (And.intro h (And.intro hbd hd))
  have HZ := hide (show (cellsI (rootI s ds p q)).size = 15 from by rw [cellsI_size]; exact rootI_len s ds p q hd)
  obtain ⟨sa, sc, rfl⟩ := rd_shapeT h
  clear h hbd hd
  have HB0 := hide (show Below w.heap.size w (w.alloc (.cells (cellsI (rootI s ds p q)) 34)) from (Below.refl _ _).alloc (Nat.le_refl _) _)
  have K0 := hide (Blk.new w (cellsI (rootI s ds p q)) 34)
  generalize hW0 : w.alloc (.cells (cellsI (rootI s ds p q)) 34) = W0 at HB0 K0
  have HW0 := hide hW0
  clear hW0
  rcases fault_two zs s ds p q with hf | hf
  · obtain ⟨hs0, hs1⟩ := fault_right hf
    obtain ⟨sz, rfl⟩ : ∃ sz : Nat, s = (sz : Int) := ⟨s.toNat, by omega⟩
    have HF := hide hf
    clear hf hs0
    obtain ⟨cnt, hcnt⟩ : ∃ cnt, cnt = (sz + 511) / 512 := ⟨_, rfl⟩
    have HCn := hide hcnt
    have hcn : cnt ≤ 512 := by omega
    have hszc : sz ≤ cnt * 512 := by omega
    clear hcnt
    go_enter Tryz.func21, Tryz.ntmps21
    go_upto_region 1 with fail
    rw [HW0.out]
    go_upto_region 4 with (first
      | (refine wpList_load_row rfl 34 _ rfl w.heap.size rfl 34 (cellsI (rootI (sz : Int) ds p q)) (0, 0) _ K0.out Tryz.underlying34 rfl (by rw [HZ.out]; exact info15) ?_)
      | (go_at_call 33; refine (fault3_any _ zs (sz : Int) ds p q _ (HR.out.1.below HB0.out) h1 HR.out.2.2).mono ?_; rintro e w2 ⟨rfl, b2⟩; rw [HF.out]; have H2 := hide b2; have K2 := hide (K0.out.below b2 K0.out.lt); have BW2 := hide (HB0.out.trans (b2.mono HB0.out.size)); clear b2))
    go_wp2_with (first
      | (refine wpList_load_row rfl 34 _ rfl w.heap.size rfl 34 (cellsI (rootI (sz : Int) ds p q)) (0, 0) _ K2.out Tryz.underlying34 rfl (by rw [HZ.out]; exact info15) ?_)
      | (go_at_call 34; fail))
    refine (apart_any _ zs sz ds p q _ cnt (HR.out.1.below BW2.out) h1 HR.out.2.1 HR.out.2.2 (by omega) HCn.out).mono ?_
    rintro e w3 ⟨(⟨hap, dv, iv, ov, sv, wv, rfl, hone, o3, _⟩ | ⟨hnap, rfl⟩), b3⟩
    · have BW3 := hide (BW2.out.trans (b3.mono BW2.out.size))
      have K3 := hide (K2.out.below b3 K2.out.lt)
      obtain ⟨da, dc, rfl⟩ := own_shapeT o3
      have O3 := hide (own_mono o3 BW2.out.size)
      have HAp := hide hap
      have HOne := hide hone
      clear hap o3 b3 hone
      obtain ⟨T, hT⟩ : ∃ T, T = treeC (.slice da cnt dc) p q iv ov sv wv true := ⟨_, rfl⟩
      have hT0 : T[0]? = some (.slice da cnt dc) := by rw [hT]; rfl
      have hT7 : T[7]? = some (.bool true) := by rw [hT]; rfl
      have hTs : T.size = 8 := by rw [hT]; rfl
      rw [← hT] at HOne ⊢
      have HTs := hide hTs
      clear hT hTs
      go_upto_region 5 with (first
        | (refine wpList_store_row rfl 89 _ _ rfl w3.heap.size T rfl rfl 89 _ (Blk.new w3 _ _) (by rw [HTs.out]; exact infoTr8) (by rw [HTs.out]; rfl) HOne.out ?_))
      generalize hW4 : World.setRow _ w3.heap.size T = W4
      have K4 := hide (show Blk W4 w3.heap.size T 89 from by rw [← hW4]; exact (Blk.new w3 _ _).row _)
      have B4 := hide (show Below w3.heap.size w3 W4 from by rw [← hW4]; exact below_setRow ((Below.refl _ _).alloc (Nat.le_refl _) _) (Nat.le_refl _) _)
      clear hW4
      have c0 := (K4.out.cell 0).trans hT0
      have c7 := (K4.out.cell 7).trans hT7
      go_upto_region 8 with fail
      obtain ⟨W5, hW5⟩ : ∃ W5, W5 = W4.alloc (.cells #[] 5) := ⟨_, rfl⟩
      rw [← hW5]
      have B5 := hide (show Below W4.heap.size W4 W5 from by rw [hW5]; exact (Below.refl _ _).alloc (Nat.le_refl _) _)
      have O5 := hide (show W5.ownsRow W4.heap.size 5 1 (.slice (some ⟨W4.heap.size, 0, none⟩) 0 0) 0 [] from by rw [hW5]; exact own_emptyM W4 _ _)
      have B35 := hide (show Below w3.heap.size w3 W5 from B4.out.trans (B5.out.mono B4.out.size))
      have BW5 := hide (BW3.out.trans (B35.out.mono BW3.out.size))
      have K5 := hide (K3.out.below B35.out K3.out.lt)
      have O35 := hide (own_belowT O3.out B35.out)
      have c0' : W5.cell? ⟨w3.heap.size, 0, none⟩ = some (.slice da cnt dc) := (B5.out.cell (p := ⟨w3.heap.size, 0, none⟩) K4.out.lt).trans c0
      have hb4 := BW3.out.size
      have hb5 := B4.out.size
      clear hW5 c0 c7 hT0 hT7
      go_wp2
      go_loopw [27, 8] (fun kv ou wr => ∃ (i M : Nat) (oa : Option Addr) (oc : Nat), M = i * 512 ∧ i ≤ cnt ∧ kv = .int .i64 (i : Int) ∧ ou = .slice oa M oc ∧ wr.ownsRow w.heap.size 5 1 ou M ((bytI zs (datP (wrdP zs) (fun i => ds.getD i 0) p q) i).map (Value.int .u8)) ∧ wr.ownsRow w.heap.size 3 1 (.slice da cnt dc) cnt (((List.range cnt).map (datP (wrdP zs) (fun i => ds.getD i 0) p q)).map (Value.int .i64)) ∧ Blk wr w.heap.size (cellsI (rootI (sz : Int) ds p q)) 34 ∧ Below w.heap.size w wr) (fun kv _ _ => cnt - (intOf kv).toNat)
      case atStart => exact ⟨0, 0, _, _, rfl, Nat.zero_le _, rfl, rfl, own_mono O5.out (by omega), O35.out, K5.out, BW5.out⟩
      case round =>
        obtain ⟨i, M, oa, oc, hM, hi1, rfl, rfl, ho, hdv, hk, hb⟩ := hrel
        clear O5 O35 K5 BW5 B35 B5 c0'
        have HI := hide (And.intro ho (And.intro hdv (And.intro hk hb)))
        have HM := hide hM
        have hM2 : M ≤ 262144 := by omega
        clear ho hdv hk hb hM
        by_cases hi2 : i < cnt
        · obtain ⟨gd, cd, ed, _, hcd⟩ := own_cellT HI.out.2.1 (by omega)
          injection ed with ed1 ed2 ed3
          subst ed1
          have cx := hcd i hi2
          rw [show ((List.range cnt).map (datP (wrdP zs) (fun i => ds.getD i 0) p q)).getD i 0 = (datP (wrdP zs) (fun i => ds.getD i 0) p q) i by simp [List.getD, hi2]] at cx
          obtain ⟨x, hx⟩ : ∃ x, x = (datP (wrdP zs) (fun i => ds.getD i 0) p q) i := ⟨_, rfl⟩
          rw [← hx] at cx
          have HX := hide hx
          have HGx := hide (show goodP (zs.length / 512) x = true by rw [hx]; exact HAp.out.2.2.2.2 i hi2)
          have hiI : (i : Int) < (cnt : Int) := by omega
          clear hcd hx ed2 ed3
          go_wp2_with (first
            | (go_at_call 35; refine (data3_any _ zs x _ (HR.out.1.below HI.out.2.2.2) h1 HGx.out).mono ?_; rintro e w7 ⟨v7, rfl, r7, b7⟩; obtain ⟨bd, off, cp, rfl, hbd, _, _, hcell⟩ := r7.partsC (by rw [datB_len HGx.out]; omega); have H7 := hide (And.intro hcell b7); have hl7 := datB_len HGx.out; rw [hl7]; have O7 := hide (own_belowT HI.out.1 b7); clear r7 b7 hcell hl7)
            | (at_builtin; refine wpList_append_own_at _ rfl (.tmp 31) (.tmp 34) 22 rfl w.heap.size 5 i0 (.int .u8 0) 1 1 Tryz.underlying22 hi hz0 hz1 hz2 rfl (by decide) (.slice oa M oc) M _ rfl O7.out ⟨bd, off, none⟩ 512 cp ((datB zs x).map (Value.int .u8)) rfl (by rw [List.length_map, datB_len HGx.out]) (fun j u hj => by
                rw [Addr.add_mid]
                have hjl : j < (datB zs x).length := by
                  rcases Nat.lt_or_ge j (datB zs x).length with h | h
                  · exact h
                  · rw [List.getElem?_eq_none (by simpa using h)] at hj; cases hj
                rw [H7.out.1 j hjl]
                rw [List.getElem?_map, List.getElem?_eq_getElem hjl] at hj
                simp at hj
                rw [← hj]
                simp [List.getD, hjl]) (ints_oneCell _ _) (by unfold maxLen; omega) (by omega) (Nat.le_trans HI.out.2.2.2.size H7.out.2.size) ?_; intro v8 w8 o8 g8 _ a8; obtain ⟨va8, vc8, rfl⟩ := own_shapeT o8; have H8 := hide (And.intro o8 g8); clear o8 g8 a8))
          have HD8 := hide (own_ownT (own_belowT HI.out.2.1 H7.out.2) O7.out (by decide) H8.out.2)
          have HK8 := hide (blk_own O7.out (HI.out.2.2.1.below H7.out.2 HI.out.2.2.1.lt) (by decide) H8.out.2)
          have HB8 := hide ((HI.out.2.2.2.trans (H7.out.2.mono HI.out.2.2.2.size)).grown H8.out.2 (Nat.le_trans HI.out.2.2.2.size H7.out.2.size) (fun r e => (O7.out.lt r e).1))
          go_roundw
          case rel => exact ⟨i + 1, M + 512, va8, vc8, by have := HM.out; omega, by omega, by go_num, rfl, by rw [bytI_succ, List.map_append, ← HX.out]; exact H8.out.1, HD8.out, HK8.out, HB8.out⟩
          case measure => simp [intOf]; omega
        · have hi3 : i = cnt := by omega
          subst hi3
          clear hi2
          have cz := ((HI.out.2.2.1.alloc (.cells #[] 5)).cell 0).trans (show _ = some (.int .i64 (sz : Int)) from by simp [cellsI, rootI])
          have hlen := bytI_len i HAp.out.2.2.2.2
          have hocap : M ≤ oc := by
            have hr := Rd.own (k := .u8) HI.out.1
            obtain ⟨a', c', e, _, _, hle, _⟩ := hr
            injection e with e1 e2 e3
            have := HM.out
            omega
          have HRs := hide (rd_takeT (Rd.own (k := .u8) HI.out.1) sz (by have := HM.out; omega))
          have hszM : (sz : Int) ≤ (oc : Int) := by have := HM.out; omega
          have hsz4 : sz ≤ 262144 := by omega
          clear hlen
          go_wp2_with (first
            | (at_builtin; (refine wpList_append_copyM wr rfl (.tmp 37) (.tmp 41) 22 rfl 5 i0 (.int .u8 0) 1 1 Tryz.underlying22 hi hz0 hz1 hz2 rfl (by decide) rfl oa sz oc _ rfl (rd_lenT HRs.out) (rd_srcT HRs.out) (ints_oneCell _ _) (by unfold maxLen; omega) (by omega) ?_); intro v9 w9 o9 b9; have H9 := hide (And.intro o9 b9); clear o9 b9))
          go_ret2
          have hap : apartP (((sz : Int).toNat + 511) / 512) (zs.length / 512) (wrdP zs) (fun i => ds.getD i 0) p q := by rw [Int.toNat_natCast, ← HCn.out]; exact HAp.out
          have e1 : mrB zs (sz : Int) ds p q = (bytI zs (datP (wrdP zs) (fun i => ds.getD i 0) p q) i).take sz := by unfold mrB; rw [if_pos ⟨HF.out, hap⟩, Int.toNat_natCast, ← HCn.out]
          have hl : (mrB zs (sz : Int) ds p q).length = sz := by rw [e1]; have := H9.out.1.1; simpa using this
          refine ⟨_, by unfold mrC; rw [if_neg (by rw [HF.out]; decide), if_pos hap]; rfl, ?_, HI.out.2.2.2.trans (H9.out.2.mono HI.out.2.2.2.size)⟩
          rw [hl, e1]
          exact own_mono H9.out.1 HI.out.2.2.2.size
    · have HNap := hide hnap
      have BW3 := hide (BW2.out.trans (b3.mono BW2.out.size))
      clear hnap b3
      go_upto_region 5 with (first
        | (refine wpList_store_row rfl 89 _ _ rfl w3.heap.size (treeC nilV 0 0 nilV nilV nilV nilV false) rfl rfl 89 _ (Blk.new w3 _ _) infoTr8 rfl (by simp [Value.oneCell']) ?_))
      generalize hW4 : World.setRow _ w3.heap.size (treeC nilV 0 0 nilV nilV nilV nilV false) = W4
      have K4 := hide (show Blk W4 w3.heap.size (treeC nilV 0 0 nilV nilV nilV nilV false) 89 from by rw [← hW4]; exact (Blk.new w3 _ _).row _)
      have B4 := hide (show Below w3.heap.size w3 W4 from by rw [← hW4]; exact below_setRow ((Below.refl _ _).alloc (Nat.le_refl _) _) (Nat.le_refl _) _)
      clear hW4
      have c7 := (K4.out.cell 7).trans (show _ = some (.bool false) from rfl)
      go_wp2
      go_ret2
      have hnp : ¬ apartP (((sz : Int).toNat + 511) / 512) (zs.length / 512) (wrdP zs) (fun i => ds.getD i 0) p q := by rw [Int.toNat_natCast, ← HCn.out]; exact HNap.out
      exact ⟨_, by unfold mrC; rw [if_neg (by rw [HF.out]; decide), if_neg hnp]; rfl, by unfold mrB; rw [if_neg (fun h => hnp h.2)]; exact World.ownsRow_nil _ _ _ _, BW3.out.trans (B4.out.mono BW3.out.size)⟩
  · have HF := hide hf
    clear hf
    go_enter Tryz.func21, Tryz.ntmps21
    go_upto_region 1 with fail
    rw [HW0.out]
    go_wp2_with (first
      | (refine wpList_load_row rfl 34 _ rfl w.heap.size rfl 34 (cellsI (rootI s ds p q)) (0, 0) _ K0.out Tryz.underlying34 rfl (by rw [HZ.out]; exact info15) ?_)
      | (go_at_call 33; refine (fault3_any _ zs s ds p q _ (HR.out.1.below HB0.out) h1 HR.out.2.2).mono ?_; rintro e w2 ⟨rfl, b2⟩; rw [HF.out]; have BW2 := hide (HB0.out.trans (b2.mono HB0.out.size)); clear b2))
    go_ret2
    exact ⟨_, by unfold mrC; rw [if_pos (by rw [HF.out]; decide)]; rfl, by unfold mrB; rw [if_neg (by rw [HF.out]; intro h; cases h.1)]; exact World.ownsRow_nil _ _ _ _, BW2.out⟩
end Go.Proofs.YtkbbnflblkkepaaGreatDoor

namespace Go.Proofs.YtkbbnflblkkepaaGreatDoor
set_option linter.unusedVariables false
set_option linter.unusedSimpArgs false
open Go.RowKit

/-- What abides the turn of blocks that T names. -/
def AbidesOf {β : Type} (T : Nat → Prop) (J : β → World → Prop) : Prop := ∀ s A B row, J s A → A.grownBy B row → (∀ r, row = some r → T r) → J s B
/-- What a round must keep: all below n₀, and the blocks that T names. -/
def KpT (n₀ : Nat) (T : Nat → Prop) (A B : World) : Prop := Below n₀ A B ∧ ∀ r, T r → B.heap[r]? = A.heap[r]?
theorem KpT.trans {n₀ : Nat} {T : Nat → Prop} {A B C : World} (h : KpT n₀ T A B) (k : KpT n₀ T B C) : KpT n₀ T A C := ⟨h.1.trans k.1, fun r hr => (k.2 r hr).trans (h.2 r hr)⟩
/-- The contract of such a function, called in W: T names the blocks that are its own; Ok: what is known of an element when it is told, beside the world in which the round before was over. -/
def Goes {α : Type} (F : Fence) (n : Nat) (P : Program) (g : Nat) (lb : Array Value) (encs : α → Array Value) (n₀ : Nat) (Ok : (Nat → Prop) → List α → α → World → World → Prop) (S Sp : List α → Prop) (W : World) : Prop :=
  ∀ (l : Nat) (J Jx : (Nat → Prop) → List α → World → Prop), (∀ T, AbidesOf T (J T)) → (∀ T, AbidesOf T (Jx T)) →
    (∀ T pre x W0 W1, J T pre W0 → J T pre W1 → Ok T pre x W0 W1 → YieldAt F (n - 1) P l (encs x) W1 fun e W' => (e = .returned (.bool true) ∧ J T (pre ++ [x]) W' ∧ KpT n₀ T W1 W') ∨ (e = .returned (.bool false) ∧ Jx T (pre ++ [x]) W')) →
    (∀ T W', Below W.heap.size W W' → (∀ r, T r → W.heap.size ≤ r ∧ r < W'.heap.size) → J T [] W') →
    CallsIn F n P g (#[.func (.yield l) #[] #[]] ++ lb) W fun e W' => (∃ v, e = .returned v) ∧ ((∃ T xs, S xs ∧ J T xs W') ∨ (∃ T pre, Sp pre ∧ Jx T pre W'))
/-- A loop over it. -/
theorem wpIn_rangeGoes {α : Type} {F : Fence} {n : Nat} {P : Program} {g : Operand} {ps : Array Tmp} {assign body : Code} {Q : Exit → Act → World → Prop} {a : Act} {w : World}
    (hro : F.round = none) (h1 : 1 ≤ n) {gf : Nat} {lb : Array Value} (hg : a.eval g = .func (.func gf) #[] lb) (hFg : F.fn gf) (eg : ∀ args w, (callFunc gf args).run P w = .ok (.enter gf args) w)
    {encs : α → Array Value} {n₀ : Nat} {Ok : (Nat → Prop) → List α → α → World → World → Prop} {S Sp : List α → Prop} (hn₀ : n₀ ≤ w.heap.size)
    (hseq : ∀ W1, Below w.heap.size w W1 → W1.heap.size = w.heap.size + 2 → Goes F (n - 1) P gf lb encs n₀ Ok S Sp W1)
    (hps : ∀ x, (encs x).size = ps.size)
    (I : (Nat → Prop) → List α → World → Prop) (Ix : (Nat → Prop) → Code → List α → World → Prop) (hI : ∀ T, AbidesOf (fun r => T r ∨ r = w.heap.size + 1) (I T)) (hIx : ∀ T c, AbidesOf (fun r => T r ∨ r = w.heap.size + 1) (Ix T c))
    (h0 : ∀ T W', Below w.heap.size w W' → w.heap.size + 2 ≤ W'.heap.size → (∀ r, T r → w.heap.size + 2 ≤ r ∧ r < W'.heap.size) → I T [] W')
    (Ax : (Nat → Prop) → List α → α → World → Act → World → Prop) (hAx : ∀ T pre x W0 a' A B, Ax T pre x W0 a' A → A.grownBy B (some (w.heap.size + 1)) → (∃ o, A.heap[w.heap.size + 1]? = some o ∧ o.isCells = false) → Ax T pre x W0 a' B)
    (hassign : ∀ (l : Nat) (T : Nat → Prop) (pre : List α) (x : α) (W0 W : World) (K : Act → World → Prop), (∀ r, T r → w.heap.size + 2 ≤ r) → I T pre W0 → I T pre W → Ok T pre x W0 W → (∀ a' W', KeepsFrom w.heap.size W W' → KpT n₀ T W W' → Ax T pre x W0 a' W' → K a' W') → assign.wpIn (F.inRound l) (n - 1 - 1) P (Exit.then K (fun _ _ _ => False)) { tmps := (ps.zip (encs x)).foldl (fun t (p, v) => t.setIfInBounds p v) a.tmps, defers := [] } W)
    (hbody : ∀ (l : Nat) (T : Nat → Prop) (pre : List α) (x : α) (W0 : World) (a' : Act) (W : World), (∀ r, T r → w.heap.size + 2 ≤ r) → Ax T pre x W0 a' W → body.wpIn (F.inRound l) (n - 1 - 1) P (ownPostG w.heap.size (KpT n₀ T) (I T) (Ix T) (pre ++ [x]) W) a' W)
    (hdone : ∀ (T : Nat → Prop) (xs : List α) (W : World), S xs → I T xs W → W.heap[w.heap.size]? = some (.deferred (some [])) → Q .normal { a with defers := { target := .collected w.heap.size, args := #[] } :: a.defers } W)
    (hstop : ∀ (T : Nat → Prop) (c : Code) (pre : List α) (W : World), Sp pre → Ix T c pre W → W.heap[w.heap.size]? = some (.deferred (some [])) → c.wpIn F n P Q { a with defers := { target := .collected w.heap.size, args := #[] } :: a.defers } W) :
    (Code.rangeFunc g ps assign body).wpIn F n P Q a w := by
  refine wpIn_rangeFunc fun fn hfn => ?_
  rw [hro]
  obtain ⟨R, hR⟩ : ∃ R : LoopState → Option Code → Loop, R = fun st pe => { state := st, pending := pe, fn, tmps := a.tmps, params := ps, assign, body, defers := w.heap.size } := ⟨_, rfl⟩
  obtain ⟨W1, hW1⟩ : ∃ W1, W1 = (w.alloc (.deferred (some []))).alloc (.loop (R .ready none)) := ⟨_, rfl⟩
  have hs1 : W1.heap.size = w.heap.size + 2 := by rw [hW1]; simp
  have hb1 : Below w.heap.size w W1 := by rw [hW1]; exact ((Below.refl _ w).alloc (Nat.le_refl _) _).alloc (by simp) _
  have hl1 : W1.heap[w.heap.size + 1]? = some (.loop (R .ready none)) := by
    rw [hW1]
    have := World.alloc_heap_new (w.alloc (.deferred (some []))) (.loop (R .ready none))
    rwa [World.size_alloc] at this
  have hd1 : W1.heap[w.heap.size]? = some (.deferred (some [])) := by
    rw [hW1]
    exact (Below.heap_alloc _ _ _ (by simp)).trans (World.alloc_heap_new w _)
  have put : ∀ {T : Nat → Prop} {J : List α → World → Prop}, AbidesOf (fun r => T r ∨ r = w.heap.size + 1) J → ∀ s A o, J s A → J s (A.putObj (w.heap.size + 1) o) := fun hJ s A o h => hJ s A _ (some (w.heap.size + 1)) h (grownBy_putObj' _ _ _) (fun r e => by cases e; exact .inr rfl)
  have kept : ∀ {T : Nat → Prop} {A B : World} {row : Option Nat} {k : Nat} {o : Obj}, (∀ r, T r → w.heap.size + 2 ≤ r) → A.grownBy B row → (∀ r, row = some r → T r) → k < w.heap.size + 2 → A.heap[k]? = some o → B.heap[k]? = some o := fun {T A B row k o} hT hgr hr hk ho =>
    (hgr.block k (Array.getElem?_eq_some_iff.1 ho).1 (fun e => by have := hT k (hr k e.symm); omega)).trans ho
  have kp : ∀ (T : Nat → Prop) (A : World) (o o' : Obj), (∀ r, T r → w.heap.size + 2 ≤ r) → A.heap[w.heap.size + 1]? = some o → KpT n₀ T A (A.putObj (w.heap.size + 1) o') := fun T A o o' hT ho => by
    have hlt : w.heap.size + 1 < A.heap.size := (Array.getElem?_eq_some_iff.1 ho).1
    exact ⟨(Below.refl n₀ A).grown (grownBy_putObj' A _ o') (by omega) (fun k e => by cases e; omega), fun r hr => World.putObj_heap_other (by have := hT r hr; omega)⟩
  refine ⟨w.heap.size + 1, [{ target := .collected w.heap.size, args := #[] }], W1, { target := .fn (.func gf) lb, args := #[.func (.yield (w.heap.size + 1)) #[] #[]] }, W1, gf, #[.func (.yield (w.heap.size + 1)) #[] #[]] ++ lb, W1, ?_, ?_, ?_, ?_, fun _ => h1, ?_⟩
  · rw [hW1, hR]; exact run_enterLoop_outer _ _ _ _ _
  · simp only [resolve, hg]
    simp [go_sem]
  · intro f' hf'
    simp [Target.leads] at hf'
    subst hf'
    exact hFg
  · simp [invoke, go_sem, eg]
  refine (hseq W1 hb1 hs1 (w.heap.size + 1) (fun T pre W => (∀ r, T r → w.heap.size + 2 ≤ r) ∧ I T pre W ∧ W.heap[w.heap.size + 1]? = some (.loop (R .ready none)) ∧ W.heap[w.heap.size]? = some (.deferred (some [])))
    (fun T pre W => (∀ r, T r → w.heap.size + 2 ≤ r) ∧ ∃ c, Ix T c pre W ∧ W.heap[w.heap.size + 1]? = some (.loop (R .done (some c))) ∧ W.heap[w.heap.size]? = some (.deferred (some []))) ?_ ?_ ?_ ?_).mono ?_
  · rintro T s A B row ⟨hT, x1, x2, x3⟩ hgr hr
    exact ⟨hT, hI T s A B row x1 hgr (fun r e => .inl (hr r e)), kept hT hgr hr (by omega) x2, kept hT hgr hr (by omega) x3⟩
  · rintro T s A B row ⟨hT, c, x1, x2, x3⟩ hgr hr
    exact ⟨hT, c, hIx T c s A B row x1 hgr (fun r e => .inl (hr r e)), kept hT hgr hr (by omega) x2, kept hT hgr hr (by omega) x3⟩
  · rintro T pre x W0 W ⟨_, i0, _⟩ ⟨hT, i1, l1, d1⟩ hok
    have hy := run_yield (P := P) (args := encs x) l1 (by rw [hR]; exact hps x)
    rw [hR] at hy
    refine ⟨fn, _, assign, body, hy, roundIn_of_wpIn hfn (hassign _ T pre x W0 W _ hT i0 i1 hok ?_)⟩
    clear hy
    intro a' Wa ka kpa ax
    have la := ka.same _ _ (by omega) l1 rfl
    have da := ka.same _ _ (Nat.le_refl _) d1 rfl
    have hlt : w.heap.size + 1 < Wa.heap.size := (Array.getElem?_eq_some_iff.1 la).1
    refine ⟨_, run_beginRound la (by rw [hR]), ?_⟩
    have l2 : (Wa.putObj (w.heap.size + 1) (.loop { R .ready none with state := .busy })).heap[w.heap.size + 1]? = some (.loop { R .ready none with state := .busy }) := World.putObj_heap_same hlt
    have d2 : (Wa.putObj (w.heap.size + 1) (.loop { R .ready none with state := .busy })).heap[w.heap.size]? = some (.deferred (some [])) := (World.putObj_heap_other (by omega)).trans da
    refine wpIn_mono (hbody _ T pre x W0 a' _ hT (hAx _ _ _ _ _ _ _ ax (grownBy_putObj' _ _ _) ⟨_, la, rfl⟩)) ?_
    have fin : ∀ (jump : Option Code) (W3 : World), KeepsFrom w.heap.size (Wa.putObj (w.heap.size + 1) (.loop { R .ready none with state := .busy })) W3 →
        (Instr.endRound (w.heap.size + 1) jump).run P W3 = .ok (.bool jump.isNone) (W3.putObj (w.heap.size + 1) (.loop (R (if jump.isNone then .ready else .done) jump))) ∧
        (W3.putObj (w.heap.size + 1) (.loop (R (if jump.isNone then .ready else .done) jump))).heap[w.heap.size + 1]? = some (.loop (R (if jump.isNone then .ready else .done) jump)) ∧
        (W3.putObj (w.heap.size + 1) (.loop (R (if jump.isNone then .ready else .done) jump))).heap[w.heap.size]? = some (.deferred (some [])) ∧ W3.heap[w.heap.size + 1]? = some (.loop { R .ready none with state := .busy }) := fun jump W3 hk => by
      have l3 := hk.same _ _ (by omega) l2 rfl
      have he := run_endRound (P := P) jump l3
      refine ⟨?_, World.putObj_heap_same (Array.getElem?_eq_some_iff.1 l3).1, (World.putObj_heap_other (by omega)).trans (hk.same _ _ (Nat.le_refl _) d2 rfl), l3⟩
      rw [hR] at he ⊢
      exact he
    have leave : ∀ (c : Code) (W3 : World), KeepsFrom w.heap.size (Wa.putObj (w.heap.size + 1) (.loop { R .ready none with state := .busy })) W3 → Ix T c (pre ++ [x]) W3 → ∃ v w', (Instr.endRound (w.heap.size + 1) (some c)).run P W3 = .ok v w' ∧
        (((Ending.returned v) = .returned (.bool true) ∧ ((∀ r, T r → w.heap.size + 2 ≤ r) ∧ I T (pre ++ [x]) w' ∧ w'.heap[w.heap.size + 1]? = some (.loop (R .ready none)) ∧ w'.heap[w.heap.size]? = some (.deferred (some []))) ∧ KpT n₀ T W w') ∨ ((Ending.returned v) = .returned (.bool false) ∧ (∀ r, T r → w.heap.size + 2 ≤ r) ∧ ∃ c, Ix T c (pre ++ [x]) w' ∧ w'.heap[w.heap.size + 1]? = some (.loop (R .done (some c))) ∧ w'.heap[w.heap.size]? = some (.deferred (some [])))) := fun c W3 hk hx => by
      obtain ⟨r1, r2, r3, _⟩ := fin (some c) W3 hk
      exact ⟨_, _, r1, .inr ⟨rfl, hT, c, put (hIx T c) _ _ _ hx, r2, r3⟩⟩
    rintro e a3 W3 hp
    cases e with
    | normal =>
      obtain ⟨k3, kp3, i3⟩ := hp
      obtain ⟨r1, r2, r3, r4⟩ := fin none W3 k3
      exact ⟨_, _, r1, .inl ⟨rfl, ⟨hT, put (hI T) _ _ _ i3, r2, r3⟩, ((kpa.trans (kp T Wa _ _ hT la)).trans kp3).trans (kp T W3 _ _ hT r4)⟩⟩
    | ret => exact leave _ W3 hp.1 hp.2
    | exit id => exact leave _ W3 hp.1 hp.2
    | goto t => exact leave _ W3 hp.1 hp.2
    | panic ch => exact hp.elim
    | outgrown => exact hp.elim
  · rintro T W' hb hT
    rw [hs1] at hb hT
    exact ⟨fun r hr => (hT r hr).1, h0 T W' (hb1.trans (hb.mono (by omega))) (by have := hb.size; omega) hT, (hb.block _ (by omega)).trans hl1, (hb.block _ (by omega)).trans hd1⟩
  · rintro e W2 ⟨⟨v, rfl⟩, (⟨T, xs, hS, hT, hi, hl, hk⟩ | ⟨T, pre, hSp, hT, c, hi, hl, hk⟩)⟩
    · have he := run_endLoop (P := P) hl (by rw [hR]; simp)
      rw [hR] at he
      exact ⟨none, _, he, hdone T xs _ hS (put (hI T) _ _ _ hi) ((World.putObj_heap_other (by omega)).trans hk)⟩
    · have he := run_endLoop (P := P) hl (by rw [hR]; simp)
      rw [hR] at he
      exact ⟨some c, _, he, hstop T c pre _ hSp (put (hIx T c) _ _ _ hi) ((World.putObj_heap_other (by omega)).trans hk)⟩
end Go.Proofs.YtkbbnflblkkepaaGreatDoor
