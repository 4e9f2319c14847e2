/- The program's TreeBlocks. The model's lists of a tree: l03Cut, l03Some. -/
import Derived.Test.YtnfgldglpfgmnaaDoorZf25
namespace Go.Proofs.YtnfgldglpfgmnaaDoor
set_option linter.unusedVariables false
set_option linter.unusedSimpArgs false
open Go.RowKit

theorem toldI_nil (w : World) (a : Option Addr) (len cap : Nat) :
    Calls Tryd.prog 42 #[.slice a len cap, .nilIface] w fun e w' => e = .returned (.tuple #[.slice a len cap, .int .i64 0]) ∧ w' = w := by
  go_enter Tryd.func42, Tryd.ntmps42
  go_wp2
  go_ret2
  exact ⟨rfl, rfl⟩
theorem toldI_bad (w : World) (a : Option Addr) (len cap m lo : Nat) (ev : Value) (code : Int) (hf : Flt w lo m ev code) (hg : ErrT w) :
    Calls Tryd.prog 42 #[.slice a len cap, ev] w fun e w' => e = .returned (.tuple #[.slice none 0 0, .int .i64 code]) ∧ Below w.heap.size w w' := by
  obtain ⟨t', x', rfl⟩ := hf.iface
  have H4 := hide hf
  have HG := hide hg
  clear hf hg
  go_enter Tryd.func42, Tryd.ntmps42
  go_wp2_with (go_at_call 28; refine (codeOf_any m _ code _ _ H4.out HG.out).mono ?_; rintro e w3 ⟨rfl, hb3⟩)
  go_ret2
  exact ⟨rfl, hb3⟩
/-- The numbers that TreeBlocks answers. -/
def tbB (zs : List Int) (s : Int) (ds : List Int) (p q : Int) : List Int := if okR zs s ds p q = true ∧ (ZR zs s ds p q).2 = false then numX (upX (ZR zs s ds p q).1) else []
set_option maxRecDepth 100000 in
set_option maxHeartbeats 2000000 in
/-- The program's TreeBlocks. -/
theorem implTB_any (img : Value) (zs : List Int) (s : Int) (ds : List Int) (p q : Int) (w : World) (h : Rd .u8 w img zs) (hz : zs.length ≤ 1048576) (hbd : ∀ z ∈ zs, 0 ≤ z ∧ z < 256) (hd : ds.length = 12) (hg : ErrT w) :
    Calls Tryd.prog 21 #[img, .agg (cellsI (rootI s ds p q))] w fun e w' => ∃ v, e = .returned (.tuple #[v, .int .i64 (trC zs s ds p q)]) ∧ w'.ownsRow w.heap.size 3 1 v (tbB zs s ds p q).length ((tbB zs s ds p q).map (Value.int .i64)) ∧ Below w.heap.size w w' := by
  have HR := hide (And.intro h (And.intro hbd (And.intro hd hg)))
  have hRl := rootI_len s ds p q hd
  have HZ := hide (show (cellsI (rootI s ds p q)).size = 15 from by rw [cellsI_size]; exact hRl)
  obtain ⟨sa, sc, rfl⟩ := rd_shapeT h
  have HTs := hide (treT_size (.slice sa zs.length sc) _ hRl)
  obtain ⟨Z1, hZ1, hAl⟩ := letTr
  have HAl := hide (And.intro hZ1 hAl)
  have HRl := hide hRl
  clear h hbd hd hRl hZ1 hAl hg
  have b0 : Below w.heap.size w (w.alloc (.cells (cellsI (rootI s ds p q)) 34)) := (Below.refl _ _).alloc (Nat.le_refl _) _
  have HB0 := hide b0
  clear b0
  go_enter Tryd.func21, Tryd.ntmps21
  go_upto_region 2 with (first
    | (refine wpList_load_row rfl 34 _ rfl w.heap.size rfl 34 (cellsI (rootI s ds p q)) (0, 0) _ (Blk.new w _ _) Tryd.underlying34 rfl (by rw [HZ.out]; exact info15) ?_)
    | (go_at_call 41; refine (openTree_any _ zs s ds p q _ (HR.out.1.below HB0.out) hz HR.out.2.2.1).mono ?_; rintro e w2 ⟨ev, rfl, f2, b2⟩; have H2 := hide (And.intro f2 b2); clear f2 b2)
    | (refine Great.wpList_allocTo rfl (some 6) rfl (.pointer (some ⟨w2.heap.size, 0, none⟩)) (.cells Z1 67) (HAl.out.2 _ _ _ rfl) ?_)
    | (refine wpList_store_row rfl 67 _ _ rfl w2.heap.size (treT (.slice sa zs.length sc) (rootI s ds p q)) rfl rfl 67 Z1 (Blk.new w2 _ _) (by rw [HTs.out]; exact infoTr) (by rw [HTs.out]; exact HAl.out.1) (treT_one _) ?_))
  obtain ⟨W3, hW3⟩ : ∃ W3, W3 = (w2.alloc (.cells Z1 67)).setRow w2.heap.size (treT (.slice sa zs.length sc) (rootI s ds p q)) := ⟨_, rfl⟩
  have K3 := hide (show Blk W3 w2.heap.size (treT (.slice sa zs.length sc) (rootI s ds p q)) 67 from by rw [hW3]; exact (Blk.new w2 Z1 67).row _)
  have B3 := hide (show Below w2.heap.size w2 W3 from by rw [hW3]; exact below_setRow ((Below.refl _ _).alloc (Nat.le_refl _) _) (Nat.le_refl _) _)
  rw [← hW3]
  clear hW3
  have BW := hide (show Below w.heap.size w W3 from HB0.out.trans ((H2.out.2.trans (B3.out.mono H2.out.2.size)).mono HB0.out.size))
  cases hok : szOk zs.length && rightR s ds p q with
  | false =>
    have hf := H2.out.1
    rw [hok] at hf
    rcases hf with ⟨hf, _⟩ | ⟨_, m, hf⟩
    · cases hf
    obtain ⟨t', x', rfl⟩ := hf.iface
    have HF := hide (hf.below B3.out)
    have HC := hide (show trC zs s ds p q = 7 ∧ tbB zs s ds p q = [] from ⟨by unfold trC okR; rw [hok, if_pos rfl], by unfold tbB okR; rw [hok, if_neg (by simp)]⟩)
    clear hf hok
    go_wp2_with (go_at_call 28; refine (codeOf_any m _ 7 _ _ HF.out (HR.out.2.2.2.below BW.out)).mono ?_; rintro e w4 ⟨rfl, b4⟩; have HB4 := hide b4; clear b4)
    go_ret2
    exact ⟨_, by rw [HC.out.1]; rfl, by rw [HC.out.2]; exact World.ownsRow_nil _ _ _ _, BW.out.trans (HB4.out.mono BW.out.size)⟩
  | true =>
    have hf := H2.out.1
    rw [hok] at hf
    rcases hf with ⟨_, rfl⟩ | ⟨hf, _⟩
    rotate_left
    · cases hf
    have hr : rightR s ds p q = true := by rw [Bool.and_eq_true] at hok; exact hok.2
    obtain ⟨hs0, hs1⟩ := right_size hr
    obtain ⟨sz, rfl⟩ : ∃ sz : Nat, s = (sz : Int) := ⟨s.toNat, by omega⟩
    have HOk := hide (show okR zs (sz : Int) ds p q = true from hok)
    clear hok hr hs0
    have hRl := HRl.out
    have hX := fun k hk => treT_k (.slice sa zs.length sc) (rootI (sz : Int) ds p q) k hk
    have HX := hide (show (treT (.slice sa zs.length sc) (rootI (sz : Int) ds p q))[1]? = some (.int .i64 (sz : Int)) ∧ ∀ j, j < 14 → (treT (.slice sa zs.length sc) (rootI (sz : Int) ds p q))[2 + j]? = some (.int .i64 ((ds ++ [p, q]).getD j 0)) from by
      refine ⟨(hX 0 (by omega)).trans (by simp [rootI]), fun j hj => ?_⟩
      have := hX (j + 1) (by omega)
      rw [show 1 + (j + 1) = 2 + j by omega] at this
      rw [this]
      simp [rootI, List.getD])
    clear hX hRl
    go_wp2_with (first
      | (refine wpList_load_row rfl 67 _ rfl w2.heap.size rfl 67 (treT (.slice sa zs.length sc) (rootI (sz : Int) ds p q)) (0, 0) _ K3.out Tryd.underlying67 rfl (by rw [HTs.out]; exact infoTr) ?_)
      | (go_at_call 43; refine (list_any ((sz + 511) / 512) sz zs _ (fun j => (ds ++ [p, q]).getD j 0) _ _ (ZR zs (sz : Int) ds p q) (treT_0 _ _) HX.out.1 HX.out.2 HTs.out (HR.out.1.below BW.out) hz HR.out.2.1 (by omega) rfl rfl).mono ?_; rintro e w5 ⟨v, ev, rfl, h5, b5⟩; have H5 := hide (And.intro h5 b5); clear h5 b5)
      | (go_at_call 42; fail))
    have B5 := hide (BW.out.trans (H5.out.2.mono BW.out.size))
    rcases H5.out.1 with ⟨hZ0, rfl, o5⟩ | ⟨hZ1, rfl, m, f5⟩
    · obtain ⟨va, vc, rfl⟩ := own_shape5 o5
      have HC := hide (show trC zs (sz : Int) ds p q = 0 ∧ tbB zs (sz : Int) ds p q = numX (upX (ZR zs (sz : Int) ds p q).1) from ⟨by unfold trC; rw [HOk.out, hZ0]; simp, by unfold tbB; rw [if_pos ⟨HOk.out, hZ0⟩]⟩)
      have HO := hide (own_mono o5 BW.out.size)
      clear o5 hZ0
      refine (toldI_nil w5 va _ vc).mono ?_
      rintro e w6 ⟨rfl, rfl⟩
      go_wp2
      go_ret2
      exact ⟨_, by rw [HC.out.1]; rfl, by rw [HC.out.2]; exact HO.out, B5.out⟩
    · have HC := hide (show trC zs (sz : Int) ds p q = 21 ∧ tbB zs (sz : Int) ds p q = [] from ⟨by unfold trC; rw [HOk.out, hZ1]; simp, by unfold tbB; rw [if_neg (by rw [hZ1]; simp)]⟩)
      have HF := hide f5
      clear f5 hZ1
      refine (toldI_bad w5 none 0 0 m 0 ev _ HF.out (HR.out.2.2.2.below B5.out)).mono ?_
      rintro e w6 ⟨rfl, b6⟩
      have HB6 := hide b6
      clear b6
      go_wp2
      go_ret2
      exact ⟨_, by rw [HC.out.1]; rfl, by rw [HC.out.2]; exact World.ownsRow_nil _ _ _ _, B5.out.trans (HB6.out.mono B5.out.size)⟩
end Go.Proofs.YtnfgldglpfgmnaaDoor

namespace Go.Proofs.YtnfgldglpfgmnaaDoor
set_option linter.unusedVariables false
set_option linter.unusedSimpArgs false
open Go.RowKit

theorem cutM_len (L : List Int) (lo hi : Nat) : (cutM L lo hi).length ≤ hi - lo := by unfold cutM; rw [List.length_take]; omega
theorem rd_emptyI (w : World) (a : Option Addr) (c : Nat) (hc : c ≤ maxLen) : Rd .i64 w (.slice a 0 c) [] := ⟨a, c, rfl, by simp, fun h => absurd rfl h, by simp, hc⟩
theorem rd_capI {k : IntKind} {w : World} {a : Option Addr} {n c : Nat} {zs : List Int} (h : Rd k w (.slice a n c) zs) : n = zs.length ∧ n ≤ c ∧ c ≤ maxLen := by
  obtain ⟨a', c', e, _, _, h3, h4⟩ := h
  injection e with e1 e2 e3
  subst e1 e2 e3
  exact ⟨rfl, h3, h4⟩
set_option maxRecDepth 100000 in
theorem cut_res {w : World} {a : Option Addr} {cap : Nat} {L : List Int} (h : Rd .i64 w (.slice a L.length cap) L) (lo hi l2 h2 : Nat) (e1 : l2 = min lo L.length) (e2 : h2 = min hi L.length) (hlh : lo ≤ hi) :
    ∃ a', Rd .i64 w (.slice a' (h2 - l2) (cap - l2)) (cutM L lo hi) ∧ ∀ wx, (Instr.slice 38 (.slice a L.length cap) (some (.int .i64 (l2 : Int))) (some (.int .i64 (h2 : Int))) none).run Tryd.prog wx = .ok (.slice a' (h2 - l2) (cap - l2)) wx := by
  obtain ⟨i0, hi0, hz0, hz1, hz2⟩ := info_parts infoI64
  obtain ⟨_, hc1, hc2⟩ := rd_capI h
  refine ⟨if cap = l2 then a else a.map (·.add (l2 * 1)), ?_, fun wx => ?_⟩
  · by_cases hm : l2 < h2
    · have hne : 0 < L.length := by omega
      obtain ⟨b, off, cp, e, hb, hlc, hcm, hcell⟩ := h.partsC hne
      injection e with e1' e2' e3
      subst e1' e3
      have hr := Rd.cut2 l2 (h2 - l2) h (by omega) (by omega)
      have e4 : cutM L lo hi = (L.drop l2).take (h2 - l2) := by
        unfold cutM
        have : l2 = lo := by omega
        rw [this, List.take_eq_take_iff, List.length_drop]
        omega
      rw [e4, if_neg (by omega), Option.map_some, Nat.mul_one, Addr.add_mid]
      exact hr
    · have e4 : cutM L lo hi = [] := by
        unfold cutM
        apply List.eq_nil_of_length_eq_zero
        rw [List.length_take, List.length_drop]
        omega
      rw [e4, show h2 - l2 = 0 by omega]
      exact rd_emptyI _ _ _ (by omega)
  · rw [run_slice_lh (P := Tryd.prog) (w := wx) 38 _ _ cap (by rw [Tryd.underlying38]; rfl) .i64 .i64 (l2 : Int) (h2 : Int) (by omega) (by omega) (by omega)]
    simp [sizeOf, typeInfo, show Tryd.prog.elem 38 = 3 from by kernel_rfl, hi0, hz1, Result.andThen, sliced]
set_option maxRecDepth 100000 in
set_option maxHeartbeats 1000000 in
theorem cut_any (v : Value) (L : List Int) (lo hi : Nat) (w : World) (h : Rd .i64 w v L) (hlh : lo ≤ hi) (hhi : hi ≤ 1048576) (hl : L.length ≤ 1048576) :
    Calls Tryd.prog 39 #[v, .int .i64 (lo : Int), .int .i64 (hi : Int)] w fun e w' => ∃ a n c, e = .returned (.slice a n c) ∧ Rd .i64 w (.slice a n c) (cutM L lo hi) ∧ w' = w := by
  obtain ⟨a, cap, rfl⟩ := rd_shapeT h
  have HH := hide h
  clear h
  by_cases g1 : (L.length : Int) < (lo : Int)
  · have g2 : (L.length : Int) < (hi : Int) := by omega
    obtain ⟨a', hr, hsl⟩ := cut_res HH.out lo hi L.length L.length (by omega) (by omega) hlh
    have HP := hide hr
    clear hr hlh
    go_enter Tryd.func39, Tryd.ntmps39
    go_wp2
    go_ret
    exact ⟨_, _, _, rfl, by have := HP.out; rwa [Nat.sub_self] at this, rfl⟩
  · by_cases g2 : (L.length : Int) < (hi : Int)
    · obtain ⟨a', hr, hsl⟩ := cut_res HH.out lo hi lo L.length (by omega) (by omega) hlh
      have HP := hide hr
      clear hr hlh
      go_enter Tryd.func39, Tryd.ntmps39
      go_wp2
      go_ret
      exact ⟨_, _, _, rfl, HP.out, rfl⟩
    · obtain ⟨a', hr, hsl⟩ := cut_res HH.out lo hi lo hi (by omega) (by omega) hlh
      have HP := hide hr
      clear hr hlh
      go_enter Tryd.func39, Tryd.ntmps39
      go_wp2
      go_ret
      exact ⟨_, _, _, rfl, HP.out, rfl⟩
theorem rd_oneI (w : World) (p : Int) : Rd .i64 (w.alloc (.cells #[.int .i64 p] 3)) (.slice (some ⟨w.heap.size, 0, none⟩) 1 1) [p] := by
  refine ⟨_, _, rfl, by simp [maxLen], fun _ => ⟨w.heap.size, 0, rfl, by simp, fun i hi => ?_⟩, by simp, by unfold maxLen; omega⟩
  have : i = 0 := by simpa using hi
  subst this
  exact ((Blk.new w #[.int .i64 p] 3).cell 0).trans rfl
/-- An append of what is read, maybe nothing. -/
theorem wpList_append_rdI {P : Program} (w : World) {ops : Array Oper} {rest : List Oper} {o : Oper} {a : Act} {Q : Exit → Act → World → Prop}
    (hg : o.guard = none) (s x : Operand) (t : TypeId) (hop : o.op = Op.call { callee := Callee.builtin Builtin.append, args := #[s, x], argTypes := #[t, t] })
    (base : Nat) (e : TypeId) (i : TypeInfo) (h1 : P.underlying t = some (.slice e)) (h2 : P.info? e = some i) (h3 : i.zero = some (.int .i64 0)) (h4 : i.size = 1) (h5 : i.bytes = 8)
    (sv : Value) (n : Nat) (xs : List Int) (hs : a.eval s = sv) (hown : w.ownsRow base e 1 sv n (xs.map (Value.int .i64)))
    (v : Value) (zs : List Int) (hx : a.eval x = v) (hr : Rd .i64 w v zs) (hb : n + zs.length ≤ 1000000) (hbase : base ≤ w.heap.size)
    (hK : ∀ a' c' m w', m = n + zs.length → w'.ownsRow base e 1 (.slice a' m c') m ((xs ++ zs).map (Value.int .i64)) → Below base w w' → wpList P ops Q rest (a.put o.dst (.slice a' m c')) w') :
    wpList P ops Q (o :: rest) a w := by
  by_cases hz : 0 < zs.length
  · obtain ⟨bd, off, cp, rfl, hbw, _, _, hcell⟩ := hr.partsC hz
    refine wpList_append_own_at _ hg s x t hop base e i (.int .i64 0) 1 8 h1 h2 h3 h4 h5 rfl (by decide) sv n _ hs hown ⟨bd, off, none⟩ zs.length cp (zs.map (Value.int .i64)) hx (by simp) (fun j u hj => ?_) (ints_oneCell _ _) (by unfold maxLen; omega) (by omega) hbase ?_
    · have hjl : j < zs.length := by
        rcases Nat.lt_or_ge j zs.length with h | h
        · exact h
        · rw [List.getElem?_eq_none (by simpa using h)] at hj; cases hj
      rw [Addr.add_mid, hcell j hjl]
      rw [List.getElem?_map, List.getElem?_eq_getElem hjl] at hj
      simp at hj
      rw [← hj]
      simp [List.getD, hjl]
    · intro v' w' r1 r2 _ _
      obtain ⟨a', c', rfl⟩ := own_shapeT r1
      exact hK a' c' _ w' rfl (by rw [List.map_append]; exact r1) ((Below.refl _ _).grown r2 hbase (fun r e => (hown.lt r e).1))
  · have hz0 : zs = [] := List.eq_nil_of_length_eq_zero (by omega)
    subst hz0
    obtain ⟨a3, c3, rfl⟩ : ∃ a3 c3, v = .slice a3 0 c3 := by obtain ⟨a3, c3, e3, _⟩ := hr; exact ⟨a3, c3, e3⟩
    refine wpList_append_emptyM hg s x t hop base e i 1 h1 h2 _ n _ hs hown a3 c3 hx ?_
    obtain ⟨a', c', rfl⟩ := own_shapeT hown
    exact hK a' c' n w (by simp) (by simpa using hown) (Below.refl _ _)
theorem some_snoc (L : List Int) (k : Nat) (h : k < L.length) : someM (L.take (k + 1)) = someM (L.take k) ++ (if L.getD k 0 = 0 then [] else [L.getD k 0]) := by
  rw [List.take_succ_eq_append_getElem h, some_append, some_one]
  simp [List.getD, h]
theorem some_len (L : List Int) : (someM L).length ≤ L.length := List.length_filter_le _ _
set_option maxRecDepth 100000 in
set_option maxHeartbeats 1000000 in
theorem some_any (v : Value) (L : List Int) (w : World) (h : Rd .i64 w v L) (hl : L.length ≤ 100000) :
    Calls Tryd.prog 40 #[v] w fun e w' => ∃ v', e = .returned v' ∧ w'.ownsRow w.heap.size 3 1 v' (someM L).length ((someM L).map (Value.int .i64)) ∧ Below w.heap.size w w' := by
  obtain ⟨i0, hi, hz0, hz1, hz2⟩ := info_parts infoI64
  obtain ⟨a, cap, rfl⟩ := rd_shapeT h
  have HR := hide h
  have HT := hide (And.intro hi (And.intro hz0 (And.intro hz1 hz2)))
  clear h hi hz0 hz1 hz2
  go_enter Tryd.func40, Tryd.ntmps40
  go_upto_region 2 with fail
  obtain ⟨W5, hW5⟩ : ∃ W5, W5 = w.alloc (.cells #[] 3) := ⟨_, rfl⟩
  rw [← hW5]
  have B5 := hide (show Below w.heap.size w W5 from by rw [hW5]; exact (Below.refl _ _).alloc (Nat.le_refl _) _)
  have O5 := hide (show W5.ownsRow w.heap.size 3 1 (.slice (some ⟨w.heap.size, 0, none⟩) 0 0) 0 [] from by rw [hW5]; exact own_emptyM w _ _)
  clear hW5
  go_wp2
  go_loopw [9, 3] (fun kv ou wr => ∃ (i M : Nat) (oa : Option Addr) (oc : Nat), M = (someM (L.take i)).length ∧ i ≤ L.length ∧ kv = .int .i64 (i : Int) ∧ ou = .slice oa M oc ∧ wr.ownsRow w.heap.size 3 1 ou M ((someM (L.take i)).map (Value.int .i64)) ∧ Below w.heap.size w wr) (fun kv _ _ => L.length - (intOf kv).toNat)
  case atStart => exact ⟨0, 0, _, _, rfl, Nat.zero_le _, rfl, rfl, O5.out, B5.out⟩
  case round =>
    obtain ⟨i, M, oa, oc, hM, hi1, rfl, rfl, ho, hb⟩ := hrel
    clear O5 B5
    have hM2 : M ≤ i := by rw [hM]; refine Nat.le_trans (some_len _) ?_; rw [List.length_take]; omega
    have HI := hide (And.intro ho (And.intro hM hb))
    clear ho hM hb
    by_cases hi2 : i < L.length
    · obtain ⟨b, off, cp, e, _, _, _, hcell⟩ := (HR.out.below HI.out.2.2).partsC (by omega)
      injection e with e1 e2 e3
      subst e1 e3
      have cx := hcell i hi2
      obtain ⟨x, hx⟩ : ∃ x, x = L.getD i 0 := ⟨_, rfl⟩
      rw [← hx] at cx
      have HX := hide hx
      have hiI : (i : Int) < (L.length : Int) := by omega
      clear hcell hx e2
      by_cases hx0 : x = 0
      · have hx1 : (x != 0) = false := by simp [hx0]
        go_wp2
        go_roundw
        case rel => exact ⟨i + 1, M, oa, oc, by rw [some_snoc L i hi2, ← HX.out, if_pos hx0, List.append_nil]; exact HI.out.2.1, by omega, by go_num, rfl, by rw [some_snoc L i hi2, ← HX.out, if_pos hx0, List.append_nil]; exact HI.out.1, HI.out.2.2⟩
        case measure => simp [intOf]; omega
      · have hx1 : (x != 0) = true := by simp [hx0]
        have HBs := hide HI.out.2.2.size
        go_wp2_with (first
          | (at_builtin; refine wpList_append_rdI _ rfl (.tmp 15) (.tmp 17) 38 rfl w.heap.size 3 i0 Tryd.underlying38 HT.out.1 HT.out.2.1 HT.out.2.2.1 HT.out.2.2.2 (.slice oa M oc) M _ rfl (HI.out.1.alloc _) _ [x] rfl (rd_oneI _ _) (by simp; omega) (by have := HBs.out; simp; omega) ?_; intro va8 vc8 m8 w8 e8 o8 b8; have H8 := hide (And.intro o8 b8); simp only [List.length_cons, List.length_nil] at e8; have E8 := hide e8; clear o8 b8 e8))
        go_roundw
        case rel => exact ⟨i + 1, m8, va8, vc8, by rw [some_snoc L i hi2, ← HX.out, if_neg hx0, List.length_append]; have := HI.out.2.1; have := E8.out; simp; omega, by omega, by go_num, rfl, by rw [some_snoc L i hi2, ← HX.out, if_neg hx0]; exact H8.out.1, (HI.out.2.2.alloc (HBs.out) _).trans H8.out.2⟩
        case measure => simp [intOf]; omega
    · have hi3 : i = L.length := by omega
      subst hi3
      clear hi2
      go_wp2
      go_ret
      have e := HI.out.2.1
      have o := HI.out.1
      rw [List.take_length] at e o
      refine ⟨_, rfl, ?_, HI.out.2.2⟩
      rw [← e]
      exact o
end Go.Proofs.YtnfgldglpfgmnaaDoor
