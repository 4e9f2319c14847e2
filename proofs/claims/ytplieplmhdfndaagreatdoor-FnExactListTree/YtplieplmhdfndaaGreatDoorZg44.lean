/- The model sorts entries: each is put where it belongs. DirList of the model. -/
import Derived.Test.YtplieplmhdfndaaGreatDoorZg42
import Derived.Test.YtplieplmhdfndaaGreatDoorZg43
import Derived.Test.YtplieplmhdfndaaGreatDoorZg10
import Derived.BigQuiet
import Derived.OwnWalk
import Derived.Test.YtplieplmhdfndaaGreatDoorZg16
namespace Go.Proofs.YtplieplmhdfndaaGreatDoor
set_option linter.unusedVariables false
set_option linter.unusedSimpArgs false
open Go.RowKit

theorem run_append_emptyC {P : Program} {w : World} (base : Nat) (t ty e : TypeId) (i : TypeInfo) (size : Nat) (ht : P.underlying t = some (.slice e)) (hi : P.info? e = some i)
    (v : Value) (n : Nat) (xs : List Value) (hown : w.ownsRow base e size v n xs) (a : Option Addr) (c : Nat) :
    (Builtin.append_ #[t, t] ty #[v, .slice a 0 c]).run P w = .ok v w := by
  rcases hown.2 with ⟨rfl, rfl⟩ | ⟨g, cap, cur, rfl, _, _, hnc, _⟩
  · cases a <;> simp [Builtin.append_, run_underlying ht, sizeOf, typeInfo, hi, Builtin.lenOf, Builtin.firstCells, loadCells, loadCellsFrom]
  · cases a <;> simp [Builtin.append_, run_underlying ht, sizeOf, typeInfo, hi, Builtin.lenOf, Builtin.firstCells, hnc, storeCells, loadCells, loadCellsFrom]
theorem wpList_append_emptyC {P : Program} {w : World} {ops : Array Oper} {rest : List Oper} {o : Oper} {a : Act} {Q : Exit → Act → World → Prop} (hgd : o.guard = none) (s x : Operand) (t : TypeId)
    (ho : o.op = .call { callee := .builtin .append, args := #[s, x], argTypes := #[t, t] })
    (base : Nat) (e : TypeId) (i : TypeInfo) (size : Nat) (ht : P.underlying t = some (.slice e)) (hi : P.info? e = some i)
    (v : Value) (n : Nat) (xs : List Value) (hs : a.eval s = v) (hown : w.ownsRow base e size v n xs) (ad : Option Addr) (c : Nat) (hx : a.eval x = .slice ad 0 c)
    (h : wpList P ops Q rest (a.put o.dst v) w) : wpList P ops Q (o :: rest) a w := by
  refine wpList_plain hgd fun K hK => ?_
  have hrun := run_append_emptyC (P := P) (w := w) base t o.type e i size ht hi v n xs hown ad c
  unfold Oper.wp
  simp [execOp, ho, resolve, invoke, builtin, hs, hx, hrun, Result.andThen]
  exact hK _ _ h
theorem entsI_oneC : ∀ (L : List (ByteArray × Int × Int)) u, u ∈ entsI L → u.oneCell' = true
  | [], u, h => by cases h
  | e :: es, u, h => by
    unfold entsI at h
    simp only [List.mem_cons] at h
    rcases h with rfl | rfl | rfl | h
    · rfl
    · rfl
    · rfl
    · exact entsI_oneC es u h
theorem belD {B : Nat} {w w' : World} (h : Below B w w') (n : Nat) : Below B w (w'.drewN n) := ⟨h.os, h.tape, h.output, h.size, h.block⟩
/-- append of cells that are there, none of them too. -/
theorem append_cells {P : Program} (w : World) {ops : Array Oper} {rest : List Oper} {o : Oper} {a : Act} {Q : Exit → Act → World → Prop}
    (hg : o.guard = none) (s x : Operand) (t : TypeId) (hop : o.op = Op.call { callee := Callee.builtin Builtin.append, args := #[s, x], argTypes := #[t, t] })
    (base : Nat) (e : TypeId) (i : TypeInfo) (z : Value) (size bytes : Nat) (h1 : P.underlying t = some (.slice e)) (h2 : P.info? e = some i) (h3 : i.zero = some z) (h4 : i.size = size) (h5 : i.bytes = bytes) (h6 : z.cells.size = size) (h7 : 0 < size)
    (v : Value) (n : Nat) (xs : List Value) (hs : a.eval s = v) (hown : w.ownsRow base e size v n xs)
    (ad : Option Addr) (m c : Nat) (news : List Value) (hx : a.eval x = .slice ad m c) (hn : news.length = m * size) (hc : 0 < m → ∃ A, ad = some A ∧ ∀ j u, news[j]? = some u → w.cell? (A.add j) = some u) (h1c : ∀ u ∈ news, u.oneCell' = true)
    (b1 : n + m ≤ maxLen) (b2 : (n + m) * bytes ≤ 140737488355328) (b3 : base ≤ w.heap.size)
    (hK : ∀ v' w', w'.ownsRow base e size v' (n + m) (xs ++ news) → w.grownBy w' v.ownBlock → (∀ k, v'.ownBlock = some k → v.ownBlock = some k ∨ w.heap.size ≤ k) → wpList P ops Q rest (a.put o.dst v') w') :
    wpList P ops Q (o :: rest) a w := by
  by_cases hm : 0 < m
  · obtain ⟨A, rfl, hc2⟩ := hc hm
    exact append_fresh w hg s x t hop base e i z size bytes h1 h2 h3 h4 h5 h6 h7 v n xs hs hown A m c news hx hn hc2 h1c hm b1 b2 b3 hK
  · obtain rfl : m = 0 := by omega
    obtain rfl : news = [] := List.eq_nil_of_length_eq_zero (by omega)
    refine wpList_append_emptyC hg s x t hop base e i size h1 h2 v n xs hs hown ad c hx ?_
    exact hK v w (by simpa using hown) ⟨rfl, rfl, rfl, Nat.le_refl _, fun _ _ _ => rfl⟩ (fun k hk => .inl hk)
/-- How far the search has come. -/
theorem takeWhile_at {S : List EI} {x : EI} {q : Nat} (hq : q ≤ S.length) (h1 : ∀ t (ht : t < S.length), t < q → ltB x S[t] = true) (h2 : ∀ (hl : q < S.length), ltB x S[q] = false) : insE S x = S.take q ++ x :: S.drop q := by
  unfold insE
  have e : S.takeWhile (ltB x) = S.take q ∧ S.dropWhile (ltB x) = S.drop q := by
    have hall : ∀ a ∈ S.take q, ltB x a = true := by
      intro a ha
      obtain ⟨t, ht, rfl⟩ := List.mem_iff_getElem.1 ha
      rw [List.length_take] at ht
      rw [List.getElem_take]
      exact h1 t (by omega) (by omega)
    have hs : S = S.take q ++ S.drop q := (List.take_append_drop q S).symm
    have hd : (S.drop q).takeWhile (ltB x) = [] ∧ (S.drop q).dropWhile (ltB x) = S.drop q := by
      rcases Nat.lt_or_ge q S.length with hl | hl
      · rw [List.drop_eq_getElem_cons hl]
        have h3 := h2 hl
        exact ⟨List.takeWhile_cons_of_neg (p := ltB x) (by rw [h3]; decide), List.dropWhile_cons_of_neg (p := ltB x) (by rw [h3]; decide)⟩
      · rw [List.drop_eq_nil_of_le hl]
        exact ⟨rfl, rfl⟩
    constructor
    · conv => lhs; rw [hs]
      rw [List.takeWhile_append_of_pos hall, hd.1, List.append_nil]
    · conv => lhs; rw [hs]
      rw [List.dropWhile_append_of_pos hall, hd.2]
  rw [e.1, e.2]

set_option maxRecDepth 100000 in
set_option maxHeartbeats 1000000 in
theorem sorted_any (base : Nat) (v : Value) (L : List EI) (w : World) (h : w.ownsRow base 61 3 v L.length (entsI L)) (hL : L.length ≤ 8192) :
    Calls Tryz.prog 107 #[v] w fun e w' => ∃ v', e = .returned v' ∧ w'.ownsRow w.heap.size 61 3 v' L.length (entsI (sortE L)) ∧ Below w.heap.size w w' := by
  obtain ⟨la, lc, rfl⟩ := ownD_shape h
  obtain ⟨i0, hi, hz0, hz1, hz2⟩ := info_parts infoD
  have HO := hide h
  have HO0 := hide (own_emptyD w 61 3)
  have HB0 := hide (show Below w.heap.size w (w.alloc (.cells #[] 61)) from (Below.refl _ _).alloc (Nat.le_refl _) _)
  clear h
  go_enter Tryz.func107, Tryz.ntmps107
  go_wp2
  go_loopw [3, 11] (fun o i wr => ∃ (k g cap : Nat), i = .int .i64 (k : Int) ∧ k ≤ L.length ∧ o = .slice (some ⟨g, 0, none⟩) k cap ∧ wr.ownsRow w.heap.size 61 3 o k (entsI (sortE (L.take k))) ∧ Below w.heap.size w wr) (fun _ i _ => L.length - (intOf i).toNat)
  case atStart => exact ⟨0, _, _, rfl, Nat.zero_le _, rfl, HO0.out, HB0.out⟩
  case round =>
    obtain ⟨k, g, cap, rfl, hk, rfl, ho, hb⟩ := hrel
    have HB := hide hb
    have HS := hide ho
    clear ho hb
    by_cases hlt : k < L.length
    · obtain ⟨gl, cl, ee, hgl1, hgl2, hcl⟩ := own_sliceD HO.out (by omega)
      injection ee with e1 e2 e3
      subst e1
      subst e3
      obtain ⟨x, hx⟩ : ∃ x, L[k]? = some x := ⟨_, List.getElem?_eq_getElem hlt⟩
      have HX := hide hx
      have HRg := hide (show wr.rangeAt gl (k * 3) (entC x.1 x.2.1 x.2.2).toList from fun j v hv => by
        have h1 := hcl (k * 3 + j) v (entsI_at HX.out j v hv)
        rw [Addr.add_mid, Nat.zero_add] at h1
        exact (HB.out.cell (p := ⟨gl, k * 3 + j, none⟩) hgl2).trans h1)
      have HK := hide (show Blk (wr.alloc (.cells (entC ⟨#[]⟩ 0 0) 61)) wr.heap.size (entC ⟨#[]⟩ 0 0) 61 ∧ Below wr.heap.size wr (wr.alloc (.cells (entC ⟨#[]⟩ 0 0) 61)) from ⟨Blk.new _ _ _, (Below.refl _ _).alloc (Nat.le_refl _) _⟩)
      clear hcl e2 hx
      go_wp2_with (first | (refine wpList_load_midD (by first | rfl | (simp [Region.wanted, yielded]; done)) 61 _ rfl gl (k * 3) rfl (entC x.1 x.2.1 x.2.2).toList _ HRg.out Tryz.underlying61 rfl infoD3 ?_) | (refine wpList_store_newD wr.heap.size wr rfl 61 _ _ rfl wr.heap.size (entC x.1 x.2.1 x.2.2) rfl rfl 61 (entC ⟨#[]⟩ 0 0) HK.out.1 infoD3 rfl entC_one HK.out.2 (Nat.le_refl _) ?_; intro w1 k1 b1; have K1 := hide k1; have B1 := hide b1; clear k1 b1))
      obtain ⟨b5, hb5⟩ : ∃ b, b = wr.heap.size := ⟨_, rfl⟩
      rw [← hb5] at K1 ⊢
      have HB5 := hide hb5
      clear hb5
      have hwl : b5 < w1.heap.size := K1.out.lt
      have HSl := hide (show (sortE (L.take k)).length = k from by unfold sortE; rw [sortE_len, List.length_take]; simp; omega)
      obtain ⟨S, hS⟩ : ∃ S, S = sortE (L.take k) := ⟨_, rfl⟩
      rw [← hS] at HS HSl
      have HSe := hide hS
      clear hS
      go_loopw [6] (fun j wj => ∃ q : Nat, q ≤ k ∧ j = .int .i64 (q : Int) ∧ (∀ t (ht : t < S.length), t < q → ltB x S[t] = true) ∧ Below w1.heap.size w1 wj) (fun j _ => k - (intOf j).toNat)
      case atStart => exact ⟨0, Nat.zero_le _, rfl, fun t ht h0 => absurd h0 (by omega), Below.refl _ _⟩
      case round =>
        obtain ⟨q, hq, rfl, hall, hbj⟩ := hrel
        have HAll := hide hall
        have HBj := hide hbj
        have cX := ((K1.out.below hbj hwl).cell 0).trans (show (entC x.1 x.2.1 x.2.2)[0]? = some (.string x.1) from rfl)
        have HSj := hide (own_below (own_below HS.out B1.out) hbj)
        clear hall hbj
        have hgw : g < wr.heap.size := (HSj.out.lt g rfl).2
        have hk5 : Blk wr b5 (entC x.1 x.2.1 x.2.2) 61 := (K1.out.below HBj.out hwl)
        have HK5 := hide hk5
        have hk5l := hk5.lt
        clear hk5
        have HW := hide (show ∀ nq, Below wr.heap.size wr ((wr.drewN nq).alloc (.cells #[] 61)) from fun nq => (belD (Below.refl _ _) nq).alloc (Nat.le_refl _) _)
        have HZ := hide (show ∀ nq, w.heap.size ≤ ((wr.drewN nq).alloc (.cells #[] 61)).heap.size from fun nq => Nat.le_trans HB.out.size (Nat.le_trans B1.out.size (Nat.le_trans HBj.out.size (HW.out nq).size)))
        have HE0 := hide (show ∀ nq, ((wr.drewN nq).alloc (.cells #[] 61)).ownsRow w.heap.size 61 3 (.slice (some ⟨wr.heap.size, 0, none⟩) 0 0) 0 [] from fun nq => own_mono (own_emptyD (wr.drewN nq) 61 3) (Nat.le_trans HB.out.size (Nat.le_trans B1.out.size HBj.out.size)))
        have HS0 := hide (show ∀ nq, ((wr.drewN nq).alloc (.cells #[] 61)).ownsRow w.heap.size 61 3 (.slice (some ⟨g, 0, none⟩) k cap) k (entsI S) from fun nq => own_below HSj.out (HW.out nq))
        have HC1 := hide (show ∀ nq q j u, (entsI (S.take q))[j]? = some u → ((wr.drewN nq).alloc (.cells #[] 61)).cell? ((⟨g, 0, none⟩ : Addr).add j) = some u from fun nq q j u hu => (HS0.out nq).cells rfl j u (by
          have e : entsI S = entsI (S.take q) ++ entsI (S.drop q) := by rw [← entsI_append, List.take_append_drop]
          rw [e, List.getElem?_append_left (List.getElem?_eq_some_iff.1 hu).1]
          exact hu))
        have HG2 := hide (show ∀ nq {w2 : World}, World.grownBy ((wr.drewN nq).alloc (.cells #[] 61)) w2 (some wr.heap.size) → Blk w2 b5 (entC x.1 x.2.1 x.2.2) 61 ∧ w2.ownsRow w.heap.size 61 3 (.slice (some ⟨g, 0, none⟩) k cap) k (entsI S) ∧ Below wr.heap.size wr w2 ∧ wr.heap.size + 1 ≤ w2.heap.size from fun nq w2 h => ⟨(h.block b5 (by simp; omega) (fun e => by have := Option.some.inj e; omega)).trans (HK5.out.below (HW.out nq) hk5l), (HS0.out nq).kept h (Or.inr (fun e => by have e2 : g = wr.heap.size := Option.some.inj e; omega)), (HW.out nq).grown h (HW.out nq).size (fun j hj => by cases hj; exact Nat.le_refl _), by have := h.size; simp at this; exact this⟩)
        have HF2 := hide (show ∀ nq {v2 : Value}, (∀ j, v2.ownBlock = some j → (Value.slice (some ⟨wr.heap.size, 0, none⟩) 0 0).ownBlock = some j ∨ ((wr.drewN nq).alloc (.cells #[] 61)).heap.size ≤ j) → ∀ j, v2.ownBlock = some j → wr.heap.size ≤ j from fun nq v2 h j hj => by
          rcases h j hj with h | h
          · simp [Value.ownBlock] at h; omega
          · simp at h; omega)
        have HBw := hide (show Below w.heap.size w wr from (HB.out.trans (B1.out.mono HB.out.size)).trans (HBj.out.mono (Nat.le_trans HB.out.size B1.out.size)))
        have HCap := hide (show k ≤ cap from by
          rcases HSj.out.2 with ⟨e4, _⟩ | ⟨g', cp', cur, e4, _, _, hn1, hn2, _⟩
          · cases e4
          · injection e4 with e5 e6 e7
            subst e7
            exact hn1)
        have HZw := hide (show w.heap.size ≤ wr.heap.size from Nat.le_trans HB.out.size (Nat.le_trans B1.out.size HBj.out.size))
        by_cases hqk : q < k
        · have hqd : decide ((q : Int) < (k : Int)) = true := by simp; omega
          obtain ⟨y, hy⟩ : ∃ y, S[q]? = some y := ⟨_, List.getElem?_eq_getElem (by rw [HSl.out]; exact hqk)⟩
          obtain ⟨g', cp', ee, hg1, hg2, hcc⟩ := own_sliceD HSj.out (by omega)
          injection ee with e1 e2 e3
          injection e1 with e1
          injection e1 with e1 e5 e6
          subst e1
          subst e3
          have cY := hcc (q * 3) (.string y.1) (entsI_at hy 0 _ rfl)
          rw [Addr.add_mid, Nat.zero_add] at cY
          have HY := hide hy
          clear hcc e2 hy
          cases hb : Op.bytesLess y.1.toList x.1.toList with
          | true =>
            have HN := hide (show ∀ t (ht : t < S.length), t < q + 1 → ltB x S[t] = true from fun t ht h1 => by
              rcases Nat.lt_or_ge t q with h2 | h2
              · exact HAll.out t ht h2
              · obtain rfl : t = q := by omega
                have h3 : S[t] = y := by have := HY.out; rw [List.getElem?_eq_getElem ht] at this; exact Option.some.inj this
                rw [h3]
                unfold ltB
                rw [← ByteArray.toList_eq, ← ByteArray.toList_eq]
                exact hb)
            go_wp2
            go_quiet (fail)
            go_wp2
            go_roundw
            case rel => exact ⟨q + 1, by omega, by go_num, HN.out, belD HBj.out _⟩
            case measure => simp [intOf]; omega
          | false =>
            have HLs := hide (show ∀ hl : q < S.length, ltB x S[q] = false from fun hl => by
                have h3 : S[q] = y := by have := HY.out; rw [List.getElem?_eq_getElem hl] at this; exact Option.some.inj this
                rw [h3]
                unfold ltB
                rw [← ByteArray.toList_eq, ← ByteArray.toList_eq]
                exact hb)
            go_wp2
            go_quiet (fail)
            have hcq : ¬ cap = q := by have := HCap.out; omega
            have hqc : q ≤ cap := by have := HCap.out; omega
            have HIn := hide (show insE S x = S.take q ++ x :: S.drop q from takeWhile_at (by rw [HSl.out]; omega) HAll.out HLs.out)
            go_wp2_with (first
              | (at_builtin; refine append_cells _ rfl (.tmp 31) (.tmp 34) 98 rfl w.heap.size 61 i0 (.agg #[.string ⟨#[]⟩, .int .i64 0, .int .i64 0]) 3 32 Tryz.underlying98 hi hz0 hz1 hz2 rfl (by decide) _ 0 [] rfl (HE0.out _) (some ⟨g, 0, none⟩) q _ (entsI (S.take q)) rfl (by rw [entsI_len, List.length_take, HSl.out]; congr 1; omega) (fun _ => ⟨_, rfl, HC1.out _ q⟩) (entsI_oneC _) (by unfold maxLen; omega) (by omega) (HZ.out _) ?_; intro v2 w2 o2 g2 f2; rw [Nat.zero_add, List.nil_append] at o2; have O2 := hide o2; have G2 := hide (HG2.out _ g2); have F2 := hide (HF2.out _ f2); have hs2 := G2.out.2.2.2; clear o2 g2 f2)
              | (refine wpList_load_row rfl 61 _ rfl b5 rfl 61 (entC x.1 x.2.1 x.2.2) (0, 0) _ G2.out.1 Tryz.underlying61 rfl infoD3 ?_)
              | (refine wpList_build1D rfl 98 61 _ rfl (entC x.1 x.2.1 x.2.2) rfl i0 _ Tryz.underlying98 hi hz0 hz1 (show 0 < 3 by omega) (show 3 ≤ 1000 by omega) ?_)
              | (at_builtin; refine append_fresh _ rfl (.tmp 36) (.tmp 38) 98 rfl w.heap.size 61 i0 (.agg #[.string ⟨#[]⟩, .int .i64 0, .int .i64 0]) 3 32 Tryz.underlying98 hi hz0 hz1 hz2 rfl (by decide) _ _ _ rfl (O2.out.alloc _) ⟨w2.heap.size, 0, none⟩ 1 1 (entC x.1 x.2.1 x.2.2).toList rfl rfl (cells_newD w2 _ _) (by intro u hu; simp [entC] at hu; rcases hu with rfl | rfl | rfl <;> rfl) (by omega) (by unfold maxLen; omega) (by omega) (by have := HZw.out; simp; omega) ?_; intro v3 w3 o3 g3 f3; have O3 := hide o3; have G3 := hide (show w3.ownsRow w.heap.size 61 3 (.slice (some ⟨g, 0, none⟩) k cap) k (entsI S) ∧ Below wr.heap.size wr w3 from ⟨(G2.out.2.1.alloc _).kept g3 (Or.inr (fun e => by have := F2.out g e.symm; omega)), (G2.out.2.2.1.alloc (by have := G2.out.2.2.1.size; omega) _).grown g3 (by have := G2.out.2.2.1.size; simp; omega) (fun j hj => F2.out j hj)⟩); have F3 := hide (show ∀ j, v3.ownBlock = some j → wr.heap.size ≤ j from fun j hj => by
                    rcases f3 j hj with h | h
                    · exact F2.out j h
                    · simp at h; omega); have HC3 := hide (show ∀ j u, (entsI (S.drop q))[j]? = some u → w3.cell? ((⟨g, q * 3, none⟩ : Addr).add j) = some u from fun j u hu => by
                    have h1 := G3.out.1.cells rfl (q * 3 + j) u (by
                      have e : entsI S = entsI (S.take q) ++ entsI (S.drop q) := by rw [← entsI_append, List.take_append_drop]
                      rw [e, List.getElem?_append_right (by rw [entsI_len, List.length_take, HSl.out]; omega), entsI_len, List.length_take, HSl.out, show q * 3 + j - min q k * 3 = j by omega]
                      exact hu)
                    rw [Addr.add_mid, Nat.zero_add] at h1
                    rw [Addr.add_mid]
                    exact h1); clear o3 g3 f3)
              | (at_builtin; refine append_cells _ rfl (.tmp 40) (.tmp 43) 98 rfl w.heap.size 61 i0 (.agg #[.string ⟨#[]⟩, .int .i64 0, .int .i64 0]) 3 32 Tryz.underlying98 hi hz0 hz1 hz2 rfl (by decide) _ _ _ rfl O3.out _ (k - q) _ (entsI (S.drop q)) rfl (by rw [entsI_len, List.length_drop, HSl.out]) (fun hm => ⟨_, rfl, HC3.out⟩) (entsI_oneC _) (by unfold maxLen; omega) (by omega) (by have := HZw.out; have := G3.out.2.size; omega) ?_; intro v4 w4 o4 g4 f4; have O4 := hide (show w4.ownsRow w.heap.size 61 3 v4 (k + 1) (entsI (sortE (L.take (k + 1)))) from by
                    rw [show q + 1 + (k - q) = k + 1 by omega] at o4
                    have e1 : L.take (k + 1) = L.take k ++ [x] := by rw [List.take_add_one, HX.out]; rfl
                    rw [e1, sortE_snoc, ← HSe.out, HIn.out, entsI_append]
                    rw [List.append_assoc] at o4
                    exact o4); have B4 := hide (HBw.out.trans ((G3.out.2.grown g4 G3.out.2.size (fun j hj => F3.out j hj)).mono HBw.out.size)); clear o4 g4 f4))
            obtain ⟨g9, cap9, e9, _, _, _⟩ := own_sliceD O4.out (by omega)
            subst e9
            go_roundw
            case rel => exact ⟨k + 1, g9, cap9, by go_num, by omega, rfl, O4.out, B4.out⟩
            case measure => simp [intOf]; omega
        · obtain rfl : k = q := by omega
          have hqd : decide ((k : Int) < (k : Int)) = false := by simp
          by_cases hcq : cap = k
          · subst hcq
            go_wp2
            go_quiet (fail)
            have HIn := hide (show insE S x = S.take cap ++ x :: S.drop cap from takeWhile_at (by rw [HSl.out]; omega) HAll.out (fun hl => absurd hl (by rw [HSl.out]; omega)))
            go_wp2_with (first
              | (at_builtin; refine append_cells _ rfl (.tmp 31) (.tmp 34) 98 rfl w.heap.size 61 i0 (.agg #[.string ⟨#[]⟩, .int .i64 0, .int .i64 0]) 3 32 Tryz.underlying98 hi hz0 hz1 hz2 rfl (by decide) _ 0 [] rfl (HE0.out _) (some ⟨g, 0, none⟩) cap _ (entsI (S.take cap)) rfl (by rw [entsI_len, List.length_take, HSl.out]; congr 1; omega) (fun _ => ⟨_, rfl, HC1.out _ cap⟩) (entsI_oneC _) (by unfold maxLen; omega) (by omega) (HZ.out _) ?_; intro v2 w2 o2 g2 f2; rw [Nat.zero_add, List.nil_append] at o2; have O2 := hide o2; have G2 := hide (HG2.out _ g2); have F2 := hide (HF2.out _ f2); have hs2 := G2.out.2.2.2; clear o2 g2 f2)
              | (refine wpList_load_row rfl 61 _ rfl b5 rfl 61 (entC x.1 x.2.1 x.2.2) (0, 0) _ G2.out.1 Tryz.underlying61 rfl infoD3 ?_)
              | (refine wpList_build1D rfl 98 61 _ rfl (entC x.1 x.2.1 x.2.2) rfl i0 _ Tryz.underlying98 hi hz0 hz1 (show 0 < 3 by omega) (show 3 ≤ 1000 by omega) ?_)
              | (at_builtin; refine append_fresh _ rfl (.tmp 36) (.tmp 38) 98 rfl w.heap.size 61 i0 (.agg #[.string ⟨#[]⟩, .int .i64 0, .int .i64 0]) 3 32 Tryz.underlying98 hi hz0 hz1 hz2 rfl (by decide) _ _ _ rfl (O2.out.alloc _) ⟨w2.heap.size, 0, none⟩ 1 1 (entC x.1 x.2.1 x.2.2).toList rfl rfl (cells_newD w2 _ _) (by intro u hu; simp [entC] at hu; rcases hu with rfl | rfl | rfl <;> rfl) (by omega) (by unfold maxLen; omega) (by omega) (by have := HZw.out; simp; omega) ?_; intro v3 w3 o3 g3 f3; have O3 := hide o3; have G3 := hide (show w3.ownsRow w.heap.size 61 3 (.slice (some ⟨g, 0, none⟩) cap cap) cap (entsI S) ∧ Below wr.heap.size wr w3 from ⟨(G2.out.2.1.alloc _).kept g3 (Or.inr (fun e => by have := F2.out g e.symm; omega)), (G2.out.2.2.1.alloc (by have := G2.out.2.2.1.size; omega) _).grown g3 (by have := G2.out.2.2.1.size; simp; omega) (fun j hj => F2.out j hj)⟩); have F3 := hide (show ∀ j, v3.ownBlock = some j → wr.heap.size ≤ j from fun j hj => by
                    rcases f3 j hj with h | h
                    · exact F2.out j h
                    · simp at h; omega); have HC3 := hide (show ∀ j u, (entsI (S.drop cap))[j]? = some u → w3.cell? ((⟨g, cap * 3, none⟩ : Addr).add j) = some u from fun j u hu => by
                    have h1 := G3.out.1.cells rfl (cap * 3 + j) u (by
                      have e : entsI S = entsI (S.take cap) ++ entsI (S.drop cap) := by rw [← entsI_append, List.take_append_drop]
                      rw [e, List.getElem?_append_right (by rw [entsI_len, List.length_take, HSl.out]; omega), entsI_len, List.length_take, HSl.out, show cap * 3 + j - min cap cap * 3 = j by omega]
                      exact hu)
                    rw [Addr.add_mid, Nat.zero_add] at h1
                    rw [Addr.add_mid]
                    exact h1); clear o3 g3 f3)
              | (at_builtin; refine append_cells _ rfl (.tmp 40) (.tmp 43) 98 rfl w.heap.size 61 i0 (.agg #[.string ⟨#[]⟩, .int .i64 0, .int .i64 0]) 3 32 Tryz.underlying98 hi hz0 hz1 hz2 rfl (by decide) _ _ _ rfl O3.out _ 0 _ [] rfl rfl (fun hm => absurd hm (by omega)) (by intro u hu; cases hu) (by unfold maxLen; omega) (by omega) (by have := HZw.out; have := G3.out.2.size; omega) ?_; intro v4 w4 o4 g4 f4; have O4 := hide (show w4.ownsRow w.heap.size 61 3 v4 (cap + 1) (entsI (sortE (L.take (cap + 1)))) from by
                    rw [Nat.add_zero, List.append_nil] at o4
                    have ed : S.drop cap = [] := List.drop_of_length_le (by rw [HSl.out]; omega)
                    have e1 : L.take (cap + 1) = L.take cap ++ [x] := by rw [List.take_add_one, HX.out]; rfl
                    rw [e1, sortE_snoc, ← HSe.out, HIn.out, entsI_append, ed]
                    exact o4); have B4 := hide (HBw.out.trans ((G3.out.2.grown g4 G3.out.2.size (fun j hj => F3.out j hj)).mono HBw.out.size)); clear o4 g4 f4))
            obtain ⟨g9, cap9, e9, _, _, _⟩ := own_sliceD O4.out (by omega)
            subst e9
            go_roundw
            case rel => exact ⟨cap + 1, g9, cap9, by go_num, by omega, rfl, O4.out, B4.out⟩
            case measure => simp [intOf]; omega
          · go_wp2
            go_quiet (fail)
            have HIn := hide (show insE S x = S.take k ++ x :: S.drop k from takeWhile_at (by rw [HSl.out]; omega) HAll.out (fun hl => absurd hl (by rw [HSl.out]; omega)))
            go_wp2_with (first
              | (at_builtin; refine append_cells _ rfl (.tmp 31) (.tmp 34) 98 rfl w.heap.size 61 i0 (.agg #[.string ⟨#[]⟩, .int .i64 0, .int .i64 0]) 3 32 Tryz.underlying98 hi hz0 hz1 hz2 rfl (by decide) _ 0 [] rfl (HE0.out _) (some ⟨g, 0, none⟩) k _ (entsI (S.take k)) rfl (by rw [entsI_len, List.length_take, HSl.out]; congr 1; omega) (fun _ => ⟨_, rfl, HC1.out _ k⟩) (entsI_oneC _) (by unfold maxLen; omega) (by omega) (HZ.out _) ?_; intro v2 w2 o2 g2 f2; rw [Nat.zero_add, List.nil_append] at o2; have O2 := hide o2; have G2 := hide (HG2.out _ g2); have F2 := hide (HF2.out _ f2); have hs2 := G2.out.2.2.2; clear o2 g2 f2)
              | (refine wpList_load_row rfl 61 _ rfl b5 rfl 61 (entC x.1 x.2.1 x.2.2) (0, 0) _ G2.out.1 Tryz.underlying61 rfl infoD3 ?_)
              | (refine wpList_build1D rfl 98 61 _ rfl (entC x.1 x.2.1 x.2.2) rfl i0 _ Tryz.underlying98 hi hz0 hz1 (show 0 < 3 by omega) (show 3 ≤ 1000 by omega) ?_)
              | (at_builtin; refine append_fresh _ rfl (.tmp 36) (.tmp 38) 98 rfl w.heap.size 61 i0 (.agg #[.string ⟨#[]⟩, .int .i64 0, .int .i64 0]) 3 32 Tryz.underlying98 hi hz0 hz1 hz2 rfl (by decide) _ _ _ rfl (O2.out.alloc _) ⟨w2.heap.size, 0, none⟩ 1 1 (entC x.1 x.2.1 x.2.2).toList rfl rfl (cells_newD w2 _ _) (by intro u hu; simp [entC] at hu; rcases hu with rfl | rfl | rfl <;> rfl) (by omega) (by unfold maxLen; omega) (by omega) (by have := HZw.out; simp; omega) ?_; intro v3 w3 o3 g3 f3; have O3 := hide o3; have G3 := hide (show w3.ownsRow w.heap.size 61 3 (.slice (some ⟨g, 0, none⟩) k cap) k (entsI S) ∧ Below wr.heap.size wr w3 from ⟨(G2.out.2.1.alloc _).kept g3 (Or.inr (fun e => by have := F2.out g e.symm; omega)), (G2.out.2.2.1.alloc (by have := G2.out.2.2.1.size; omega) _).grown g3 (by have := G2.out.2.2.1.size; simp; omega) (fun j hj => F2.out j hj)⟩); have F3 := hide (show ∀ j, v3.ownBlock = some j → wr.heap.size ≤ j from fun j hj => by
                    rcases f3 j hj with h | h
                    · exact F2.out j h
                    · simp at h; omega); have HC3 := hide (show ∀ j u, (entsI (S.drop k))[j]? = some u → w3.cell? ((⟨g, k * 3, none⟩ : Addr).add j) = some u from fun j u hu => by
                    have h1 := G3.out.1.cells rfl (k * 3 + j) u (by
                      have e : entsI S = entsI (S.take k) ++ entsI (S.drop k) := by rw [← entsI_append, List.take_append_drop]
                      rw [e, List.getElem?_append_right (by rw [entsI_len, List.length_take, HSl.out]; omega), entsI_len, List.length_take, HSl.out, show k * 3 + j - min k k * 3 = j by omega]
                      exact hu)
                    rw [Addr.add_mid, Nat.zero_add] at h1
                    rw [Addr.add_mid]
                    exact h1); clear o3 g3 f3)
              | (at_builtin; refine append_cells _ rfl (.tmp 40) (.tmp 43) 98 rfl w.heap.size 61 i0 (.agg #[.string ⟨#[]⟩, .int .i64 0, .int .i64 0]) 3 32 Tryz.underlying98 hi hz0 hz1 hz2 rfl (by decide) _ _ _ rfl O3.out _ 0 _ [] rfl rfl (fun hm => absurd hm (by omega)) (by intro u hu; cases hu) (by unfold maxLen; omega) (by omega) (by have := HZw.out; have := G3.out.2.size; omega) ?_; intro v4 w4 o4 g4 f4; have O4 := hide (show w4.ownsRow w.heap.size 61 3 v4 (k + 1) (entsI (sortE (L.take (k + 1)))) from by
                    rw [Nat.add_zero, List.append_nil] at o4
                    have ed : S.drop k = [] := List.drop_of_length_le (by rw [HSl.out]; omega)
                    have e1 : L.take (k + 1) = L.take k ++ [x] := by rw [List.take_add_one, HX.out]; rfl
                    rw [e1, sortE_snoc, ← HSe.out, HIn.out, entsI_append, ed]
                    exact o4); have B4 := hide (HBw.out.trans ((G3.out.2.grown g4 G3.out.2.size (fun j hj => F3.out j hj)).mono HBw.out.size)); clear o4 g4 f4))
            obtain ⟨g9, cap9, e9, _, _, _⟩ := own_sliceD O4.out (by omega)
            subst e9
            go_roundw
            case rel => exact ⟨k + 1, g9, cap9, by go_num, by omega, rfl, O4.out, B4.out⟩
            case measure => simp [intOf]; omega
    · obtain rfl : k = L.length := by omega
      have HS2 := hide (show wr.ownsRow w.heap.size 61 3 (.slice (some ⟨g, 0, none⟩) L.length cap) L.length (entsI (sortE L)) from by have h := HS.out; rwa [List.take_length] at h)
      go_wp2
      go_ret
      exact ⟨_, rfl, HS2.out, HB.out⟩
end Go.Proofs.YtplieplmhdfndaaGreatDoor

namespace Go.Proofs.YtplieplmhdfndaaGreatDoor
set_option linter.unusedVariables false
set_option linter.unusedSimpArgs false
open Go.RowKit

theorem own_nilD (w : World) (base : Nat) : w.ownsRow base 61 3 (.slice none 0 0) ([] : List EI).length (entsI []) := ⟨rfl, .inl ⟨rfl, rfl⟩⟩

set_option maxRecDepth 100000 in
set_option maxHeartbeats 1000000 in
theorem specDL_any (v : Value) (zs : List Int) (w : World) (h : Rd .u8 w v zs) (hbd : ∀ z ∈ zs, 0 ≤ z ∧ z < 256) :
    Calls Tryz.prog 68 #[v] w fun e w' => ∃ v', e = .returned (.tuple #[v', .int .i64 (dlC zs)]) ∧ w'.ownsRow w.heap.size 61 3 v' (dlL zs).length (entsI (dlL zs)) ∧ Below w.heap.size w w' := by
  have hsh : ∃ a cap, v = .slice a zs.length cap := by obtain ⟨a, cap, h1, _⟩ := h; exact ⟨a, cap, h1⟩
  obtain ⟨a, cap, rfl⟩ := hsh
  have HR := hide h
  have HX := hide hbd
  clear h hbd
  go_enter Tryz.func68, Tryz.ntmps68
  go_wp2_with (go_at_call 93; fail)
  refine (entries_any _ zs _ HR.out HX.out).mono ?_
  rintro e w1 ⟨v1, rfl, ho, b1⟩
  have B1 := hide b1
  clear b1
  cases hok : dirOk zs with
  | true =>
    obtain ⟨es, hes, o1⟩ := ho hok
    have HD := hide (dl_ok hok hes)
    have hN8 : es.length ≤ 8192 := by have := (dirOk_len hok).2; have := ent_count hes; omega
    have O1 := hide (show w1.ownsRow w.heap.size 61 3 v1 (es.map toI).length (entsI (es.map toI)) from by rw [List.length_map, ← entsC_I]; exact o1)
    clear ho hok hes o1
    go_wp2_with (go_at_call 107; fail)
    refine (sorted_any w.heap.size v1 (es.map toI) _ O1.out (by rw [List.length_map]; exact hN8)).mono ?_
    rintro e w2 ⟨v2, rfl, o2, b2⟩
    have O2 := hide (show w2.ownsRow w.heap.size 61 3 v2 (sortE (es.map toI)).length (entsI (sortE (es.map toI))) ∧ Below w.heap.size w w2 from ⟨by rw [sortE_length]; exact own_mono o2 B1.out.size, B1.out.trans (b2.mono B1.out.size)⟩)
    clear o2 b2
    go_wp2
    go_ret2
    rw [HD.out.1, HD.out.2]
    exact ⟨_, rfl, O2.out.1, O2.out.2⟩
  | false =>
    have HD := hide (dl_bad hok)
    clear ho hok
    go_wp2
    go_ret2
    rw [HD.out.1, HD.out.2]
    exact ⟨_, rfl, own_nilD _ _, B1.out⟩
end Go.Proofs.YtplieplmhdfndaaGreatDoor
