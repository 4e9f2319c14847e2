/- The program's list of snapshots. The program's Snapshots, whole. The program's ChooseFsinfo. -/
import Derived.Test.YtfkmnmopkblopaaGreatDoorZs38
import Derived.Great.BuildSlice
import Derived.Great.FillDense
import Derived.Deep.RegionHeld3
import Derived.Deep.MidRow
namespace Go.Proofs.YtfkmnmopkblopaaGreatDoor
set_option linter.unusedVariables false
set_option linter.unusedSimpArgs false
open Go.RowKit

theorem wpList_store_newS {P : Program} {ops : Array Oper} {rest : List Oper} {o : Oper} {a : Act} {w : World} {Q : Exit → Act → World → Prop} (B : Nat) (W0 : World) (hgd : o.guard = none) (ty : TypeId) (x y : Operand) (ho : o.op = .store ty x y)
    (g : Nat) (cells : Array Value) (hx : a.eval x = .pointer (some ⟨g, 0, none⟩)) (hy : a.eval y = .agg cells)
    (t : TypeId) (old : Array Value) (hg : Blk w g old t) (hi : (P.info? ty).map (·.size) = some cells.size)
    (hold : old.size = cells.size) (h1 : cells.all (·.oneCell') = true) (hB : Below B W0 w) (hBg : B ≤ g)
    (h : ∀ w2, Blk w2 g cells t → Below B W0 w2 → wpList P ops Q rest (a.put o.dst undef) w2) : wpList P ops Q (o :: rest) a w :=
  wpList_store_row hgd ty x y ho g cells hx hy t old hg hi hold h1 (h _ (hg.row cells) (below_setRow hB hBg cells))
theorem wpList_build1S {P : Program} {ops : Array Oper} {rest : List Oper} {o : Oper} {a : Act} {w : World} {Q : Exit → Act → World → Prop} (hgd : o.guard = none) (t e : TypeId) (x : Operand) (ho : o.op = .buildSlice t 1 #[(0, x)]) (cells : Array Value) (hx : a.eval x = .agg cells) (i : TypeInfo) (z : Value)
    (hu : P.underlying t = some (.slice e)) (hi : P.info? e = some i) (hz : i.zero = some z) (hs : i.size = cells.size) (hp : 0 < cells.size) (hl : cells.size ≤ 1000)
    (h : wpList P ops Q rest (a.put o.dst (.slice (some ⟨w.heap.size, 0, none⟩) 1 1)) (w.alloc (.cells cells e))) : wpList P ops Q (o :: rest) a w := by
  have hf : Instr.fill (fun j => some (j * i.size, i.size)) ((Array.range (1 * i.size)).map (z.cells[· % z.cells.size]!)) [(0, Value.agg cells)] = some cells := by
    have := Great.fill_whole (s := i.size) (by omega) [.agg cells] ((Array.range (1 * i.size)).map (z.cells[· % z.cells.size]!)) (by intro v hv; simp at hv; subst hv; exact hs.symm) (by simp)
    simpa [Value.cells] using this
  have he : ((#[(0, x)] : Array (Nat × Operand)).map (fun p => (p.1, a.eval p.2))).toList = [(0, Value.agg cells)] := by simp [hx]
  exact wpList_buildSlice hgd t e 1 _ ho cells i z hu hi hz (by omega) (by omega) (by rw [← he] at hf; exact hf) h
theorem cells_newS (w : World) (C : Array Value) (t : TypeId) : ∀ j u, C.toList[j]? = some u → (w.alloc (.cells C t)).cell? ((⟨w.heap.size, 0, none⟩ : Addr).add j) = some u := by
  intro j u hj
  rw [Addr.add_mid, (Blk.new w C t).cell (0 + j), Nat.zero_add]
  simpa using hj
theorem ownS_shape {w : World} {base : Nat} {e : TypeId} {v : Value} {n sz : Nat} {xs : List Value} (h : w.ownsRow base e sz v n xs) : ∃ a cap, v = .slice a n cap := by
  rcases h.2 with ⟨rfl, rfl⟩ | ⟨g, cap, _, rfl, _⟩
  · exact ⟨_, _, rfl⟩
  · exact ⟨_, _, rfl⟩
theorem infoSn3 : (Tryz.prog.info? 41).map (fun i => (i.zero, i.size, i.bytes)) = some (some (.agg zSn), 19, 160) := by kernel_rfl
theorem infoSn4 : ∃ i0 : TypeInfo, Tryz.prog.info? 41 = some i0 ∧ i0.zero = some (.agg zSn) ∧ i0.size = 19 ∧ i0.bytes = 160 := by
  cases h : Tryz.prog.info? 41 with
  | none => have := infoSn3; rw [h] at this; cases this
  | some i =>
    have := infoSn3
    rw [h] at this
    simp only [Option.map_some, Option.some.injEq, Prod.mk.injEq] at this
    exact ⟨i, rfl, this⟩
/-- In the midst of the planes. -/
structure Isn (zs P : List Int) (w : World) (b k : Nat) (v : Value) (W : World) : Prop where
  own : W.ownsRow (b + 1) 41 19 v (snsN zs P k).1.length (rowSn (snsN zs P k).1)
  st : St W b v (snsN zs P k).2
  old : Below w.heap.size w W
theorem St.fault {W : World} {b : Nat} {v : Value} {ok : Bool} (h : St W b v ok) : ∃ ev, W.cell? ⟨b, 1, none⟩ = some ev ∧ FaultIs W (b + 1) ok ev 21 := by
  rcases h with ⟨rfl, h⟩ | ⟨rfl, h⟩
  · exact h.fault
  · obtain ⟨ev, n, c, hf⟩ := h.flt
    exact ⟨ev, c, .inr ⟨rfl, n, hf⟩⟩
/-- In the midst of one plane: the snapshot read lies in block gC. -/
structure Msn (w : World) (b gC : Nat) (C : Array Value) (L : List (Array Value × ByteArray)) (ok : Bool) (v : Value) (W : World) : Prop where
  own : W.ownsRow (b + 1) 41 19 v L.length (rowSn L)
  st : St W b v ok
  old : Below w.heap.size w W
  blk : Blk W gC C 41
  gt : b < gC
  lo : w.heap.size ≤ b
theorem Msn.below {w W W' : World} {b gC : Nat} {C : Array Value} {L : List (Array Value × ByteArray)} {ok : Bool} {v : Value} (h : Msn w b gC C L ok v W) (hb : Below W.heap.size W W') : Msn w b gC C L ok v W' :=
  ⟨own_below h.own hb, h.st.below hb, h.old.trans (hb.mono h.old.size), h.blk.below hb h.blk.lt, h.gt, h.lo⟩
theorem Msn.need {w W W' : World} {b gC : Nat} {C : Array Value} {L : List (Array Value × ByteArray)} {ok ok' : Bool} {v : Value} (h : Msn w b gC C L ok v W) (hs : St W' b v ok') (hg : W.grownBy W' (some b)) : Msn w b gC C L ok' v W' := by
  refine ⟨h.own.kept hg ?_, hs, h.old.grown hg h.old.size (fun k e => by injection e with e; have := h.lo; omega), (hg.block gC h.blk.lt (fun e => by injection e with e; have := h.gt; omega)).trans h.blk, h.gt, h.lo⟩
  cases e : v.ownBlock with
  | none => exact .inl rfl
  | some k => exact .inr fun e2 => by injection e2 with e2; have := (h.own.lt k e).1; omega
/-- What the list of a volume answers. -/
def SnsR (zs P : List Int) (w w' : World) (e : Ending) : Prop :=
  ∃ v ev, e = .returned (.tuple #[v, ev]) ∧ w'.ownsRow w.heap.size 41 19 v (snsN zs P 31).1.length (rowSn (snsN zs P 31).1) ∧ FaultIs w' w.heap.size (snsN zs P 31).2 ev 21
theorem volS_range {W : World} {g s : Nat} {img : Value} {F : List Int} (hF : F.length = 68) (h : Blk W g (volC img F (s : Int)) 81) : W.rangeAt g 38 ((F.drop 37).map (Value.int .i64)) := by
  intro j u hu
  rw [h.cell (38 + j)]
  have hj : j < 31 := by have := (List.getElem?_eq_some_iff.1 hu).1; simpa [hF] using this
  rw [← hu]
  unfold volC
  rw [List.getElem?_toArray, List.getElem?_append_left (by simp [hF]; omega), List.getElem?_append_right (by simp; omega)]
  simp only [List.length_singleton, List.getElem?_map, List.getElem?_drop]
  rw [show 38 + j - 1 = 37 + j by omega]
set_option maxRecDepth 100000 in
set_option maxHeartbeats 4000000 in
theorem volSnaps_any (g s : Nat) (img : Value) (zs F : List Int) (w : World) (h : Rd .u8 w img zs) (hbd : ∀ z ∈ zs, 0 ≤ z ∧ z < 256) (hz : zs.length ≤ 1048576) (hF : F.length = 68) (hP : ∀ p ∈ F.drop 37, 0 ≤ p ∧ 512 * p.toNat + 512 ≤ zs.length) (hv : Blk w g (volC img F (s : Int)) 81) (hg : ErrT w) (hL : LetS w) :
    Calls Tryz.prog 18 #[.pointer (some ⟨g, 0, none⟩)] w fun e w' => SnsR zs (F.drop 37) w w' e ∧ Below w.heap.size w w' := by
  have H := hide (And.intro h (And.intro hbd (And.intro hv (And.intro hg hL))))
  obtain ⟨ai, ci, rfl⟩ : ∃ a cap, img = .slice a zs.length cap := by obtain ⟨a, cap, h1, _⟩ := h; exact ⟨a, cap, h1⟩
  have hgl := hv.lt
  have K0 := hide (show Ck (w.alloc (.cells #[.int .i64 21, .nilIface] 88)) w.heap.size (w.heap.size + 1) 21 true ∧ Below w.heap.size w (w.alloc (.cells #[.int .i64 21, .nilIface] 88)) from ⟨Ck.fresh _ _ _, (Below.refl _ _).alloc (Nat.le_refl _) _⟩)
  have HR := hide (volS_range hF (hv.below K0.out.2 hgl))
  clear h hbd hv hg hL
  obtain ⟨P, eP⟩ : ∃ P, P = F.drop 37 := ⟨_, rfl⟩
  have hPl : P.length = 31 := by rw [eP]; simp [hF]
  have hPp : ∀ p ∈ P, 0 ≤ p ∧ 512 * p.toNat + 512 ≤ zs.length := by rw [eP]; exact hP
  rw [← eP] at HR ⊢
  have HP := hide (And.intro hPl hPp)
  have HX := hide (fun (k : Nat) (hk : k < 31) (w : World) => index31 P k hPl hk w)
  clear eP hPp hP
  obtain ⟨i0, hi, hz0, hz1, hz2⟩ := infoSn4
  go_enter Tryz.func18, Tryz.ntmps18
  go_wp2_with (refine wpList_load_mid rfl 35 _ rfl g 38 rfl (P.map (Value.int .i64)) _ HR.out Tryz.underlying35 rfl (by rw [List.length_map, HP.out.1]; exact info31) ?_)
  go_loopw [5, 18] (fun v i wr => ∃ k : Nat, k ≤ 31 ∧ i = .int .i64 (k : Int) ∧ Isn zs P w w.heap.size k v wr) (fun _ i _ => 31 - (intOf i).toNat)
  case atStart => exact ⟨0, Nat.zero_le _, rfl, World.ownsRow_nil _ _ _ _, .inl ⟨rfl, K0.out.1⟩, K0.out.2⟩
  case round =>
    clear K0 HR
    obtain ⟨k, hk, rfl, hI⟩ := hrel
    have HI := hide hI
    obtain ⟨la, lc, rfl⟩ := ownS_shape hI.own
    clear hI
    by_cases hlt : k < 31
    · obtain ⟨n, hn⟩ : ∃ n : Nat, P.getD k 0 = (n : Int) := by
        have hm : P.getD k 0 ∈ P := by rw [List.getD_eq_getElem?_getD, List.getElem?_eq_getElem (by rw [HP.out.1]; exact hlt)]; simp
        exact ⟨(P.getD k 0).toNat, by have := (HP.out.2 _ hm).1; omega⟩
      have hix : ∀ w, (Instr.index 35 (.agg (P.map (Value.int .i64)).toArray) (.int .i64 k)).run Tryz.prog w = .ok (.int .i64 (n : Int)) w := fun w => by rw [HX.out k hlt w, hn]
      have HS := hide (show snsN zs P (k + 1) = stepS zs (snsN zs P k) k (n : Int) from by rw [snsN, hn])
      have hnl : 512 * n + 512 ≤ zs.length := by
        have hm : P.getD k 0 ∈ P := by rw [List.getD_eq_getElem?_getD, List.getElem?_eq_getElem (by rw [HP.out.1]; exact hlt)]; simp
        have := (HP.out.2 _ hm).2
        rw [hn] at this
        simpa using this
      clear hn
      by_cases hn0 : n = 0
      · subst hn0
        go_wp2_with fail
        go_roundw
        case rel =>
          refine ⟨k + 1, by omega, by go_num, ?_⟩
          have e : snsN zs P (k + 1) = snsN zs P k := by rw [HS.out, stepS]; simp
          exact ⟨by rw [e]; exact HI.out.own, by rw [e]; exact HI.out.st, HI.out.old⟩
        case measure => simp [intOf]; omega
      · have hn1 : ¬ ((n : Int) = 0) := by omega
        have c0 := (HI.out.old.cell (p := ⟨g, 0, none⟩) hgl).trans ((H.out.2.2.1.cell 0).trans (show (volC (.slice ai zs.length ci) F (s : Int))[0]? = some (.slice ai zs.length ci) from by simp [volC]))
        go_wp2_with (go_at_call 28; fail)
        refine (bytesAt_any _ zs n _ (H.out.1.below HI.out.old) hnl (by omega)).mono ?_
        rintro e w1 ⟨sv, rfl, hsv, rfl⟩
        have HV := hide hsv
        clear hsv c0
        go_wp2_with (go_at_call 30; fail)
        refine (implDS_same sv (blkZ zs n) _ HV.out (fun z hz => H.out.2.1 z (List.mem_of_mem_drop (List.mem_of_mem_take hz))) (by unfold blkZ; rw [List.length_take]; omega) (H.out.2.2.2.1.below HI.out.old) (H.out.2.2.2.2.below HI.out.old)).mono ?_
        rintro e w2 ⟨rfl, b2⟩
        have HS2 := hide (show snsN zs P (k + 1) = ((snsN zs P k).1 ++ [(decSn (blkZ zs n), nmD (blkZ zs n))], ((((snsN zs P k).2 && (codeDS (blkZ zs n) == 0)) && (plD (blkZ zs n) == (k : Int) + 1)) && !hasN (snsN zs P k).1 (nmD (blkZ zs n)))) from by rw [HS.out, stepS, if_neg hn1]; simp)
        have HC := hide (And.intro (decSn_is (blkZ zs n)) (decSn_pl (blkZ zs n)))
        have HA := hide (And.intro (snsN_all zs P k) (snsN_len zs P k))
        have K2 := hide (show w2.ownsRow (w.heap.size + 1) 41 19 (.slice la (snsN zs P k).1.length lc) (snsN zs P k).1.length (rowSn (snsN zs P k).1) ∧ St w2 w.heap.size (.slice la (snsN zs P k).1.length lc) (snsN zs P k).2 ∧ Below w.heap.size w w2 from ⟨own_below HI.out.own b2, HI.out.st.below b2, HI.out.old.trans (b2.mono HI.out.old.size)⟩)
        clear b2 HV HS HI
        generalize decSn (blkZ zs n) = C at HC HS2 ⊢
        generalize nmD (blkZ zs n) = nm at HC HS2 ⊢
        generalize codeDS (blkZ zs n) = cd at HC HS2 ⊢
        generalize plD (blkZ zs n) = pl at HC HS2 ⊢
        generalize hsn : snsN zs P k = sn at HS2 HA K2 ⊢
        obtain ⟨L, ok⟩ := sn
        clear hsn
        have KA := hide (show Blk (w2.alloc (.cells zSn 41)) w2.heap.size zSn 41 ∧ Below w2.heap.size w2 (w2.alloc (.cells zSn 41)) from ⟨Blk.new _ _ _, (Below.refl _ _).alloc (Nat.le_refl _) _⟩)
        go_wp2_with (first | (refine wpList_store_newS w2.heap.size w2 rfl 41 _ _ rfl w2.heap.size C rfl rfl 41 zSn KA.out.1 (by rw [HC.out.1.size]; exact infoSn) (by rw [HC.out.1.size]; rfl) HC.out.1.one KA.out.2 (Nat.le_refl _) ?_; intro w4 k4 b4; have c4 := (k4.cell 1).trans HC.out.1.name; have K4 := hide (show Msn w w.heap.size w2.heap.size C L ok (.slice la L.length lc) w4 from ⟨own_below K2.out.1 b4, K2.out.2.1.below b4, K2.out.2.2.trans (b4.mono K2.out.2.2.size), k4, K2.out.2.1.lt, Nat.le_refl _⟩); clear k4 b4) | (go_at_call 31; fail))
        refine (findSnap_any _ L nm _ (rdSn_own HA.out.1 K4.out.own)).mono ?_
        rintro e w5 ⟨c5, nm5, hc5, rfl, b5⟩
        have K5 := hide (And.intro (K4.out.below b5) hc5)
        clear b5 hc5 c4 K4 KA K2
        have KB := hide (show Blk (w5.alloc (.cells zSn 41)) w5.heap.size zSn 41 ∧ Below w5.heap.size w5 (w5.alloc (.cells zSn 41)) from ⟨Blk.new _ _ _, (Below.refl _ _).alloc (Nat.le_refl _) _⟩)
        go_wp2_with (first | (refine wpList_store_newS w5.heap.size w5 rfl 41 _ _ rfl w5.heap.size c5 rfl rfl 41 zSn KB.out.1 (by rw [K5.out.2.size]; exact infoSn) (by rw [K5.out.2.size]; rfl) K5.out.2.one KB.out.2 (Nat.le_refl _) ?_; intro w6 k6 b6; have K6 := hide (K5.out.1.below b6); clear k6 b6) | (go_at_call 32; fail))
        refine (need_st w.heap.size _ ok (cd == 0) (.slice la L.length lc) _ K6.out.st (fun q e => (K6.out.own.lt q e).2)).mono ?_
        rintro e w7 ⟨rfl, s7, g7⟩
        have K7 := hide (K6.out.need s7 g7)
        have c7 := (K7.out.blk.cell 0).trans HC.out.2
        clear s7 g7 K6 K5 KB
        have hk1 : (-9223372036854775808 : Int) ≤ (k : Int) + 1 ∧ (k : Int) + 1 ≤ 9223372036854775807 := by omega
        go_wp2_with (first | (go_at_call 32; fail))
        refine (need_st w.heap.size _ (ok && (cd == 0)) (pl == (k : Int) + 1) (.slice la L.length lc) _ K7.out.st (fun q e => (K7.out.own.lt q e).2)).mono ?_
        rintro e w8 ⟨rfl, s8, g8⟩
        have K8 := hide (K7.out.need s8 g8)
        clear s8 g8 K7 c7
        go_wp2_with (first | (go_at_call 32; fail))
        refine (need_st w.heap.size _ ((ok && (cd == 0)) && (pl == (k : Int) + 1)) (!hasN L nm) (.slice la L.length lc) _ K8.out.st (fun q e => (K8.out.own.lt q e).2)).mono ?_
        rintro e w9 ⟨rfl, s9, g9⟩
        have K9 := hide (K8.out.need s9 g9)
        clear s9 g9 K8
        go_wp2_with (first | (refine wpList_load_row rfl 41 _ rfl w2.heap.size rfl 41 C (0, 0) _ K9.out.blk Tryz.underlying41 rfl (by rw [HC.out.1.size]; exact infoSn) ?_) | (refine wpList_build1S rfl 23 41 _ rfl C rfl i0 _ Tryz.underlying23 hi hz0 (by rw [hz1, HC.out.1.size]) (by rw [HC.out.1.size]; omega) (by rw [HC.out.1.size]; omega) ?_) | (at_builtin; refine wpList_append_own_at _ rfl (.tmp 53) (.tmp 55) 23 rfl (w.heap.size + 1) 41 i0 (.agg zSn) 19 160 Tryz.underlying23 hi hz0 hz1 hz2 rfl (by decide) (.slice la L.length lc) L.length (rowSn L) rfl (K9.out.own.alloc _) ⟨w9.heap.size, 0, none⟩ 1 1 C.toList rfl (by rw [Array.length_toList, HC.out.1.size]) (cells_newS w9 C _) (fun u hu => Array.all_eq_true_iff_forall_mem.1 HC.out.1.one u (Array.mem_toList_iff.1 hu)) (by have := HA.out.2; unfold maxLen; omega) (by have := HA.out.2; omega) (by have := K9.out.st.lt; simp; omega) ?_; intro va wa oa ga _ ba))
        have HW := hide (show Isn zs P w w.heap.size (k + 1) va wa from by
          have h0 := K9.out.below ((Below.refl _ _).alloc (Nat.le_refl _) (.cells C 41))
          have hne : ∀ q, q ≤ w.heap.size → some q ≠ Value.ownBlock (.slice la L.length lc) := fun q hq e => by have := (h0.own.lt q e.symm).1; omega
          refine ⟨?_, ?_, h0.old.grown ga h0.old.size (fun q e => by have := (h0.own.lt q e).1; omega)⟩
          · rw [HS2.out]
            show wa.ownsRow (w.heap.size + 1) 41 19 va (L ++ [(C, nm)]).length (rowSn (L ++ [(C, nm)]))
            rw [rowSn_append, List.length_append, show rowSn [(C, nm)] = C.toList from by simp [rowSn]]
            exact oa
          · rw [HS2.out]
            exact h0.st.keep ga.size (ga.block _ h0.st.lt (hne _ (Nat.le_refl _))) (fun q hq hn => ga.block q hq (fun e => hn e.symm)) ba)
        clear oa ga ba
        go_wp2
        go_roundw
        case rel => exact ⟨k + 1, by omega, by go_num, HW.out⟩
        case measure => simp [intOf]; omega
    · obtain rfl : k = 31 := by omega
      obtain ⟨ev, cE, hE⟩ := HI.out.st.fault
      have HE := hide (show FaultIs wr.drew w.heap.size (snsN zs P 31).2 ev 21 from by
        rcases hE with hE | ⟨e1, m, f⟩
        · exact .inl hE
        · exact .inr ⟨e1, m, (f.below ((Below.refl _ _).drew)).mono (by omega)⟩)
      clear hE
      go_wp2_with fail
      go_region
      go_wp2
      go_ret2
      exact ⟨⟨_, ev, rfl, own_mono HI.out.own (by omega), HE.out⟩, HI.out.old.drew⟩
end Go.Proofs.YtfkmnmopkblopaaGreatDoor

namespace Go.Proofs.YtfkmnmopkblopaaGreatDoor
set_option linter.unusedVariables false
set_option linter.unusedSimpArgs false
open Go.RowKit

theorem chz_good (zs : List Int) : ∀ k s, chz zs k = some s → goodZ zs s = true
  | 0, _, h => by cases h
  | k + 1, s, h => by
    rw [chz] at h
    split at h
    · rename_i ht
      obtain rfl := Option.some.inj h
      unfold takeZ at ht
      exact (Bool.and_eq_true_iff.1 ht).1
    · exact chz_good zs k s h
theorem fsI_drop (gen bl cu ck op ev lg s1 : Int) (ds1 : List Int) (p1 q1 s2 : Int) (ds2 : List Int) (p2 q2 : Int) (sn : List Int) (h1 : ds1.length = 12) (h2 : ds2.length = 12) : (fsI gen bl cu ck op ev lg s1 ds1 p1 q1 s2 ds2 p2 q2 sn).drop 37 = sn := by
  have e : fsI gen bl cu ck op ev lg s1 ds1 p1 q1 s2 ds2 p2 q2 sn = ([gen, bl, cu, ck, op, ev, lg] ++ (rootI s1 ds1 p1 q1 ++ rootI s2 ds2 p2 q2)) ++ sn := by simp [fsI]
  rw [e]
  exact List.drop_left' (by simp [rootI_len _ _ _ _ h1, rootI_len _ _ _ _ h2])
/-- Every pointer of a chosen record lies inside. -/
theorem cho_ptrs (zs : List Int) (s : Nat) (hs : szOk zs.length = true) (hc : chz zs 2 = some s) : ∀ p ∈ (decFs (blkZ zs s)).drop 37, 0 ≤ p ∧ 512 * p.toNat + 512 ≤ zs.length := by
  have hg := chz_good zs 2 s hc
  unfold goodZ at hg
  rw [Bool.and_eq_true, decide_eq_true_eq, decide_eq_true_eq] at hg
  obtain ⟨g1, g2⟩ := hg
  have hok : okFs (blkZ zs s) = true := by
    unfold codeDF at g1
    split at g1
    · assumption
    · omega
  unfold blZ at g2
  unfold decFs at g2 ⊢
  rw [if_pos hok] at g2 ⊢
  rw [fsI_drop _ _ _ _ _ _ _ _ _ _ _ _ _ _ _ _ (gwords_len _ _) (gwords_len _ _)]
  have h2 : mg (blkZ zs s) 16 4 = ((zs.length / 512 : Nat) : Int) := g2
  unfold okFs rightF snB at hok
  simp only [Bool.and_eq_true, List.all_eq_true] at hok
  intro p hp
  have h3 := hok.2.1.2 p hp
  unfold ptrB at h3
  rw [h2] at h3
  have h4 := hs
  unfold szOk at h4
  simp only [Bool.and_eq_true, decide_eq_true_eq] at h4
  simp only [Bool.or_eq_true, Bool.and_eq_true, decide_eq_true_eq] at h3
  omega
/-- The answer: the snapshots, and the code. -/
def snsP (zs : List Int) : List Int := (choR zs).drop 37
def snsOk (zs : List Int) : Bool := decide (choC zs = 0) && (snsN zs (snsP zs) 31).2
def snsL (zs : List Int) : List (Array Value × ByteArray) := if snsOk zs = true then (snsN zs (snsP zs) 31).1 else []
def snsC (zs : List Int) : Int := if choC zs = 0 then (if (snsN zs (snsP zs) 31).2 = true then 0 else 21) else choC zs
theorem snsL_all (zs : List Int) : ∀ x ∈ snsL zs, IsSn x.1 x.2 := by
  unfold snsL
  split
  · exact snsN_all _ _ _
  · intro x hx; cases hx

theorem toldL_nil (w : World) (a : Option Addr) (len cap : Nat) :
    Calls Tryz.prog 17 #[.slice a len cap, .nilIface] w fun e w' => e = .returned (.tuple #[.slice a len cap, .int .i64 0]) ∧ w' = w := by
  go_enter Tryz.func17, Tryz.ntmps17
  go_wp2
  go_ret2
  exact ⟨rfl, rfl⟩
theorem toldL_bad (w : World) (a : Option Addr) (len cap m lo : Nat) (ev : Value) (code : Int) (hf : Flt w lo m ev code) (hg : ErrT w) :
    Calls Tryz.prog 17 #[.slice a len cap, ev] w fun e w' => e = .returned (.tuple #[.slice none 0 0, .int .i64 code]) ∧ Below w.heap.size w w' := by
  obtain ⟨t', x', rfl⟩ := hf.iface
  have H4 := hide hf
  have HG := hide hg
  clear hf hg
  go_enter Tryz.func17, Tryz.ntmps17
  go_wp2_with (go_at_call 16; refine (codeOf_any m _ code _ _ H4.out HG.out).mono ?_; rintro e w3 ⟨rfl, hb3⟩)
  go_ret2
  exact ⟨rfl, hb3⟩
set_option maxRecDepth 100000 in
set_option maxHeartbeats 2000000 in
theorem implSns_any (v : Value) (zs : List Int) (w : World) (h : Rd .u8 w v zs) (hbd : ∀ z ∈ zs, 0 ≤ z ∧ z < 256) (hz : zs.length ≤ 1048576) (hg : ErrT w) (hL : LetF w) (hS : LetS w) :
    Calls Tryz.prog 6 #[v] w fun e w' => ∃ sv, e = .returned (.tuple #[sv, .int .i64 (snsC zs)]) ∧ w'.ownsRow w.heap.size 41 19 sv (snsL zs).length (rowSn (snsL zs)) ∧ Below w.heap.size w w' := by
  have H := hide (And.intro h (And.intro hbd (And.intro hg (And.intro hL hS))))
  obtain ⟨a, cap, rfl⟩ : ∃ a cap, v = .slice a zs.length cap := by obtain ⟨a, cap, h1, _⟩ := h; exact ⟨a, cap, h1⟩
  clear h hbd hg hL hS
  go_enter Tryz.func6, Tryz.ntmps6
  go_wp2_with (go_at_call 15; fail)
  refine (openVol_any _ zs _ H.out.1 H.out.2.1 (by omega) H.out.2.2.1 H.out.2.2.2.1).mono ?_
  rintro e w1 ⟨hO, b1⟩
  have B1 := hide b1
  clear b1
  rcases hO with ⟨hs, ev, m, rfl, hf⟩ | ⟨hs, hc, ev, m, rfl, hf⟩ | ⟨hs, s, g, hc, rfl, kg⟩
  · have HA := hide (show snsC zs = 7 ∧ snsL zs = [] from by
      have e : choC zs = 7 := by unfold choC; rw [hs]; rfl
      unfold snsC snsL snsOk
      rw [e]
      exact ⟨rfl, rfl⟩)
    obtain ⟨t', x', rfl⟩ := hf.iface
    have HF := hide hf
    clear hf hs
    go_wp2_with (first | (go_at_call 16; refine (codeOf_any m _ 7 _ _ HF.out (H.out.2.2.1.below B1.out)).mono ?_; rintro e w2 ⟨rfl, b2⟩))
    go_ret2
    rw [HA.out.1, HA.out.2]
    exact ⟨_, rfl, World.ownsRow_nil _ _ _ _, B1.out.trans (b2.mono B1.out.size)⟩
  · have HA := hide (show snsC zs = 21 ∧ snsL zs = [] from by
      have e : choC zs = 21 := by unfold choC; rw [hs, hc]; rfl
      unfold snsC snsL snsOk
      rw [e]
      exact ⟨rfl, rfl⟩)
    obtain ⟨t', x', rfl⟩ := hf.iface
    have HF := hide hf
    clear hf hs hc
    go_wp2_with (first | (go_at_call 16; refine (codeOf_any m _ 21 _ _ HF.out (H.out.2.2.1.below B1.out)).mono ?_; rintro e w2 ⟨rfl, b2⟩))
    go_ret2
    rw [HA.out.1, HA.out.2]
    exact ⟨_, rfl, World.ownsRow_nil _ _ _ _, B1.out.trans (b2.mono B1.out.size)⟩
  · have HA := hide (show choC zs = 0 ∧ snsP zs = (decFs (blkZ zs s)).drop 37 from by
      unfold snsP choC choR; rw [hs, hc]; exact ⟨rfl, rfl⟩)
    have HP := hide (And.intro (cho_ptrs zs s hs hc) kg)
    clear hs hc kg
    go_wp2_with (go_at_call 18; fail)
    refine (volSnaps_any g s _ zs (decFs (blkZ zs s)) _ (H.out.1.below B1.out) H.out.2.1 hz (decFs_len _) HP.out.1 HP.out.2 (H.out.2.2.1.below B1.out) (H.out.2.2.2.2.below B1.out)).mono ?_
    rintro e w2 ⟨⟨sv, ev, rfl, o2, f2⟩, b2⟩
    rw [← HA.out.2] at o2 f2
    obtain ⟨sa, sc, rfl⟩ := ownS_shape o2
    have B2 := hide (B1.out.trans (b2.mono B1.out.size))
    have O2 := hide (own_mono o2 B1.out.size)
    clear b2 o2
    rcases f2 with ⟨hk, rfl⟩ | ⟨hk, m, hf⟩
    · have HK := hide (show snsC zs = 0 ∧ snsL zs = (snsN zs (snsP zs) 31).1 from by
        unfold snsC snsL snsOk
        rw [HA.out.1, hk]
        exact ⟨rfl, rfl⟩)
      clear hk
      go_wp2_with (go_at_call 17; refine (toldL_nil _ _ _ _).mono ?_; rintro e w3 ⟨rfl, hw3⟩; rw [hw3]; clear hw3)
      go_ret2
      rw [HK.out.1, HK.out.2]
      exact ⟨_, rfl, O2.out, B2.out⟩
    · have HK := hide (show snsC zs = 21 ∧ snsL zs = [] from by
        unfold snsC snsL snsOk
        rw [HA.out.1, hk]
        exact ⟨rfl, rfl⟩)
      have HF := hide hf
      obtain ⟨t', x', rfl⟩ := hf.iface
      clear hk hf
      go_wp2_with (go_at_call 17; refine (toldL_bad _ _ _ _ m _ _ 21 HF.out (H.out.2.2.1.below B2.out)).mono ?_; rintro e w3 ⟨rfl, b3⟩)
      go_ret2
      rw [HK.out.1, HK.out.2]
      exact ⟨_, rfl, World.ownsRow_nil _ _ _ _, B2.out.trans (b3.mono B2.out.size)⟩
end Go.Proofs.YtfkmnmopkblopaaGreatDoor

namespace Go.Proofs.YtfkmnmopkblopaaGreatDoor
set_option linter.unusedVariables false
set_option linter.unusedSimpArgs false
open Go.RowKit

theorem results_rtt {P : Program} {fn : Func} {p t u : Tmp} {ty : TypeId} (h : fn.results = #[.cell p ty, .tmp t, .tmp u]) (tmps : Array Value) (w : World) (g : Nat) (ti : TypeId) (cs : Array Value) (fr : Nat × Nat) (d : TypeDesc) (x y : Value)
    (hp : tmps.getD p undef = .pointer (some ⟨g, 0, none⟩)) (ht : tmps.getD t undef = x) (hy : tmps.getD u undef = y) (hg : w.heap[g]? = some (.cells cs ti fr))
    (hu : P.underlying ty = some d) (hd : (match d with | .struct _ | .array _ _ => true | _ => false) = true) (hi : (P.info? ty).map (·.size) = some cs.size) :
    (results fn tmps).run P w = .ok (.tuple #[.agg cs, x, y]) w := by
  simp only [results, h]
  simp [Sem.run_bind, Result.andThen, ← Array.getD_eq_getD_getElem?, ht, hp, hy, asAddr, run_loadVar_row w g ti ty cs fr d hg hu hd hi]
theorem vol_ne {w : World} {g b : Nat} {a : Option Addr} {n c : Nat} {X : List Int} {s : Int} (hX : X.length = 68) (h : Blk w g (volC (.slice a n c) X s) 81) (k : Blk w b (cellsI noFs) 37) : g ≠ b := by
  rintro rfl
  have e := h.symm.trans k
  have e2 := Option.some.inj e
  injection e2 with e3 e4 e5
  have e6 := congrArg Array.size e3
  rw [volC_size a n c X s hX] at e6
  exact absurd e6 (by decide)

end Go.Proofs.YtfkmnmopkblopaaGreatDoor
