/- The law on StateCheck, walked. A node that came in, opened. A state that came in, opened. -/
import Derived.Test.YtplieplmhdfndaaGreatDoorZw46
import Derived.Test.YtplieplmhdfndaaGreatDoorZw44
import Derived.ProofKit
import Derived.OpenShut
namespace Go.Proofs.YtplieplmhdfndaaGreatDoor
set_option linter.unusedVariables false
set_option linter.unusedSimpArgs false
open Go.RowKit

theorem infoStL : (Tryz.prog.info? 24).map (·.size) = some 2 := by kernel_rfl
theorem oneSt (C : Int) (a : Option Addr) (n c : Nat) : (#[.int .i64 C, Value.slice a n c] : Array Value).all (·.oneCell') = true := by kernel_rfl
theorem below_setRowS {B g : Nat} {w0 w : World} (h : Below B w0 w) (hg : B ≤ g) (cs : Array Value) : Below B w0 (w.setRow g cs) :=
  h.trans ⟨rfl, rfl, rfl, by simp [World.setRow], fun k hk => setRow_block w g cs k (by omega)⟩
theorem nd_tot (L : List Nd) (i : Nat) (hi : i < L.length) : (ndAt L i).d.length ≤ totN L := by
  have h1 := totN_succ L i hi
  have h2 := totN_le L (i + 1)
  omega
theorem OwnN.nilV {W : World} {base : Nat} {e : TypeId} {m : Nat} {v : Value} {L : List NE} {vs : List Value} (h : OwnN W base e m v L vs) : NilV vs := by
  intro i a n c hu ha
  have hi : i < vs.length := (List.getElem?_eq_some_iff.1 hu).1
  rcases (h.dat i _ _ hu (List.getElem?_eq_getElem (by rw [← h.len]; exact hi))).2 with ⟨e, _⟩ | ⟨g, cap, cur, e, _⟩
  · injection e
  · subst ha
    injection e with e
    cases e
theorem st_full {w : World} {b : Nat} {C : Int} {v : Value} {t : TypeId} (h : Blk w b #[.int .i64 C, v] t) : w.rangeAt b 0 [.int .i64 C, v] := by
  intro j u hu
  rw [Nat.zero_add, h.cell j]
  simpa using hu
theorem sc_same {C : Int} {L : List Nd} {b c : Bool} (h1 : b = true ↔ RightS C L) (h2 : c = true ↔ RightS C L) : b = c := Bool.eq_iff_iff.2 (h1.trans h2.symm)

set_option maxRecDepth 100000 in
set_option maxHeartbeats 8000000 in
theorem lawSt (C : Int) (v : Value) (L : List Nd) (us : List Value) (w : World) (h : RdN w 9 v (L.map ndE) us) (hbd : ∀ i, i < L.length → ∀ z ∈ (ndAt L i).d, 0 ≤ z ∧ z < 256) (hg : ErrT w) :
    Calls Tryz.prog 3 #[.agg #[.int .i64 C, v]] w fun e w' => e = .returned (.bool true) ∧ Below w.heap.size w w' := by
  obtain ⟨a, cap, rfl⟩ : ∃ a cap, v = .slice a L.length cap := by obtain ⟨a, cap, e, _⟩ := h.row; exact ⟨a, cap, by simpa using e⟩
  obtain ⟨N, hN⟩ : ∃ N, N = L.length := ⟨_, rfl⟩
  have HN := hide hN
  rw [← hN] at h ⊢
  have H := hide (And.intro h (And.intro hbd hg))
  have K0 := hide (And.intro (Blk.new w #[.int .i64 C, .slice a N cap] 24) (show Below w.heap.size w (w.alloc (.cells #[.int .i64 C, .slice a N cap] 24)) from (Below.refl _ _).alloc (Nat.le_refl _) _))
  clear h hbd hg hN
  go_enter Tryz.func3, Tryz.ntmps3
  go_wp2_with (first | (refine wpList_load_row rfl 24 _ rfl w.heap.size rfl 24 #[.int .i64 C, .slice a N cap] (0, 0) _ K0.out.1 Tryz.underlying24 rfl infoStL ?_) | fail)
  refine (szState_any C _ L us _ (H.out.1.below K0.out.2)).mono ?_
  rintro e w1 ⟨l, rfl, hl, b1⟩
  have K1 := hide (And.intro (K0.out.1.below b1 K0.out.1.lt) (K0.out.2.trans (b1.mono K0.out.2.size)))
  clear b1 K0
  by_cases hl0 : l < 0
  · go_wp2
    go_ret
    exact ⟨rfl, K1.out.2⟩
  · obtain ⟨hq, hT⟩ := hl (by omega)
    have HB := hide (And.intro hq (And.intro (show ∀ i, i < L.length → (ndAt L i).d.length ≤ 1048576 from fun i hi => Nat.le_trans (nd_tot L i hi) hT) (show totN L ≤ 1099511627776 by omega)))
    clear hl hT hq
    go_wp2_with (first | (refine wpList_load_row rfl 24 _ rfl w.heap.size rfl 24 #[.int .i64 C, .slice a N cap] (0, 0) _ K1.out.1 Tryz.underlying24 rfl infoStL ?_) | fail)
    refine (toState_any C _ L us _ (H.out.1.below K1.out.2) HB.out.1 HB.out.2.1).mono ?_
    rintro e w2 ⟨v1, vs1, rfl, o1, b2⟩
    obtain ⟨a1, c1, rfl⟩ : ∃ a c, v1 = .slice a N c := by obtain ⟨x, y, e⟩ := o1.shape; exact ⟨x, y, by rw [HN.out]; simpa using e⟩
    have K2 := hide (And.intro (K1.out.1.below b2 K1.out.1.lt) (K1.out.2.trans (b2.mono K1.out.2.size)))
    have R1 := hide o1.rd
    clear b2 o1 K1
    go_wp2_with fail
    refine (specSC_any C _ L vs1 _ R1.out HB.out.1 H.out.2.1).mono ?_
    rintro e w3 ⟨bw, rfl, hbw, b3⟩
    have K3 := hide (And.intro (K2.out.1.below b3 K2.out.1.lt) (K2.out.2.trans (b3.mono K2.out.2.size)))
    have HW := hide hbw
    obtain ⟨cw, hcw⟩ : ∃ cw, cw = scE bw := ⟨_, rfl⟩
    rw [← hcw]
    have HCW := hide hcw
    clear b3 K2 R1 hbw hcw
    go_wp2_with (first | (refine wpList_load_row rfl 24 _ rfl w.heap.size rfl 24 #[.int .i64 C, .slice a N cap] (0, 0) _ K3.out.1 Tryz.underlying24 rfl infoStL ?_) | fail)
    refine (toState_any C _ L us _ (H.out.1.below K3.out.2) HB.out.1 HB.out.2.1).mono ?_
    rintro e w4 ⟨vx, vsx, rfl, ox, b4⟩
    obtain ⟨ax, cx, rfl⟩ : ∃ a c, vx = .slice a N c := by obtain ⟨x, y, e⟩ := ox.shape; exact ⟨x, y, by rw [HN.out]; simpa using e⟩
    have K4 := hide (And.intro (K3.out.1.below b4 K3.out.1.lt) (K3.out.2.trans (b4.mono K3.out.2.size)))
    have X4 := hide ox
    clear b4 ox K3
    have KX := hide (show Blk (w4.alloc (.cells #[.int .i64 0, .slice none 0 0] 29)) w4.heap.size #[.int .i64 0, .slice none 0 0] 29 ∧ Below w4.heap.size w4 (w4.alloc (.cells #[.int .i64 0, .slice none 0 0] 29)) from ⟨Blk.new _ _ _, (Below.refl _ _).alloc (Nat.le_refl _) _⟩)
    go_wp2_with (first | (refine wpList_store_row rfl 29 _ _ rfl w4.heap.size #[.int .i64 C, .slice ax N cx] rfl rfl 29 _ KX.out.1 infoStP rfl (oneSt _ _ _ _) ?_) | (refine wpList_load_row rfl 29 _ rfl w4.heap.size rfl 29 #[.int .i64 C, .slice ax N cx] (0, 0) _ (KX.out.1.row _) Tryz.underlying29 rfl infoStP ?_) | fail)
    have b5 := hide (below_setRowS KX.out.2 (Nat.le_refl _) #[.int .i64 C, .slice ax N cx])
    have K5 := hide (show Blk ((w4.alloc (.cells #[.int .i64 0, .slice none 0 0] 29)).setRow w4.heap.size #[.int .i64 C, .slice ax N cx]) w4.heap.size #[.int .i64 C, .slice ax N cx] 29 from KX.out.1.row _)
    generalize (w4.alloc (.cells #[.int .i64 0, .slice none 0 0] 29)).setRow w4.heap.size #[.int .i64 C, .slice ax N cx] = w5 at b5 K5 ⊢
    obtain ⟨bx, hbx⟩ : ∃ bx, bx = w4.heap.size := ⟨_, rfl⟩
    rw [← hbx] at K5 ⊢
    have B5 := hide (And.intro (K4.out.1.below b5.out K4.out.1.lt) (K4.out.2.trans (b5.out.mono K4.out.2.size)))
    have X5 := hide (X4.out.below b5.out)
    clear hbx
    refine (implSC_any C (.slice ax N cx) L vsx _ X5.out.rd HB.out.2.2 HB.out.1 H.out.2.1 X5.out.nilV (H.out.2.2.below B5.out.2)).mono ?_
    rintro e w6 ⟨bg, rfl, hbg, b6⟩
    have eg := sc_same hbg HW.out
    rw [eg, ← HCW.out]
    have hcc : (cw != cw) = false := by simp
    have B6 := hide (show Blk w6 w.heap.size #[.int .i64 C, .slice a N cap] 24 ∧ Blk w6 bx #[.int .i64 C, .slice ax N cx] 29 ∧ Below w.heap.size w w6 from ⟨B5.out.1.below b6 B5.out.1.lt, K5.out.below b6 K5.out.lt, B5.out.2.trans (b6.mono B5.out.2.size)⟩)
    have X6 := hide (X5.out.below b6)
    clear b6 b5 B5 X5 K5 K4 KX X4 eg hbg HCW
    go_wp2_with fail
    refine wp_region_noPanic ?_
    refine wp_region_held_drew (S := fun w' => Blk w' bx #[.int .i64 C, .slice ax N cx] 29 ∧ Blk w' w.heap.size #[.int .i64 C, .slice a N cap] 24) (by kernel_rfl) ⟨B6.out.2.1, B6.out.1⟩ (fun hH => ?_)
    refine wpAnyH_take (i := 0) (oi := _) (v := .agg #[.int .i64 C, .slice ax N cx]) rfl (by kernel_rfl) (by kernel_rfl) (by kernel_rfl) (fun _ _ _ h => h) (yieldsIf_load_mid (by rfl) 29 _ rfl bx 0 rfl [.int .i64 C, .slice ax N cx] _ (fun w' h => st_full h.1) Tryz.underlying29 rfl infoStP) hH ?_
    try simp only [Act.put, List.getElem_toArray, List.getElem_cons_zero, List.getElem_cons_succ, List.setIfInBounds_toArray, List.set_cons_zero, List.set_cons_succ]
    refine wpAnyH_take (i := 1) (oi := _) (v := .agg #[.int .i64 C, .slice a N cap]) rfl (by kernel_rfl) (by kernel_rfl) (by kernel_rfl) (fun _ _ _ h => h) (yieldsIf_load_mid (by rfl) 24 _ rfl w.heap.size 0 rfl [.int .i64 C, .slice a N cap] _ (fun w' h => st_full h.2) Tryz.underlying24 rfl infoStL) hH ?_
    try simp only [Act.put, List.getElem_toArray, List.getElem_cons_zero, List.getElem_cons_succ, List.setIfInBounds_toArray, List.set_cons_zero, List.set_cons_succ]
    have BD := hide (show Below w6.heap.size w6 w6.drew from (Below.refl _ _).drew)
    refine wpAnyH_ready (rs := [2]) (by kernel_rfl) (by simp) ?_
    refine AllReadyH.cons (o := _) rfl (fun K hK => ?_) AllReadyH.nil
    go_simp
    refine (toState_any C _ L us _ (H.out.1.below (B6.out.2.2.trans (BD.out.mono B6.out.2.2.size))) HB.out.1 HB.out.2.1).mono ?_
    rintro e w8 ⟨v8, vs8, rfl, o8, b8⟩
    have B8 := hide (BD.out.trans b8)
    have R8 := hide o8.rd
    clear o8 b8
    have S8 := hide (And.intro (B6.out.2.1.below B8.out B6.out.2.1.lt) (B6.out.1.below B8.out B6.out.1.lt))
    refine hK.out _ _ S8.out (fun hH => ?_)
    clear hK K
    try simp only [Act.put, List.getElem_toArray, List.getElem_cons_zero, List.getElem_cons_succ, List.setIfInBounds_toArray, List.set_cons_zero, List.set_cons_succ]
    refine wpAnyH_ready (rs := [3]) (by kernel_rfl) (by simp) ?_
    refine AllReadyH.cons (o := _) rfl (fun K hK => ?_) AllReadyH.nil
    go_simp
    refine (eqState_same C (.slice ax N cx) v8 L vsx vs8 _ (X6.out.below B8.out).rd R8.out).mono ?_
    rintro e w9 ⟨rfl, b9⟩
    have B9 := hide (B8.out.trans (b9.mono B8.out.size))
    refine hK.out _ _ ⟨B6.out.2.1.below B9.out B6.out.2.1.lt, B6.out.1.below B9.out B6.out.1.lt⟩ (fun hH => ?_)
    clear hK K b9 B8 S8 R8
    try simp only [Act.put, List.getElem_toArray, List.getElem_cons_zero, List.getElem_cons_succ, List.setIfInBounds_toArray, List.set_cons_zero, List.set_cons_succ]
    refine wpAnyH_take (i := 4) (oi := _) (v := .bool false) rfl (by kernel_rfl) (by kernel_rfl) (by kernel_rfl) (fun _ _ _ h => h) (Or.inl ⟨by rfl, fun w' hw' => by go_simp⟩) hH ?_
    try simp only [Act.put, List.getElem_toArray, List.getElem_cons_zero, List.getElem_cons_succ, List.setIfInBounds_toArray, List.set_cons_zero, List.set_cons_succ]
    refine wpAnyH_done (by kernel_rfl) (NoPanic.normal ?_) _
    clear hH
    have K9 := hide (B6.out.2.2.trans (B9.out.mono B6.out.2.2.size))
    clear B6 X6 B9 BD
    go_wp2
    go_ret
    exact ⟨rfl, K9.out⟩
end Go.Proofs.YtplieplmhdfndaaGreatDoor

namespace Go.Proofs.YtplieplmhdfndaaGreatDoor
set_option linter.unusedVariables false
set_option linter.unusedSimpArgs false
open Go.ChangeShapes Go.WideShapes Go.ChangeAt Go.RowKit

theorem cells1n : Tryz.prog.cellsOf 3 = 1 := by kernel_rfl
theorem cells1b : Tryz.prog.cellsOf 45 = 1 := by kernel_rfl
theorem cellsLN : Tryz.prog.cellsOf 118 = 10 := by kernel_rfl
theorem take_oneN {l : List Value} {o : Nat} {c : Value} (h : (l.drop o).take 1 = [c]) : l[o]? = some c := by
  have h2 : ((l.drop o).take 1)[0]? = some c := by rw [h]; rfl
  simpa using h2
theorem open_bytes {H : Type} {enc : TypeId × Value → H} {W : World} {base : Nat} {held : Bool} {fuel : Nat} {cs : List Value} {x : DataW H × List MemPlace} (hf : DataW.trod enc Tryz.prog W base (fun _ => true) held fuel 45 cs = some x) :
    ∃ v zs, cs = [v] ∧ Rd .u8 W v zs ∧ ∀ z ∈ zs, 0 ≤ z ∧ z < 256 := by
  rcases open_ints Tryz.underlying45 Tryz.underlying5 (by kernel_rfl) hf with ⟨hcs, _⟩ | ⟨x, l, c, zs, hcs, _, hl, hm, hz, _, hcell, hwz⟩
  · have w0 : IsRow .u8 W none 0 0 [] := .inl ⟨rfl, rfl, rfl, rfl⟩
    obtain ⟨hrd, hlen, hwf⟩ := Rd.of_row w0
    exact ⟨_, _, hcs, hrd, bytes_bd hwf⟩
  · have w0 : IsRow .u8 W (some x) l c zs := .inr ⟨_, rfl, hl, hm, by simpa using hz, hcell, hwz⟩
    obtain ⟨hrd, hlen, hwf⟩ := Rd.of_row w0
    exact ⟨_, _, hcs, hrd, bytes_bd hwf⟩
set_option maxRecDepth 100000 in
theorem open_node_cells {H : Type} {enc : TypeId × Value → H} {W : World} {base : Nat} {held : Bool} {fuel : Nat} {cs : List Value} {x : DataW H × List MemPlace} (hsz : cs.length = 10) (hf : DataW.trod enc Tryz.prog W base (fun _ => true) held fuel 118 cs = some x) :
    ∃ k l m u g p e t c v zs, cs = [.int .i64 k, .int .i64 l, .int .i64 m, .int .i64 u, .int .i64 g, .int .i64 p, .int .i64 e, .int .i64 t, .int .i64 c, v] ∧ Rd .u8 W v zs ∧ ∀ z ∈ zs, 0 ≤ z ∧ z < 256 := by
  obtain ⟨xs, n, _, _, _, hl, hfld⟩ := DataW.trod_struct Tryz.underlying118 hf
  have hl10 : xs.length = 10 := hl
  have h0 := hfld 0 _ rfl
  rw [List.getElem?_eq_getElem (show 0 < xs.length by omega)] at h0
  obtain ⟨x0, e0, _⟩ := DataW.trod_int Tryz.underlying3 h0
  change (cs.drop 0).take (Tryz.prog.cellsOf 3) = _ at e0
  have h1 := hfld 1 _ rfl
  rw [List.getElem?_eq_getElem (show 1 < xs.length by omega)] at h1
  obtain ⟨x1, e1, _⟩ := DataW.trod_int Tryz.underlying3 h1
  change (cs.drop 1).take (Tryz.prog.cellsOf 3) = _ at e1
  have h2 := hfld 2 _ rfl
  rw [List.getElem?_eq_getElem (show 2 < xs.length by omega)] at h2
  obtain ⟨x2, e2, _⟩ := DataW.trod_int Tryz.underlying3 h2
  change (cs.drop 2).take (Tryz.prog.cellsOf 3) = _ at e2
  have h3 := hfld 3 _ rfl
  rw [List.getElem?_eq_getElem (show 3 < xs.length by omega)] at h3
  obtain ⟨x3, e3, _⟩ := DataW.trod_int Tryz.underlying3 h3
  change (cs.drop 3).take (Tryz.prog.cellsOf 3) = _ at e3
  have h4 := hfld 4 _ rfl
  rw [List.getElem?_eq_getElem (show 4 < xs.length by omega)] at h4
  obtain ⟨x4, e4, _⟩ := DataW.trod_int Tryz.underlying3 h4
  change (cs.drop 4).take (Tryz.prog.cellsOf 3) = _ at e4
  have h5 := hfld 5 _ rfl
  rw [List.getElem?_eq_getElem (show 5 < xs.length by omega)] at h5
  obtain ⟨x5, e5, _⟩ := DataW.trod_int Tryz.underlying3 h5
  change (cs.drop 5).take (Tryz.prog.cellsOf 3) = _ at e5
  have h6 := hfld 6 _ rfl
  rw [List.getElem?_eq_getElem (show 6 < xs.length by omega)] at h6
  obtain ⟨x6, e6, _⟩ := DataW.trod_int Tryz.underlying3 h6
  change (cs.drop 6).take (Tryz.prog.cellsOf 3) = _ at e6
  have h7 := hfld 7 _ rfl
  rw [List.getElem?_eq_getElem (show 7 < xs.length by omega)] at h7
  obtain ⟨x7, e7, _⟩ := DataW.trod_int Tryz.underlying3 h7
  change (cs.drop 7).take (Tryz.prog.cellsOf 3) = _ at e7
  have h8 := hfld 8 _ rfl
  rw [List.getElem?_eq_getElem (show 8 < xs.length by omega)] at h8
  obtain ⟨x8, e8, _⟩ := DataW.trod_int Tryz.underlying3 h8
  change (cs.drop 8).take (Tryz.prog.cellsOf 3) = _ at e8
  have h9 := hfld 9 _ rfl
  rw [List.getElem?_eq_getElem (show 9 < xs.length by omega)] at h9
  obtain ⟨v, zs, e9, hrd, hbd⟩ := open_bytes h9
  change (cs.drop 9).take (Tryz.prog.cellsOf 45) = _ at e9
  rw [cells1b] at e9
  rw [cells1n] at e0 e1 e2 e3 e4 e5 e6 e7 e8
  have f0 := take_oneN e0
  have f1 := take_oneN e1
  have f2 := take_oneN e2
  have f3 := take_oneN e3
  have f4 := take_oneN e4
  have f5 := take_oneN e5
  have f6 := take_oneN e6
  have f7 := take_oneN e7
  have f8 := take_oneN e8
  have f9 := take_oneN e9
  refine ⟨x0, x1, x2, x3, x4, x5, x6, x7, x8, v, zs, ?_, hrd, hbd⟩
  apply List.ext_getElem?
  intro i
  rcases Nat.lt_or_ge i 10 with h | h
  · match i, h with
    | 0, _ => exact f0
    | 1, _ => exact f1
    | 2, _ => exact f2
    | 3, _ => exact f3
    | 4, _ => exact f4
    | 5, _ => exact f5
    | 6, _ => exact f6
    | 7, _ => exact f7
    | 8, _ => exact f8
    | 9, _ => exact f9
  · rw [List.getElem?_eq_none (by omega), List.getElem?_eq_none (by simp; omega)]
set_option maxRecDepth 100000 in
theorem open_node {H : Type} {enc : TypeId × Value → H} {W : World} {r : Reach} {b0 base : Nat} {held : Bool} {v : Value} {d : DataW H} {pl : List MemPlace} (hv : Value.okWide Tryz.prog W r b0 118 v) (h : DataW.Trod enc Tryz.prog W base (fun _ => true) held 118 v d pl) :
    ∃ k l m u g p e t c x zs, v = nodeV k l m u g p e t c x ∧ Rd .u8 W x zs ∧ ∀ z ∈ zs, 0 ≤ z ∧ z < 256 := by
  obtain ⟨cs, rfl, hsz⟩ := Go.WideShapes.okWide_struct Tryz.underlying118 hv
  rw [cellsLN] at hsz
  obtain ⟨fuel, hf⟩ := h
  have hc : (Value.agg cs).cells.toList = cs.toList := rfl
  rw [hc] at hf
  obtain ⟨k, l, m, u, g, p, e, t, c, x, zs, h1, h2, h3⟩ := open_node_cells (by rw [Array.length_toList, hsz]) hf
  refine ⟨k, l, m, u, g, p, e, t, c, x, zs, ?_, h2, h3⟩
  have e2 : cs = #[.int .i64 k, .int .i64 l, .int .i64 m, .int .i64 u, .int .i64 g, .int .i64 p, .int .i64 e, .int .i64 t, .int .i64 c, x] := by
    apply Array.ext'
    rw [h1]
  rw [e2]
end Go.Proofs.YtplieplmhdfndaaGreatDoor

namespace Go.Proofs.YtplieplmhdfndaaGreatDoor
set_option linter.unusedVariables false
set_option linter.unusedSimpArgs false
open Go.ChangeShapes Go.WideShapes Go.ChangeAt Go.RowKit

theorem cellsLNS : Tryz.prog.cellsOf 22 = 1 := by kernel_rfl
theorem cellsLS : Tryz.prog.cellsOf 24 = 2 := by kernel_rfl
/-- Each node is known: so is the list. -/
theorem gatherN (n : Nat) (f : Nat → Nd → Value → Prop) (h : ∀ k, k < n → ∃ x u, f k x u) : ∃ (L : List Nd) (us : List Value), L.length = n ∧ us.length = n ∧ ∀ k, k < n → ∃ x u, L[k]? = some x ∧ us[k]? = some u ∧ f k x u := by
  induction n with
  | zero => exact ⟨[], [], rfl, rfl, fun k hk => by omega⟩
  | succ n ih =>
    obtain ⟨Q, us, h1, h2, h3⟩ := ih (fun k hk => h k (by omega))
    obtain ⟨b, u, hb⟩ := h n (by omega)
    refine ⟨Q ++ [b], us ++ [u], by simp [h1], by simp [h2], fun k hk => ?_⟩
    by_cases hkn : k < n
    · obtain ⟨b', u', e1, e2, e3⟩ := h3 k hkn
      exact ⟨b', u', by rw [List.getElem?_append_left (by omega)]; exact e1, by rw [List.getElem?_append_left (by omega)]; exact e2, e3⟩
    · obtain rfl : k = n := by omega
      exact ⟨b, u, by rw [← h1, List.getElem?_append_right (Nat.le_refl _)]; simp, by rw [← h2, List.getElem?_append_right (Nat.le_refl _)]; simp, hb⟩
set_option maxRecDepth 100000 in
theorem open_nodes {H : Type} {enc : TypeId × Value → H} {W : World} {base : Nat} {held : Bool} {fuel : Nat} {cs : List Value} {x : DataW H × List MemPlace} (hf : DataW.trod enc Tryz.prog W base (fun _ => true) held fuel 22 cs = some x) :
    ∃ (v : Value) (L : List Nd) (us : List Value), cs = [v] ∧ RdN W 9 v (L.map ndE) us ∧ ∀ i, i < L.length → ∀ z ∈ (ndAt L i).d, 0 ≤ z ∧ z < 256 := by
  rcases DataW.trod_slice Tryz.underlying22 hf with ⟨hcs, _⟩ | ⟨x, len, cap, elems, rest, n, _, hcs, _, hb, hl, hm, hlen, hel, _, _⟩
  · exact ⟨_, [], [], hcs, ⟨rfl, fun l h => (by cases h), ⟨none, 0, rfl, fun h => absurd h (by simp), by simp, by simp⟩, fun i u l h => (by simp at h)⟩, fun i hi => (by simp at hi)⟩
  · rw [cellsLN] at hel
    obtain ⟨L, us, h1, h2, h3⟩ := gatherN len (fun k y u => (∀ (j : Nat) (c : Value), ((ndE y).1 ++ [u])[j]? = some c → W.cell? ((x.add (k * 10)).add j) = some c) ∧ Rd .u8 W u y.d ∧ ∀ z ∈ y.d, 0 ≤ z ∧ z < 256) (fun k hk => by
      have h1 := hel k hk
      rw [List.getElem?_eq_getElem (by omega), Option.bind_eq_some_iff] at h1
      obtain ⟨cs, hcs, hy⟩ := h1
      obtain ⟨_, hcl, hcc⟩ := World.cells?_some hcs
      obtain ⟨q0, q1, q2, q3, q4, q5, q6, q7, q8, u, zs, rfl, hr, hz⟩ := open_node_cells hcl hy
      refine ⟨⟨q0, q1, q2, q3, q4, q5, q6, q7, q8, zs⟩, u, fun j c hc => ?_, hr, hz⟩
      have hj : j < 10 := (List.getElem?_eq_some_iff.1 hc).1
      rw [hcc j (by omega)]
      exact hc)
    refine ⟨_, L, us, hcs, ⟨by simp [h1, h2], ndE_pre _, ⟨some x, cap, by simp [h1], fun hn => ?_, by simp [h1]; exact hl, hm⟩, fun i u l hu hl => ?_⟩, fun i hi z hz => ?_⟩
    · simp [h1] at hn
      obtain ⟨y0, u0, _, _, hc0, _⟩ := h3 0 hn
      have hc0 := hc0 0 (.int .i64 y0.k) rfl
      obtain ⟨b, off, spot⟩ := x
      have hspot : spot = none := by simpa [Addr.add] using World.cell?_spot hc0
      subst hspot
      refine ⟨b, off, rfl, by rw [Addr.add_mid, Addr.add_mid] at hc0; simpa using cell_lt hc0, fun j u hu => ?_⟩
      have hjl : j < len * 10 := by
        have := (List.getElem?_eq_some_iff.1 hu).1
        rw [cellsN_len 9 _ _ (by simp [h1, h2]) (ndE_pre _)] at this
        simp [h1] at this
        exact this
      obtain ⟨yk, uk, e1, e2, ck, _⟩ := h3 (j / 10) (by omega)
      have hg := cellsN_get 9 us (L.map ndE) (by simp [h1, h2]) (ndE_pre _) (j / 10) (j % 10) uk (ndE yk) e2 (by rw [List.getElem?_map, e1]; rfl) (by omega)
      rw [show j / 10 * (9 + 1) + j % 10 = j by omega] at hg
      rw [hg] at hu
      have c0 := ck (j % 10) u hu
      rw [Addr.add_mid, Addr.add_mid] at c0
      rw [show off + j = off + j / 10 * 10 + j % 10 by omega]
      exact c0
    · have hi : i < len := by rw [← h2]; exact (List.getElem?_eq_some_iff.1 hu).1
      obtain ⟨yk, uk, e1, e2, _, hr, _⟩ := h3 i hi
      rw [e2] at hu
      cases hu
      rw [List.getElem?_map, e1] at hl
      cases hl
      exact hr
    · obtain ⟨yk, uk, e1, e2, _, _, hz'⟩ := h3 i (by omega)
      have e : ndAt L i = yk := by unfold ndAt; simp [List.getD, e1]
      rw [e] at hz
      exact hz' z hz
set_option maxRecDepth 100000 in
/-- A state that came in. -/
theorem open_state {H : Type} {enc : TypeId × Value → H} {W : World} {r : Reach} {b0 base : Nat} {held : Bool} {v : Value} {d : DataW H} {pl : List MemPlace} (hv : Value.okWide Tryz.prog W r b0 24 v) (h : DataW.Trod enc Tryz.prog W base (fun _ => true) held 24 v d pl) :
    ∃ (C : Int) (u : Value) (L : List Nd) (us : List Value), v = .agg #[.int .i64 C, u] ∧ RdN W 9 u (L.map ndE) us ∧ ∀ i, i < L.length → ∀ z ∈ (ndAt L i).d, 0 ≤ z ∧ z < 256 := by
  obtain ⟨cs, rfl, hsz⟩ := Go.WideShapes.okWide_struct Tryz.underlying24 hv
  rw [cellsLS] at hsz
  obtain ⟨fuel, hf⟩ := h
  obtain ⟨xs, n, _, _, _, hl, hfld⟩ := DataW.trod_struct Tryz.underlying24 hf
  have hc : (Value.agg cs).cells.toList = cs.toList := rfl
  rw [hc] at hfld
  have hl2 : xs.length = 2 := hl
  have h0 := hfld 0 _ rfl
  rw [List.getElem?_eq_getElem (show 0 < xs.length by omega)] at h0
  have h1 := hfld 1 _ rfl
  rw [List.getElem?_eq_getElem (show 1 < xs.length by omega)] at h1
  obtain ⟨C, e0, _⟩ := DataW.trod_int Tryz.underlying3 h0
  change (cs.toList.drop 0).take (Tryz.prog.cellsOf 3) = _ at e0
  rw [cells1n] at e0
  obtain ⟨u, L, us, e1, hr, hz⟩ := open_nodes h1
  change (cs.toList.drop 1).take (Tryz.prog.cellsOf 22) = _ at e1
  rw [cellsLNS] at e1
  refine ⟨C, u, L, us, ?_, hr, hz⟩
  congr 1
  apply Array.ext'
  have hlen : cs.toList.length = 2 := by rw [Array.length_toList, hsz]
  have e2 : cs.toList = (cs.toList.drop 0).take 1 ++ (cs.toList.drop 1).take 1 := by
    rw [List.drop_zero, List.take_of_length_le (l := cs.toList.drop 1) (by rw [List.length_drop, hlen]; omega), List.take_append_drop]
  rw [e2, e0, e1]
  rfl
end Go.Proofs.YtplieplmhdfndaaGreatDoor
