/- The program's LogScan. The program's LogDrop. -/
import Derived.Test.YtohmjfagbhnieaaGreatDoorZl35
import Derived.Test.YtohmjfagbhnieaaGreatDoorZl39
namespace Go.Proofs.YtohmjfagbhnieaaGreatDoor
set_option linter.unusedVariables false
set_option linter.unusedSimpArgs false
open Go.RowKit Go.Shelf
attribute [local go_sem] Oper.semAt_some

theorem OwnN.keptN {W W' : World} {base : Nat} {e : TypeId} {m : Nat} {v : Value} {L : List NE} {vs : List Value} {row : Option Nat} (h : OwnN W base e m v L vs) (hg : W.grownBy W' row) (h1 : ∀ r, row = some r → v.ownBlock ≠ some r) (h2 : ∀ r, row = some r → ∀ u ∈ vs, u.ownBlock ≠ some r) : OwnN W' base e m v L vs := by
  have keep : ∀ {sz n : Nat} {e : TypeId} {x : Value} {xs : List Value}, W.ownsRow base e sz x n xs → (∀ r, row = some r → x.ownBlock ≠ some r) → W'.ownsRow base e sz x n xs := fun {sz n e x xs} ho hx => ho.kept hg (by
    cases hv : x.ownBlock with
    | none => exact .inl rfl
    | some k => exact .inr (fun e' => hx k e'.symm hv))
  exact ⟨h.len, h.pre, keep h.row h1, fun i u l hu hl => keep (h.dat i u l hu hl) (fun r e' => h2 r e' u (List.mem_of_getElem? hu)), h.one⟩
theorem infoLEy : (Tryz.prog.info? 45).map (fun i => (i.zero, i.size, i.bytes)) = some (some (.agg #[.int .i64 0, .int .i64 0, .int .i64 0, .int .i64 0, .int .i64 0, .int .i64 0, .string ⟨#[]⟩, .string ⟨#[]⟩, .slice none 0 0]), 9, 104) := by kernel_rfl
theorem infoLEx : (Tryz.prog.info? 45).map (·.size) = some 9 := by kernel_rfl
theorem newLi (w : World) (cs : List Value) (e : TypeId) : ∀ j u, cs[j]? = some u → (w.alloc (.cells cs.toArray e)).cell? ((⟨w.heap.size, 0, none⟩ : Addr).add j) = some u := fun j u hu => by
  rw [Addr.add_mid, cell_of_row _ _ (0 + j) _ _ _ (heap_alloc_new w _), Nat.zero_add]
  simpa using hu
theorem oneEi (g K A B U G : Int) (p q : ByteArray) (a : Option Addr) (n c : Nat) : ∀ u ∈ ([.int .i64 g, .int .i64 K, .int .i64 A, .int .i64 B, .int .i64 U, .int .i64 G, .string p, .string q, .slice a n c] : List Value), u.oneCell' = true := by
  intro u hu
  simp only [List.mem_cons, List.not_mem_nil, or_false] at hu
  rcases hu with rfl | rfl | rfl | rfl | rfl | rfl | rfl | rfl | rfl <;> rfl
/-- Between two rounds of LogScan: the box of the list at q; rows from z on. -/
structure Isl (w : World) (q z : Nat) (T : Nat → Prop) (pre : List LX) (W : World) : Prop where
  row : ∃ v, Boxed W q 40 v ∧ OwnN W z 45 8 v (pre.map (fun x => neE x.1)) (pre.map (·.2.1)) ∧ ∀ k, v.ownBlock = some k → ¬ T k
  dat : ∀ x ∈ pre, ∀ k, x.2.1.ownBlock = some k → ¬ T k
  old : Below w.heap.size w W
  far : ∀ r, T r → z ≤ r ∧ r < W.heap.size
  size : z ≤ W.heap.size
theorem Isl.abides {w : World} {q z r0 : Nat} (hq : w.heap.size ≤ q) (hz : q + 1 ≤ r0) (hz2 : r0 < z) (T : Nat → Prop) : AbidesOf (fun r => T r ∨ r = r0) (Isl w q z T) := by
  rintro pre A B row ⟨⟨v, h1, h2, h3⟩, h4, h5, h6, h7⟩ hg hr
  have hr' : ∀ r, row = some r → q + 1 ≤ r := fun r e => by
    rcases hr r e with h | h
    · have := (h6 r h).1; omega
    · omega
  refine ⟨⟨v, h1.kept hg (fun e => by have := hr' _ e.symm; omega), h2.keptN hg (fun r e hv => ?_) (fun r e u hu hv => ?_), h3⟩, h4, h5.grown hg (by have := h1.lt; omega) (fun k e => by have := hr' k e; omega), fun r h => ⟨(h6 r h).1, Nat.lt_of_lt_of_le (h6 r h).2 hg.size⟩, Nat.le_trans h7 hg.size⟩
  · rcases hr r e with h | h
    · exact h3 r hv h
    · have := (h2.row.lt r hv).1; omega
  · rcases hr r e with h | h
    · obtain ⟨x, hx, rfl⟩ := List.mem_map.1 hu
      exact h4 x hx r hv h
    · obtain ⟨i, hi⟩ := List.getElem?_of_mem hu
      have hl : i < (pre.map (fun x => neE x.1)).length := by rw [← h2.len]; exact (List.getElem?_eq_some_iff.1 hi).1
      have := ((h2.dat i u _ hi (List.getElem?_eq_getElem hl)).lt r hv).1
      omega
theorem Isl.below {w : World} {q z : Nat} {T : Nat → Prop} {pre : List LX} {W W' : World} (h : Isl w q z T pre W) (hq : w.heap.size ≤ q) (hb : Below W.heap.size W W') : Isl w q z T pre W' := by
  obtain ⟨⟨v, h1, h2, h3⟩, h4, h5, h6, h7⟩ := h
  exact ⟨⟨v, (hb.block _ h1.lt).trans h1, h2.below hb, h3⟩, h4, h5.trans (hb.mono (by have := h1.lt; omega)), fun r h => ⟨(h6 r h).1, Nat.lt_of_lt_of_le (h6 r h).2 hb.size⟩, Nat.le_trans h7 hb.size⟩
/-- The Data of an element that is told now is none of those that came before. -/
theorem Isl.fresh {w : World} {q z : Nat} {T : Nat → Prop} {pre : List LX} {W0 W : World} {L : List EntL} {x : LX} (h : Isl w q z T pre W0) (ok : OkL L z T pre x W0 W) (i : Nat) (u' : Value) (b : Nat) (hu : (pre.map (·.2.1))[i]? = some u') (hb : u'.ownBlock = some b) : x.2.1.ownBlock ≠ some b := fun e => by
  obtain ⟨v, _, h2, _⟩ := h.row
  have hi : i < (pre.map (·.2.1)).length := (List.getElem?_eq_some_iff.1 hu).1
  have hl : i < (pre.map (fun x => neE x.1)).length := by rw [← h2.len]; exact hi
  have h3 := ((h2.dat i u' _ hu (List.getElem?_eq_getElem hl)).lt b hb).2
  have hd := ok.data
  rw [if_neg (by rw [List.length_map] at hi; omega)] at hd
  have := (hd.lt b e).1
  omega
set_option maxRecDepth 100000 in
set_option maxHeartbeats 4000000 in
theorem implLS_any (v : Value) (zs : List Int) (L : List EntL) (w : World) (hL : ScE none zs L) (h : Rd .u8 w v zs) (hbd : ∀ z ∈ zs, 0 ≤ z ∧ z < 256) (hz : zs.length ≤ 1048576) :
    Calls Tryz.prog 12 #[v] w fun e w' => ∃ v' vs, e = .returned v' ∧ OwnN w' w.heap.size 45 8 v' (L.map neE) vs ∧ Below w.heap.size w w' := by
  obtain ⟨a, cap, rfl⟩ : ∃ a cap, v = .slice a zs.length cap := by obtain ⟨a, cap, h1, _⟩ := h; exact ⟨a, cap, h1⟩
  obtain ⟨i0, hi, hz0, hz1, hz2⟩ := info_parts infoLEy
  have hLk : L.length * 45 ≤ 1048576 := by have := hL.len; omega
  have HG := hide (And.intro h (And.intro hbd hL))
  clear h hbd hL
  refine (callsIn_wide (n := 6)).1 ?_
  refine callsIn_of_wp_marks Tryz.func12 rfl trivial ?_ rfl
  simp only [Tryz.ntmps12, List.size_toArray, List.length_cons, List.length_nil, Nat.reduceAdd, Nat.reduceSub, Array.replicate_succ, Array.replicate_zero, List.push_toArray, List.append_toArray, List.nil_append, List.cons_append]
  gi_wp2_with (refine ⟨trivial, ?_⟩; gi_at_call 35; fail)
  refine ⟨trivial, ?_⟩
  refine (records_in _ _ _ a zs.length cap rfl).mono ?_
  rintro e w' ⟨rfl, rfl⟩
  obtain ⟨WL, hWL⟩ : ∃ WL, WL = ((w.alloc (.cells #[.slice none 0 0] 40)).alloc (.cells #[.slice a zs.length cap] 22)) := ⟨_, rfl⟩
  have hs : WL.heap.size = w.heap.size + 2 := by rw [hWL]; simp
  have bL : Below w.heap.size w WL := by rw [hWL]; exact ((Below.refl _ w).alloc (Nat.le_refl _) _).alloc (by simp) _
  have bV : Boxed WL w.heap.size 40 (.slice none 0 0) := by rw [hWL]; exact (Boxed.new w _ _).alloc _
  have bX : Boxed WL (w.heap.size + 1) 22 (.slice a zs.length cap) := by
    have h := Boxed.new (w.alloc (.cells #[.slice none 0 0] 40)) 22 (.slice a zs.length cap)
    rw [World.size_alloc] at h
    rw [hWL]; exact h
  gi_wp2
  rw [← hWL]
  have HWL := hide (And.intro bL (And.intro bV bX))
  have HS := hide hs
  clear hWL bL bV bX hs
  refine wpIn_rangeGoes (α := LX) rfl (by decide) (gf := 46) (lb := #[.pointer (some ⟨w.heap.size + 1, 0, none⟩)]) rfl trivial (enters_of Tryz.func46 (by kernel_rfl) rfl) (encs := LX.enc) (n₀ := w.heap.size) (Ok := OkL L (WL.heap.size + 2)) (S := fun xs => xs.map (·.1) = L) (Sp := fun _ => True) (by have := HS.out; omega)
    (fun W1 hb1 hs1 => by
      have := records1_goes 5 (by omega) (w.heap.size + 1) a cap zs L HG.out.2.2 HG.out.2.1 hz w W1 ((hb1.block _ (by have := HS.out; omega)).trans HWL.out.2.2) HG.out.1 (HWL.out.1.trans (hb1.mono (by have := HS.out; omega)))
      rw [hs1] at this
      exact this)
    (fun _ => rfl) (Isl w w.heap.size (WL.heap.size + 2)) (fun _ _ _ _ => False) (Isl.abides (Nat.le_refl _) (by have := HS.out; omega) (by omega)) (fun _ _ _ _ _ _ hf => hf.elim) ?start
    (fun T pre x W0 a' W => ∃ c, a' = { tmps := #[.slice a zs.length cap, undef, .slice none 0 0, .pointer (some ⟨w.heap.size, 0, none⟩), .pointer (some ⟨c, 0, none⟩), .slice a zs.length cap, .func (.func 46) #[] #[.pointer (some ⟨w.heap.size + 1, 0, none⟩)], .agg x.cells, undef, undef, undef, undef, undef, undef], defers := [] } ∧ Blk W c x.cells 72 ∧ Isl w w.heap.size (WL.heap.size + 2) T pre W ∧ OkL L (WL.heap.size + 2) T pre x W0 W ∧ Isl w w.heap.size (WL.heap.size + 2) T pre W0 ∧ WL.heap.size + 2 ≤ c) ?ax ?assign ?body ?done ?stop
  case start =>
    intro T W' hb hsz hT
    exact ⟨⟨_, (hb.block _ (by have := HS.out; omega)).trans HWL.out.2.1, OwnN.nil _ _ _ _, fun k hk => by cases hk⟩, fun x hx => (by cases hx), HWL.out.1.trans (hb.mono (by have := HS.out; omega)), hT, hsz⟩
  case ax =>
    rintro T pre x W0 a' A B ⟨c, h1, h2, h3, h4, h5, h6⟩ hg hr
    exact ⟨c, h1, (hg.block c h2.lt (fun e => by injection e with e; omega)).trans h2, Isl.abides (r0 := WL.heap.size + 1) (Nat.le_refl _) (by have := HS.out; omega) (by omega) T pre A B _ h3 hg (fun r e => by cases e; exact .inr rfl), h4.bare hg hr, h5, h6⟩
  case assign =>
    intro l T pre x W0 W K hT i0' i1 ok hK
    obtain ⟨⟨xn, xK, xA, xB, xU, xG, xp, xq, xs⟩, xd, xr⟩ := x
    obtain ⟨da, dc, rfl⟩ : ∃ da dc, xd = .slice da xs.length dc := own_shapeL ok.data
    obtain ⟨ra, rn, rc, rfl⟩ : ∃ ra rn rc, xr = .slice ra rn rc := by obtain ⟨x1, x2, h1, _⟩ := ok.raw; exact ⟨x1, _, x2, h1⟩
    have HL := hide (logC_one (xn : Int) xK xA xB xU xG xp xq da xs.length dc ra rn rc)
    have HLs := hide (show (logC (xn : Int) xK xA xB xU xG xp xq (.slice da xs.length dc) (.slice ra rn rc)).size = 10 from rfl)
    have HI := hide (And.intro i1 (And.intro ok (And.intro hK i0')))
    clear i0' i1 ok hK
    simp only [LX.enc, LX.cells]
    obtain ⟨C, hC⟩ : ∃ C, C = logC (xn : Int) xK xA xB xU xG xp xq (.slice da xs.length dc) (.slice ra rn rc) := ⟨_, rfl⟩
    rw [← hC] at HL HLs ⊢
    have HC := hide hC
    clear hC
    gi_wp2_with (first | (refine wpListIn_store_new W.heap.size W rfl 72 _ _ rfl W.heap.size C rfl rfl 72 _ (Blk.new W _ _) (by rw [HLs.out]; exact infoLg) (by rw [HLs.out]; rfl) HL.out ((Below.refl _ _).alloc (Nat.le_refl _) _) (Nat.le_refl _) ?_; intro w2 k2 b2) | fail)
    exact HI.out.2.2.1 _ _ (keeps_below b2) (kpT_below b2 (by have := HI.out.1.size; have := HS.out; omega) (fun r hr => (HI.out.1.far r hr).2)) ⟨W.heap.size, by rw [HC.out]; rfl, by rw [HC.out] at k2; exact k2, HI.out.1.below (Nat.le_refl _) b2, HI.out.2.1.below b2, HI.out.2.2.2, HI.out.1.size⟩
  case body =>
    rintro l T pre ⟨⟨xn, xK, xA, xB, xU, xG, xp, xq, xs⟩, xd, xr⟩ W0 a' W hT ⟨c, rfl, kC, i1, ok, i0', hzc⟩
    obtain ⟨da, dc, rfl⟩ : ∃ da dc, xd = .slice da xs.length dc := own_shapeL ok.data
    obtain ⟨lv, hlv, hown, hlT⟩ := i1.row
    have hpl : (pre.map (fun x => neE x.1)).length = pre.length := List.length_map ..
    obtain ⟨la, lc, hlf⟩ := own_shape hown.row
    rw [hpl] at hlf
    subst hlf
    have hrow : W.ownsRow (WL.heap.size + 2) 45 9 (.slice la pre.length lc) pre.length (cellsN (pre.map (·.2.1)) (pre.map (fun x => neE x.1))) := by
      have := hown.row
      rw [hpl] at this
      exact this
    have hlen : pre.length < L.length := (List.getElem?_eq_some_iff.1 ok.here).1
    have kL := hlv.cell
    have HRg := hide (show W.rangeAt c 0 [.int .i64 (xn : Int), .int .i64 xK, .int .i64 xA, .int .i64 xB, .int .i64 xU, .int .i64 xG, .string xp, .string xq, .slice da xs.length dc] from fun j y hj => by
      rw [Nat.zero_add, kC.cell]
      match j, hj with
      | 0, hj => exact hj
      | 1, hj => exact hj
      | 2, hj => exact hj
      | 3, hj => exact hj
      | 4, hj => exact hj
      | 5, hj => exact hj
      | 6, hj => exact hj
      | 7, hj => exact hj
      | 8, hj => exact hj
      | n + 9, hj => simp at hj)
    have HI := hide (And.intro i1 (And.intro ok (And.intro i0' (And.intro hlv (And.intro hrow (And.intro hlT hown))))))
    clear i1 ok kC hlv hrow hlT i0' hown hpl
    gi_wp2_with (first
      | (refine wpListIn_load_mid rfl 45 _ rfl c 0 rfl [.int .i64 (xn : Int), .int .i64 xK, .int .i64 xA, .int .i64 xB, .int .i64 xU, .int .i64 xG, .string xp, .string xq, .slice da xs.length dc] _ HRg.out Tryz.underlying45 rfl infoLEx ?_)
      | (refine wpListIn_build1 rfl 40 45 _ rfl #[.int .i64 (xn : Int), .int .i64 xK, .int .i64 xA, .int .i64 xB, .int .i64 xU, .int .i64 xG, .string xp, .string xq, .slice da xs.length dc] rfl i0 _ Tryz.underlying40 hi hz0 hz1 (by decide) (by decide) ?_)
      | (gi_at_builtin; (refine wpListIn_append_own_at _ rfl (.tmp 8) (.tmp 11) 40 rfl (WL.heap.size + 2) 45 i0 (.agg #[.int .i64 0, .int .i64 0, .int .i64 0, .int .i64 0, .int .i64 0, .int .i64 0, .string ⟨#[]⟩, .string ⟨#[]⟩, .slice none 0 0]) 9 104 Tryz.underlying40 hi hz0 hz1 hz2 rfl (by decide) (.slice la pre.length lc) pre.length _ rfl (HI.out.2.2.2.2.1.alloc _) ⟨W.heap.size, 0, none⟩ 1 1 [.int .i64 (xn : Int), .int .i64 xK, .int .i64 xA, .int .i64 xB, .int .i64 xU, .int .i64 xG, .string xp, .string xq, .slice da xs.length dc] rfl rfl (newLi W _ _) (oneEi _ _ _ _ _ _ _ _ _ _ _) (by unfold maxLen; omega) (by omega) (by have := HI.out.1.size; simp; omega) ?_; intro v' w1 o1 g1 _ a1; obtain ⟨va, vc, rfl⟩ := own_shapeL o1; have H1 := hide (And.intro o1 (And.intro g1 a1)); have b1 := (HI.out.2.2.2.1.alloc (.cells #[.int .i64 (xn : Int), .int .i64 xK, .int .i64 xA, .int .i64 xB, .int .i64 xU, .int .i64 xG, .string xp, .string xq, .slice da xs.length dc] 45)).kept g1 (HI.out.2.2.2.1.not_row (by decide) HI.out.2.2.2.2.1); have kL1 := b1.cell; have fL1 := b1.frozen; have HB1 := hide b1; clear o1 g1 a1 b1))
      | fail)
    have g2 := grownBy_setCell' w1 w.heap.size (.slice va (pre.length + 1) vc)
    have hs1 := H1.out.2.1.size
    rw [World.size_alloc] at hs1
    have hsz := HI.out.1.size
    have hso := HI.out.1.old.size
    have hS := HS.out
    have hrw : ∀ k, (Value.slice la pre.length lc).ownBlock = some k → WL.heap.size + 2 ≤ k := fun k e => (HI.out.2.2.2.2.1.lt k e).1
    have bA : Below W.heap.size W (W.alloc (.cells #[.int .i64 (xn : Int), .int .i64 xK, .int .i64 xA, .int .i64 xB, .int .i64 xU, .int .i64 xG, .string xp, .string xq, .slice da xs.length dc] 45)) := (Below.refl _ _).alloc (Nat.le_refl _) _
    have hB : Below w.heap.size W (w1.setCell ⟨w.heap.size, 0, none⟩ (.slice va (pre.length + 1) vc)) := ((bA.mono hso).grown H1.out.2.1 (by simp; omega) (fun k e => by have := hrw k e; omega)).setCell (p := ⟨w.heap.size, 0, none⟩) (Nat.le_refl _) _
    have hbase : WL.heap.size + 2 ≤ (if pre.length = 0 then WL.heap.size + 2 else W0.heap.size) := by
      have := HI.out.2.2.1.size
      split <;> omega
    have hP : OwnN w1 (WL.heap.size + 2) 45 8 (.slice va (pre.length + 1) vc) (pre.map (fun x => neE x.1) ++ [neE ⟨xn, xK, xA, xB, xU, xG, xp, xq, xs⟩]) (pre.map (·.2.1) ++ [.slice da xs.length dc]) :=
      (HI.out.2.2.2.2.2.2.below bA).push (by decide) (neE ⟨xn, xK, xA, xB, xU, xG, xp, xq, xs⟩) (.slice da xs.length dc) rfl (own_below (own_mono HI.out.2.1.data hbase) bA) (HI.out.2.2.1.fresh HI.out.2.1) (by rw [List.length_map]; exact H1.out.1) H1.out.2.1
    refine ⟨(((KeepsOthers.alloc W _).trans (keeps_row (HI.out.2.2.2.2.1.alloc _) H1.out.2.1)).trans (KeepsOthers.setCell _ _ _)).from _, ⟨hB, fun r hr => ?_⟩, ⟨⟨_, HB1.out.set _, ?_, ?_⟩, fun y hy k hk => ?_, HI.out.1.old.trans hB, fun r hr => ⟨(HI.out.1.far r hr).1, ?_⟩, ?_⟩⟩
    · have hr1 := HI.out.1.far r hr
      exact (Below.heap_setCell w1 ⟨w.heap.size, 0, none⟩ _ r (by show r ≠ w.heap.size; omega)).trans ((H1.out.2.1.block r (by simp; omega) (fun e => HI.out.2.2.2.2.2.1 r e.symm hr)).trans (bA.block r hr1.2))
    · rw [List.map_append, List.map_append]
      refine hP.keptN g2 (fun r e hv => ?_) (fun r e u hu hv => ?_)
      · cases e
        have := (hP.row.lt _ hv).1
        omega
      · cases e
        obtain ⟨i, hi⟩ := List.getElem?_of_mem hu
        have hl : i < (pre.map (fun x => neE x.1) ++ [neE ⟨xn, xK, xA, xB, xU, xG, xp, xq, xs⟩]).length := by rw [← hP.len]; exact (List.getElem?_eq_some_iff.1 hi).1
        have := ((hP.dat i u _ hi (List.getElem?_eq_getElem hl)).lt _ hv).1
        omega
    · intro k hk hT'
      rcases H1.out.2.2 with h | h
      · rw [h] at hk
        exact HI.out.2.2.2.2.2.1 k hk hT'
      · rw [h] at hk
        injection hk with hk
        have := (HI.out.1.far k hT').2
        simp at hk
        omega
    · rcases List.mem_append.1 hy with hy | hy
      · exact HI.out.1.dat y hy k hk
      · rw [List.mem_singleton] at hy
        subst hy
        exact HI.out.2.1.apart k hk
    · have := (HI.out.1.far r hr).2
      show r < (w1.setCell _ _).heap.size
      simp
      omega
    · show WL.heap.size + 2 ≤ (w1.setCell _ _).heap.size
      simp
      omega
  case done =>
    rintro T ys W hys hI hK
    obtain ⟨lv, hlv, hown, _⟩ := hI.row
    have hown' : OwnN W (WL.heap.size + 2) 45 8 lv (L.map neE) (ys.map (·.2.1)) := by
      rw [← hys, List.map_map]
      exact hown
    have hll : (L.map neE).length = L.length := List.length_map ..
    obtain ⟨la, lc, hlf⟩ := own_shape hown'.row
    rw [hll] at hlf
    subst hlf
    have kL := hlv.cell
    have HI := hide (And.intro hI.old (And.intro hown' hK))
    clear hI hown hown' hK hlv hys hll
    gi_wp2
    refine ⟨by simp, .inl ⟨_, _, rfl, run_takeDeferred HI.out.2.2, ?_⟩⟩
    refine ⟨_, results_tmp rfl _ _ _, _, ys.map (·.2.1), rfl, ?_, ?_⟩
    · have hS := HS.out
      refine OwnN.mono (HI.out.2.1.keptN (grownBy_putObj' W WL.heap.size (.deferred none)) (fun r e hv => ?_) (fun r e u hu hv => ?_)) (by omega)
      · cases e
        have := (HI.out.2.1.row.lt _ hv).1
        omega
      · cases e
        obtain ⟨i, hi⟩ := List.getElem?_of_mem hu
        have hl : i < (L.map neE).length := by rw [← HI.out.2.1.len]; exact (List.getElem?_eq_some_iff.1 hi).1
        have := ((HI.out.2.1.dat i u _ hi (List.getElem?_eq_getElem hl)).lt _ hv).1
        omega
    · exact HI.out.1.trans (belowK_b (w := w) (Nat.le_refl _) W WL.heap.size _ (.deferred none) (by have := HS.out; omega) HI.out.2.2 rfl rfl)
  case stop =>
    intro T c pre W _ h
    exact h.elim
end Go.Proofs.YtohmjfagbhnieaaGreatDoor

namespace Go.Proofs.YtohmjfagbhnieaaGreatDoor
set_option linter.unusedVariables false
set_option linter.unusedSimpArgs false
open Go.RowKit Go.Shelf
attribute [local go_sem] Oper.semAt_some

set_option maxRecDepth 100000 in
set_option maxHeartbeats 4000000 in
theorem implLD_any (v : Value) (zs : List Int) (u : Int) (L : List EntL) (w : World) (hL : ScE none zs L) (h : Rd .u8 w v zs) (hbd : ∀ z ∈ zs, 0 ≤ z ∧ z < 256) (hz : zs.length ≤ 1048576) :
    Calls Tryz.prog 16 #[v, .int .i64 u] w fun e w' => ∃ v', e = .returned v' ∧ w'.ownsRow w.heap.size 5 1 v' (keepB u L).length ((keepB u L).map (Value.int .u8)) ∧ Below w.heap.size w w' := by
  obtain ⟨a, cap, rfl⟩ : ∃ a cap, v = .slice a zs.length cap := by obtain ⟨a, cap, h1, _⟩ := h; exact ⟨a, cap, h1⟩
  obtain ⟨i0, hi, hz0, hz1, hz2⟩ := info_parts infoU8
  have HG := hide (And.intro h (And.intro hbd hL))
  clear h hbd hL
  refine (callsIn_wide (n := 6)).1 ?_
  refine callsIn_of_wp_marks Tryz.func16 rfl trivial ?_ rfl
  simp only [Tryz.ntmps16, List.size_toArray, List.length_cons, List.length_nil, Nat.reduceAdd, Nat.reduceSub, Array.replicate_succ, Array.replicate_zero, List.push_toArray, List.append_toArray, List.nil_append, List.cons_append]
  gi_wp2_with (refine ⟨trivial, ?_⟩; gi_at_call 35; fail)
  refine ⟨trivial, ?_⟩
  refine (records_in _ _ _ a zs.length cap rfl).mono ?_
  rintro e w' ⟨rfl, rfl⟩
  obtain ⟨WL, hWL⟩ : ∃ WL, WL = (((w.alloc (.cells #[.int .i64 u] 3)).alloc (.cells #[.slice none 0 0] 22)).alloc (.cells #[.slice a zs.length cap] 22)) := ⟨_, rfl⟩
  have hs : WL.heap.size = w.heap.size + 3 := by rw [hWL]; simp
  have bL : Below w.heap.size w WL := by rw [hWL]; exact (((Below.refl _ w).alloc (Nat.le_refl _) _).alloc (by simp) _).alloc (by simp; omega) _
  have bU : Boxed WL w.heap.size 3 (.int .i64 u) := by rw [hWL]; exact ((Boxed.new w _ _).alloc _).alloc _
  have bV : Boxed WL (w.heap.size + 1) 22 (.slice none 0 0) := by
    have h := Boxed.new (w.alloc (.cells #[.int .i64 u] 3)) 22 (.slice none 0 0)
    rw [World.size_alloc] at h
    rw [hWL]; exact h.alloc _
  have bX : Boxed WL (w.heap.size + 2) 22 (.slice a zs.length cap) := by
    have h := Boxed.new ((w.alloc (.cells #[.int .i64 u] 3)).alloc (.cells #[.slice none 0 0] 22)) 22 (.slice a zs.length cap)
    rw [World.size_alloc, World.size_alloc] at h
    rw [hWL]; exact h
  gi_wp2
  rw [← hWL]
  have HWL := hide (And.intro bL (And.intro bU (And.intro bV bX)))
  have HS := hide hs
  clear hWL bL bU bV bX hs
  refine wpIn_rangeGoes (α := LX) rfl (by decide) (gf := 46) (lb := #[.pointer (some ⟨w.heap.size + 2, 0, none⟩)]) rfl trivial (enters_of Tryz.func46 (by kernel_rfl) rfl) (encs := LX.enc) (n₀ := w.heap.size) (Ok := OkL L (WL.heap.size + 2)) (S := fun xs => xs.map (·.1) = L) (Sp := fun _ => True) (by have := HS.out; omega)
    (fun W1 hb1 hs1 => by
      have := records1_goes 5 (by omega) (w.heap.size + 2) a cap zs L HG.out.2.2 HG.out.2.1 hz w W1 ((hb1.block _ (by have := HS.out; omega)).trans HWL.out.2.2.2) HG.out.1 (HWL.out.1.trans (hb1.mono (by have := HS.out; omega)))
      rw [hs1] at this
      exact this)
    (fun _ => rfl) (Idr w u w.heap.size (WL.heap.size + 2)) (fun _ _ _ _ => False) (Idr.abides (Nat.le_refl _) (by have := HS.out; omega) (by omega)) (fun _ _ _ _ _ _ hf => hf.elim) ?start
    (fun T pre x W0 a' W => ∃ c, a' = { tmps := #[.slice a zs.length cap, .int .i64 u, undef, .pointer (some ⟨w.heap.size, 0, none⟩), .slice none 0 0, .pointer (some ⟨w.heap.size + 1, 0, none⟩), .pointer (some ⟨c, 0, none⟩), .slice a zs.length cap, .func (.func 46) #[] #[.pointer (some ⟨w.heap.size + 1 + 1, 0, none⟩)], .agg x.cells, undef, undef, undef, undef, undef, undef, undef, undef, undef, undef], defers := [] } ∧ Blk W c x.cells 72 ∧ Idr w u w.heap.size (WL.heap.size + 2) T pre W ∧ OkL L (WL.heap.size + 2) T pre x W0 W ∧ ¬ T c ∧ WL.heap.size + 2 ≤ c) ?ax ?assign ?body ?done ?stop
  case start =>
    intro T W' hb hsz hT
    exact ⟨⟨_, (hb.block _ (by have := HS.out; omega)).trans HWL.out.2.2.1, World.ownsRow_nil _ _ _ _, fun k hk => by cases hk⟩, (hb.block _ (by have := HS.out; omega)).trans HWL.out.2.1, HWL.out.1.trans (hb.mono (by have := HS.out; omega)), hT, hsz⟩
  case ax =>
    rintro T pre x W0 a' A B ⟨c, h1, h2, h3, h4, h5, h6⟩ hg hr
    exact ⟨c, h1, (hg.block c h2.lt (fun e => by injection e with e; omega)).trans h2, Idr.abides (r0 := WL.heap.size + 1) (Nat.le_refl _) (by have := HS.out; omega) (by omega) T pre A B _ h3 hg (fun r e => by cases e; exact .inr rfl), h4.bare hg hr, h5, h6⟩
  case assign =>
    intro l T pre x W0 W K hT i0 i1 ok hK
    obtain ⟨⟨xn, xK, xA, xB, xU, xG, xp, xq, xs⟩, xd, xr⟩ := x
    obtain ⟨da, dc, rfl⟩ : ∃ da dc, xd = .slice da xs.length dc := own_shapeL ok.data
    obtain ⟨ra, rn, rc, rfl⟩ : ∃ ra rn rc, xr = .slice ra rn rc := by obtain ⟨x1, x2, h1, _⟩ := ok.raw; exact ⟨x1, _, x2, h1⟩
    have HL := hide (logC_one (xn : Int) xK xA xB xU xG xp xq da xs.length dc ra rn rc)
    have HLs := hide (show (logC (xn : Int) xK xA xB xU xG xp xq (.slice da xs.length dc) (.slice ra rn rc)).size = 10 from rfl)
    have HI := hide (And.intro i1 (And.intro ok hK))
    clear i0 i1 ok hK
    simp only [LX.enc, LX.cells]
    obtain ⟨C, hC⟩ : ∃ C, C = logC (xn : Int) xK xA xB xU xG xp xq (.slice da xs.length dc) (.slice ra rn rc) := ⟨_, rfl⟩
    rw [← hC] at HL HLs ⊢
    have HC := hide hC
    clear hC
    gi_wp2_with (first | (refine wpListIn_store_new W.heap.size W rfl 72 _ _ rfl W.heap.size C rfl rfl 72 _ (Blk.new W _ _) (by rw [HLs.out]; exact infoLg) (by rw [HLs.out]; rfl) HL.out ((Below.refl _ _).alloc (Nat.le_refl _) _) (Nat.le_refl _) ?_; intro w2 k2 b2) | fail)
    exact HI.out.2.2 _ _ (keeps_below b2) (kpT_below b2 (by have := HI.out.1.size; have := HS.out; omega) (fun r hr => (HI.out.1.far r hr).2)) ⟨W.heap.size, by rw [HC.out]; rfl, by rw [HC.out] at k2; exact k2, HI.out.1.below (Nat.le_refl _) b2, HI.out.2.1.below b2, (fun h => by have := (HI.out.1.far _ h).2; omega), HI.out.1.size⟩
  case body =>
    rintro l T pre ⟨⟨xn, xK, xA, xB, xU, xG, xp, xq, xs⟩, xd, xr⟩ W0 a' W hT ⟨c, rfl, kC, i1, ok, hTc, hzc⟩
    obtain ⟨ra, rn, rc, rfl⟩ : ∃ ra rn rc, xr = .slice ra rn rc := by obtain ⟨x1, x2, h1, _⟩ := ok.raw; exact ⟨x1, _, x2, h1⟩
    obtain ⟨lv, hlv, hrow, hlT⟩ := i1.row
    obtain ⟨la, lc, rfl⟩ := own_shapeL hrow
    have k0 : W.cell? ⟨c, 0, none⟩ = some (.int .i64 (xn : Int)) := (kC.cell 0).trans rfl
    have k9 : W.cell? ⟨c, 9, none⟩ = some (.slice ra rn rc) := (kC.cell 9).trans rfl
    have kU := i1.upto.cell
    have kL := hlv.cell
    have HI := hide (And.intro i1 (And.intro ok (And.intro kC (And.intro hlv (And.intro hrow hlT)))))
    clear i1 ok kC hlv hrow hlT
    by_cases hgt : u < (xn : Int)
    · have hgt' : (xn : Int) > u := hgt
      have hraw : Rd .u8 W (.slice ra rn rc) (EntL.raw ⟨xn, xK, xA, xB, xU, xG, xp, xq, xs⟩) := HI.out.2.1.raw
      obtain ⟨bd, off, cp, e1, hbd, _, _, hcell⟩ := hraw.partsC (by have := raw_pos ⟨xn, xK, xA, xB, xU, xG, xp, xq, xs⟩; omega)
      clear hraw
      injection e1 with e1 e2 e3
      subst e1 e2 e3
      have HK := hide (show keepB u ((pre ++ [((⟨xn, xK, xA, xB, xU, xG, xp, xq, xs⟩, xd, .slice (some ⟨bd, off, none⟩) (EntL.raw ⟨xn, xK, xA, xB, xU, xG, xp, xq, xs⟩).length rc) : LX)]).map (·.1)) = keepB u (pre.map (·.1)) ++ EntL.raw ⟨xn, xK, xA, xB, xU, xG, xp, xq, xs⟩ from by
        rw [List.map_append, List.map_singleton, keepB_snoc, if_pos hgt])
      have HT := hide (show (keepB u (pre.map (·.1)) ++ EntL.raw ⟨xn, xK, xA, xB, xU, xG, xp, xq, xs⟩).length ≤ 1048576 from by
        rw [← HK.out]
        have hp : (pre ++ [((⟨xn, xK, xA, xB, xU, xG, xp, xq, xs⟩, xd, .slice (some ⟨bd, off, none⟩) (EntL.raw ⟨xn, xK, xA, xB, xU, xG, xp, xq, xs⟩).length rc) : LX)]).map (·.1) = L.take (pre ++ [((⟨xn, xK, xA, xB, xU, xG, xp, xq, xs⟩, xd, .slice (some ⟨bd, off, none⟩) (EntL.raw ⟨xn, xK, xA, xB, xU, xG, xp, xq, xs⟩).length rc) : LX)]).length := (take_snoc HI.out.2.1.same HI.out.2.1.here).1
        rw [hp]
        have h1 := keepB_len u (L.take (pre ++ [((⟨xn, xK, xA, xB, xU, xG, xp, xq, xs⟩, xd, .slice (some ⟨bd, off, none⟩) (EntL.raw ⟨xn, xK, xA, xB, xU, xG, xp, xq, xs⟩).length rc) : LX)]).length)
        have h2 := flat_take L (pre ++ [((⟨xn, xK, xA, xB, xU, xG, xp, xq, xs⟩, xd, .slice (some ⟨bd, off, none⟩) (EntL.raw ⟨xn, xK, xA, xB, xU, xG, xp, xq, xs⟩).length rc) : LX)]).length
        have h3 := HG.out.2.2.tot
        omega)
      have HCl := hide hcell
      clear hcell
      generalize EntL.raw ⟨xn, xK, xA, xB, xU, xG, xp, xq, xs⟩ = RW at HK HT HCl HI k9 ⊢
      gi_wp2_with (first
        | (gi_at_builtin; (refine wpListIn_append_own_at _ rfl (.tmp 15) (.tmp 17) 22 rfl (WL.heap.size + 2) 5 i0 (.int .u8 0) 1 1 Tryz.underlying22 hi hz0 hz1 hz2 rfl (by decide) _ _ _ rfl HI.out.2.2.2.2.1 ⟨bd, off, none⟩ RW.length rc (RW.map (Value.int .u8)) rfl (by simp) ?_ (ints_oneCell _ _) (by have := HT.out; rw [List.length_append] at this; unfold maxLen; omega) (by have := HT.out; rw [List.length_append] at this; omega) HI.out.1.size ?_; (intro j uu hj; rw [Addr.add_mid]; have hjl : j < RW.length := (by rcases Nat.lt_or_ge j RW.length with h | h; exact h; rw [List.getElem?_eq_none (by simpa using h)] at hj; cases hj); rw [HCl.out j hjl]; rw [List.getElem?_map, List.getElem?_eq_getElem hjl] at hj; simp at hj; rw [← hj]; simp [List.getD, hjl]); intro v' w1 o1 g1 _ a1; obtain ⟨va, vc, rfl⟩ := own_shapeL o1; have H1 := hide (And.intro o1 (And.intro g1 a1)); have b1 := HI.out.2.2.2.1.kept g1 (HI.out.2.2.2.1.not_row (by decide) HI.out.2.2.2.2.1); have kL1 := b1.cell; have fL1 := b1.frozen; have HB1 := hide b1; clear o1 g1 a1 b1))
        | fail)
      have g2 := grownBy_setCell' w1 (w.heap.size + 1) (.slice va ((keepB u (pre.map (·.1))).length + RW.length) vc)
      have hs1 := H1.out.2.1.size
      have hsz := HI.out.1.size
      have hso := HI.out.1.old.size
      have hS := HS.out
      have hrw : ∀ k, (Value.slice la (keepB u (pre.map (·.1))).length lc).ownBlock = some k → WL.heap.size + 2 ≤ k := fun k e => (HI.out.2.2.2.2.1.lt k e).1
      have hB : Below w.heap.size W (w1.setCell ⟨w.heap.size + 1, 0, none⟩ (.slice va ((keepB u (pre.map (·.1))).length + RW.length) vc)) := ((Below.refl w.heap.size W).grown H1.out.2.1 hso (fun k e => by have := hrw k e; omega)).setCell (p := ⟨w.heap.size + 1, 0, none⟩) (by show w.heap.size ≤ w.heap.size + 1; omega) _
      refine ⟨((keeps_row HI.out.2.2.2.2.1 H1.out.2.1).trans (KeepsOthers.setCell _ _ _)).from _, ⟨hB, fun r hr => ?_⟩, ⟨⟨_, HB1.out.set _, ?_, ?_⟩, ?_, HI.out.1.old.trans hB, fun r hr => ⟨(HI.out.1.far r hr).1, ?_⟩, ?_⟩⟩
      · have hr1 := HI.out.1.far r hr
        exact (Below.heap_setCell w1 ⟨w.heap.size + 1, 0, none⟩ _ r (by show r ≠ w.heap.size + 1; omega)).trans (H1.out.2.1.block r hr1.2 (fun e => HI.out.2.2.2.2.2 r e.symm hr))
      · rw [HK.out, List.length_append, List.map_append]
        exact H1.out.1.kept g2 (.inr (HB1.out.not_row (by decide) H1.out.1).symm)
      · intro k hk hT'
        rcases H1.out.2.2 with h | h
        · rw [h] at hk
          exact HI.out.2.2.2.2.2 k hk hT'
        · rw [h] at hk
          injection hk with hk
          have := (HI.out.1.far k hT').2
          omega
      · exact (HI.out.1.upto.kept H1.out.2.1 (HI.out.1.upto.not_row (by decide) HI.out.2.2.2.2.1)).other (by omega) _
      · have := (HI.out.1.far r hr).2
        show r < (w1.setCell _ _).heap.size
        simp
        omega
      · show WL.heap.size + 2 ≤ (w1.setCell _ _).heap.size
        simp
        omega
    · have HK := hide (show keepB u ((pre ++ [((⟨xn, xK, xA, xB, xU, xG, xp, xq, xs⟩, xd, .slice ra rn rc) : LX)]).map (·.1)) = keepB u (pre.map (·.1)) from by
        rw [List.map_append, List.map_singleton, keepB_snoc, if_neg hgt, List.append_nil])
      gi_wp2
      exact ⟨KeepsFrom.refl _ _, ⟨Below.refl _ _, fun _ _ => rfl⟩, ⟨⟨_, HI.out.2.2.2.1, by rw [HK.out]; exact HI.out.2.2.2.2.1, HI.out.2.2.2.2.2⟩, HI.out.1.upto, HI.out.1.old, HI.out.1.far, HI.out.1.size⟩⟩
  case done =>
    rintro T ys W hys hI hK
    obtain ⟨lv, hlv, hrow, _⟩ := hI.row
    obtain ⟨la, lc, rfl⟩ := own_shapeL hrow
    have kL := hlv.cell
    have hS := HS.out
    have HI := hide (And.intro hI.old (And.intro hrow hK))
    have HY := hide hys
    have hsW := hI.size
    clear hI hrow hK hlv hys hS
    gi_wp2
    refine ⟨by simp, .inl ⟨_, _, rfl, run_takeDeferred HI.out.2.2, ?_⟩⟩
    refine ⟨_, results_tmp rfl _ _ _, _, rfl, ?_, ?_⟩
    · rw [← HY.out]
      exact own_mono (ownsRow_putObj HI.out.2.1 _ HI.out.2.2 rfl) (by have := HS.out; omega)
    · exact HI.out.1.trans (belowK_b (w := w) (Nat.le_refl _) W WL.heap.size _ (.deferred none) (by have := HS.out; omega) HI.out.2.2 rfl rfl)
  case stop =>
    intro T c pre W _ h
    exact h.elim
end Go.Proofs.YtohmjfagbhnieaaGreatDoor
