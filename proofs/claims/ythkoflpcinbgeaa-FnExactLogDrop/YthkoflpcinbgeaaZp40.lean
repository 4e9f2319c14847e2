/- The program's LogDrop: what is known between two rounds. The program's LogDrop. -/
import Derived.Test.YthkoflpcinbgeaaZp39
import Derived.Maps.OwnIn
namespace Go.Proofs.Ythkoflpcinbgeaa
set_option linter.unusedVariables false
set_option linter.unusedSimpArgs false
open Go.RowKit Go.Shelf
attribute [local go_sem] Oper.semAt_some

/-- What a log reads as is kept when a block that holds no cells turns. -/
theorem Rd.bare {A B : World} {r : Nat} {v : Value} {zs : List Int} (h : Rd .u8 A v zs) (hg : A.grownBy B (some r)) (hr : ∃ o, A.heap[r]? = some o ∧ o.isCells = false) : Rd .u8 B v zs := by
  obtain ⟨a, cap, rfl, hm, hc, hcap⟩ := h
  refine ⟨a, cap, rfl, hm, fun hne => ?_, hcap⟩
  obtain ⟨bl, off, rfl, hlt, hcell⟩ := hc hne
  have hbl : bl ≠ r := fun e => by
    subst e
    obtain ⟨o, ho, hcc⟩ := hr
    have h0 := hcell 0 (by cases zs with | nil => exact absurd rfl hne | cons _ _ => simp)
    unfold World.cell? at h0
    simp only [ho] at h0
    cases o <;> simp [Obj.isCells] at hcc h0
  exact ⟨bl, off, rfl, Nat.lt_of_lt_of_le hlt hg.size, fun i hi => (World.cell?_of_block (a := ⟨bl, off + i, none⟩) (hg.block bl hlt (fun e => hbl (by injection e)))).trans (hcell i hi)⟩
theorem own_bare {A B : World} {r base n sz : Nat} {e : TypeId} {v : Value} {xs : List Value} (h : A.ownsRow base e sz v n xs) (hg : A.grownBy B (some r)) (hr : ∃ o, A.heap[r]? = some o ∧ o.isCells = false) : B.ownsRow base e sz v n xs := by
  refine h.kept hg ?_
  rcases h.2 with ⟨rfl, _⟩ | ⟨g, cap, cur, rfl, _, hgb, _⟩
  · exact .inl rfl
  · refine .inr fun e' => ?_
    obtain ⟨o, ho, hc⟩ := hr
    injection e' with e'
    subst e'
    rw [hgb] at ho
    cases ho
    cases hc
theorem OkL.below {L : List EntL} {z : Nat} {T : Nat → Prop} {pre : List LX} {x : LX} {W0 W1 W2 : World} (h : OkL L z T pre x W0 W1) (hb : Below W1.heap.size W1 W2) : OkL L z T pre x W0 W2 :=
  ⟨h.here, h.same, h.raw.below hb, own_below h.data hb, h.apart⟩
theorem OkL.bare {L : List EntL} {z : Nat} {T : Nat → Prop} {pre : List LX} {x : LX} {W0 A B : World} {r : Nat} (h : OkL L z T pre x W0 A) (hg : A.grownBy B (some r)) (hr : ∃ o, A.heap[r]? = some o ∧ o.isCells = false) : OkL L z T pre x W0 B :=
  ⟨h.here, h.same, h.raw.bare hg hr, own_bare h.data hg hr, h.apart⟩
/-- The bytes of the records above a number. -/
def keepB (u : Int) (L : List EntL) : List Int := ((L.filter (fun e => decide (u < (e.n : Int)))).map EntL.raw).flatten
theorem keepB_snoc (u : Int) (L : List EntL) (e : EntL) : keepB u (L ++ [e]) = keepB u L ++ (if u < (e.n : Int) then e.raw else []) := by
  unfold keepB
  by_cases h : u < (e.n : Int)
  · simp [List.filter_append, h]
  · simp [List.filter_append, h]
theorem keepB_len (u : Int) : ∀ (L : List EntL), (keepB u L).length ≤ (L.map EntL.raw).flatten.length
  | [] => by simp [keepB]
  | e :: L => by
    have := keepB_len u L
    unfold keepB at this ⊢
    by_cases h : u < (e.n : Int)
    · simp only [List.filter_cons, h, decide_true, if_true, List.map_cons, List.flatten_cons, List.length_append]; omega
    · simp only [List.filter_cons, h, decide_false, List.map_cons, List.flatten_cons, List.length_append]
      exact Nat.le_trans this (by omega)
theorem flat_take (L : List EntL) (k : Nat) : ((L.take k).map EntL.raw).flatten.length ≤ (L.map EntL.raw).flatten.length := by
  conv => rhs; rw [← List.take_append_drop k L]
  rw [List.map_append, List.flatten_append, List.length_append]
  omega
/-- Between two rounds of LogDrop: the box of the number at q, that of what is left at q + 1; rows from z on. -/
structure Idr (w : World) (u : Int) (q z : Nat) (T : Nat → Prop) (pre : List LX) (W : World) : Prop where
  row : ∃ v, Boxed W (q + 1) 22 v ∧ W.ownsRow z 5 1 v (keepB u (pre.map (·.1))).length ((keepB u (pre.map (·.1))).map (Value.int .u8)) ∧ ∀ k, v.ownBlock = some k → ¬ T k
  upto : Boxed W q 3 (.int .i64 u)
  old : Below w.heap.size w W
  far : ∀ r, T r → z ≤ r ∧ r < W.heap.size
  size : z ≤ W.heap.size
theorem Idr.abides {w : World} {u : Int} {q z r0 : Nat} (hq : w.heap.size ≤ q) (hz : q + 2 ≤ r0) (hz2 : r0 < z) (T : Nat → Prop) : AbidesOf (fun r => T r ∨ r = r0) (Idr w u q z T) := by
  rintro pre A B row ⟨⟨v, h1, h2, h3⟩, h4, h5, h6, h7⟩ hg hr
  have hr' : ∀ r, row = some r → q + 2 ≤ r := fun r e => by
    rcases hr r e with h | h
    · have := (h6 r h).1; omega
    · omega
  refine ⟨⟨v, h1.kept hg (fun e => by have := hr' _ e.symm; omega), h2.kept hg ?_, h3⟩, h4.kept hg (fun e => by have := hr' _ e.symm; omega), h5.grown hg (by have := h1.lt; omega) (fun k e => by have := hr' k e; omega), fun r h => ⟨(h6 r h).1, Nat.lt_of_lt_of_le (h6 r h).2 hg.size⟩, Nat.le_trans h7 hg.size⟩
  cases hv : v.ownBlock with
  | none => exact .inl rfl
  | some k =>
    refine .inr fun e => ?_
    rcases hr k e.symm with h | h
    · exact h3 k hv h
    · have := (h2.lt k hv).1; omega
theorem Idr.below {w : World} {u : Int} {q z : Nat} {T : Nat → Prop} {pre : List LX} {W W' : World} (h : Idr w u q z T pre W) (hq : w.heap.size ≤ q) (hb : Below W.heap.size W W') : Idr w u q z T pre W' := by
  obtain ⟨⟨v, h1, h2, h3⟩, h4, h5, h6, h7⟩ := h
  exact ⟨⟨v, (hb.block _ h1.lt).trans h1, own_below h2 hb, h3⟩, (hb.block _ h4.lt).trans h4, h5.trans (hb.mono (by have := h1.lt; omega)), fun r h => ⟨(h6 r h).1, Nat.lt_of_lt_of_le (h6 r h).2 hb.size⟩, Nat.le_trans h7 hb.size⟩
theorem keeps_below {B : Nat} {W W' : World} (hb : Below W.heap.size W W') : KeepsFrom B W W' := ⟨hb.size, fun k o _ hk _ => (hb.block k (Array.getElem?_eq_some_iff.1 hk).1).trans hk⟩
theorem kpT_below {n₀ : Nat} {T : Nat → Prop} {W W' : World} (hb : Below W.heap.size W W') (hn : n₀ ≤ W.heap.size) (hT : ∀ r, T r → r < W.heap.size) : KpT n₀ T W W' := ⟨hb.mono hn, fun r hr => hb.block r (hT r hr)⟩
theorem keeps_row {W W' : World} {base n sz : Nat} {e : TypeId} {v : Value} {xs : List Value} (h : W.ownsRow base e sz v n xs) (hg : W.grownBy W' v.ownBlock) : KeepsOthers W W' :=
  KeepsOthers.of_grownBy hg fun j o ej hj => by
    rcases h.2 with ⟨rfl, _⟩ | ⟨g, cap, cur, rfl, _, hgb, _⟩
    · simp [Value.ownBlock] at ej
    · simp [Value.ownBlock] at ej
      subst ej
      rw [hgb] at hj
      cases hj
      rfl
set_option maxHeartbeats 1000000 in
/-- records: the log is boxed; the function value captures the box. -/
theorem records_in (n : Nat) (v : Value) (w : World) (a : Option Addr) (len cap : Nat) (hv : v = .slice a len cap) :
    CallsIn Fence.wide n Try.prog 17 #[v] w fun e w' => e = .returned (.func (.func 23) #[] #[.pointer (some ⟨w.heap.size, 0, none⟩)]) ∧ w' = w.alloc (.cells #[v] 22) := by
  subst hv
  refine callsIn_of_wp Try.func17 rfl trivial ?_ rfl
  simp only [Try.ntmps17, List.size_toArray, List.length_cons, List.length_nil, Nat.reduceAdd, Nat.reduceSub, Array.replicate_succ, Array.replicate_zero, List.push_toArray, List.append_toArray, List.nil_append, List.cons_append]
  gi_wp2
  go_ret
  exact ⟨rfl, rfl⟩
end Go.Proofs.Ythkoflpcinbgeaa

namespace Go.Proofs.Ythkoflpcinbgeaa
set_option linter.unusedVariables false
set_option linter.unusedSimpArgs false
open Go.RowKit Go.Shelf
attribute [local go_sem] Oper.semAt_some

set_option maxRecDepth 100000 in
set_option maxHeartbeats 4000000 in
theorem implLD_any (v : Value) (zs : List Int) (u : Int) (L : List EntL) (w : World) (hL : Sc none zs L) (h : Rd .u8 w v zs) (hbd : ∀ z ∈ zs, 0 ≤ z ∧ z < 256) (hz : zs.length ≤ 1048576) :
    Calls Try.prog 7 #[v, .int .i64 u] w fun e w' => ∃ v', e = .returned v' ∧ w'.ownsRow w.heap.size 5 1 v' (keepB u L).length ((keepB u L).map (Value.int .u8)) ∧ Below w.heap.size w w' := by
  obtain ⟨a, cap, rfl⟩ : ∃ a cap, v = .slice a zs.length cap := by obtain ⟨a, cap, h1, _⟩ := h; exact ⟨a, cap, h1⟩
  obtain ⟨i0, hi, hz0, hz1, hz2⟩ := info_parts infoU8
  have HG := hide (And.intro h (And.intro hbd hL))
  clear h hbd hL
  refine (callsIn_wide (n := 6)).1 ?_
  refine callsIn_of_wp_marks Try.func7 rfl trivial ?_ rfl
  simp only [Try.ntmps7, List.size_toArray, List.length_cons, List.length_nil, Nat.reduceAdd, Nat.reduceSub, Array.replicate_succ, Array.replicate_zero, List.push_toArray, List.append_toArray, List.nil_append, List.cons_append]
  gi_wp2_with (refine ⟨trivial, ?_⟩; gi_at_call 17; fail)
  refine ⟨trivial, ?_⟩
  refine (records_in _ _ _ a zs.length cap rfl).mono ?_
  rintro e w' ⟨rfl, rfl⟩
  obtain ⟨WL, hWL⟩ : ∃ WL, WL = (((w.alloc (.cells #[.int .i64 u] 3)).alloc (.cells #[.slice none 0 0] 22)).alloc (.cells #[.slice a zs.length cap] 22)) := ⟨_, rfl⟩
  have hs : WL.heap.size = w.heap.size + 3 := by rw [hWL]; simp
  have bL : Below w.heap.size w WL := by rw [hWL]; exact (((Below.refl _ w).alloc (Nat.le_refl _) _).alloc (by simp) _).alloc (by simp; omega) _
  have bU : Boxed WL w.heap.size 3 (.int .i64 u) := by rw [hWL]; exact ((Boxed.new w _ _).alloc _).alloc _
  have bV : Boxed WL (w.heap.size + 1) 22 (.slice none 0 0) := by
    have h := Boxed.new (w.alloc (.cells #[.int .i64 u] 3)) 22 (.slice none 0 0)
    rw [World.size_alloc] at h
    rw [hWL]; exact h.alloc _
  have bX : Boxed WL (w.heap.size + 2) 22 (.slice a zs.length cap) := by
    have h := Boxed.new ((w.alloc (.cells #[.int .i64 u] 3)).alloc (.cells #[.slice none 0 0] 22)) 22 (.slice a zs.length cap)
    rw [World.size_alloc, World.size_alloc] at h
    rw [hWL]; exact h
  gi_wp2
  rw [← hWL]
  have HWL := hide (And.intro bL (And.intro bU (And.intro bV bX)))
  have HS := hide hs
  clear hWL bL bU bV bX hs
  refine wpIn_rangeGoes (α := LX) rfl (by decide) (gf := 23) (lb := #[.pointer (some ⟨w.heap.size + 2, 0, none⟩)]) rfl trivial (enters_of Try.func23 (by kernel_rfl) rfl) (encs := LX.enc) (n₀ := w.heap.size) (Ok := OkL L (WL.heap.size + 2)) (S := fun xs => xs.map (·.1) = L) (Sp := fun _ => True) (by have := HS.out; omega)
    (fun W1 hb1 hs1 => by
      have := records1_goes 5 (by omega) (w.heap.size + 2) a cap zs L HG.out.2.2 HG.out.2.1 hz w W1 ((hb1.block _ (by have := HS.out; omega)).trans HWL.out.2.2.2) HG.out.1 (HWL.out.1.trans (hb1.mono (by have := HS.out; omega)))
      rw [hs1] at this
      exact this)
    (fun _ => rfl) (Idr w u w.heap.size (WL.heap.size + 2)) (fun _ _ _ _ => False) (Idr.abides (Nat.le_refl _) (by have := HS.out; omega) (by omega)) (fun _ _ _ _ _ _ hf => hf.elim) ?start
    (fun T pre x W0 a' W => ∃ c, a' = { tmps := #[.slice a zs.length cap, .int .i64 u, undef, .pointer (some ⟨w.heap.size, 0, none⟩), .slice none 0 0, .pointer (some ⟨w.heap.size + 1, 0, none⟩), .pointer (some ⟨c, 0, none⟩), .slice a zs.length cap, .func (.func 23) #[] #[.pointer (some ⟨w.heap.size + 1 + 1, 0, none⟩)], .agg x.cells, undef, undef, undef, undef, undef, undef, undef, undef, undef, undef], defers := [] } ∧ Blk W c x.cells 42 ∧ Idr w u w.heap.size (WL.heap.size + 2) T pre W ∧ OkL L (WL.heap.size + 2) T pre x W0 W ∧ ¬ T c ∧ WL.heap.size + 2 ≤ c) ?ax ?assign ?body ?done ?stop
  case start =>
    intro T W' hb hsz hT
    exact ⟨⟨_, (hb.block _ (by have := HS.out; omega)).trans HWL.out.2.2.1, World.ownsRow_nil _ _ _ _, fun k hk => by cases hk⟩, (hb.block _ (by have := HS.out; omega)).trans HWL.out.2.1, HWL.out.1.trans (hb.mono (by have := HS.out; omega)), hT, hsz⟩
  case ax =>
    rintro T pre x W0 a' A B ⟨c, h1, h2, h3, h4, h5, h6⟩ hg hr
    exact ⟨c, h1, (hg.block c h2.lt (fun e => by injection e with e; omega)).trans h2, Idr.abides (r0 := WL.heap.size + 1) (Nat.le_refl _) (by have := HS.out; omega) (by omega) T pre A B _ h3 hg (fun r e => by cases e; exact .inr rfl), h4.bare hg hr, h5, h6⟩
  case assign =>
    intro l T pre x W0 W K hT i0 i1 ok hK
    obtain ⟨⟨xn, xK, xA, xB, xU, xG, xp, xq, xs⟩, xd, xr⟩ := x
    obtain ⟨da, dc, rfl⟩ : ∃ da dc, xd = .slice da xs.length dc := own_shapeL ok.data
    obtain ⟨ra, rn, rc, rfl⟩ : ∃ ra rn rc, xr = .slice ra rn rc := by obtain ⟨x1, x2, h1, _⟩ := ok.raw; exact ⟨x1, _, x2, h1⟩
    have HL := hide (logC_one (xn : Int) xK xA xB xU xG xp xq da xs.length dc ra rn rc)
    have HLs := hide (show (logC (xn : Int) xK xA xB xU xG xp xq (.slice da xs.length dc) (.slice ra rn rc)).size = 10 from rfl)
    have HI := hide (And.intro i1 (And.intro ok hK))
    clear i0 i1 ok hK
    simp only [LX.enc, LX.cells]
    obtain ⟨C, hC⟩ : ∃ C, C = logC (xn : Int) xK xA xB xU xG xp xq (.slice da xs.length dc) (.slice ra rn rc) := ⟨_, rfl⟩
    rw [← hC] at HL HLs ⊢
    have HC := hide hC
    clear hC
    gi_wp2_with (first | (refine wpListIn_store_new W.heap.size W rfl 42 _ _ rfl W.heap.size C rfl rfl 42 _ (Blk.new W _ _) (by rw [HLs.out]; exact infoLg) (by rw [HLs.out]; rfl) HL.out ((Below.refl _ _).alloc (Nat.le_refl _) _) (Nat.le_refl _) ?_; intro w2 k2 b2) | fail)
    exact HI.out.2.2 _ _ (keeps_below b2) (kpT_below b2 (by have := HI.out.1.size; have := HS.out; omega) (fun r hr => (HI.out.1.far r hr).2)) ⟨W.heap.size, by rw [HC.out]; rfl, by rw [HC.out] at k2; exact k2, HI.out.1.below (Nat.le_refl _) b2, HI.out.2.1.below b2, (fun h => by have := (HI.out.1.far _ h).2; omega), HI.out.1.size⟩
  case body =>
    rintro l T pre ⟨⟨xn, xK, xA, xB, xU, xG, xp, xq, xs⟩, xd, xr⟩ W0 a' W hT ⟨c, rfl, kC, i1, ok, hTc, hzc⟩
    obtain ⟨ra, rn, rc, rfl⟩ : ∃ ra rn rc, xr = .slice ra rn rc := by obtain ⟨x1, x2, h1, _⟩ := ok.raw; exact ⟨x1, _, x2, h1⟩
    obtain ⟨lv, hlv, hrow, hlT⟩ := i1.row
    obtain ⟨la, lc, rfl⟩ := own_shapeL hrow
    have k0 : W.cell? ⟨c, 0, none⟩ = some (.int .i64 (xn : Int)) := (kC.cell 0).trans rfl
    have k9 : W.cell? ⟨c, 9, none⟩ = some (.slice ra rn rc) := (kC.cell 9).trans rfl
    have kU := i1.upto.cell
    have kL := hlv.cell
    have HI := hide (And.intro i1 (And.intro ok (And.intro kC (And.intro hlv (And.intro hrow hlT)))))
    clear i1 ok kC hlv hrow hlT
    by_cases hgt : u < (xn : Int)
    · have hgt' : (xn : Int) > u := hgt
      have hraw : Rd .u8 W (.slice ra rn rc) (EntL.raw ⟨xn, xK, xA, xB, xU, xG, xp, xq, xs⟩) := HI.out.2.1.raw
      obtain ⟨bd, off, cp, e1, hbd, _, _, hcell⟩ := hraw.partsC (by have := raw_pos ⟨xn, xK, xA, xB, xU, xG, xp, xq, xs⟩; omega)
      clear hraw
      injection e1 with e1 e2 e3
      subst e1 e2 e3
      have HK := hide (show keepB u ((pre ++ [((⟨xn, xK, xA, xB, xU, xG, xp, xq, xs⟩, xd, .slice (some ⟨bd, off, none⟩) (EntL.raw ⟨xn, xK, xA, xB, xU, xG, xp, xq, xs⟩).length rc) : LX)]).map (·.1)) = keepB u (pre.map (·.1)) ++ EntL.raw ⟨xn, xK, xA, xB, xU, xG, xp, xq, xs⟩ from by
        rw [List.map_append, List.map_singleton, keepB_snoc, if_pos hgt])
      have HT := hide (show (keepB u (pre.map (·.1)) ++ EntL.raw ⟨xn, xK, xA, xB, xU, xG, xp, xq, xs⟩).length ≤ 1048576 from by
        rw [← HK.out]
        have hp : (pre ++ [((⟨xn, xK, xA, xB, xU, xG, xp, xq, xs⟩, xd, .slice (some ⟨bd, off, none⟩) (EntL.raw ⟨xn, xK, xA, xB, xU, xG, xp, xq, xs⟩).length rc) : LX)]).map (·.1) = L.take (pre ++ [((⟨xn, xK, xA, xB, xU, xG, xp, xq, xs⟩, xd, .slice (some ⟨bd, off, none⟩) (EntL.raw ⟨xn, xK, xA, xB, xU, xG, xp, xq, xs⟩).length rc) : LX)]).length := (take_snoc HI.out.2.1.same HI.out.2.1.here).1
        rw [hp]
        have h1 := keepB_len u (L.take (pre ++ [((⟨xn, xK, xA, xB, xU, xG, xp, xq, xs⟩, xd, .slice (some ⟨bd, off, none⟩) (EntL.raw ⟨xn, xK, xA, xB, xU, xG, xp, xq, xs⟩).length rc) : LX)]).length)
        have h2 := flat_take L (pre ++ [((⟨xn, xK, xA, xB, xU, xG, xp, xq, xs⟩, xd, .slice (some ⟨bd, off, none⟩) (EntL.raw ⟨xn, xK, xA, xB, xU, xG, xp, xq, xs⟩).length rc) : LX)]).length
        have h3 := HG.out.2.2.tot
        omega)
      have HCl := hide hcell
      clear hcell
      generalize EntL.raw ⟨xn, xK, xA, xB, xU, xG, xp, xq, xs⟩ = RW at HK HT HCl HI k9 ⊢
      gi_wp2_with (first
        | (gi_at_builtin; (refine wpListIn_append_own_at _ rfl (.tmp 15) (.tmp 17) 22 rfl (WL.heap.size + 2) 5 i0 (.int .u8 0) 1 1 Try.underlying22 hi hz0 hz1 hz2 rfl (by decide) _ _ _ rfl HI.out.2.2.2.2.1 ⟨bd, off, none⟩ RW.length rc (RW.map (Value.int .u8)) rfl (by simp) ?_ (ints_oneCell _ _) (by have := HT.out; rw [List.length_append] at this; unfold maxLen; omega) (by have := HT.out; rw [List.length_append] at this; omega) HI.out.1.size ?_; (intro j uu hj; rw [Addr.add_mid]; have hjl : j < RW.length := (by rcases Nat.lt_or_ge j RW.length with h | h; exact h; rw [List.getElem?_eq_none (by simpa using h)] at hj; cases hj); rw [HCl.out j hjl]; rw [List.getElem?_map, List.getElem?_eq_getElem hjl] at hj; simp at hj; rw [← hj]; simp [List.getD, hjl]); intro v' w1 o1 g1 _ a1; obtain ⟨va, vc, rfl⟩ := own_shapeL o1; have H1 := hide (And.intro o1 (And.intro g1 a1)); have b1 := HI.out.2.2.2.1.kept g1 (HI.out.2.2.2.1.not_row (by decide) HI.out.2.2.2.2.1); have kL1 := b1.cell; have fL1 := b1.frozen; have HB1 := hide b1; clear o1 g1 a1 b1))
        | fail)
      have g2 := grownBy_setCell' w1 (w.heap.size + 1) (.slice va ((keepB u (pre.map (·.1))).length + RW.length) vc)
      have hs1 := H1.out.2.1.size
      have hsz := HI.out.1.size
      have hso := HI.out.1.old.size
      have hS := HS.out
      have hrw : ∀ k, (Value.slice la (keepB u (pre.map (·.1))).length lc).ownBlock = some k → WL.heap.size + 2 ≤ k := fun k e => (HI.out.2.2.2.2.1.lt k e).1
      have hB : Below w.heap.size W (w1.setCell ⟨w.heap.size + 1, 0, none⟩ (.slice va ((keepB u (pre.map (·.1))).length + RW.length) vc)) := ((Below.refl w.heap.size W).grown H1.out.2.1 hso (fun k e => by have := hrw k e; omega)).setCell (p := ⟨w.heap.size + 1, 0, none⟩) (by show w.heap.size ≤ w.heap.size + 1; omega) _
      refine ⟨((keeps_row HI.out.2.2.2.2.1 H1.out.2.1).trans (KeepsOthers.setCell _ _ _)).from _, ⟨hB, fun r hr => ?_⟩, ⟨⟨_, HB1.out.set _, ?_, ?_⟩, ?_, HI.out.1.old.trans hB, fun r hr => ⟨(HI.out.1.far r hr).1, ?_⟩, ?_⟩⟩
      · have hr1 := HI.out.1.far r hr
        exact (Below.heap_setCell w1 ⟨w.heap.size + 1, 0, none⟩ _ r (by show r ≠ w.heap.size + 1; omega)).trans (H1.out.2.1.block r hr1.2 (fun e => HI.out.2.2.2.2.2 r e.symm hr))
      · rw [HK.out, List.length_append, List.map_append]
        exact H1.out.1.kept g2 (.inr (HB1.out.not_row (by decide) H1.out.1).symm)
      · intro k hk hT'
        rcases H1.out.2.2 with h | h
        · rw [h] at hk
          exact HI.out.2.2.2.2.2 k hk hT'
        · rw [h] at hk
          injection hk with hk
          have := (HI.out.1.far k hT').2
          omega
      · exact (HI.out.1.upto.kept H1.out.2.1 (HI.out.1.upto.not_row (by decide) HI.out.2.2.2.2.1)).other (by omega) _
      · have := (HI.out.1.far r hr).2
        show r < (w1.setCell _ _).heap.size
        simp
        omega
      · show WL.heap.size + 2 ≤ (w1.setCell _ _).heap.size
        simp
        omega
    · have HK := hide (show keepB u ((pre ++ [((⟨xn, xK, xA, xB, xU, xG, xp, xq, xs⟩, xd, .slice ra rn rc) : LX)]).map (·.1)) = keepB u (pre.map (·.1)) from by
        rw [List.map_append, List.map_singleton, keepB_snoc, if_neg hgt, List.append_nil])
      gi_wp2
      exact ⟨KeepsFrom.refl _ _, ⟨Below.refl _ _, fun _ _ => rfl⟩, ⟨⟨_, HI.out.2.2.2.1, by rw [HK.out]; exact HI.out.2.2.2.2.1, HI.out.2.2.2.2.2⟩, HI.out.1.upto, HI.out.1.old, HI.out.1.far, HI.out.1.size⟩⟩
  case done =>
    rintro T ys W hys hI hK
    obtain ⟨lv, hlv, hrow, _⟩ := hI.row
    obtain ⟨la, lc, rfl⟩ := own_shapeL hrow
    have kL := hlv.cell
    have hS := HS.out
    have HI := hide (And.intro hI.old (And.intro hrow hK))
    have HY := hide hys
    have hsW := hI.size
    clear hI hrow hK hlv hys hS
    gi_wp2
    refine ⟨by simp, .inl ⟨_, _, rfl, run_takeDeferred HI.out.2.2, ?_⟩⟩
    refine ⟨_, results_tmp rfl _ _ _, _, rfl, ?_, ?_⟩
    · rw [← HY.out]
      exact own_mono (ownsRow_putObj HI.out.2.1 _ HI.out.2.2 rfl) (by have := HS.out; omega)
    · exact HI.out.1.trans (belowK_b (w := w) (Nat.le_refl _) W WL.heap.size _ (.deferred none) (by have := HS.out; omega) HI.out.2.2 rfl rfl)
  case stop =>
    intro T c pre W _ h
    exact h.elim
end Go.Proofs.Ythkoflpcinbgeaa
