/- The model reads a log: small notions. The program's LogScan. -/
import Derived.Test.YthkoflpcinbgeaaZq36
import Derived.Test.YthkoflpcinbgeaaZq41
import Derived.Test.YthkoflpcinbgeaaZq42
import Derived.Test.YthkoflpcinbgeaaZq38
namespace Go.Proofs.Ythkoflpcinbgeaa
set_option linter.unusedVariables false
set_option linter.unusedSimpArgs false
open Go.RowKit

/-- A piece of a slice, from its beginning; a piece up to its end. -/
theorem slice_pieceH {w0 : World} {a : Option Addr} {len cap : Nat} {zs : List Int} (h : Rd .u8 w0 (.slice a len cap) zs) (hi : Nat) (h2 : hi ≤ zs.length) :
    ∃ a' c', Rd .u8 w0 (.slice a' hi c') (zs.take hi) ∧ ∀ wx, (Instr.slice 22 (.slice a len cap) none (some (.int .i64 (hi : Int))) none).run Try.prog wx = .ok (.slice a' hi c') wx := by
  obtain ⟨i0, hi0, hz0, hz1, hz2⟩ := info_parts infoU8
  obtain ⟨a', c', hr, hrun⟩ := slice_piece h 0 hi (by omega) h2
  have hl : len = zs.length := by obtain ⟨_, _, e, _⟩ := h; injection e
  obtain ⟨_, _, _, _, _, hl2, hcm⟩ := h
  rename_i a0 cap0 e0 _ _
  injection e0 with e1 e2 e3
  subst e3
  simp only [Nat.sub_zero, List.drop_zero] at hr hrun
  refine ⟨a', c', hr, fun wx => ?_⟩
  rw [← hrun wx, run_slice_h (P := Try.prog) (w := wx) 22 a len cap (by rw [Try.underlying22]; rfl) .i64 (hi : Int) (by omega) (by omega), run_slice_lh (P := Try.prog) (w := wx) 22 a len cap (by rw [Try.underlying22]; rfl) .i64 .i64 ((0 : Nat) : Int) (hi : Int) (by omega) (by omega) (by omega)]
  rfl
theorem slice_pieceL {w0 : World} {a : Option Addr} {len cap : Nat} {zs : List Int} (h : Rd .u8 w0 (.slice a len cap) zs) (lo : Nat) (h2 : lo ≤ zs.length) :
    ∃ a' c', Rd .u8 w0 (.slice a' (zs.length - lo) c') (zs.drop lo) ∧ ∀ wx, (Instr.slice 22 (.slice a len cap) (some (.int .i64 (lo : Int))) none none).run Try.prog wx = .ok (.slice a' (zs.length - lo) c') wx := by
  obtain ⟨a', c', hr, hrun⟩ := slice_piece h lo zs.length h2 (Nat.le_refl _)
  have hl : len = zs.length := by obtain ⟨_, _, e, _⟩ := h; injection e
  obtain ⟨_, _, e0, _, _, hl2, hcm⟩ := h
  injection e0 with e1 e2 e3
  subst e3
  rw [List.take_of_length_le (by rw [List.length_drop]; omega)] at hr
  refine ⟨a', c', hr, fun wx => ?_⟩
  rw [← hrun wx, run_slice_l (P := Try.prog) (w := wx) 22 a len cap (by rw [Try.underlying22]; rfl) .i64 (lo : Int) (by omega) (by omega), run_slice_lh (P := Try.prog) (w := wx) 22 a len cap (by rw [Try.underlying22]; rfl) .i64 .i64 (lo : Int) (zs.length : Int) (by omega) (by omega) (by omega)]
  rw [Int.toNat_natCast, hl, Int.toNat_natCast]
/-- An entry as an element of a list. -/
def neE (e : EntL) : NE := ([.int .i64 (e.n : Int), .int .i64 e.K, .int .i64 e.A, .int .i64 e.B, .int .i64 e.U, .int .i64 e.G, .string e.p, .string e.q], e.ds)
theorem neE_pre (L : List EntL) : ∀ l ∈ L.map neE, l.1.length = 8 := by
  intro l hl
  obtain ⟨e, _, rfl⟩ := List.mem_map.1 hl
  rfl
/-- The number of the entry ahead of place k. -/
def lastN (L : List EntL) (k : Nat) : Option Nat := if k = 0 then none else (L[k - 1]?).map (·.n)
theorem lastN_succ {L : List EntL} {k : Nat} {e : EntL} (h : L[k]? = some e) : lastN L (k + 1) = some e.n := by
  unfold lastN
  rw [if_neg (by omega), Nat.add_sub_cancel, h]
  rfl
theorem sc_next {L : List EntL} {o : Option Nat} {k : Nat} {e : EntL} {Z r : List Int} (hS : Sc o Z (L.drop k)) (hb : ∀ z ∈ Z, 0 ≤ z ∧ z < 256) (he : e.ok) (hf : folE o e) (hz : Z = e.raw ++ r) : L[k]? = some e ∧ Sc (some e.n) r (L.drop (k + 1)) ∧ k < L.length := by
  obtain ⟨L', hL, hS'⟩ := hS.head hb he hf hz
  have hk2 : k < L.length := by
    rcases Nat.lt_or_ge k L.length with h | h
    · exact h
    · rw [List.drop_eq_nil_of_le h] at hL; cases hL
  rw [List.drop_eq_getElem_cons hk2] at hL
  injection hL with hL1 hL2
  exact ⟨by rw [List.getElem?_eq_getElem hk2, hL1], by rw [hL2]; exact hS', hk2⟩
theorem sc_stop {L : List EntL} {o : Option Nat} {k : Nat} {Z : List Int} (hS : Sc o Z (L.drop k)) (hk : k ≤ L.length) (hno : ∀ (f : EntL) (r : List Int), f.ok → folE o f → Z ≠ f.raw ++ r) : k = L.length := by
  have h := congrArg List.length (hS.nothing hno)
  rw [List.length_drop] at h
  simp at h
  omega
/-- What the model would find, if there is a record. -/
theorem ms_back {Z r : List Int} {f : EntL} (hb : ∀ z ∈ Z, 0 ≤ z ∧ z < 256) (hf : f.ok) (hz : Z = f.raw ++ r) :
    16 ≤ Z.length ∧ unle ((Z.drop 8).take 4) ≤ Z.length - 16 ∧ IsOpB ((Z.drop 16).take (unle ((Z.drop 8).take 4))) ∧ gval (Z.take 8) = f.n ∧ recO f.n ((Z.drop 16).take (unle ((Z.drop 8).take 4))) = Z.take (16 + unle ((Z.drop 8).take 4)) := by
  obtain ⟨a1, a2, a3, a4, a5, a6, a7⟩ := ent_back hf hz hb
  have hn := hf.1
  rw [a3, a5]
  refine ⟨by omega, by omega, (EntL.isRec hf r).2.2.1, by rw [gval_small _ (by rw [a2]; omega), a2], ?_⟩
  have : f.raw.length = 16 + f.body.length := by unfold EntL.raw; rw [recO_len]
  rw [hz, ← this, List.take_left]
  rfl
/-- What the model found makes a record. -/
theorem ms_of {Z : List Int} (hb : ∀ z ∈ Z, 0 ≤ z ∧ z < 256) {g m : Nat} (hm : 16 + m ≤ Z.length) {K A B U G : Int} {p q : ByteArray} {ds : List Int} (hD : IsDec ((Z.drop 16).take m) K A B U G p q ds 0) (hg : wi (g : Int) 1 1099511627776 = true) (he : recO g ((Z.drop 16).take m) = Z.take (16 + m)) :
    (⟨g, K, A, B, U, G, p, q, ds⟩ : EntL).ok ∧ Z = (⟨g, K, A, B, U, G, p, q, ds⟩ : EntL).raw ++ Z.drop (16 + m) ∧ (⟨g, K, A, B, U, G, p, q, ds⟩ : EntL).raw.length = 16 + m := by
  rcases hD with ⟨_, d2, d3, d4, d5⟩ | ⟨d1, _⟩
  · have hbd : (⟨g, K, A, B, U, G, p, q, ds⟩ : EntL).raw = Z.take (16 + m) := by
      unfold EntL.raw EntL.body
      rw [← d2]
      exact he
    refine ⟨⟨?_, d3, d4, d5⟩, ?_, ?_⟩
    · unfold wi at hg
      simp at hg
      simp only
      omega
    · rw [hbd, List.take_append_drop]
    · rw [hbd, List.length_take]
      omega
  · omega
def sliceLen : Value → Nat | .slice _ n _ => n | _ => 0
theorem OwnN.empty (w : World) (e : TypeId) (m : Nat) : OwnN (w.alloc (.cells #[] e)) w.heap.size e m (.slice (some ⟨w.heap.size, 0, none⟩) 0 0) [] [] :=
  ⟨rfl, fun l h => (by cases h), ⟨by simp [cellsN], .inr ⟨w.heap.size, 0, #[], rfl, Nat.le_refl _, heap_alloc_new w _, Nat.le_refl _, by unfold maxLen; omega, by simp, by simp [cellsN]⟩⟩, fun i u l h => (by simp at h), fun i j u u' b h => (by simp at h)⟩
end Go.Proofs.Ythkoflpcinbgeaa

namespace Go.Proofs.Ythkoflpcinbgeaa
set_option linter.unusedVariables false
set_option linter.unusedSimpArgs false
open Go.RowKit Go.Shelf
attribute [local go_sem] Oper.semAt_some

theorem OwnN.keptN {W W' : World} {base : Nat} {e : TypeId} {m : Nat} {v : Value} {L : List NE} {vs : List Value} {row : Option Nat} (h : OwnN W base e m v L vs) (hg : W.grownBy W' row) (h1 : ∀ r, row = some r → v.ownBlock ≠ some r) (h2 : ∀ r, row = some r → ∀ u ∈ vs, u.ownBlock ≠ some r) : OwnN W' base e m v L vs := by
  have keep : ∀ {sz n : Nat} {e : TypeId} {x : Value} {xs : List Value}, W.ownsRow base e sz x n xs → (∀ r, row = some r → x.ownBlock ≠ some r) → W'.ownsRow base e sz x n xs := fun {sz n e x xs} ho hx => ho.kept hg (by
    cases hv : x.ownBlock with
    | none => exact .inl rfl
    | some k => exact .inr (fun e' => hx k e'.symm hv))
  exact ⟨h.len, h.pre, keep h.row h1, fun i u l hu hl => keep (h.dat i u l hu hl) (fun r e' => h2 r e' u (List.mem_of_getElem? hu)), h.one⟩
theorem infoLEy : (Try.prog.info? 36).map (fun i => (i.zero, i.size, i.bytes)) = some (some (.agg #[.int .i64 0, .int .i64 0, .int .i64 0, .int .i64 0, .int .i64 0, .int .i64 0, .string ⟨#[]⟩, .string ⟨#[]⟩, .slice none 0 0]), 9, 104) := by kernel_rfl
theorem infoLEx : (Try.prog.info? 36).map (·.size) = some 9 := by kernel_rfl
theorem newLi (w : World) (cs : List Value) (e : TypeId) : ∀ j u, cs[j]? = some u → (w.alloc (.cells cs.toArray e)).cell? ((⟨w.heap.size, 0, none⟩ : Addr).add j) = some u := fun j u hu => by
  rw [Addr.add_mid, cell_of_row _ _ (0 + j) _ _ _ (heap_alloc_new w _), Nat.zero_add]
  simpa using hu
theorem oneEi (g K A B U G : Int) (p q : ByteArray) (a : Option Addr) (n c : Nat) : ∀ u ∈ ([.int .i64 g, .int .i64 K, .int .i64 A, .int .i64 B, .int .i64 U, .int .i64 G, .string p, .string q, .slice a n c] : List Value), u.oneCell' = true := by
  intro u hu
  simp only [List.mem_cons, List.not_mem_nil, or_false] at hu
  rcases hu with rfl | rfl | rfl | rfl | rfl | rfl | rfl | rfl | rfl <;> rfl
/-- Between two rounds of LogScan: the box of the list at q; rows from z on. -/
structure Isl (w : World) (q z : Nat) (T : Nat → Prop) (pre : List LX) (W : World) : Prop where
  row : ∃ v, Boxed W q 28 v ∧ OwnN W z 36 8 v (pre.map (fun x => neE x.1)) (pre.map (·.2.1)) ∧ ∀ k, v.ownBlock = some k → ¬ T k
  dat : ∀ x ∈ pre, ∀ k, x.2.1.ownBlock = some k → ¬ T k
  old : Below w.heap.size w W
  far : ∀ r, T r → z ≤ r ∧ r < W.heap.size
  size : z ≤ W.heap.size
theorem Isl.abides {w : World} {q z r0 : Nat} (hq : w.heap.size ≤ q) (hz : q + 1 ≤ r0) (hz2 : r0 < z) (T : Nat → Prop) : AbidesOf (fun r => T r ∨ r = r0) (Isl w q z T) := by
  rintro pre A B row ⟨⟨v, h1, h2, h3⟩, h4, h5, h6, h7⟩ hg hr
  have hr' : ∀ r, row = some r → q + 1 ≤ r := fun r e => by
    rcases hr r e with h | h
    · have := (h6 r h).1; omega
    · omega
  refine ⟨⟨v, h1.kept hg (fun e => by have := hr' _ e.symm; omega), h2.keptN hg (fun r e hv => ?_) (fun r e u hu hv => ?_), h3⟩, h4, h5.grown hg (by have := h1.lt; omega) (fun k e => by have := hr' k e; omega), fun r h => ⟨(h6 r h).1, Nat.lt_of_lt_of_le (h6 r h).2 hg.size⟩, Nat.le_trans h7 hg.size⟩
  · rcases hr r e with h | h
    · exact h3 r hv h
    · have := (h2.row.lt r hv).1; omega
  · rcases hr r e with h | h
    · obtain ⟨x, hx, rfl⟩ := List.mem_map.1 hu
      exact h4 x hx r hv h
    · obtain ⟨i, hi⟩ := List.getElem?_of_mem hu
      have hl : i < (pre.map (fun x => neE x.1)).length := by rw [← h2.len]; exact (List.getElem?_eq_some_iff.1 hi).1
      have := ((h2.dat i u _ hi (List.getElem?_eq_getElem hl)).lt r hv).1
      omega
theorem Isl.below {w : World} {q z : Nat} {T : Nat → Prop} {pre : List LX} {W W' : World} (h : Isl w q z T pre W) (hq : w.heap.size ≤ q) (hb : Below W.heap.size W W') : Isl w q z T pre W' := by
  obtain ⟨⟨v, h1, h2, h3⟩, h4, h5, h6, h7⟩ := h
  exact ⟨⟨v, (hb.block _ h1.lt).trans h1, h2.below hb, h3⟩, h4, h5.trans (hb.mono (by have := h1.lt; omega)), fun r h => ⟨(h6 r h).1, Nat.lt_of_lt_of_le (h6 r h).2 hb.size⟩, Nat.le_trans h7 hb.size⟩
/-- The Data of an element that is told now is none of those that came before. -/
theorem Isl.fresh {w : World} {q z : Nat} {T : Nat → Prop} {pre : List LX} {W0 W : World} {L : List EntL} {x : LX} (h : Isl w q z T pre W0) (ok : OkL L z T pre x W0 W) (i : Nat) (u' : Value) (b : Nat) (hu : (pre.map (·.2.1))[i]? = some u') (hb : u'.ownBlock = some b) : x.2.1.ownBlock ≠ some b := fun e => by
  obtain ⟨v, _, h2, _⟩ := h.row
  have hi : i < (pre.map (·.2.1)).length := (List.getElem?_eq_some_iff.1 hu).1
  have hl : i < (pre.map (fun x => neE x.1)).length := by rw [← h2.len]; exact hi
  have h3 := ((h2.dat i u' _ hu (List.getElem?_eq_getElem hl)).lt b hb).2
  have hd := ok.data
  rw [if_neg (by rw [List.length_map] at hi; omega)] at hd
  have := (hd.lt b e).1
  omega
set_option maxRecDepth 100000 in
set_option maxHeartbeats 4000000 in
theorem implLS_any (v : Value) (zs : List Int) (L : List EntL) (w : World) (hL : Sc none zs L) (h : Rd .u8 w v zs) (hbd : ∀ z ∈ zs, 0 ≤ z ∧ z < 256) (hz : zs.length ≤ 1048576) :
    Calls Try.prog 12 #[v] w fun e w' => ∃ v' vs, e = .returned v' ∧ OwnN w' w.heap.size 36 8 v' (L.map neE) vs ∧ Below w.heap.size w w' := by
  obtain ⟨a, cap, rfl⟩ : ∃ a cap, v = .slice a zs.length cap := by obtain ⟨a, cap, h1, _⟩ := h; exact ⟨a, cap, h1⟩
  obtain ⟨i0, hi, hz0, hz1, hz2⟩ := info_parts infoLEy
  have hLk : L.length * 45 ≤ 1048576 := by have := hL.len; omega
  have HG := hide (And.intro h (And.intro hbd hL))
  clear h hbd hL
  refine (callsIn_wide (n := 6)).1 ?_
  refine callsIn_of_wp_marks Try.func12 rfl trivial ?_ rfl
  simp only [Try.ntmps12, List.size_toArray, List.length_cons, List.length_nil, Nat.reduceAdd, Nat.reduceSub, Array.replicate_succ, Array.replicate_zero, List.push_toArray, List.append_toArray, List.nil_append, List.cons_append]
  gi_wp2_with (refine ⟨trivial, ?_⟩; gi_at_call 17; fail)
  refine ⟨trivial, ?_⟩
  refine (records_in _ _ _ a zs.length cap rfl).mono ?_
  rintro e w' ⟨rfl, rfl⟩
  obtain ⟨WL, hWL⟩ : ∃ WL, WL = ((w.alloc (.cells #[.slice none 0 0] 28)).alloc (.cells #[.slice a zs.length cap] 22)) := ⟨_, rfl⟩
  have hs : WL.heap.size = w.heap.size + 2 := by rw [hWL]; simp
  have bL : Below w.heap.size w WL := by rw [hWL]; exact ((Below.refl _ w).alloc (Nat.le_refl _) _).alloc (by simp) _
  have bV : Boxed WL w.heap.size 28 (.slice none 0 0) := by rw [hWL]; exact (Boxed.new w _ _).alloc _
  have bX : Boxed WL (w.heap.size + 1) 22 (.slice a zs.length cap) := by
    have h := Boxed.new (w.alloc (.cells #[.slice none 0 0] 28)) 22 (.slice a zs.length cap)
    rw [World.size_alloc] at h
    rw [hWL]; exact h
  gi_wp2
  rw [← hWL]
  have HWL := hide (And.intro bL (And.intro bV bX))
  have HS := hide hs
  clear hWL bL bV bX hs
  refine wpIn_rangeGoes (α := LX) rfl (by decide) (gf := 23) (lb := #[.pointer (some ⟨w.heap.size + 1, 0, none⟩)]) rfl trivial (enters_of Try.func23 (by kernel_rfl) rfl) (encs := LX.enc) (n₀ := w.heap.size) (Ok := OkL L (WL.heap.size + 2)) (S := fun xs => xs.map (·.1) = L) (Sp := fun _ => True) (by have := HS.out; omega)
    (fun W1 hb1 hs1 => by
      have := records1_goes 5 (by omega) (w.heap.size + 1) a cap zs L HG.out.2.2 HG.out.2.1 hz w W1 ((hb1.block _ (by have := HS.out; omega)).trans HWL.out.2.2) HG.out.1 (HWL.out.1.trans (hb1.mono (by have := HS.out; omega)))
      rw [hs1] at this
      exact this)
    (fun _ => rfl) (Isl w w.heap.size (WL.heap.size + 2)) (fun _ _ _ _ => False) (Isl.abides (Nat.le_refl _) (by have := HS.out; omega) (by omega)) (fun _ _ _ _ _ _ hf => hf.elim) ?start
    (fun T pre x W0 a' W => ∃ c, a' = { tmps := #[.slice a zs.length cap, undef, .slice none 0 0, .pointer (some ⟨w.heap.size, 0, none⟩), .pointer (some ⟨c, 0, none⟩), .slice a zs.length cap, .func (.func 23) #[] #[.pointer (some ⟨w.heap.size + 1, 0, none⟩)], .agg x.cells, undef, undef, undef, undef, undef, undef], defers := [] } ∧ Blk W c x.cells 42 ∧ Isl w w.heap.size (WL.heap.size + 2) T pre W ∧ OkL L (WL.heap.size + 2) T pre x W0 W ∧ Isl w w.heap.size (WL.heap.size + 2) T pre W0 ∧ WL.heap.size + 2 ≤ c) ?ax ?assign ?body ?done ?stop
  case start =>
    intro T W' hb hsz hT
    exact ⟨⟨_, (hb.block _ (by have := HS.out; omega)).trans HWL.out.2.1, OwnN.nil _ _ _ _, fun k hk => by cases hk⟩, fun x hx => (by cases hx), HWL.out.1.trans (hb.mono (by have := HS.out; omega)), hT, hsz⟩
  case ax =>
    rintro T pre x W0 a' A B ⟨c, h1, h2, h3, h4, h5, h6⟩ hg hr
    exact ⟨c, h1, (hg.block c h2.lt (fun e => by injection e with e; omega)).trans h2, Isl.abides (r0 := WL.heap.size + 1) (Nat.le_refl _) (by have := HS.out; omega) (by omega) T pre A B _ h3 hg (fun r e => by cases e; exact .inr rfl), h4.bare hg hr, h5, h6⟩
  case assign =>
    intro l T pre x W0 W K hT i0' i1 ok hK
    obtain ⟨⟨xn, xK, xA, xB, xU, xG, xp, xq, xs⟩, xd, xr⟩ := x
    obtain ⟨da, dc, rfl⟩ : ∃ da dc, xd = .slice da xs.length dc := own_shapeL ok.data
    obtain ⟨ra, rn, rc, rfl⟩ : ∃ ra rn rc, xr = .slice ra rn rc := by obtain ⟨x1, x2, h1, _⟩ := ok.raw; exact ⟨x1, _, x2, h1⟩
    have HL := hide (logC_one (xn : Int) xK xA xB xU xG xp xq da xs.length dc ra rn rc)
    have HLs := hide (show (logC (xn : Int) xK xA xB xU xG xp xq (.slice da xs.length dc) (.slice ra rn rc)).size = 10 from rfl)
    have HI := hide (And.intro i1 (And.intro ok (And.intro hK i0')))
    clear i0' i1 ok hK
    simp only [LX.enc, LX.cells]
    obtain ⟨C, hC⟩ : ∃ C, C = logC (xn : Int) xK xA xB xU xG xp xq (.slice da xs.length dc) (.slice ra rn rc) := ⟨_, rfl⟩
    rw [← hC] at HL HLs ⊢
    have HC := hide hC
    clear hC
    gi_wp2_with (first | (refine wpListIn_store_new W.heap.size W rfl 42 _ _ rfl W.heap.size C rfl rfl 42 _ (Blk.new W _ _) (by rw [HLs.out]; exact infoLg) (by rw [HLs.out]; rfl) HL.out ((Below.refl _ _).alloc (Nat.le_refl _) _) (Nat.le_refl _) ?_; intro w2 k2 b2) | fail)
    exact HI.out.2.2.1 _ _ (keeps_below b2) (kpT_below b2 (by have := HI.out.1.size; have := HS.out; omega) (fun r hr => (HI.out.1.far r hr).2)) ⟨W.heap.size, by rw [HC.out]; rfl, by rw [HC.out] at k2; exact k2, HI.out.1.below (Nat.le_refl _) b2, HI.out.2.1.below b2, HI.out.2.2.2, HI.out.1.size⟩
  case body =>
    rintro l T pre ⟨⟨xn, xK, xA, xB, xU, xG, xp, xq, xs⟩, xd, xr⟩ W0 a' W hT ⟨c, rfl, kC, i1, ok, i0', hzc⟩
    obtain ⟨da, dc, rfl⟩ : ∃ da dc, xd = .slice da xs.length dc := own_shapeL ok.data
    obtain ⟨lv, hlv, hown, hlT⟩ := i1.row
    have hpl : (pre.map (fun x => neE x.1)).length = pre.length := List.length_map ..
    obtain ⟨la, lc, hlf⟩ := own_shape hown.row
    rw [hpl] at hlf
    subst hlf
    have hrow : W.ownsRow (WL.heap.size + 2) 36 9 (.slice la pre.length lc) pre.length (cellsN (pre.map (·.2.1)) (pre.map (fun x => neE x.1))) := by
      have := hown.row
      rw [hpl] at this
      exact this
    have hlen : pre.length < L.length := (List.getElem?_eq_some_iff.1 ok.here).1
    have kL := hlv.cell
    have HRg := hide (show W.rangeAt c 0 [.int .i64 (xn : Int), .int .i64 xK, .int .i64 xA, .int .i64 xB, .int .i64 xU, .int .i64 xG, .string xp, .string xq, .slice da xs.length dc] from fun j y hj => by
      rw [Nat.zero_add, kC.cell]
      match j, hj with
      | 0, hj => exact hj
      | 1, hj => exact hj
      | 2, hj => exact hj
      | 3, hj => exact hj
      | 4, hj => exact hj
      | 5, hj => exact hj
      | 6, hj => exact hj
      | 7, hj => exact hj
      | 8, hj => exact hj
      | n + 9, hj => simp at hj)
    have HI := hide (And.intro i1 (And.intro ok (And.intro i0' (And.intro hlv (And.intro hrow (And.intro hlT hown))))))
    clear i1 ok kC hlv hrow hlT i0' hown hpl
    gi_wp2_with (first
      | (refine wpListIn_load_mid rfl 36 _ rfl c 0 rfl [.int .i64 (xn : Int), .int .i64 xK, .int .i64 xA, .int .i64 xB, .int .i64 xU, .int .i64 xG, .string xp, .string xq, .slice da xs.length dc] _ HRg.out Try.underlying36 rfl infoLEx ?_)
      | (refine wpListIn_build1 rfl 28 36 _ rfl #[.int .i64 (xn : Int), .int .i64 xK, .int .i64 xA, .int .i64 xB, .int .i64 xU, .int .i64 xG, .string xp, .string xq, .slice da xs.length dc] rfl i0 _ Try.underlying28 hi hz0 hz1 (by decide) (by decide) ?_)
      | (gi_at_builtin; (refine wpListIn_append_own_at _ rfl (.tmp 8) (.tmp 11) 28 rfl (WL.heap.size + 2) 36 i0 (.agg #[.int .i64 0, .int .i64 0, .int .i64 0, .int .i64 0, .int .i64 0, .int .i64 0, .string ⟨#[]⟩, .string ⟨#[]⟩, .slice none 0 0]) 9 104 Try.underlying28 hi hz0 hz1 hz2 rfl (by decide) (.slice la pre.length lc) pre.length _ rfl (HI.out.2.2.2.2.1.alloc _) ⟨W.heap.size, 0, none⟩ 1 1 [.int .i64 (xn : Int), .int .i64 xK, .int .i64 xA, .int .i64 xB, .int .i64 xU, .int .i64 xG, .string xp, .string xq, .slice da xs.length dc] rfl rfl (newLi W _ _) (oneEi _ _ _ _ _ _ _ _ _ _ _) (by unfold maxLen; omega) (by omega) (by have := HI.out.1.size; simp; omega) ?_; intro v' w1 o1 g1 _ a1; obtain ⟨va, vc, rfl⟩ := own_shapeL o1; have H1 := hide (And.intro o1 (And.intro g1 a1)); have b1 := (HI.out.2.2.2.1.alloc (.cells #[.int .i64 (xn : Int), .int .i64 xK, .int .i64 xA, .int .i64 xB, .int .i64 xU, .int .i64 xG, .string xp, .string xq, .slice da xs.length dc] 36)).kept g1 (HI.out.2.2.2.1.not_row (by decide) HI.out.2.2.2.2.1); have kL1 := b1.cell; have fL1 := b1.frozen; have HB1 := hide b1; clear o1 g1 a1 b1))
      | fail)
    have g2 := grownBy_setCell' w1 w.heap.size (.slice va (pre.length + 1) vc)
    have hs1 := H1.out.2.1.size
    rw [World.size_alloc] at hs1
    have hsz := HI.out.1.size
    have hso := HI.out.1.old.size
    have hS := HS.out
    have hrw : ∀ k, (Value.slice la pre.length lc).ownBlock = some k → WL.heap.size + 2 ≤ k := fun k e => (HI.out.2.2.2.2.1.lt k e).1
    have bA : Below W.heap.size W (W.alloc (.cells #[.int .i64 (xn : Int), .int .i64 xK, .int .i64 xA, .int .i64 xB, .int .i64 xU, .int .i64 xG, .string xp, .string xq, .slice da xs.length dc] 36)) := (Below.refl _ _).alloc (Nat.le_refl _) _
    have hB : Below w.heap.size W (w1.setCell ⟨w.heap.size, 0, none⟩ (.slice va (pre.length + 1) vc)) := ((bA.mono hso).grown H1.out.2.1 (by simp; omega) (fun k e => by have := hrw k e; omega)).setCell (p := ⟨w.heap.size, 0, none⟩) (Nat.le_refl _) _
    have hbase : WL.heap.size + 2 ≤ (if pre.length = 0 then WL.heap.size + 2 else W0.heap.size) := by
      have := HI.out.2.2.1.size
      split <;> omega
    have hP : OwnN w1 (WL.heap.size + 2) 36 8 (.slice va (pre.length + 1) vc) (pre.map (fun x => neE x.1) ++ [neE ⟨xn, xK, xA, xB, xU, xG, xp, xq, xs⟩]) (pre.map (·.2.1) ++ [.slice da xs.length dc]) :=
      (HI.out.2.2.2.2.2.2.below bA).push (by decide) (neE ⟨xn, xK, xA, xB, xU, xG, xp, xq, xs⟩) (.slice da xs.length dc) rfl (own_below (own_mono HI.out.2.1.data hbase) bA) (HI.out.2.2.1.fresh HI.out.2.1) (by rw [List.length_map]; exact H1.out.1) H1.out.2.1
    refine ⟨(((KeepsOthers.alloc W _).trans (keeps_row (HI.out.2.2.2.2.1.alloc _) H1.out.2.1)).trans (KeepsOthers.setCell _ _ _)).from _, ⟨hB, fun r hr => ?_⟩, ⟨⟨_, HB1.out.set _, ?_, ?_⟩, fun y hy k hk => ?_, HI.out.1.old.trans hB, fun r hr => ⟨(HI.out.1.far r hr).1, ?_⟩, ?_⟩⟩
    · have hr1 := HI.out.1.far r hr
      exact (Below.heap_setCell w1 ⟨w.heap.size, 0, none⟩ _ r (by show r ≠ w.heap.size; omega)).trans ((H1.out.2.1.block r (by simp; omega) (fun e => HI.out.2.2.2.2.2.1 r e.symm hr)).trans (bA.block r hr1.2))
    · rw [List.map_append, List.map_append]
      refine hP.keptN g2 (fun r e hv => ?_) (fun r e u hu hv => ?_)
      · cases e
        have := (hP.row.lt _ hv).1
        omega
      · cases e
        obtain ⟨i, hi⟩ := List.getElem?_of_mem hu
        have hl : i < (pre.map (fun x => neE x.1) ++ [neE ⟨xn, xK, xA, xB, xU, xG, xp, xq, xs⟩]).length := by rw [← hP.len]; exact (List.getElem?_eq_some_iff.1 hi).1
        have := ((hP.dat i u _ hi (List.getElem?_eq_getElem hl)).lt _ hv).1
        omega
    · intro k hk hT'
      rcases H1.out.2.2 with h | h
      · rw [h] at hk
        exact HI.out.2.2.2.2.2.1 k hk hT'
      · rw [h] at hk
        injection hk with hk
        have := (HI.out.1.far k hT').2
        simp at hk
        omega
    · rcases List.mem_append.1 hy with hy | hy
      · exact HI.out.1.dat y hy k hk
      · rw [List.mem_singleton] at hy
        subst hy
        exact HI.out.2.1.apart k hk
    · have := (HI.out.1.far r hr).2
      show r < (w1.setCell _ _).heap.size
      simp
      omega
    · show WL.heap.size + 2 ≤ (w1.setCell _ _).heap.size
      simp
      omega
  case done =>
    rintro T ys W hys hI hK
    obtain ⟨lv, hlv, hown, _⟩ := hI.row
    have hown' : OwnN W (WL.heap.size + 2) 36 8 lv (L.map neE) (ys.map (·.2.1)) := by
      rw [← hys, List.map_map]
      exact hown
    have hll : (L.map neE).length = L.length := List.length_map ..
    obtain ⟨la, lc, hlf⟩ := own_shape hown'.row
    rw [hll] at hlf
    subst hlf
    have kL := hlv.cell
    have HI := hide (And.intro hI.old (And.intro hown' hK))
    clear hI hown hown' hK hlv hys hll
    gi_wp2
    refine ⟨by simp, .inl ⟨_, _, rfl, run_takeDeferred HI.out.2.2, ?_⟩⟩
    refine ⟨_, results_tmp rfl _ _ _, _, ys.map (·.2.1), rfl, ?_, ?_⟩
    · have hS := HS.out
      refine OwnN.mono (HI.out.2.1.keptN (grownBy_putObj' W WL.heap.size (.deferred none)) (fun r e hv => ?_) (fun r e u hu hv => ?_)) (by omega)
      · cases e
        have := (HI.out.2.1.row.lt _ hv).1
        omega
      · cases e
        obtain ⟨i, hi⟩ := List.getElem?_of_mem hu
        have hl : i < (L.map neE).length := by rw [← HI.out.2.1.len]; exact (List.getElem?_eq_some_iff.1 hi).1
        have := ((HI.out.2.1.dat i u _ hi (List.getElem?_eq_getElem hl)).lt _ hv).1
        omega
    · exact HI.out.1.trans (belowK_b (w := w) (Nat.le_refl _) W WL.heap.size _ (.deferred none) (by have := HS.out; omega) HI.out.2.2 rfl rfl)
  case stop =>
    intro T c pre W _ h
    exact h.elim
end Go.Proofs.Ythkoflpcinbgeaa
