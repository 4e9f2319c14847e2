/- told at an operation; DecodeOp of the program. -/
import Derived.Test.YthkoflpcinbgeaaDoorZo41
namespace Go.Proofs.YthkoflpcinbgeaaDoor
set_option linter.unusedVariables false
set_option linter.unusedSimpArgs false
open Go.RowKit

def noOp : Array Value := opC 0 0 0 0 0 ⟨#[]⟩ ⟨#[]⟩ (.slice none 0 0)
theorem opC_one (K A B U G : Int) (p q : ByteArray) (a : Option Addr) (n c : Nat) : (opC K A B U G p q (.slice a n c)).all (·.oneCell') = true := by
  unfold opC
  rw [Array.all_eq_true_iff_forall_mem]
  intro v hv
  simp only [List.mem_toArray, List.mem_cons, List.not_mem_nil, or_false] at hv
  rcases hv with rfl | rfl | rfl | rfl | rfl | rfl | rfl | rfl <;> rfl
theorem noOp_one : noOp.all (·.oneCell') = true := opC_one 0 0 0 0 0 ⟨#[]⟩ ⟨#[]⟩ none 0 0
set_option maxRecDepth 100000 in
set_option maxHeartbeats 1000000 in
theorem toldO_ok (C : Array Value) (w : World) (hx : C.size = 8) (h1 : C.all (·.oneCell') = true) :
    Calls Tryd.prog 32 #[.agg C, .nilIface] w fun e w' => e = .returned (.tuple #[.agg C, .int .i64 0]) ∧ Below w.heap.size w w' := by
  have HZ := hide (show C.size = 8 from hx)
  have kB := (Blk.new w C 28).alloc (.cells noOp 28)
  have kC := Blk.new (w.alloc (.cells C 28)) noOp 28
  rw [World.size_alloc] at kC
  have K := hide (And.intro kB (And.intro kC (((Below.refl w.heap.size w).alloc (Nat.le_refl _) (.cells C 28)).alloc (by simp) (.cells noOp 28))))
  clear kB kC hx
  go_enter Tryd.func32, Tryd.ntmps32
  go_wp2_with (first | (refine wpList_load_row rfl 28 _ rfl w.heap.size rfl 28 C (0, 0) _ K.out.1 Tryd.underlying28 rfl (by rw [HZ.out]; exact infoO8) ?_) | (refine wpList_store_row rfl 28 _ _ rfl (w.heap.size + 1) C rfl rfl 28 _ K.out.2.1 (by rw [HZ.out]; exact infoO8) (by rw [HZ.out]; rfl) h1 ?_))
  refine bodyPost_ret (v := .tuple #[.agg C, .int .i64 0]) ?_ rfl ⟨rfl, below_setRow K.out.2.2 (by omega) _⟩
  exact results_row_tmp rfl _ _ (w.heap.size + 1) 28 C (0, 0) _ _ rfl rfl (K.out.2.1.row _) Tryd.underlying28 rfl (by rw [HZ.out]; exact infoO8)

set_option maxRecDepth 100000 in
set_option maxHeartbeats 2000000 in
theorem toldO_bad (C : Array Value) (lo n : Nat) (v : Value) (c : Int) (w : World) (hx : C.size = 8) (h1 : C.all (·.oneCell') = true) (hv : Flt w lo n v c) (hg : ErrT w) :
    Calls Tryd.prog 32 #[.agg C, v] w fun e w' => e = .returned (.tuple #[.agg noOp, .int .i64 c]) ∧ Below w.heap.size w w' := by
  have HZ := hide (show C.size = 8 from hx)
  have HV := hide (And.intro hv hg)
  obtain ⟨t', x', rfl⟩ := hv.iface
  clear hv hg hx
  go_enter Tryd.func32, Tryd.ntmps32
  have kB := ((Blk.new (w.alloc (.cells C 28)) #[.int .i64 0, .int .i64 0, .int .i64 0, .int .i64 0, .int .i64 0, .string ⟨#[]⟩, .string ⟨#[]⟩, .slice none 0 0] 28).alloc (.cells #[.int .i64 0, .int .i64 0, .int .i64 0, .int .i64 0, .int .i64 0, .string ⟨#[]⟩, .string ⟨#[]⟩, .slice none 0 0] 28))
  have kC := Blk.new ((w.alloc (.cells C 28)).alloc (.cells #[.int .i64 0, .int .i64 0, .int .i64 0, .int .i64 0, .int .i64 0, .string ⟨#[]⟩, .string ⟨#[]⟩, .slice none 0 0] 28)) #[.int .i64 0, .int .i64 0, .int .i64 0, .int .i64 0, .int .i64 0, .string ⟨#[]⟩, .string ⟨#[]⟩, .slice none 0 0] 28
  rw [World.size_alloc] at kB
  rw [World.size_alloc, World.size_alloc] at kC
  have K0 := hide (And.intro kB (And.intro kC ((((Below.refl w.heap.size w).alloc (Nat.le_refl _) (.cells C 28)).alloc (by simp) (.cells #[.int .i64 0, .int .i64 0, .int .i64 0, .int .i64 0, .int .i64 0, .string ⟨#[]⟩, .string ⟨#[]⟩, .slice none 0 0] 28)).alloc (by simp; omega) (.cells #[.int .i64 0, .int .i64 0, .int .i64 0, .int .i64 0, .int .i64 0, .string ⟨#[]⟩, .string ⟨#[]⟩, .slice none 0 0] 28))))
  clear kB kC
  go_wp2
  generalize hW : ((w.alloc (.cells C 28)).alloc (.cells #[.int .i64 0, .int .i64 0, .int .i64 0, .int .i64 0, .int .i64 0, .string ⟨#[]⟩, .string ⟨#[]⟩, .slice none 0 0] 28)).alloc (.cells #[.int .i64 0, .int .i64 0, .int .i64 0, .int .i64 0, .int .i64 0, .string ⟨#[]⟩, .string ⟨#[]⟩, .slice none 0 0] 28) = W at K0 ⊢
  have hWs : W.heap.size = w.heap.size + 3 := by rw [← hW]; simp
  clear hW
  refine wp_region_noPanic ?_
  refine wp_region_held_drew (S := fun w' => Blk w' (w.heap.size + 1 + 1) noOp 28) (by kernel_rfl) (show Blk W.drew (w.heap.size + 1 + 1) noOp 28 from K0.out.2.1) (fun hH => ?_)
  refine wpAnyH_take (i := 0) (oi := _) (v := .agg noOp) rfl (by kernel_rfl) (by kernel_rfl) (by kernel_rfl) (fun _ _ _ h => h) (yieldsIf_load_mid (by rfl) 28 _ rfl (w.heap.size + 1 + 1) 0 rfl noOp.toList _ (fun w' h => blk_rangeO h) Tryd.underlying28 rfl infoO8) hH ?_
  try simp only [Act.put, List.getElem_toArray, List.getElem_cons_zero, List.getElem_cons_succ, List.setIfInBounds_toArray, List.set_cons_zero, List.set_cons_succ]
  refine wpAnyH_take (i := 1) (oi := _) (v := .iface t' (.pointer (some x'))) rfl (by kernel_rfl) (by kernel_rfl) (by kernel_rfl) (fun _ _ _ h => h) (Or.inl ⟨by rfl, fun w' hw' => by rfl⟩) hH ?_
  try simp only [Act.put, List.getElem_toArray, List.getElem_cons_zero, List.getElem_cons_succ, List.setIfInBounds_toArray, List.set_cons_zero, List.set_cons_succ]
  refine wpAnyH_ready (rs := [2]) (by kernel_rfl) (by simp) ?_
  refine AllReadyH.cons (o := _) rfl (fun K hK => ?_) AllReadyH.nil
  go_simp
  refine (codeOf_any n _ c lo _ (HV.out.1.below (K0.out.2.2.drew.mono (by omega))) (HV.out.2.below K0.out.2.2.drew)).mono ?_
  rintro e w5 ⟨rfl, b5⟩
  have s5 : Blk w5 (w.heap.size + 1 + 1) noOp 28 := Blk.below (w := W.drew) K0.out.2.1 b5 (by show _ < W.heap.size; omega)
  have kb5 : Blk w5 (w.heap.size + 1) noOp 28 := Blk.below (w := W.drew) K0.out.1 b5 (by show _ < W.heap.size; omega)
  have HF := hide (And.intro (kb5.row noOp) (below_setRow (g := w.heap.size + 1) (K0.out.2.2.trans ((((Below.refl _ W).drew).trans b5).mono (by show w.heap.size ≤ W.heap.size; omega))) (by omega) noOp))
  have KB5 := hide kb5
  clear b5 kb5
  refine hK.out _ _ s5 (fun hH5 => ?_)
  clear hK K hH
  try simp only [Act.put, List.getElem_toArray, List.getElem_cons_zero, List.getElem_cons_succ, List.setIfInBounds_toArray, List.set_cons_zero, List.set_cons_succ]
  refine wpAnyH_ready (rs := [3]) (by kernel_rfl) (by simp) ?_
  refine AllReadyH.cons (o := _) rfl (fun K hK => ?_) AllReadyH.nil
  rw [if_pos (by rfl)]
  refine wp_store_row 28 _ _ rfl (w.heap.size + 1) noOp rfl rfl 28 _ KB5.out infoO8 rfl noOp_one ?_
  refine hK.out _ _ (show Blk _ _ _ _ from (setRow_block _ _ _ _ (by omega)).trans hH5) (fun hH6 => ?_)
  clear hK K
  try simp only [Act.put, List.getElem_toArray, List.getElem_cons_zero, List.getElem_cons_succ, List.setIfInBounds_toArray, List.set_cons_zero, List.set_cons_succ]
  refine wpAnyH_ready (rs := [4]) (by kernel_rfl) (by simp) ?_
  refine AllReadyH.cons (o := _) rfl (fun K hK => ?_) AllReadyH.nil
  go_simp
  refine hK.out _ _ hH6 (fun hH7 => ?_)
  clear hK K
  try simp only [Act.put, List.getElem_toArray, List.getElem_cons_zero, List.getElem_cons_succ, List.setIfInBounds_toArray, List.set_cons_zero, List.set_cons_succ]
  refine wpAnyH_done (by kernel_rfl) (NoPanic.normal ?_) _
  clear hH5 hH6 hH7 s5
  go_wp2
  refine bodyPost_ret (v := .tuple #[.agg noOp, .int .i64 c]) ?_ rfl ⟨rfl, HF.out.2⟩
  exact results_row_tmp rfl _ _ (w.heap.size + 1) 28 noOp (0, 0) _ _ rfl rfl HF.out.1 Tryd.underlying28 rfl infoO8

/-- A whole number that an int holds. -/
def In64 (A : Int) : Prop := -9223372036854775808 ≤ A ∧ A ≤ 9223372036854775807
/-- What DecodeOp is to tell of zs. -/
def IsDec (zs : List Int) (K A B U G : Int) (p q : ByteArray) (ds : List Int) (code : Int) : Prop :=
  (code = 0 ∧ zs = bytesO K.toNat A B U.toNat G.toNat p q ds ∧ rightO K U G p q ds.length = true ∧ In64 A ∧ In64 B) ∨
  (code = 21 ∧ (K = 0 ∧ A = 0 ∧ B = 0 ∧ U = 0 ∧ G = 0 ∧ p = ⟨#[]⟩ ∧ q = ⟨#[]⟩ ∧ ds = []) ∧ ∀ (K' A' B' U' G' : Int) (p' q' : ByteArray) (ds' : List Int), rightO K' U' G' p' q' ds'.length = true → In64 A' → In64 B' → zs ≠ bytesO K'.toNat A' B' U'.toNat G'.toNat p' q' ds')
theorem bytesO_inj {K A B U G : Int} {p q : ByteArray} {ds : List Int} {K' A' B' U' G' : Int} {p' q' : ByteArray} {ds' : List Int} (h : bytesO K.toNat A B U.toNat G.toNat p q ds = bytesO K'.toNat A' B' U'.toNat G'.toNat p' q' ds') (hr : rightO K U G p q ds.length = true) (hr' : rightO K' U' G' p' q' ds'.length = true) (hA : In64 A) (hB : In64 B) (hA' : In64 A') (hB' : In64 B') :
    K = K' ∧ A = A' ∧ B = B' ∧ U = U' ∧ G = G' ∧ p = p' ∧ q = q' ∧ ds = ds' := by
  obtain ⟨b0, b1, b2, b3, b4, b5⟩ := rightO_bd hr
  obtain ⟨c0, c1, c2, c3, c4, c5⟩ := rightO_bd hr'
  have e0 := bo0 K.toNat A B U.toNat G.toNat p q ds
  have e1 := bo1 K.toNat A B U.toNat G.toNat p q ds
  have e2 := bo2 K.toNat A B U.toNat G.toNat p q ds
  have e3 := bo3 K.toNat A B U.toNat G.toNat p q ds
  have e4 := bo4 K.toNat A B U.toNat G.toNat p q ds
  have e5 := bo5 K.toNat A B U.toNat G.toNat p q ds
  rw [h] at e0 e1 e2 e3 e4 e5
  rw [bo0] at e0
  rw [bo1] at e1
  rw [bo2] at e2
  rw [bo3] at e3
  rw [bo4] at e4
  rw [bo5] at e5
  have k : ∀ n x y, x < 256 ^ n → y < 256 ^ n → le n x = le n y → x = y := fun n x y hx hy e => by
    have e2 := congrArg unle e
    rw [unleL, unleL, Nat.mod_eq_of_lt hx, Nat.mod_eq_of_lt hy] at e2
    exact e2
  have k0 := k 1 _ _ (by omega) (by omega) e0
  have k1 := k 8 _ _ (by have := s64_lt A'; omega) (by have := s64_lt A; omega) e1
  have k2 := k 8 _ _ (by have := s64_lt B'; omega) (by have := s64_lt B; omega) e2
  have k3 := k 2 _ _ (by omega) (by omega) e3
  have k4 := k 2 _ _ (by omega) (by omega) e4
  have k5 := k 2 _ _ (by omega) (by omega) e5
  have ep := bo6 K.toNat A B U.toNat G.toNat p q ds
  rw [h, ← k5, bo6] at ep
  have hp : p = p' := by rw [← strOf_strI p, ← strOf_strI p', ep]
  have e7 := bo7 K.toNat A B U.toNat G.toNat p q ds
  rw [h, ← k5, bo7] at e7
  have k6 := k 2 _ _ (by omega) (by omega) e7
  have eq := bo8 K.toNat A B U.toNat G.toNat p q ds
  rw [h, ← k5, ← k6, bo8] at eq
  have hq : q = q' := by rw [← strOf_strI q, ← strOf_strI q', eq]
  have e9 := bo9 K.toNat A B U.toNat G.toNat p q ds
  rw [h, ← k5, ← k6, bo9] at e9
  have k7 := k 4 _ _ (by omega) (by omega) e9
  have ed := bo10 K.toNat A B U.toNat G.toNat p q ds
  rw [h, ← k5, ← k6, ← k7, bo10] at ed
  refine ⟨by omega, ?_, ?_, by omega, by omega, hp, hq, ed.symm⟩
  · rw [← s64_back A hA, ← s64_back A' hA', k1]
  · rw [← s64_back B hB, ← s64_back B' hB', k2]
theorem IsDec.one {zs : List Int} {K A B U G : Int} {p q : ByteArray} {ds : List Int} {code : Int} {K' A' B' U' G' : Int} {p' q' : ByteArray} {ds' : List Int} {code' : Int} (h : IsDec zs K A B U G p q ds code) (h' : IsDec zs K' A' B' U' G' p' q' ds' code') :
    code = code' ∧ K = K' ∧ A = A' ∧ B = B' ∧ U = U' ∧ G = G' ∧ p = p' ∧ q = q' ∧ ds = ds' := by
  rcases h with ⟨h1, h2, h3, h4, h5⟩ | ⟨h1, ⟨a1, a2, a3, a4, a5, a6, a7, a8⟩, h3⟩
  · rcases h' with ⟨g1, g2, g3, g4, g5⟩ | ⟨g1, g2, g3⟩
    · exact ⟨by omega, bytesO_inj (h2.symm.trans g2) h3 g3 h4 h5 g4 g5⟩
    · exact absurd h2 (g3 _ _ _ _ _ _ _ _ h3 h4 h5)
  · rcases h' with ⟨g1, g2, g3, g4, g5⟩ | ⟨g1, ⟨c1, c2, c3, c4, c5, c6, c7, c8⟩, g3⟩
    · exact absurd g2 (h3 _ _ _ _ _ _ _ _ g3 g4 g5)
    · subst a6 a7 a8 c6 c7 c8
      exact ⟨by omega, by omega, by omega, by omega, by omega, by omega, rfl, rfl, rfl⟩
theorem isDec_len {zs : List Int} {K A B U G : Int} {p q : ByteArray} {ds : List Int} {code : Int} (h : IsDec zs K A B U G p q ds code) : p.size ≤ 512 ∧ q.size ≤ 512 ∧ ds.length ≤ 4096 := by
  rcases h with ⟨_, _, h, _⟩ | ⟨_, ⟨_, _, _, _, _, rfl, rfl, rfl⟩, _⟩
  · have := rightO_bd h; omega
  · exact ⟨by decide, by decide, by simp⟩
theorem opRd_dec {zs : List Int} {x0 x1 x2 x3 x4 x5 : Nat} {ps : List Int} {x6 : Nat} {qs : List Int} {x7 : Nat} {ds : List Int} {okr : Bool} {pr : Nat} (h : OpRd zs x0 x1 x2 x3 x4 x5 ps x6 qs x7 ds okr pr) (hbd : ∀ z ∈ zs, 0 ≤ z ∧ z < 256) :
    ((okr && decide (zs.length = pr) && rightO (x0 : Int) (x3 : Int) (x4 : Int) (strOfNums ps) (strOfNums qs) ds.length) = true → IsDec zs (x0 : Int) (wrap64 (x1 : Int)) (wrap64 (x2 : Int)) (x3 : Int) (x4 : Int) (strOfNums ps) (strOfNums qs) ds 0) ∧
    ((okr && decide (zs.length = pr) && rightO (x0 : Int) (x3 : Int) (x4 : Int) (strOfNums ps) (strOfNums qs) ds.length) = false → IsDec zs 0 0 0 0 0 ⟨#[]⟩ ⟨#[]⟩ [] 21) := by
  constructor
  · intro hk
    simp only [Bool.and_eq_true, decide_eq_true_eq] at hk
    exact .inl ⟨rfl, (opRd_ok h hbd hk.1.1 hk.1.2).1, hk.2, wrap_range _, wrap_range _⟩
  · intro hk
    refine .inr ⟨rfl, ⟨rfl, rfl, rfl, rfl, rfl, rfl, rfl, rfl⟩, fun K' A' B' U' G' p' q' ds' hr hA hB hz => ?_⟩
    obtain ⟨g1, g2, g3, g4, g5, g6, g7, g8, g9, g10⟩ := opRd_back h hr hA hB hz
    rw [g1, decide_eq_true g2, g3, g6, g7, g8, g9, g10, hr] at hk
    cases hk
set_option maxRecDepth 100000 in
set_option maxHeartbeats 2000000 in
theorem implDO_any (v : Value) (zs : List Int) (w : World) (h : Rd .u8 w v zs) (hbd : ∀ z ∈ zs, 0 ≤ z ∧ z < 256) (hz : zs.length ≤ 1048576) (hg : ErrT w) :
    Calls Tryd.prog 17 #[v] w fun e w' => ∃ (K A B U G : Int) (p q : ByteArray) (dv : Value) (ds : List Int) (code : Int), e = .returned (.tuple #[.agg (opC K A B U G p q dv), .int .i64 code]) ∧ IsDec zs K A B U G p q ds code ∧ w'.ownsRow w.heap.size 5 1 dv ds.length (ds.map (Value.int .u8)) ∧ Below w.heap.size w w' := by
  have HE := hide (And.intro hg hbd)
  have b0 : Below w.heap.size w (w.alloc (.cells #[.int .i64 0, .int .i64 0, .int .i64 0, .int .i64 0, .int .i64 0, .string ⟨#[]⟩, .string ⟨#[]⟩, .slice none 0 0] 28)) := (Below.refl _ _).alloc (Nat.le_refl _) _
  have K0 := hide (And.intro (Blk.new w #[.int .i64 0, .int .i64 0, .int .i64 0, .int .i64 0, .int .i64 0, .string ⟨#[]⟩, .string ⟨#[]⟩, .slice none 0 0] 28) (And.intro b0 (h.below b0)))
  obtain ⟨va, vc, rfl⟩ : ∃ a c, v = .slice a zs.length c := by obtain ⟨a, c, e, _⟩ := h; exact ⟨a, c, e⟩
  clear h hbd hg b0
  go_enter Tryd.func17, Tryd.ntmps17
  go_wp2_with (go_at_call 33; fail)
  refine (readOp_any _ zs _ K0.out.2.2 HE.out.2 hz).mono ?_
  rintro e w1 ⟨x0, x1, x2, x3, x4, x5, ps, x6, qs, x7, dv, ds, okr, pr, ev, rfl, hrd, o1, hf, b1⟩
  obtain ⟨a7, c7, rfl⟩ : ∃ a c, dv = .slice a ds.length c := by obtain ⟨a, c, e, _⟩ := Rd.own o1; exact ⟨a, c, e⟩
  have D1 := hide (opRd_dec hrd HE.out.2)
  have k1 : Blk w1 w.heap.size #[.int .i64 0, .int .i64 0, .int .i64 0, .int .i64 0, .int .i64 0, .string ⟨#[]⟩, .string ⟨#[]⟩, .slice none 0 0] 28 := K0.out.1.below b1 (by simp)
  have B1 := hide (K0.out.2.1.trans (b1.mono (by simp)))
  have O1 := hide (own_mono o1 (show w.heap.size + 1 ≤ _ from by simp))
  have H1 := hide k1
  have hlt : w.heap.size < w1.heap.size := k1.lt
  clear hrd o1 b1 k1 K0
  obtain ⟨C, hC⟩ : ∃ C : Array Value, C = opC (x0 : Int) (wrap64 (x1 : Int)) (wrap64 (x2 : Int)) (x3 : Int) (x4 : Int) (strOfNums ps) (strOfNums qs) (.slice a7 ds.length c7) := ⟨_, rfl⟩
  have HC := hide hC
  have HZ := hide (show C.size = 8 from by rw [hC]; rfl)
  have HC1 := hide (show C.all (·.oneCell') = true from by rw [hC]; exact opC_one _ _ _ _ _ _ _ _ _ _)
  rw [← hC]
  clear hC
  generalize (okr && decide (zs.length = pr) && rightO (x0 : Int) (x3 : Int) (x4 : Int) (strOfNums ps) (strOfNums qs) ds.length) = ok at hf D1
  rcases hf with ⟨rfl, rfl⟩ | ⟨rfl, m, hm⟩
  · have DD := hide (D1.out.1 rfl)
    clear D1
    go_wp2_with (go_at_call 32; fail)
    refine (toldO_ok C _ HZ.out HC1.out).mono ?_
    rintro e w2 ⟨rfl, b2⟩
    have H2 := hide (H1.out.below b2 H1.out.lt)
    have B2 := hide (B1.out.trans (b2.mono B1.out.size))
    have O2 := hide (own_below O1.out b2)
    clear b2 B1 H1 O1
    go_wp2_with (refine wpList_store_row rfl 28 _ _ rfl w.heap.size C rfl rfl 28 _ H2.out (by rw [HZ.out]; exact infoO8) (by rw [HZ.out]; rfl) HC1.out ?_)
    refine bodyPost_ret (v := .tuple #[.agg C, .int .i64 0]) ?_ rfl ⟨(x0 : Int), wrap64 (x1 : Int), wrap64 (x2 : Int), (x3 : Int), (x4 : Int), strOfNums ps, strOfNums qs, .slice a7 ds.length c7, ds, 0, by rw [HC.out], DD.out, own_mono (own_rowO O2.out _ _ (by omega)) (by omega), below_setRow B2.out (Nat.le_refl _) _⟩
    exact results_row_tmp rfl _ _ w.heap.size 28 C (0, 0) _ _ rfl rfl (H2.out.row C) Tryd.underlying28 rfl (by rw [HZ.out]; exact infoO8)
  · have DD := hide (D1.out.2 rfl)
    have HM := hide hm
    obtain ⟨t', x', rfl⟩ := hm.iface
    clear D1 hm
    go_wp2_with (go_at_call 32; fail)
    refine (toldO_bad C _ m _ 21 _ HZ.out HC1.out HM.out (HE.out.1.below B1.out)).mono ?_
    rintro e w2 ⟨rfl, b2⟩
    have H2 := hide (H1.out.below b2 H1.out.lt)
    have B2 := hide (B1.out.trans (b2.mono B1.out.size))
    clear b2 B1 H1 O1
    go_wp2_with (refine wpList_store_row rfl 28 _ _ rfl w.heap.size noOp rfl rfl 28 _ H2.out infoO8 rfl noOp_one ?_)
    refine bodyPost_ret (v := .tuple #[.agg noOp, .int .i64 21]) ?_ rfl ⟨0, 0, 0, 0, 0, ⟨#[]⟩, ⟨#[]⟩, .slice none 0 0, [], 21, rfl, DD.out, World.ownsRow_nil _ _ _ _, below_setRow B2.out (Nat.le_refl _) _⟩
    exact results_row_tmp rfl _ _ w.heap.size 28 noOp (0, 0) _ _ rfl rfl (H2.out.row noOp) Tryd.underlying28 rfl infoO8
end Go.Proofs.YthkoflpcinbgeaaDoor
