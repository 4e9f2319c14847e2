/- An opened node: openNode. The iterator over a directory's entries: its contract. -/
import Derived.Test.YtplieplmhdfndaaGreatDoorZg27
import Derived.Test.YtplieplmhdfndaaGreatDoorZg32
import Derived.RangeFuncNested
import Derived.RangeFuncBound
import Derived.RangeFuncCalls
import Derived.RangeFuncLeaves
import Derived.RangeFuncWrites
import Derived.Shelf.Abstract
import Derived.Shelf.RegionOpen
import Derived.WalkKit
import Derived.OwnWalkIn
import Derived.TacticsInMore
import Derived.LoopNIn
import Derived.LoopIn
import Derived.Maps.AppendAt
import Derived.Sort.CutIn
import Derived.Test.YtplieplmhdfndaaGreatDoorZg30
namespace Go.Proofs.YtplieplmhdfndaaGreatDoor
set_option linter.unusedVariables false
set_option linter.unusedSimpArgs false
open Go.RowKit

/-- A directory that was opened: its entries and its map, as openDirectory leaves them. -/
def DirR (w : World) (d : Nat) (zs : List Int) : Prop := ∃ base mb nn v, Dr (H := Unit) base w d mb (zs.length / 32) nn v (entsI (slotsL zs (zs.length / 32))) (mapR Unit zs (List.range (zs.length / 32)).reverse) ∧ nn ≤ zs.length / 32 ∧ dirOk zs = true
theorem Dr.belowS {H : Type} {base : Nat} {w w' : World} {b mb n nn : Nat} {v : Value} {xs : List Value} {D : DataW H} (h : Dr base w b mb n nn v xs D) (hb : Below w.heap.size w w') : Dr base w' b mb n nn v xs D := by
  have hg : w.grownBy w' none := ⟨hb.os, hb.tape, hb.output, hb.size, fun k hk _ => hb.block k hk⟩
  exact ⟨h.blk.below hb h.blk.lt, h.own.kept hg (by cases v.ownBlock <;> simp), h.ne, h.map.kept hg (by simp), h.nb⟩
theorem DirR.below {w w' : World} {d : Nat} {zs : List Int} (h : DirR w d zs) (hb : Below w.heap.size w w') : DirR w' d zs := by
  obtain ⟨base, mb, nn, v, h1, h2⟩ := h
  exact ⟨base, mb, nn, v, h1.belowS hb, h2⟩
/-- A pointer to an opened node; nil for a free one. -/
def OpN (w : World) (x : Nd) (p : Value) : Prop := (x.k = 0 ∧ p = .pointer none) ∨ (x.k ≠ 0 ∧ ∃ g a c dp, p = .pointer (some ⟨g, 0, none⟩) ∧ Blk w g #[.int .i64 x.k, .int .i64 x.l, .int .i64 x.m, .int .i64 x.u, .int .i64 x.g, .int .i64 x.p, .int .i64 x.e, .int .i64 x.t, .int .i64 x.c, .slice a x.d.length c, dp] 81 ∧ Rd .u8 w (.slice a x.d.length c) x.d ∧ (a = none → c = 0) ∧ ((x.k ≠ 2 ∧ dp = .pointer none) ∨ (x.k = 2 ∧ ∃ d, dp = .pointer (some ⟨d, 0, none⟩) ∧ DirR w d x.d)))
theorem OpN.below {w w' : World} {x : Nd} {p : Value} (h : OpN w x p) (hb : Below w.heap.size w w') : OpN w' x p := by
  rcases h with h | ⟨h0, g, a, c, dp, h1, h2, h3, hn, h4⟩
  · exact .inl h
  · refine .inr ⟨h0, g, a, c, dp, h1, h2.below hb h2.lt, h3.below hb, hn, ?_⟩
    rcases h4 with h4 | ⟨h4, d, h5, h6⟩
    · exact .inl h4
    · exact .inr ⟨h4, d, h5, h6.below hb⟩
/-- The same, with all that was made lying from lo on; the bytes are the slice dv. -/
def OpB (lo : Nat) (w : World) (x : Nd) (dv p : Value) : Prop := (x.k = 0 ∧ p = .pointer none) ∨ (x.k ≠ 0 ∧ ∃ g dp, p = .pointer (some ⟨g, 0, none⟩) ∧ lo ≤ g ∧ Blk w g #[.int .i64 x.k, .int .i64 x.l, .int .i64 x.m, .int .i64 x.u, .int .i64 x.g, .int .i64 x.p, .int .i64 x.e, .int .i64 x.t, .int .i64 x.c, dv, dp] 81 ∧ ((x.k ≠ 2 ∧ dp = .pointer none) ∨ (x.k = 2 ∧ ∃ d base mb nn v, dp = .pointer (some ⟨d, 0, none⟩) ∧ Dr (H := Unit) base w d mb (x.d.length / 32) nn v (entsI (slotsL x.d (x.d.length / 32))) (mapR Unit x.d (List.range (x.d.length / 32)).reverse) ∧ nn ≤ x.d.length / 32 ∧ dirOk x.d = true ∧ lo ≤ d ∧ lo ≤ base ∧ lo ≤ mb)))
theorem OpB.opN {lo : Nat} {w : World} {x : Nd} {a : Option Addr} {c : Nat} {p : Value} (h : OpB lo w x (.slice a x.d.length c) p) (hr : Rd .u8 w (.slice a x.d.length c) x.d) (hn : a = none → c = 0) : OpN w x p := by
  rcases h with h | ⟨h0, g, dp, h1, _, h2, h3⟩
  · exact .inl h
  · refine .inr ⟨h0, g, a, c, dp, h1, h2, hr, hn, ?_⟩
    rcases h3 with h3 | ⟨h3, d, base, mb, nn, v, h4, h5, h6, h7, _⟩
    · exact .inl h3
    · exact .inr ⟨h3, d, h4, base, mb, nn, v, h5, h6, h7⟩
theorem OpB.keepF {lo : Nat} {W W' : World} {x : Nd} {dv p : Value} (h : OpB lo W x dv p) (hk : ∀ k, lo ≤ k → k < W.heap.size → W'.heap[k]? = W.heap[k]?) : OpB lo W' x dv p := by
  rcases h with h | ⟨h0, g, dp, h1, hg, h2, h3⟩
  · exact .inl h
  · refine .inr ⟨h0, g, dp, h1, hg, (hk g hg h2.lt).trans h2, ?_⟩
    rcases h3 with h3 | ⟨h3, d, base, mb, nn, v, h4, h5, h6, h7, h8, h9, h10⟩
    · exact .inl h3
    · refine .inr ⟨h3, d, base, mb, nn, v, h4, ?_, h6, h7, h8, h9, h10⟩
      refine ⟨(hk d h8 h5.blk.lt).trans h5.blk, ⟨h5.own.1, ?_⟩, h5.ne, ?_, h5.nb⟩
      · rcases h5.own.2 with h | ⟨g', cap, cur, e, hb, hh, hr⟩
        · exact .inl h
        · exact .inr ⟨g', cap, cur, e, hb, (hk g' (Nat.le_trans h9 hb) (Array.getElem?_eq_some_iff.1 hh).1).trans hh, hr⟩
      · have hm := h5.map.lt
        obtain ⟨es, ck, e1, e2⟩ := h5.map
        exact ⟨es, ck, (hk mb h10 hm).trans e1, e2⟩
theorem OpB.mono {lo lo' : Nat} {W : World} {x : Nd} {dv p : Value} (h : OpB lo W x dv p) (hl : lo' ≤ lo) : OpB lo' W x dv p := by
  rcases h with h | ⟨h0, g, dp, h1, hg, h2, h3⟩
  · exact .inl h
  · refine .inr ⟨h0, g, dp, h1, Nat.le_trans hl hg, h2, ?_⟩
    rcases h3 with h3 | ⟨h3, d, base, mb, nn, v, h4, h5, h6, h7, h8, h9, h10⟩
    · exact .inl h3
    · exact .inr ⟨h3, d, base, mb, nn, v, h4, h5, h6, h7, Nat.le_trans hl h8, Nat.le_trans hl h9, Nat.le_trans hl h10⟩
def dkB (x : Nd) : Bool := !decide (x.k = 2) || dirOk x.d
set_option maxRecDepth 100000 in
set_option maxHeartbeats 4000000 in
theorem openNode_any (x : Nd) (a : Option Addr) (c : Nat) (w : World) (hd : Rd .u8 w (.slice a x.d.length c) x.d) (hbd : ∀ z ∈ x.d, 0 ≤ z ∧ z < 256) (hnil : a = none → c = 0) :
    Calls Tryz.prog 63 #[.agg #[.int .i64 x.k, .int .i64 x.l, .int .i64 x.m, .int .i64 x.u, .int .i64 x.g, .int .i64 x.p, .int .i64 x.e, .int .i64 x.t, .int .i64 x.c, .slice a x.d.length c]] w fun e w' => ∃ pa ev, e = .returned (.tuple #[.pointer pa, ev]) ∧ FaultIs w' w.heap.size (dkB x) ev 21 ∧ Below w.heap.size w w' ∧ (dkB x = true → OpB w.heap.size w' x (.slice a x.d.length c) (.pointer pa)) := by
  obtain ⟨q, hq⟩ : ∃ q, q = x.d.length := ⟨_, rfl⟩
  obtain ⟨W1, hW1⟩ : ∃ W1, W1 = w.alloc (.cells #[.int .i64 x.k, .int .i64 x.l, .int .i64 x.m, .int .i64 x.u, .int .i64 x.g, .int .i64 x.p, .int .i64 x.e, .int .i64 x.t, .int .i64 x.c, .slice a q c] 56) := ⟨_, rfl⟩
  have b1 : Below w.heap.size w W1 := by rw [hW1]; exact (Below.refl _ _).alloc (Nat.le_refl _) _
  have K1 := hide (show Blk W1 w.heap.size #[.int .i64 x.k, .int .i64 x.l, .int .i64 x.m, .int .i64 x.u, .int .i64 x.g, .int .i64 x.p, .int .i64 x.e, .int .i64 x.t, .int .i64 x.c, .slice a q c] 56 from by rw [hW1]; exact Blk.new w _ _)
  have HD := hide (And.intro (hd.below b1) (And.intro hbd hnil))
  have HB := hide b1
  have HW1 := hide hW1
  have HQ := hide hq
  have HOD := hide (show Calls Tryz.prog 52 #[.slice a q c] W1 _ from by rw [hq]; exact openDir_all Unit c a x.d W1 (hd.below b1) hbd)
  rw [← hq]
  clear hq hd hbd hnil b1 hW1
  have c0 := (K1.out.cell 0).trans (show _ = some (.int .i64 x.k) from rfl)
  have c9 := (K1.out.cell 9).trans (show _ = some (.slice a q c) from rfl)
  by_cases h0 : x.k = 0
  · have h0b : (x.k == 0) = true := by simp [h0]
    have HDK := hide (show dkB x = true from by unfold dkB; rw [h0]; rfl)
    have H0 := hide h0
    clear h0
    go_enter Tryz.func63, Tryz.ntmps63
    go_upto_region 1 with fail
    rw [← HW1.out]
    go_wp2
    refine bodyPost_ret (results_tmp2 rfl _ _ _) rfl ?_
    exact ⟨_, _, rfl, .inl ⟨HDK.out, rfl⟩, HB.out, fun _ => .inl ⟨H0.out, rfl⟩⟩
  have h0b : (x.k == 0) = false := by simpa using h0
  by_cases h2 : x.k = 2
  rotate_left
  · have h2b : (x.k == 2) = false := by simpa using h2
    have HDK := hide (show dkB x = true from by unfold dkB; rw [decide_eq_false h2]; rfl)
    have H0 := hide (And.intro h0 h2)
    obtain ⟨W2, hW2⟩ : ∃ W2, W2 = W1.alloc (.cells #[.int .i64 x.k, .int .i64 x.l, .int .i64 x.m, .int .i64 x.u, .int .i64 x.g, .int .i64 x.p, .int .i64 x.e, .int .i64 x.t, .int .i64 x.c, .slice a q c, .pointer none] 81) := ⟨_, rfl⟩
    have HFin := hide (show Below w.heap.size w W2 ∧ OpB w.heap.size W2 x (.slice a q c) (.pointer (some ⟨W1.heap.size, 0, none⟩)) from by
      have b2 : Below W1.heap.size W1 W2 := by rw [hW2]; exact (Below.refl _ _).alloc (Nat.le_refl _) _
      refine ⟨HB.out.trans (b2.mono HB.out.size), .inr ⟨h0, W1.heap.size, .pointer none, rfl, HB.out.size, ?_, .inl ⟨h2, rfl⟩⟩⟩
      rw [hW2]
      exact Blk.new W1 _ _)
    have HW2 := hide hW2
    clear h0 h2 hW2
    go_enter Tryz.func63, Tryz.ntmps63
    go_upto_region 1 with fail
    rw [← HW1.out]
    go_wp2_with (refine wpList_load_row rfl 56 _ rfl w.heap.size rfl 56 #[.int .i64 x.k, .int .i64 x.l, .int .i64 x.m, .int .i64 x.u, .int .i64 x.g, .int .i64 x.p, .int .i64 x.e, .int .i64 x.t, .int .i64 x.c, .slice a q c] (0, 0) _ K1.out Tryz.underlying56 rfl infoNd ?_)
    rw [← HW2.out]
    refine bodyPost_ret (results_tmp2 rfl _ _ _) rfl ?_
    exact ⟨_, _, rfl, .inl ⟨HDK.out, rfl⟩, HFin.out.1, fun _ => HFin.out.2⟩
  have h2b : (x.k == 2) = true := by simp [h2]
  have HDK := hide (show dkB x = dirOk x.d from by unfold dkB; rw [decide_eq_true h2]; rfl)
  have H0 := hide (And.intro h0 h2)
  clear h0 h2
  go_enter Tryz.func63, Tryz.ntmps63
  go_upto_region 1 with fail
  rw [← HW1.out]
  go_wp2_with (go_at_call 52; fail)
  refine HOD.out.mono ?_
  rintro e w2 ⟨dp, ev, rfl, hf, b2, hdr⟩
  have KB := hide (K1.out.below b2 K1.out.lt)
  have HF := hide hf
  have HB2 := hide b2
  have HDR := hide hdr
  clear hf b2 hdr c0 c9
  go_wp2_with (refine wpList_load_row rfl 56 _ rfl w.heap.size rfl 56 #[.int .i64 x.k, .int .i64 x.l, .int .i64 x.m, .int .i64 x.u, .int .i64 x.g, .int .i64 x.p, .int .i64 x.e, .int .i64 x.t, .int .i64 x.c, .slice a q c] (0, 0) _ KB.out Tryz.underlying56 rfl infoNd ?_)
  obtain ⟨W3, hW3⟩ : ∃ W3, W3 = w2.alloc (.cells #[.int .i64 x.k, .int .i64 x.l, .int .i64 x.m, .int .i64 x.u, .int .i64 x.g, .int .i64 x.p, .int .i64 x.e, .int .i64 x.t, .int .i64 x.c, .slice a q c, .pointer dp] 81) := ⟨_, rfl⟩
  have b3 : Below w2.heap.size w2 W3 := by rw [hW3]; exact (Below.refl _ _).alloc (Nat.le_refl _) _
  have HB3 := hide (show Below w.heap.size w W3 from (HB.out.trans (HB2.out.mono HB.out.size)).trans (b3.mono (Nat.le_trans HB.out.size HB2.out.size)))
  have HF3 := hide ((HF.out.below b3).mono HB.out.size)
  rw [← hW3]
  refine bodyPost_ret (results_tmp2 rfl _ _ _) rfl ?_
  refine ⟨_, _, rfl, by rw [HDK.out]; exact HF3.out, HB3.out, fun hok => .inr ⟨H0.out.1, w2.heap.size, .pointer dp, rfl, Nat.le_trans HB.out.size HB2.out.size, ?_, .inr ⟨H0.out.2, ?_⟩⟩⟩
  · rw [hW3]
    exact Blk.new w2 _ _
  · rw [HDK.out] at hok
    obtain ⟨d, mb, nn, v', rfl, hd1, hd2, hnn, hdr⟩ := HDR.out hok
    exact ⟨d, W1.heap.size, mb, nn, v', rfl, hdr.belowS b3, hnn, hok, Nat.le_trans HB.out.size hd1, HB.out.size, Nat.le_trans HB.out.size hd2⟩
end Go.Proofs.YtplieplmhdfndaaGreatDoor

namespace Go.Proofs.YtplieplmhdfndaaGreatDoor
set_option linter.unusedVariables false
set_option linter.unusedSimpArgs false
open Go.RowKit Go.Shelf
attribute [local go_sem] Oper.semAt_some

theorem wpListIn_neqE {F : Fence} {n : Nat} {P : Program} {ops : Array Oper} {rest : List Oper} {o : Oper} {a : Act} {w : World} {Q : Exit → Act → World → Prop} (hgd : o.guard = none) (t u : TypeId) (x y : Operand) (ho : o.op = .binOp .neq t x y u)
    (cs ds : Array Value) (hx : a.eval x = .agg cs) (hy : a.eval y = .agg ds) (hm : P.eqGuardType P.depth t = false) (b : Bool) (hE : (Op.equalIn 10000 t (.agg cs) (.agg ds)).run P w = .ok b w)
    (h : wpListIn F n P ops Q rest (a.put o.dst (.bool (!b))) w) : wpListIn F n P ops Q (o :: rest) a w := by
  refine wpListIn_run hgd (by rw [ho]; intro c hc; cases hc) (by rw [ho]; intro c hc; cases hc) _ _ ?_ h
  simp [execOp, ho, hx, hy, run_eqGuard_agg w _ _ _ _ _ _ hm, run_neq_struct, hE, Result.andThen]
/-- What a round that goes on keeps: whatever lies below n₀, and block X. -/
def Kd (n₀ X : Nat) (W W' : World) : Prop := Below n₀ W W' ∧ W'.heap[X]? = W.heap[X]?
theorem Kd.trans {n₀ X : Nat} {A B C : World} (h : Kd n₀ X A B) (k : Kd n₀ X B C) : Kd n₀ X A C := ⟨h.1.trans k.1, k.2.trans h.2⟩
/-- An entry of a list. -/
abbrev EsX (es : List (ByteArray × Nat × Nat)) := { e : ByteArray × Nat × Nat // e ∈ es }
def entV (e : ByteArray × Nat × Nat) : Value := .agg #[.string e.1, .int .i64 (e.2.1 : Int), .int .i64 (e.2.2 : Int)]
/-- The slots lie in a row at g. -/
def SlR (W : World) (g N : Nat) (zs : List Int) : Prop := ∀ k, k < N → W.rangeAt g (k * 3) (entC (slotE zs k).1 (slotE zs k).2.1 (slotE zs k).2.2).toList
theorem SlR.low {W W' : World} {g N n₀ : Nat} {zs : List Int} (h : SlR W g N zs) (hg : g < n₀) (hb : Below n₀ W W') : SlR W' g N zs := fun k hk j u hu => (hb.cell (p := ⟨g, k * 3 + j, none⟩) hg).trans (h k hk j u hu)
theorem SlR.up {W W' : World} {g N : Nat} {zs : List Int} (h : SlR W g N zs) (hb : Below W.heap.size W W') : SlR W' g N zs := fun k hk j u hu => (hb.cell (cell_lt (h k hk j u hu))).trans (h k hk j u hu)
theorem DirR.read {W : World} {d : Nat} {zs : List Int} (h : DirR W d zs) : d < W.heap.size ∧ ∃ a cap, W.cell? ⟨d, 0, none⟩ = some (.slice a (zs.length / 32) cap) ∧ (0 < zs.length / 32 → ∃ g, a = some ⟨g, 0, none⟩ ∧ g < W.heap.size ∧ SlR W g (zs.length / 32) zs) ∧ zs.length / 32 ≤ cap ∧ cap ≤ maxLen := by
  obtain ⟨base, mb, nn, v, hdr, _, hok⟩ := h
  refine ⟨hdr.blk.lt, ?_⟩
  obtain ⟨a, cap, rfl⟩ := ownD_shape hdr.own
  refine ⟨a, cap, (hdr.blk.cell 0).trans rfl, fun h0 => ?_, ?_⟩
  · obtain ⟨g, cp, e, hg1, hg2, hgc⟩ := own_sliceD hdr.own (by omega)
    injection e with e1 e2 e3
    refine ⟨g, e1, (hdr.own.lt g (by rw [e1]; rfl)).2, fun k hk j u hu => ?_⟩
    have hL : (slotsL zs (zs.length / 32))[k]? = some (slotE zs k) := by simp [slotsL, hk]
    have h1 := hgc (k * 3 + j) u (entsI_at hL j u hu)
    rwa [Addr.add_mid, Nat.zero_add] at h1
  · rcases hdr.own.2 with ⟨e4, h4⟩ | ⟨g', cp', cur, e4, _, _, hn1, hn2, _⟩
    · injection e4 with _ h5 h6
      rw [h5, h6]
      exact ⟨Nat.le_refl _, by unfold maxLen; omega⟩
    · injection e4 with e5 e6 e7
      subst e7
      exact ⟨hn1, hn2⟩
theorem entT_pre {zs : List Int} {m : Nat} {es : List (ByteArray × Nat × Nat)} (h : entT zs m = some es) : ∀ {k : Nat}, k ≤ m → ∃ fs, entT zs k = some fs ∧ fs <+: es := by
  intro k hk
  obtain ⟨d, rfl⟩ : ∃ d, m = k + d := ⟨m - k, by omega⟩
  clear hk
  induction d generalizing es with
  | zero => exact ⟨es, h, List.prefix_refl _⟩
  | succ d ih =>
    obtain ⟨gs, h1, h2⟩ := entT_some h
    obtain ⟨fs, h3, h4⟩ := ih h1
    refine ⟨fs, h3, ?_⟩
    rcases h2 with ⟨_, rfl⟩ | ⟨_, _, _, rfl⟩
    · exact h4
    · exact h4.trans (List.prefix_append _ _)
set_option maxRecDepth 100000 in
set_option maxHeartbeats 2000000 in
theorem all1_in (n : Nat) (hn : 1 ≤ n) (l X n₀ d cap : Nat) (a : Option Addr) (zs : List Int) (es : List (ByteArray × Nat × Nat)) (N : Nat) (hN : N ≤ 8192) (hes : entT zs N = some es) (hd : d < n₀) (J Jx : List (EsX es) → World → Prop)
    (hJA : ∀ s A o, J s A → J s (World.alloc A o))
    (hY : ∀ pre x W, J pre W → pre.length < es.length → YieldAt Fence.wide (n - 1) Tryz.prog l #[entV x.1] W fun e W' =>
      (e = .returned (.bool true) ∧ J (pre ++ [x]) W' ∧ Kd n₀ X W W') ∨ (e = .returned (.bool false) ∧ Jx (pre ++ [x]) W'))
    (W : World) (hn0 : n₀ ≤ W.heap.size) (hX : Boxed W X 79 (.pointer (some ⟨d, 0, none⟩))) (hc0 : W.cell? ⟨d, 0, none⟩ = some (.slice a N cap)) (hrow : 0 < N → ∃ g, a = some ⟨g, 0, none⟩ ∧ g < n₀ ∧ SlR W g N zs) (h0 : J [] W) :
    CallsIn Fence.wide n Tryz.prog 146 #[.func (.yield l) #[] #[], .pointer (some ⟨X, 0, none⟩)] W fun e W' => (∃ v, e = .returned v) ∧
      ((∃ ys : List (EsX es), ys.map Subtype.val = es ∧ J ys W') ∨ (∃ pre : List (EsX es), pre.map Subtype.val <+: es ∧ Jx pre W')) := by
  have c1 := hX.cell
  have HY := hide hY
  have HJA := hide hJA
  have HES := hide hes
  have HS := hide (And.intro hrow h0)
  clear hX hY hes hrow h0 hJA
  refine callsIn_of_wp Tryz.func146 rfl trivial ?_ rfl
  simp only [Tryz.ntmps146, List.size_toArray, List.length_cons, List.length_nil, Nat.reduceAdd, Nat.reduceSub, Array.replicate_succ, Array.replicate_zero, List.push_toArray, List.append_toArray, List.nil_append, List.cons_append]
  gi_wp2
  clear c1 hc0
  gi_loopw [10] (fun iv wr => ∃ k : Nat, k ≤ N ∧ iv = .int .i64 (k : Int) ∧ Hid (n₀ ≤ wr.heap.size) ∧ Hid (0 < N → ∃ g, a = some ⟨g, 0, none⟩ ∧ g < n₀ ∧ SlR wr g N zs) ∧ Hid (∃ pre : List (EsX es), some (pre.map Subtype.val) = entT zs k ∧ J pre wr)) (fun iv _ => N - (intOf iv).toNat)
  case atStart => exact ⟨0, Nat.zero_le _, rfl, hn0, HS.out.1, [], rfl, HS.out.2⟩
  case round =>
    obtain ⟨k, hk, rfl, HSZ, HR, HP⟩ := hrel
    by_cases hlt : k < N
    · obtain ⟨g, rfl, hg, hs⟩ := HR.out (by omega)
      obtain ⟨pre, hpre, hJ⟩ := HP.out
      obtain ⟨nm, ino, kd, hse⟩ : ∃ nm ino kd, slotE zs k = (nm, ino, kd) := ⟨_, _, _, rfl⟩
      have hrg := hs k hlt
      rw [hse] at hrg
      have HRG := hide (show wr.rangeAt g (k * 3) [.string nm, .int .i64 ino, .int .i64 kd] from hrg)
      have HSE := hide hse
      have HPR := hide hpre
      have HSL := hide hs
      obtain ⟨Wa, hWa⟩ : ∃ Wa, Wa = wr.alloc (.cells #[.string nm, .int .i64 ino, .int .i64 kd] 61) := ⟨_, rfl⟩
      have ba : Below wr.heap.size wr Wa := by rw [hWa]; exact (Below.refl _ _).alloc (Nat.le_refl _) _
      have KA := hide (show Blk Wa wr.heap.size #[.string nm, .int .i64 ino, .int .i64 kd] 61 from by rw [hWa]; exact Blk.new wr _ _)
      have HBA := hide ba
      have HJA0 := hide (show J pre Wa from by rw [hWa]; exact HJA.out _ _ _ hJ)
      have HWA := hide hWa
      obtain ⟨dq, hdq⟩ : ∃ dq, dq = wr.heap.size := ⟨_, rfl⟩
      rw [← hdq] at KA
      have HDQ := hide hdq
      have q0 := (KA.out.cell 0).trans (show _ = some (.string nm) from rfl)
      have q1 := (KA.out.cell 1).trans (show _ = some (.int .i64 ino) from rfl)
      have q2 := (KA.out.cell 2).trans (show _ = some (.int .i64 kd) from rfl)
      have HSL2 := hide (show n₀ ≤ Wa.heap.size ∧ SlR Wa g N zs from ⟨Nat.le_trans HSZ.out ba.size, hs.up ba⟩)
      clear hs hpre hJ hse hWa ba hdq HR HP hrg
      have HE := hide (fun w => eqEnt w 9998 nm ino kd ⟨#[]⟩ 0 0)
      gi_upto_region 3 with (refine wpListIn_load_mid rfl 61 _ rfl g (k * 3) rfl [.string nm, .int .i64 ino, .int .i64 kd] _ HRG.out Tryz.underlying61 rfl infoD3 ?_)
      rw [← HWA.out, ← HDQ.out]
      cases hz : sZero (slotK zs k) with
      | true =>
        have HEq := hide (show entEq nm ino kd ⟨#[]⟩ 0 0 = true from by
          have h1 := zE_slot (zs := zs) (k := k) (by rw [hz]; rfl)
          rw [HSE.out, hz] at h1
          exact h1)
        have HE2 := hide (fun w => (HE.out w).trans (by rw [HEq.out]))
        have HNext := hide (show some (pre.map Subtype.val) = entT zs (k + 1) from by rw [entT_zero HPR.out.symm hz])
        clear hz
        gi_wp2_with (refine wpListIn_neqE rfl 61 _ _ _ rfl #[.string nm, .int .i64 ino, .int .i64 kd] #[.string ⟨#[]⟩, .int .i64 0, .int .i64 0] rfl rfl guardEnt true (HE2.out _) ?_)
        refine ⟨fun _ h => (by cases h), ?_⟩
        gi_wp2
        go_roundw
        case rel => exact ⟨k + 1, by omega, by go_num, hide HSL2.out.1, hide (fun _ => ⟨g, rfl, hg, HSL2.out.2⟩), hide ⟨pre, HNext.out, HJA0.out⟩⟩
        case measure => simp [intOf]; omega
      | false =>
        obtain ⟨fs, hfs, hfp⟩ := entT_pre HES.out (k := k + 1) hlt
        obtain ⟨gs, hgs, hcase⟩ := entT_some hfs
        rw [← HPR.out] at hgs
        cases hgs
        rcases hcase with ⟨h1, _⟩ | ⟨_, hright, _, rfl⟩
        · rw [hz] at h1; cases h1
        have hsl : slotE zs k = (sName (slotK zs k), (sIno (slotK zs k) : Int), (sKind (slotK zs k) : Int)) := by unfold slotE; rw [if_neg (by rw [hz]; simp)]
        have HEq := hide (show entEq nm ino kd ⟨#[]⟩ 0 0 = false from by
          have h1 := zE_slot (zs := zs) (k := k) (by rw [hright]; simp)
          rw [HSE.out, hz] at h1
          exact h1)
        have HE2 := hide (fun w => (HE.out w).trans (by rw [HEq.out]))
        rw [HSE.out] at hsl
        injection hsl with e1 e2
        injection e2 with e2 e3
        obtain ⟨i2, hi2⟩ : ∃ i2, i2 = sIno (slotK zs k) := ⟨_, rfl⟩
        obtain ⟨k2, hk2⟩ : ∃ k2, k2 = sKind (slotK zs k) := ⟨_, rfl⟩
        rw [← e1, ← hi2, ← hk2] at hfs hfp
        rw [← hi2] at e2
        rw [← hk2] at e3
        subst e2 e3
        obtain ⟨x, hx⟩ : ∃ x : EsX es, x.1 = (nm, i2, k2) := ⟨⟨(nm, i2, k2), hfp.subset (by simp)⟩, rfl⟩
        have hlen : pre.length < es.length := by
          have := hfp.length_le
          simp at this
          omega
        have HMap := hide (show (pre ++ [x]).map Subtype.val = pre.map Subtype.val ++ [(nm, i2, k2)] from by simp [hx])
        have HNext := hide (show some ((pre ++ [x]).map Subtype.val) = entT zs (k + 1) from by rw [HMap.out]; exact hfs.symm)
        have HPre := hide (show (pre ++ [x]).map Subtype.val <+: es from by rw [HMap.out]; exact hfp)
        obtain ⟨fn, tmps, assign, body, hy, hR⟩ := HY.out pre x Wa HJA0.out hlen
        have hv : entV x.1 = .agg #[.string nm, .int .i64 (i2 : Int), .int .i64 (k2 : Int)] := by rw [hx]; rfl
        rw [hv] at hy
        have HR2 := hide hR
        clear hR hz e1 hi2 hk2 hfs hfp hright hx hv hlen
        gi_wp2_with (refine wpListIn_neqE rfl 61 _ _ _ rfl #[.string nm, .int .i64 (i2 : Int), .int .i64 (k2 : Int)] #[.string ⟨#[]⟩, .int .i64 0, .int .i64 0] rfl rfl guardEnt false (HE2.out _) ?_)
        refine HR2.out.mono ?_
        rintro e W3 (⟨rfl, hJ3, hk3⟩ | ⟨rfl, hJx3⟩)
        · have H3 := hide (And.intro hJ3 hk3)
          clear hJ3 hk3 q0 q1 q2 HR2
          gi_wp2
          go_roundw
          case rel => exact ⟨k + 1, by omega, by go_num, hide (Nat.le_trans HSL2.out.1 H3.out.2.1.size), hide (fun _ => ⟨g, rfl, hg, HSL2.out.2.low hg H3.out.2.1⟩), hide ⟨pre ++ [x], HNext.out, H3.out.1⟩⟩
          case measure => simp [intOf]; omega
        · have HX := hide hJx3
          clear hJx3
          gi_wp2
          refine bodyPost_ret (results_none rfl _ _ _) rfl ?_
          exact ⟨⟨_, rfl⟩, .inr ⟨pre ++ [x], HPre.out, HX.out⟩⟩
    · obtain ⟨pre, hpre, hJ⟩ := HP.out
      have hkN : k = N := by omega
      have HF := hide (show pre.map Subtype.val = es from by rw [hkN, HES.out] at hpre; exact Option.some.inj hpre)
      have HJ := hide hJ
      clear hpre hJ hkN
      gi_wp2
      go_end0
      exact ⟨⟨_, rfl⟩, .inl ⟨pre, HF.out, HJ.out⟩⟩
set_option maxHeartbeats 1000000 in
/-- all: the directory is boxed; the function value captures the box. -/
theorem all_in (n : Nat) (d : Nat) (w : World) :
    CallsIn Fence.wide n Tryz.prog 98 #[.pointer (some ⟨d, 0, none⟩)] w fun e w' => e = .returned (.func (.func 146) #[] #[.pointer (some ⟨w.heap.size, 0, none⟩)]) ∧ w' = w.alloc (.cells #[.pointer (some ⟨d, 0, none⟩)] 79) := by
  refine callsIn_of_wp Tryz.func98 rfl trivial ?_ rfl
  simp only [Tryz.ntmps98, List.size_toArray, List.length_cons, List.length_nil, Nat.reduceAdd, Nat.reduceSub, Array.replicate_succ, Array.replicate_zero, List.push_toArray, List.append_toArray, List.nil_append, List.cons_append]
  gi_wp2
  go_ret
  exact ⟨rfl, rfl⟩
/-- The entries of a directory that lies below n₀: all in their order, or a part of them from the first on. -/
theorem all_stops (n : Nat) (hn : 1 ≤ n) (X n₀ d : Nat) (zs : List Int) (es : List (ByteArray × Nat × Nat)) (w0 w : World) (hD : DirR w0 d zs) (h0 : n₀ = w0.heap.size) (hb : Below w0.heap.size w0 w) (hes : entT zs (zs.length / 32) = some es) (hX : Boxed w X 79 (.pointer (some ⟨d, 0, none⟩))) :
    SeqStopsK Fence.wide n Tryz.prog 146 #[.pointer (some ⟨X, 0, none⟩)] (fun x : EsX es => #[entV x.1]) (Kd n₀ X) (fun ys => ys.map Subtype.val = es) (fun pre => pre.map Subtype.val <+: es) es.length w := fun l J Jx W hW hJ _ hY hj0 => by
  have hok : dirOk zs = true := by obtain ⟨_, _, _, _, _, _, h⟩ := hD; exact h
  obtain ⟨hd, a, cap, hc, hr, _⟩ := hD.read
  have hB : Below w0.heap.size w0 W := hb.trans (hW.mono hb.size)
  have hl := dirOk_lenQ hok
  refine all1_in n hn l X n₀ d cap a zs es (zs.length / 32) (by omega) hes (by omega) J Jx (fun s A o h => ?_) hY W (by rw [h0]; exact hB.size) ((hW.block X hX.lt).trans hX) ((hB.cell (p := ⟨d, 0, none⟩) hd).trans hc) (fun hp => ?_) hj0
  · exact hJ s A (A.alloc o) none h ⟨rfl, rfl, rfl, by simp, fun k hk _ => Below.heap_alloc _ _ k hk⟩ (fun r e => by cases e)
  · obtain ⟨g, h1, h2, h3⟩ := hr hp
    exact ⟨g, h1, by omega, h3.low (by omega) hB⟩
theorem Kd_b {n₀ X : Nat} {w : World} (hn : n₀ ≤ w.heap.size) (hX : X < w.heap.size) (W : World) (l : Nat) (o o' : Obj) (hl : w.heap.size ≤ l) (h : W.heap[l]? = some o) (h1 : o.isCells = false) (h2 : o.isWalk = false) : Kd n₀ X W (W.putObj l o') :=
  ⟨belowK_b hn W l o o' hl h h1 h2, World.putObj_heap_other (by omega)⟩
end Go.Proofs.YtplieplmhdfndaaGreatDoor
