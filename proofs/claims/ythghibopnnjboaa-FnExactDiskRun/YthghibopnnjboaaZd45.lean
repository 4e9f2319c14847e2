/- DiskOut: two that are the same, marks, marks held. -/
import Derived.Test.YthghibopnnjboaaZd09
import Derived.Test.YthghibopnnjboaaZd44
namespace Go.Proofs.Ythghibopnnjboaa
set_option linter.unusedVariables false
set_option linter.unusedSimpArgs false
open Go.RowKit

abbrev OutR := Int × List (Int × List Int) × List Int × List Int × Int
/-- A DiskOut that reads so. -/
structure RdO (W : World) (va v2 v3 : Value) (r : OutR) (vs : List Value) : Prop where
  ans : RdN W 1 va (r.2.1.map neA) vs
  img : Rd .u8 W v2 r.2.2.1
  see : Rd .u8 W v3 r.2.2.2.1
section
variable {W W' : World} {base : Nat} {va v2 v3 : Value} {r : OutR} {vs : List Value}
theorem OwnO.rd (h : OwnO W base va v2 v3 r vs) : RdO W va v2 v3 r vs := ⟨h.ans.rd, Rd.own h.img, Rd.own h.see⟩
theorem RdO.below (h : RdO W va v2 v3 r vs) (hb : Below W.heap.size W W') : RdO W' va v2 v3 r vs := ⟨h.ans.below hb, h.img.below hb, h.see.below hb⟩
theorem OwnO.below (h : OwnO W base va v2 v3 r vs) (hb : Below W.heap.size W W') : OwnO W' base va v2 v3 r vs := ⟨h.ans.below hb, own_below h.img hb, own_below h.see hb⟩
end
def outV (r : OutR) (va v2 v3 : Value) : Value := .agg #[.int .i64 r.1, va, v2, v3, .int .i64 r.2.2.2.2]
set_option maxRecDepth 100000 in
set_option maxHeartbeats 2000000 in
theorem eqOut_same (r : OutR) (va v2 v3 ua u2 u3 : Value) (vs us : List Value) (w : World) (h1 : RdO w va v2 v3 r vs) (h2 : RdO w ua u2 u3 r us) :
    Calls Try.prog 17 #[outV r va v2 v3, outV r ua u2 u3] w fun e w' => e = .returned (.bool true) ∧ Below w.heap.size w w' := by
  obtain ⟨c, A, I, E, n⟩ := r
  obtain ⟨a1, c1, rfl⟩ : ∃ a cap, va = .slice a A.length cap := by obtain ⟨a, cap, e, _⟩ := h1.ans.row; exact ⟨a, cap, by simpa using e⟩
  obtain ⟨a2, c2, rfl⟩ : ∃ a cap, ua = .slice a A.length cap := by obtain ⟨a, cap, e, _⟩ := h2.ans.row; exact ⟨a, cap, by simpa using e⟩
  obtain ⟨a3, c3, rfl⟩ := rd_shape h1.img
  obtain ⟨a4, c4, rfl⟩ := rd_shape h2.img
  obtain ⟨a5, c5, rfl⟩ := rd_shape h1.see
  obtain ⟨a6, c6, rfl⟩ := rd_shape h2.see
  have H1 := hide h1
  have H2 := hide h2
  simp only [outV]
  simp only at h1 h2
  obtain ⟨X, hX⟩ : ∃ X : Array Value, X = #[.int .i64 c, .slice a1 A.length c1, .slice a3 I.length c3, .slice a5 E.length c5, .int .i64 n] := ⟨_, rfl⟩
  obtain ⟨Y, hY⟩ : ∃ Y : Array Value, Y = #[.int .i64 c, .slice a2 A.length c2, .slice a4 I.length c4, .slice a6 E.length c6, .int .i64 n] := ⟨_, rfl⟩
  obtain ⟨W2, hW2⟩ : ∃ W2, W2 = (w.alloc (.cells X 33)).alloc (.cells Y 33) := ⟨_, rfl⟩
  have b2 : Below w.heap.size w W2 := by rw [hW2]; exact ((Below.refl _ _).alloc (Nat.le_refl _) _).alloc (by simp) _
  have kY := Blk.new (w.alloc (.cells X 33)) Y 33
  rw [World.size_alloc] at kY
  have K := hide (show Blk W2 w.heap.size X 33 ∧ Blk W2 (w.heap.size + 1) Y 33 ∧ Below w.heap.size w W2 from ⟨by rw [hW2]; exact (Blk.new w _ _).alloc _, by rw [hW2]; exact kY, b2⟩)
  rw [hX, hY] at hW2
  have HW2 := hide hW2
  have xq := hide hX
  have yq := hide hY
  have qc : (c != c) = false := by simp
  have qn : (n != n) = false := by simp
  clear hW2 kY b2 hX hY h1 h2
  have getc : ∀ (wx : World), Below W2.heap.size W2 wx → Blk wx w.heap.size X 33 ∧ Blk wx (w.heap.size + 1) Y 33 := fun wx hb => ⟨K.out.1.below hb K.out.1.lt, K.out.2.1.below hb K.out.2.1.lt⟩
  have GC := hide getc
  clear getc
  have k0 := GC.out W2 (Below.refl _ _)
  rw [xq.out, yq.out] at k0
  have x0 := (k0.1.cell 0).trans (show _ = some (.int .i64 c) from rfl)
  have x1 := (k0.1.cell 1).trans (show _ = some (.slice a1 A.length c1) from rfl)
  have y0 := (k0.2.cell 0).trans (show _ = some (.int .i64 c) from rfl)
  have y1 := (k0.2.cell 1).trans (show _ = some (.slice a2 A.length c2) from rfl)
  clear k0
  go_enter Try.func17, Try.ntmps17
  go_upto_region 1 with fail
  rw [← HW2.out]
  go_wp2_with fail
  refine (eqDiskAnsS_same _ _ A vs us W2 (H1.out.ans.below K.out.2.2) (H2.out.ans.below K.out.2.2)).mono ?_
  rintro e w3 ⟨rfl, b3⟩
  have k3 := GC.out w3 b3
  rw [xq.out, yq.out] at k3
  have x2 := (k3.1.cell 2).trans (show _ = some (.slice a3 I.length c3) from rfl)
  have y2 := (k3.2.cell 2).trans (show _ = some (.slice a4 I.length c4) from rfl)
  have B3 := hide b3
  clear x0 x1 y0 y1 b3 k3
  go_wp2_with fail
  refine (eqByteS_same _ _ I w3 (H1.out.img.below (K.out.2.2.trans (B3.out.mono K.out.2.2.size))) (H2.out.img.below (K.out.2.2.trans (B3.out.mono K.out.2.2.size)))).mono ?_
  rintro e w4 ⟨rfl, b4⟩
  have B4 := hide (B3.out.trans (b4.mono B3.out.size))
  have k4 := GC.out w4 B4.out
  rw [xq.out, yq.out] at k4
  have x3 := (k4.1.cell 3).trans (show _ = some (.slice a5 E.length c5) from rfl)
  have y3 := (k4.2.cell 3).trans (show _ = some (.slice a6 E.length c6) from rfl)
  clear x2 y2 b4 k4 B3
  go_wp2_with fail
  refine (eqByteS_same _ _ E w4 (H1.out.see.below (K.out.2.2.trans (B4.out.mono K.out.2.2.size))) (H2.out.see.below (K.out.2.2.trans (B4.out.mono K.out.2.2.size)))).mono ?_
  rintro e w5 ⟨rfl, b5⟩
  have B5 := hide (B4.out.trans (b5.mono B4.out.size))
  have k5 := GC.out w5 B5.out
  rw [xq.out, yq.out] at k5
  have x4 := (k5.1.cell 4).trans (show _ = some (.int .i64 n) from rfl)
  have y4 := (k5.2.cell 4).trans (show _ = some (.int .i64 n) from rfl)
  clear x3 y3 b5 k5 B4
  go_wp2
  go_ret
  exact ⟨rfl, K.out.2.2.trans (B5.out.mono K.out.2.2.size)⟩
/-- Where the marks of a DiskOut end. -/
def endO1 (k0 : Nat) (r : OutR) : Nat := endN 1 k0 (r.2.1.map neA)
def endO (k0 : Nat) (r : OutR) : Nat := endO1 k0 r + r.2.2.1.length + r.2.2.2.1.length
/-- A DiskOut with its marks. -/
structure MkO (W : World) (base : Nat) (va v2 v3 : Value) (k0 : Nat) (r : OutR) (vs : List Value) : Prop where
  ans : OwnN W base 55 1 va (mkN 1 k0 (r.2.1.map neA)) vs
  img : W.ownsRow base 5 1 v2 r.2.2.1.length ((mk8 (endO1 k0 r) r.2.2.1.length).map (Value.int .u8))
  see : W.ownsRow base 5 1 v3 r.2.2.2.1.length ((mk8 (endO1 k0 r + r.2.2.1.length) r.2.2.2.1.length).map (Value.int .u8))
theorem MkO.below {W W' : World} {base : Nat} {va v2 v3 : Value} {k0 : Nat} {r : OutR} {vs : List Value} (h : MkO W base va v2 v3 k0 r vs) (hb : Below W.heap.size W W') : MkO W' base va v2 v3 k0 r vs := ⟨h.ans.below hb, own_below h.img hb, own_below h.see hb⟩
theorem KpN.ownB {W W' : World} {base base' : Nat} {e : TypeId} {sz n : Nat} {v v2 : Value} {vs2 : List Value} {xs : List Value} (k : KpN W W' v2 vs2) (h : W.ownsRow base e sz v n xs) (h1 : ∀ b, v.ownBlock = some b → v2.ownBlock ≠ some b) (h2 : ∀ b, v.ownBlock = some b → ∀ u ∈ vs2, u.ownBlock ≠ some b) : W'.ownsRow base e sz v n xs := by
  refine ⟨h.1, ?_⟩
  rcases h.2 with h0 | ⟨g, cap, cur, rfl, hb, hg, hr⟩
  · exact .inl h0
  · exact .inr ⟨g, cap, cur, rfl, hb, (k.block g (Array.getElem?_eq_some_iff.1 hg).1 (h1 g rfl) (h2 g rfl)).trans hg, hr⟩
theorem KpN.lowO {W W' : World} {base : Nat} {v2 : Value} {vs2 : List Value} (k : KpN W W' v2 vs2) (hB : base ≤ W.heap.size) (h1 : ∀ b, v2.ownBlock = some b → base ≤ b) (h2 : ∀ b, ∀ u ∈ vs2, u.ownBlock = some b → base ≤ b) : Below base W W' :=
  ⟨k.os, k.tape, k.output, k.size, fun b hb => k.block b (by omega) (fun e => by have := h1 b e; omega) (fun u hu e => by have := h2 b u hu e; omega)⟩
theorem OwnN.grownK {W W' : World} {base : Nat} {e : TypeId} {m : Nat} {v u : Value} {L : List NE} {vs : List Value} (h : OwnN W base e m v L vs) (hg : W.grownBy W' u.ownBlock) (h1 : v.ownBlock = none ∨ v.ownBlock ≠ u.ownBlock) (h2 : ∀ b, u.ownBlock = some b → ∀ x ∈ vs, x.ownBlock ≠ some b) : OwnN W' base e m v L vs :=
  ⟨h.len, h.pre, h.row.kept hg h1, fun i x l hx hl => (h.dat i x l hx hl).kept hg (by
    cases hb : x.ownBlock with
    | none => exact .inl rfl
    | some b => exact .inr (fun e' => h2 b e'.symm x (List.mem_of_getElem? hx) hb)), h.one⟩
theorem own_typed {W : World} {base : Nat} {e : TypeId} {sz n : Nat} {v : Value} {xs : List Value} (h : W.ownsRow base e sz v n xs) {b : Nat} (hb : v.ownBlock = some b) : ∃ cur, W.heap[b]? = some (.cells cur e (0, 0)) := by
  rcases h.2 with ⟨rfl, _⟩ | ⟨g, cap, cur, rfl, _, hg, _⟩
  · cases hb
  · have : g = b := Option.some.inj hb
    subst this
    exact ⟨_, hg⟩
theorem KpN.toY {W W' : World} {base : Nat} {e : TypeId} {m : Nat} {v : Value} {L : List NE} {vs : List Value} {T : TypeId → Prop} (k : KpN W W' v vs) (h : OwnN W base e m v L vs) (h1 : T e) (h2 : T 5) : KpY T W W' := fun b hb hT => k.block b hb (fun ev => by
    obtain ⟨cur, hc⟩ := own_typed h.row ev
    exact hT _ _ _ hc h1) (fun u hu ev => by
    obtain ⟨j, hj⟩ := List.getElem?_of_mem hu
    have hlt : j < L.length := by rw [← h.len]; exact (List.getElem?_eq_some_iff.1 hj).1
    obtain ⟨cur, hc⟩ := own_typed (h.dat j u _ hj (List.getElem?_eq_getElem hlt)) ev
    exact hT _ _ _ hc h2)
/-- The kinds of blocks that marks turn. -/
def TyK (t : TypeId) : Prop := t = 55 ∨ t = 5
set_option maxRecDepth 100000 in
set_option maxHeartbeats 2000000 in
theorem markOut_any (r : OutR) (va v2 v3 : Value) (vs : List Value) (base k0 : Nat) (w : World) (h : OwnO w base va v2 v3 r vs) (ap : ApO v2 v3 vs) (hbw : base ≤ w.heap.size) (hk : endO k0 r ≤ 140737488355328) :
    Calls Try.prog 22 #[outV r va v2 v3, .int .i64 k0] w fun e w' => e = .returned (.int .i64 (endO k0 r : Nat)) ∧ MkO w' base va v2 v3 k0 r vs ∧ Below base w w' ∧ KpY TyK w w' := by
  obtain ⟨c, A, I, E, n⟩ := r
  have he1 : endO1 k0 (c, A, I, E, n) = endN 1 k0 (A.map neA) := rfl
  have he : endO k0 (c, A, I, E, n) = endN 1 k0 (A.map neA) + I.length + E.length := rfl
  rw [he] at hk ⊢
  obtain ⟨a1, c1, rfl⟩ : ∃ a cap, va = .slice a A.length cap := by obtain ⟨a, cap, e⟩ := own_shape h.ans.row; exact ⟨a, cap, by simpa using e⟩
  obtain ⟨a3, c3, rfl⟩ := own_shape h.img
  obtain ⟨a5, c5, rfl⟩ := own_shape h.see
  simp only [outV]
  simp only at h ap
  obtain ⟨X, hX⟩ : ∃ X : Array Value, X = #[.int .i64 c, .slice a1 A.length c1, .slice a3 I.length c3, .slice a5 E.length c5, .int .i64 n] := ⟨_, rfl⟩
  obtain ⟨W2, hW2⟩ : ∃ W2, W2 = w.alloc (.cells X 33) := ⟨_, rfl⟩
  have b2 : Below w.heap.size w W2 := by rw [hW2]; exact (Below.refl _ _).alloc (Nat.le_refl _) _
  have K := hide (show Blk W2 w.heap.size X 33 ∧ Below w.heap.size w W2 from ⟨by rw [hW2]; exact Blk.new w _ _, b2⟩)
  rw [hX] at hW2
  have HW2 := hide hW2
  have H := hide (h.below b2)
  have HP := hide ap
  obtain ⟨e1, he1v⟩ : ∃ e1, e1 = endN 1 k0 (A.map neA) := ⟨_, rfl⟩
  have HE1 := hide he1v
  rw [← he1v] at hk he1 ⊢
  have HEO := hide he1
  have k0 := K.out.1
  rw [hX] at k0
  have x1 := (k0.cell 1).trans (show _ = some (.slice a1 A.length c1) from rfl)
  have xq := hide hX
  clear hW2 b2 hX h ap k0 he1 he he1v
  go_enter Try.func22, Try.ntmps22
  go_upto_region 1 with fail
  rw [← HW2.out]
  go_wp2_with fail
  refine (markDiskAnsS_any (.slice a1 A.length c1) base k0 A vs W2 H.out.ans (by rw [← HE1.out]; omega)).mono ?_
  rintro e w3 ⟨rfl, o3, k3⟩
  rw [← HE1.out]
  have hBox : (Value.slice a1 A.length c1).ownBlock ≠ some w.heap.size ∧ ∀ u ∈ vs, u.ownBlock ≠ some w.heap.size := ⟨blk_apart H.out.ans.row K.out.1 (by decide), fun u hu => by
    obtain ⟨j, hj⟩ := List.getElem?_of_mem hu
    have hlt : j < (A.map neA).length := by rw [← H.out.ans.len]; exact (List.getElem?_eq_some_iff.1 hj).1
    exact blk_apart (H.out.ans.dat j u _ hj (List.getElem?_eq_getElem hlt)) K.out.1 (by decide)⟩
  have kX : Blk w3 w.heap.size X 33 := (k3.block _ K.out.1.lt hBox.1 hBox.2).trans K.out.1
  have i3 : w3.ownsRow base 5 1 (.slice a3 I.length c3) I.length (I.map (Value.int .u8)) := k3.ownB (base' := base) H.out.img (fun b hb e => by
    have := own_apart H.out.img H.out.ans.row (by decide)
    rcases this with h0 | h0
    · rw [h0] at hb; cases hb
    · exact h0 (hb.trans e.symm)) HP.out.b
  have s3 : w3.ownsRow base 5 1 (.slice a5 E.length c5) E.length (E.map (Value.int .u8)) := k3.ownB (base' := base) H.out.see (fun b hb e => by
    have := own_apart H.out.see H.out.ans.row (by decide)
    rcases this with h0 | h0
    · rw [h0] at hb; cases hb
    · exact h0 (hb.trans e.symm)) HP.out.c
  have b3 : Below base w w3 := (K.out.2.mono hbw).trans (k3.lowO (Nat.le_trans hbw K.out.2.size) (fun b hb => (H.out.ans.row.lt b hb).1) (fun b u hu hb => by
    obtain ⟨j, hj⟩ := List.getElem?_of_mem hu
    exact (H.out.ans.ltK hj hb).1))
  have Q3 := hide (show KpY TyK w w3 from ((KpY.refl _ _).below K.out.2).trans (k3.toY H.out.ans (.inl rfl) (.inr rfl)))
  have O3 := hide (And.intro o3 (And.intro i3 (And.intro s3 (And.intro b3 kX))))
  rw [xq.out] at kX
  have x2 := (kX.cell 2).trans (show _ = some (.slice a3 I.length c3) from rfl)
  clear o3 k3 hBox kX i3 s3 b3 x1
  go_wp2_with fail
  refine (markByteS_any (.slice a3 I.length c3) base I.length e1 _ _ O3.out.2.1 (by omega) (by omega)).mono ?_
  rintro e w4 ⟨rfl, o4, g4⟩
  have kX : Blk w4 w.heap.size X 33 := (g4.block _ O3.out.2.2.2.2.lt (fun e => blk_apart O3.out.2.1 O3.out.2.2.2.2 (by decide) e.symm)).trans O3.out.2.2.2.2
  have s4 : w4.ownsRow base 5 1 (.slice a5 E.length c5) E.length (E.map (Value.int .u8)) := O3.out.2.2.1.kept g4 (by
    cases hb : (Value.slice a5 E.length c5).ownBlock with
    | none => exact .inl rfl
    | some b => exact .inr (fun e' => HP.out.a b e'.symm hb))
  have n4 := O3.out.1.grownK g4 (own_apart O3.out.1.row O3.out.2.1 (by decide)) HP.out.b
  have b4 : Below base w w4 := O3.out.2.2.2.1.grown g4 (Nat.le_trans hbw O3.out.2.2.2.1.size) (fun r e => (O3.out.2.1.lt r e).1)
  have Q4 := hide (Q3.out.ownrow O3.out.2.1 (.inr rfl) g4)
  have O4 := hide (And.intro n4 (And.intro o4 (And.intro s4 (And.intro b4 kX))))
  rw [xq.out] at kX
  have x3 := (kX.cell 3).trans (show _ = some (.slice a5 E.length c5) from rfl)
  clear o4 g4 n4 s4 b4 kX x2 O3
  go_wp2_with fail
  refine (markByteS_any (.slice a5 E.length c5) base E.length (e1 + I.length) _ _ O4.out.2.2.1 (by omega) (by omega)).mono ?_
  rintro e w5 ⟨rfl, o5, g5⟩
  have n5 := O4.out.1.grownK g5 (own_apart O4.out.1.row O4.out.2.2.1 (by decide)) HP.out.c
  have i5 : w5.ownsRow base 5 1 (.slice a3 I.length c3) I.length ((mk8 e1 I.length).map (Value.int .u8)) := O4.out.2.1.kept g5 (by
    cases hb : (Value.slice a3 I.length c3).ownBlock with
    | none => exact .inl rfl
    | some b => exact .inr (fun e' => HP.out.a b hb e'.symm))
  have O5 := hide (show MkO w5 base (.slice a1 A.length c1) (.slice a3 I.length c3) (.slice a5 E.length c5) k0 (c, A, I, E, n) vs ∧ Below base w w5 ∧ KpY TyK w w5 from ⟨⟨n5, by rw [HEO.out]; exact i5, by rw [HEO.out]; exact o5⟩, O4.out.2.2.2.1.grown g5 (Nat.le_trans hbw O4.out.2.2.2.1.size) (fun r e => (O4.out.2.2.1.lt r e).1), Q4.out.ownrow O4.out.2.2.1 (.inr rfl) g5⟩)
  clear o5 g5 n5 i5 x3 O4
  go_wp2
  go_ret
  exact ⟨by go_num, O5.out.1, O5.out.2.1, O5.out.2.2⟩
set_option maxRecDepth 100000 in
set_option maxHeartbeats 2000000 in
theorem heldOut_any (r : OutR) (va v2 v3 : Value) (vs : List Value) (base k0 : Nat) (w : World) (h : MkO w base va v2 v3 k0 r vs) (hk : endO k0 r ≤ 140737488355328) :
    Calls Try.prog 23 #[outV r va v2 v3, .int .i64 k0] w fun e w' => e = .returned (.int .i64 (endO k0 r : Nat)) ∧ Below w.heap.size w w' := by
  obtain ⟨c, A, I, E, n⟩ := r
  have he1 : endO1 k0 (c, A, I, E, n) = endN 1 k0 (A.map neA) := rfl
  have he : endO k0 (c, A, I, E, n) = endN 1 k0 (A.map neA) + I.length + E.length := rfl
  rw [he] at hk ⊢
  obtain ⟨a1, c1, rfl⟩ : ∃ a cap, va = .slice a A.length cap := by obtain ⟨a, cap, e⟩ := own_shape h.ans.row; exact ⟨a, cap, by rw [mkN_len] at e; simpa using e⟩
  obtain ⟨a3, c3, rfl⟩ := own_shape h.img
  obtain ⟨a5, c5, rfl⟩ := own_shape h.see
  simp only [outV]
  simp only at h
  obtain ⟨X, hX⟩ : ∃ X : Array Value, X = #[.int .i64 c, .slice a1 A.length c1, .slice a3 I.length c3, .slice a5 E.length c5, .int .i64 n] := ⟨_, rfl⟩
  obtain ⟨W2, hW2⟩ : ∃ W2, W2 = w.alloc (.cells X 33) := ⟨_, rfl⟩
  have b2 : Below w.heap.size w W2 := by rw [hW2]; exact (Below.refl _ _).alloc (Nat.le_refl _) _
  have kX : Blk W2 w.heap.size X 33 := by rw [hW2]; exact Blk.new w _ _
  rw [hX] at hW2 kX
  have HW2 := hide hW2
  have HB := hide b2
  obtain ⟨e1, he1v⟩ : ∃ e1, e1 = endN 1 k0 (A.map neA) := ⟨_, rfl⟩
  rw [← he1v] at hk he1 ⊢
  have H := hide (show RdN W2 1 (.slice a1 A.length c1) (mkN 1 k0 (A.map neA)) vs ∧ Rd .u8 W2 (.slice a3 I.length c3) (mk8 e1 I.length) ∧ Rd .u8 W2 (.slice a5 E.length c5) (mk8 (e1 + I.length) E.length) from by
    have h2 := h.below b2
    have hi := h2.img
    have hs := h2.see
    rw [he1] at hi hs
    simp only at hi hs
    exact ⟨h2.ans.rd, Rd.own hi, Rd.own hs⟩)
  have HE1 := hide he1v
  have x1 := (kX.cell 1).trans (show _ = some (.slice a1 A.length c1) from rfl)
  have x2 := (kX.cell 2).trans (show _ = some (.slice a3 I.length c3) from rfl)
  have x3 := (kX.cell 3).trans (show _ = some (.slice a5 E.length c5) from rfl)
  have q1 : decide ((e1 : Int) < 0) = false := by simp
  clear hW2 b2 hX h he1 he he1v kX
  go_enter Try.func23, Try.ntmps23
  go_upto_region 1 with fail
  rw [← HW2.out]
  go_wp2_with fail
  refine (heldDiskAnsS_any (.slice a1 A.length c1) k0 A vs W2 H.out.1 (by rw [← HE1.out]; omega)).mono ?_
  rintro e w3 ⟨rfl, hw3⟩
  rw [← HE1.out, hw3]
  clear hw3 w3
  go_wp2_with fail
  refine (heldByteS_any (.slice a3 I.length c3) I.length e1 _ H.out.2.1 (by omega) (by omega)).mono ?_
  rintro e w3 ⟨rfl, hw3⟩
  rw [hw3]
  clear hw3 w3
  have q2 : decide (((e1 + I.length : Nat) : Int) < 0) = false := by simp; omega
  go_wp2_with fail
  refine (heldByteS_any (.slice a5 E.length c5) E.length (e1 + I.length) _ H.out.2.2 (by omega) (by omega)).mono ?_
  rintro e w3 ⟨rfl, hw3⟩
  rw [hw3]
  clear hw3 w3
  have q3 : decide (((e1 + I.length + E.length : Nat) : Int) < 0) = false := by simp; omega
  go_wp2
  go_ret
  exact ⟨by go_num, HB.out⟩
end Go.Proofs.Ythghibopnnjboaa
