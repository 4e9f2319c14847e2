/- Lists of operations that grow while they are drawn. -/
import Derived.Test.YthghibopnnjboaaZi43
namespace Go.Proofs.Ythghibopnnjboaa
set_option linter.unusedVariables false
set_option linter.unusedSimpArgs false
open Go.RowKit

/-- A list of operations in a row of its own; their bytes lie in rows of bytes. -/
structure Kd (W : World) (base : Nat) (v : Value) (P : List DO) (us : List Value) : Prop where
  len : us.length = P.length
  row : W.ownsRow base 30 3 v P.length (cellsN us (P.map neD))
  dat : ∀ (i : Nat) (u : Value) (p : DO), us[i]? = some u → P[i]? = some p → W.ownsRow base 5 1 u p.2.2.length (p.2.2.map (Value.int .u8))
section
variable {W W' : World} {base base' : Nat} {v v2 v' : Value} {P Q : List DO} {us us2 : List Value}
theorem Kd.rd (h : Kd W base v P us) : RdN W 2 v (P.map neD) us := by
  have hl : (P.map neD).length = P.length := List.length_map ..
  refine ⟨by rw [hl]; exact h.len, neD_pre P, ?_, fun i u l hu hl => ?_⟩
  · have hrow := h.row
    rcases h.row.2 with ⟨rfl, h0⟩ | ⟨g, cap, cur, rfl, hb, hg, h1, h2, h3, h4⟩
    · exact ⟨none, 0, by rw [hl, h0], fun hn => by omega, by omega, by unfold maxLen; omega⟩
    · refine ⟨some ⟨g, 0, none⟩, cap, by rw [hl], fun _ => ⟨g, 0, rfl, (hrow.lt g rfl).2, fun j u hu => ?_⟩, by rw [hl]; exact h1, h2⟩
      have := hrow.cells (g := g) rfl j u hu
      rw [Addr.add_mid] at this
      exact this
  · rw [List.getElem?_map] at hl
    cases hc : P[i]? with
    | none => rw [hc] at hl; cases hl
    | some c =>
      rw [hc] at hl
      have : neD c = l := by simpa using hl
      rw [← this]
      exact Rd.own (h.dat i u c hu hc)
theorem Kd.kpy {T : TypeId → Prop} (h : Kd W base v P us) (k : KpY T W W') (h1 : ¬ T 30) (h2 : ¬ T 5) : Kd W' base v P us := ⟨h.len, k.own h.row h1, fun i u p hu hp => k.own (h.dat i u p hu hp) h2⟩
theorem Kd.below (h : Kd W base v P us) (hb : Below W.heap.size W W') : Kd W' base v P us := ⟨h.len, own_below h.row hb, fun i u p hu hp => own_below (h.dat i u p hu hp) hb⟩
theorem Kd.mono (h : Kd W base v P us) (hb : base' ≤ base) : Kd W base' v P us := ⟨h.len, own_mono h.row hb, fun i u p hu hp => own_mono (h.dat i u p hu hp) hb⟩
theorem Kd.kept (h : Kd W base v P us) (hg : W.grownBy W' v2.ownBlock) (ho : ∃ (b2 n : Nat) (xs : List Value), W.ownsRow b2 30 3 v2 n xs) (hne : v.ownBlock = none ∨ v.ownBlock ≠ v2.ownBlock) : Kd W' base v P us := by
  obtain ⟨b2, n, xs, ho⟩ := ho
  exact ⟨h.len, h.row.kept hg hne, fun i u p hu hp => (h.dat i u p hu hp).kept hg (own_apart (h.dat i u p hu hp) ho (by decide))⟩
theorem Kd.cat (h : Kd W base v P us) (h2 : Kd W base v2 Q us2) (ho : W'.ownsRow base 30 3 v' (P.length + Q.length) (cellsN us (P.map neD) ++ cellsN us2 (Q.map neD))) (hk : KpY (fun t => t = 30) W W') : Kd W' base v' (P ++ Q) (us ++ us2) := by
  refine ⟨by rw [List.length_append, List.length_append, h.len, h2.len], ?_, fun i u p hu hp => ?_⟩
  · rw [List.length_append, List.map_append, cellsN_append _ _ _ _ (by rw [List.length_map]; exact h.len)]
    exact ho
  · rcases Nat.lt_or_ge i P.length with hi | hi
    · rw [List.getElem?_append_left (by rw [h.len]; exact hi)] at hu
      rw [List.getElem?_append_left hi] at hp
      exact hk.own (h.dat i u p hu hp) (by decide)
    · rw [List.getElem?_append_right (by rw [h.len]; exact hi), h.len] at hu
      rw [List.getElem?_append_right hi] at hp
      exact hk.own (h2.dat _ u p hu hp) (by decide)
theorem Kd.oneK {p : DO} {u : Value} (hu : W.ownsRow base 5 1 u p.2.2.length (p.2.2.map (Value.int .u8))) (ho : W.ownsRow base 30 3 v 1 [.int .i64 p.1, .int .i64 p.2.1, u]) : Kd W base v [p] [u] := by
  refine ⟨rfl, ho, fun i x q hx hq => ?_⟩
  cases i with
  | zero =>
    simp at hx hq
    subst hx
    subst hq
    exact hu
  | succ i => simp at hx
/-- A further operation. -/
theorem Kd.pushK (h : Kd W base v P us) (p : DO) (u : Value) (hu : W.ownsRow base 5 1 u p.2.2.length (p.2.2.map (Value.int .u8))) (ho : W'.ownsRow base 30 3 v' (P.length + 1) (cellsN us (P.map neD) ++ [.int .i64 p.1, .int .i64 p.2.1, u])) (hg : W.grownBy W' v.ownBlock) : Kd W' base v' (P ++ [p]) (us ++ [u]) := by
  have hk : KpY (fun t => t = 30) W W' := (KpY.refl _ _).ownrow h.row rfl hg
  refine ⟨by rw [List.length_append, List.length_append, h.len]; rfl, ?_, fun i x q hx hq => ?_⟩
  · rw [List.length_append, List.map_append, cellsN_append _ _ _ _ (by rw [List.length_map]; exact h.len)]
    exact ho
  · rcases Nat.lt_or_ge i P.length with hi | hi
    · rw [List.getElem?_append_left (by rw [h.len]; exact hi)] at hx
      rw [List.getElem?_append_left hi] at hq
      exact hk.own (h.dat i x q hx hq) (by decide)
    · rw [List.getElem?_append_right (by rw [h.len]; exact hi), h.len] at hx
      rw [List.getElem?_append_right hi] at hq
      rcases Nat.eq_zero_or_pos (i - P.length) with h0 | h0
      · rw [h0] at hx hq
        simp at hx hq
        subst hx
        subst hq
        exact hk.own hu (by decide)
      · rw [List.getElem?_eq_none (by simp; omega)] at hx; cases hx
end
/-- What stands through the law: the source, the drawn image. -/
structure LwA (w W : World) (b : Nat) (cv : Value) (cs : List Int) (vi : Value) (zs : List Int) : Prop where
  sc : Sc w W b cv cs
  img : W.ownsRow w.heap.size 5 1 vi zs.length (zs.map (Value.int .u8))
section
variable {w W W' : World} {b : Nat} {cv vi : Value} {cs zs : List Int}
theorem src_kp {n : Nat} (h : Src W b cv n) (d : W.grownBy W' (some b)) : KpY (fun t => t = 50) W W' := by
  obtain ⟨i, x, _, _, _, hB⟩ := h
  intro k hk hT
  refine d.block k hk (fun e => ?_)
  have e1 : k = b := Option.some.inj e
  subst e1
  exact hT _ _ _ hB rfl
theorem LwA.draw (h : LwA w W b cv cs vi zs) (s : Sc w W' b cv cs) (d : W.grownBy W' (some b)) : LwA w W' b cv cs vi zs := ⟨s, (src_kp h.sc.src d).own h.img (by decide)⟩
theorem LwA.below (h : LwA w W b cv cs vi zs) (hb : Below W.heap.size W W') : LwA w W' b cv cs vi zs := ⟨h.sc.own hb h.sc.src.lt, own_below h.img hb⟩
theorem LwA.grewK {base n : Nat} {v : Value} {xs : List Value} (h : LwA w W b cv cs vi zs) (ho : W.ownsRow base 30 3 v n xs) (hg : W.grownBy W' v.ownBlock) (hb : w.heap.size ≤ base) : LwA w W' b cv cs vi zs := by
  have hk : KpY (fun t => t = 30) W W' := (KpY.refl _ _).ownrow ho rfl hg
  refine ⟨⟨?_, h.sc.hb, h.sc.low.grown hg h.sc.low.size (fun r e => Nat.le_trans hb (ho.lt r e).1), h.sc.rd, h.sc.bd, h.sc.len⟩, hk.own h.img (by decide)⟩
  obtain ⟨i, x, h1, h2, h3, hB⟩ := h.sc.src
  exact ⟨i, x, h1, h2, h3, hk.blk hB (by decide)⟩
end
/-- Writes of drawn bytes. -/
def WrB (lo hi : Nat) (L : List DO) : Prop := WrOk lo hi L ∧ ∀ p ∈ L, Byt p.2.2
theorem WrB.nil (lo hi : Nat) : WrB lo hi [] := ⟨fun p h => (by cases h), fun p h => (by cases h)⟩
theorem WrB.snoc {lo hi : Nat} {L : List DO} (h : WrB lo hi L) (a : Nat) (D : List Int) (h1 : lo ≤ a) (h2 : a < hi) (hl : D.length = 512) (hB : Byt D) : WrB lo hi (L ++ [(2, (a : Int), D)]) := by
  refine ⟨fun p hp => ?_, fun p hp => ?_⟩
  · rcases List.mem_append.1 hp with hp | hp
    · exact h.1 p hp
    · rw [List.mem_singleton.1 hp]; exact ⟨rfl, ⟨a, rfl, h1, h2⟩, hl⟩
  · rcases List.mem_append.1 hp with hp | hp
    · exact h.2 p hp
    · rw [List.mem_singleton.1 hp]; exact hB
/-- Operations whose numbers and bytes are in range. -/
def InR (P : List DO) : Prop := (∀ p ∈ P, p.2.1 < 9223372036854775808) ∧ ∀ p ∈ P, ∀ z ∈ p.2.2, 0 ≤ z ∧ z < 256
theorem InR.cat {P Q : List DO} (h : InR P) (k : InR Q) : InR (P ++ Q) := ⟨fun p hp => by
    rcases List.mem_append.1 hp with hp | hp
    · exact h.1 p hp
    · exact k.1 p hp, fun p hp => by
    rcases List.mem_append.1 hp with hp | hp
    · exact h.2 p hp
    · exact k.2 p hp⟩
theorem InR.oneR {k A : Int} {D : List Int} (h : A < 9223372036854775808) (hB : Byt D) : InR [(k, A, D)] := ⟨fun p hp => by rw [List.mem_singleton.1 hp]; exact h, fun p hp => by rw [List.mem_singleton.1 hp]; exact hB⟩
theorem WrB.inR {lo hi : Nat} {L : List DO} (h : WrB lo hi L) (hh : hi ≤ 100) : InR L := ⟨fun p hp => by
    obtain ⟨_, ⟨a, ha, _, h2⟩, _⟩ := h.1 p hp
    rw [ha]; omega, fun p hp => h.2 p hp⟩
end Go.Proofs.Ythghibopnnjboaa
