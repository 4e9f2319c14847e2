/- Slices of Put: copies (toPut, toPutS), two that are the same held against each other (eqPut, eqPutS). The device as a plain thing: its state and what an operation does; the model's device behind its small changes. -/
import Derived.Test.YthghibopnnjboaaZi16
import Derived.Test.YthghibopnnjboaaZi02
import Derived.Test.YthghibopnnjboaaZi01
import Derived.Deep.MidRow
import Derived.Deep.RegionHeld3
import Derived.Test.YthghibopnnjboaaZi21
namespace Go.Proofs.Ythghibopnnjboaa
set_option linter.unusedVariables false
set_option linter.unusedSimpArgs false
open Go.RowKit

/-- A Put as an element. -/
def neP (p : Int × List Int) : NE := ([.int .i64 p.1], p.2)
theorem neP_pre (P : List (Int × List Int)) : ∀ l ∈ P.map neP, l.1.length = 1 := by
  intro l hl
  rw [List.mem_map] at hl
  obtain ⟨p, _, rfl⟩ := hl
  rfl
theorem onePut (b : Int) (a : Option Addr) (n c : Nat) : (#[Value.int .i64 b, Value.slice a n c] : Array Value).all (·.oneCell') = true :=
  all_oneCell_toArray (cs := [Value.int .i64 b, Value.slice a n c]) (by intro v hv; simp at hv; rcases hv with rfl | rfl <;> rfl)
theorem setRow_grown (w : World) (g : Nat) (cs : Array Value) : w.grownBy (w.setRow g cs) (some g) := by
  refine ⟨rfl, rfl, rfl, by simp [World.setRow], fun k hk hne => ?_⟩
  simp only [World.setRow, Array.getElem?_modify]
  rw [if_neg (fun e => hne (by rw [e]))]
end Go.Proofs.Ythghibopnnjboaa

namespace Go.Proofs.Ythghibopnnjboaa
set_option linter.unusedVariables false
set_option linter.unusedSimpArgs false
open Go.RowKit

/-- A device: what is safe, the cached writes (where, which bytes), the fuse, whether the power is off. -/
structure DS where
  F : List Int
  C : List (Nat × List Int)
  fu : Int
  off : Bool
/-- What an operation does and answers, on a device of m blocks. -/
def doS (m : Nat) (k A : Int) (D : List Int) (s : DS) : DS × Int × List Int :=
  if k = 4 then (⟨s.F, s.C, A, s.off⟩, 0, [])
  else if k = 5 then (⟨mkW s.F (keptTo D s.C s.C.length), [], -1, false⟩, 0, [])
  else if s.off = true then (s, 20, [])
  else if k = 1 then (if 0 ≤ A ∧ A < m then (s, 0, ((mkW s.F s.C).drop (A.toNat * 512)).take 512) else (s, 19, []))
  else if k = 2 then (if 0 ≤ A ∧ A < m then (if D.length = 512 then (⟨s.F, wrC s.C A.toNat D (maJ s.fu), fuJ s.fu (maJ s.fu), ofJ s.off s.fu⟩, cdJ s.fu, []) else (s, 7, [])) else (s, 19, []))
  else if k = 3 then (⟨mkW s.F s.C, [], s.fu, s.off⟩, 0, [])
  else (s, 22, [])
section
variable {W W' : World} {base d : Nat} {vi vc vw : Value} {I : List Int} {C : List (Nat × List Int)} {cs : List Value} {fuse : Int} {off : Bool} {H : List NE} {hs : List Value}
theorem KpY.setRow {T : TypeId → Prop} {A X : Array Value} {t : TypeId} (h : KpY T W W') (hB : Blk W' d A t) (hT : T t) : KpY T W (W'.setRow d X) :=
  h.trans (fun b hb hT2 => (setRow_grown W' d X).block b hb (fun e => by
    have e1 : b = d := Option.some.inj e
    subst e1
    exact hT2 _ _ _ hB hT))
theorem KpY.freshK {T : TypeId → Prop} {g : Nat} (h : KpY T W W') {W2 : World} (hg : W'.grownBy W2 (some g)) (hn : W.heap.size ≤ g) (hs : W.heap.size ≤ W'.heap.size) : KpY T W W2 := fun b hb hT =>
  (hg.block b (by omega) (fun e => by have := Option.some.inj e; omega)).trans (h b hb hT)
theorem DvM.kpy {T : TypeId → Prop} (h : DvM W base d vi vc vw I C cs fuse off H hs) (k : KpY T W W') (h1 : ¬ T 80) (h2 : ¬ T 92) (h3 : ¬ T 22) (h4 : ¬ T 5) : DvM W' base d vi vc vw I C cs fuse off H hs :=
  ⟨k.blk h.blk h1, k.own h.img h4, k.ownN h.cac h2 h4, k.ownN h.who h3 h4, h.ok, h.n1, h.n2⟩
/-- The device behind a barrier: a new image, the cache lost. -/
theorem DvM.settled (h : DvM W base d vi vc vw I C cs fuse off H hs) (v : Value) (J : List Int) (hl : J.length = I.length) (hv : W.ownsRow base 5 1 v J.length (J.map (Value.int .u8))) :
    DvM ((W.setCell ⟨d, 0, none⟩ v).setCell ⟨d, 1, none⟩ (.slice none 0 0)) base d v (.slice none 0 0) vw J [] [] fuse off H hs := by
  have k1 := h.blk.set 0 v
  have hv1 : (W.setCell ⟨d, 0, none⟩ v).ownsRow base 5 1 v J.length (J.map (Value.int .u8)) := own_setD hv (blk_apart hv h.blk (by decide))
  exact ⟨k1.set 1 _, own_setD hv1 (blk_apart hv1 k1 (by decide)), OwnN.nil _ _ _ _, ownN_setA (ownN_setA h.who h.blk (by decide) (by decide)) k1 (by decide) (by decide), fun c hc => (by cases hc), by rw [hl]; exact h.n1, by simp⟩
/-- The device behind one more block that was written whole. -/
theorem DvM.pushW (h : DvM W base d vi vc vw I C cs fuse off H hs) (zs : List Int) (u v' : Value) (hu : W.ownsRow base 5 1 u zs.length (zs.map (Value.int .u8))) (hnew : ∀ (i : Nat) (x : Value) (b : Nat), hs[i]? = some x → x.ownBlock = some b → u.ownBlock ≠ some b)
    (ho : W'.ownsRow base 22 1 v' (H.length + 1) (cellsN hs H ++ [u])) (hg : W.grownBy W' vw.ownBlock) :
    DvM (W'.setCell ⟨d, 4, none⟩ v') base d vi vc v' I C cs fuse off (H ++ [([], zs)]) (hs ++ [u]) ∧ KpY (fun t => t = 22) W W' ∧ Blk W' d #[vi, vc, .int .i64 fuse, .bool off, vw] 80 := by
  have kp : KpY (fun t => t = 22) W W' := (KpY.refl _ _).ownrow h.who.row rfl hg
  have kB := kp.blk h.blk (by decide)
  have hw : OwnN W' base 22 0 v' (H ++ [([], zs)]) (hs ++ [u]) := h.who.push (by decide) ([], zs) u rfl hu hnew ho hg
  have hI := kp.own h.img (by decide)
  have hc := kp.ownN h.cac (by decide) (by decide)
  exact ⟨⟨kB.set 4 _, own_setD hI (blk_apart hI kB (by decide)), ownN_setA hc kB (by decide) (by decide), ownN_setA hw kB (by decide) (by decide), h.ok, h.n1, h.n2⟩, kp, kB⟩
end
theorem infoA2 : (Try.prog.info? 55).map (·.size) = some 2 := by kernel_rfl
theorem infoB1 : (Try.prog.info? 22).map (fun i => (i.zero, i.size, i.bytes)) = some (some (.slice none 0 0), 1, 24) := by kernel_rfl
end Go.Proofs.Ythghibopnnjboaa
