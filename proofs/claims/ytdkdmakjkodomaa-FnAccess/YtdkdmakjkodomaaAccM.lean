/- What FnAccess turns on: the bits of a mode one by one, more bits, only those that count; what stays behind draws and calls. -/
import Derived.Test.YtdkdmakjkodomaaAccA
import Derived.Test.YtdkdmakjkodomaaDrawA
import Derived.Deep.MidRow
namespace Go.Proofs.Ytdkdmakjkodomaa
set_option linter.unusedVariables false
set_option linter.unusedSimpArgs false
open Go.RowKit

/-- The shift that counts. -/
def selS (u g uid gid : Int) : Nat := if uid = u then 6 else if gid = g then 3 else 0
theorem may_sel (m u g uid gid want : Int) (h0 : 0 ≤ want) (h7 : want ≤ 7) (hu : uid ≠ 0) : mayB m u g uid gid want = accB (m / 2 ^ selS u g uid gid) want := by
  unfold mayB selS
  rw [if_neg (by omega), if_neg hu]
  by_cases h1 : uid = u
  · simp [h1]
  · by_cases h2 : gid = g
    · simp [h1, h2]
    · simp [h1, h2]
theorem may_root (m u g gid want : Int) (h0 : 0 ≤ want) (h7 : want ≤ 7) : mayB m u g 0 gid want = true := by
  unfold mayB
  rw [if_neg (by omega), if_pos rfl]
theorem accB_mod (x y c : Int) (h : x % 8 = y % 8) : accB x c = accB y c := by unfold accB; rw [h]
theorem acc_one (x : Int) (p : Nat) (hp : p < 3) : accB x (2 ^ p) = (x / 2 ^ p % 2 == 1) := by
  have h : ∀ (y : Int), y = x % 8 → accB x (2 ^ p) = (y / 2 ^ p % 2 == 1) := by
    intro y hy
    unfold accB
    rw [← hy]
    have hy0 : 0 ≤ y := by omega
    have hy8 : y < 8 := by omega
    clear hy
    rcases (by omega : y = 0 ∨ y = 1 ∨ y = 2 ∨ y = 3 ∨ y = 4 ∨ y = 5 ∨ y = 6 ∨ y = 7) with rfl | rfl | rfl | rfl | rfl | rfl | rfl | rfl <;>
    rcases (by omega : p = 0 ∨ p = 1 ∨ p = 2) with rfl | rfl | rfl <;> rfl
  rw [h _ rfl]
  have e : x % 8 / 2 ^ p % 2 = x / 2 ^ p % 2 := by
    rcases (by omega : p = 0 ∨ p = 1 ∨ p = 2) with rfl | rfl | rfl <;> omega
  rw [e]
/-- The first j bits of want are asked for nothing that x lacks. -/
def okTo (x want : Int) : Nat → Bool
  | 0 => true
  | j + 1 => okTo x want j && bitOk x want j
theorem okTo_all (x want : Int) (h0 : 0 ≤ want) (h7 : want ≤ 7) : okTo x want 3 = accB x want := by
  rw [acc_bits x want h0 h7]
  simp [okTo]
theorem bitOk_off (x want : Int) (p : Nat) (h : want / 2 ^ p % 2 ≠ 1) : bitOk x want p = true := by unfold bitOk; simp; omega
theorem bitOk_on (x want : Int) (p : Nat) (hp : p < 3) (h : want / 2 ^ p % 2 = 1) : bitOk x want p = accB x (2 ^ p) := by
  rw [acc_one x p hp]
  unfold bitOk
  rw [h]
  rcases (by omega : x / 2 ^ p % 2 = 0 ∨ x / 2 ^ p % 2 = 1) with e | e <;> rw [e] <;> rfl

theorem or_nat (a b : Nat) (ha : a < 512) (hb : b < 512) : bits .or .i64 (a : Int) (b : Int) = ((a ||| b : Nat) : Int) := by
  show IntKind.i64.wrap ((BitVec.ofInt 64 (a : Int) ||| BitVec.ofInt 64 (b : Int)).toNat : Int) = _
  have e1 : (BitVec.ofInt 64 (a : Int)).toNat = a := by simp [BitVec.toNat_ofInt]; omega
  have e2 : (BitVec.ofInt 64 (b : Int)).toNat = b := by simp [BitVec.toNat_ofInt]; omega
  rw [BitVec.toNat_or, e1, e2]
  have : a ||| b < 2 ^ 9 := Nat.or_lt_two_pow ha hb
  generalize a ||| b = y at this
  simp [IntKind.wrap, IntKind.bits, IntKind.signed]
  omega
theorem and_nat (a b : Nat) (ha : a < 512) (hb : b < 512) : bits .and .i64 (a : Int) (b : Int) = ((a &&& b : Nat) : Int) := by
  show IntKind.i64.wrap ((BitVec.ofInt 64 (a : Int) &&& BitVec.ofInt 64 (b : Int)).toNat : Int) = _
  have e1 : (BitVec.ofInt 64 (a : Int)).toNat = a := by simp [BitVec.toNat_ofInt]; omega
  have e2 : (BitVec.ofInt 64 (b : Int)).toNat = b := by simp [BitVec.toNat_ofInt]; omega
  rw [BitVec.toNat_and, e1, e2]
  have : a &&& b < 2 ^ 9 := Nat.and_lt_two_pow _ hb
  generalize a &&& b = y at this
  simp [IntKind.wrap, IntKind.bits, IntKind.signed]
  omega
theorem acc_nat (a s : Nat) (want : Int) (h0 : 0 ≤ want) : accB ((a : Int) / 2 ^ s) want = (want.toNat &&& (7 - a / 2 ^ s % 8) == 0) := by
  unfold accB
  have e : ((a : Int) / 2 ^ s % 8).toNat = a / 2 ^ s % 8 := by
    have : ((a : Int) / 2 ^ s % 8) = ((a / 2 ^ s % 8 : Nat) : Int) := by simp
    rw [this, Int.toNat_natCast]
  rw [e]
theorem acc_more (a b s : Nat) (want : Int) (h0 : 0 ≤ want) (h7 : want ≤ 7) (h : accB ((a : Int) / 2 ^ s) want = true) : accB (((a ||| b : Nat) : Int) / 2 ^ s) want = true := by
  rw [acc_nat _ _ _ h0] at h ⊢
  rw [← Nat.shiftRight_eq_div_pow, Nat.shiftRight_or_distrib, show (8 : Nat) = 2 ^ 3 from rfl, Nat.or_mod_two_pow]
  rw [← Nat.shiftRight_eq_div_pow] at h
  have hx : (a >>> s) % 2 ^ 3 < 8 := Nat.mod_lt _ (by omega)
  have hy : (b >>> s) % 2 ^ 3 < 8 := Nat.mod_lt _ (by omega)
  generalize (b >>> s) % 2 ^ 3 = y at hy
  have h' : (want.toNat &&& 7 - (a >>> s) % 2 ^ 3 == 0) = true := h
  generalize (a >>> s) % 2 ^ 3 = x at hx h'
  have hc : want.toNat < 8 := by omega
  generalize want.toNat = c at hc h'
  have all : ∀ c : Fin 8, ∀ x : Fin 8, ∀ y : Fin 8, (c.1 &&& (7 - x.1) == 0) = true → (c.1 &&& (7 - (x.1 ||| y.1)) == 0) = true := by decide
  exact all ⟨c, hc⟩ ⟨x, hx⟩ ⟨y, hy⟩ h'
theorem acc_only (a s : Nat) (want : Int) (h0 : 0 ≤ want) : accB (((a &&& 7 * 2 ^ s : Nat) : Int) / 2 ^ s) want = accB ((a : Int) / 2 ^ s) want := by
  rw [acc_nat _ _ _ h0, acc_nat _ _ _ h0]
  have e : (a &&& 7 * 2 ^ s) / 2 ^ s % 8 = a / 2 ^ s % 8 := by
    rw [← Nat.shiftRight_eq_div_pow, ← Nat.shiftRight_eq_div_pow, Nat.shiftRight_and_distrib, ← Nat.shiftLeft_eq, Nat.shiftLeft_shiftRight, show (7 : Nat) = 2 ^ 3 - 1 from rfl, Nat.and_two_pow_sub_one_eq_mod, show (8 : Nat) = 2 ^ 3 from rfl, Nat.mod_mod]
  rw [e]

/-- What is kept: the source, what was there, and the listed blocks, all of them new. -/
def AcS (w : World) (v : Value) (n : Nat) (L : List (Nat × Array Value × TypeId)) (W : World) : Prop :=
  Src W w.heap.size v n ∧ Below w.heap.size w W ∧ w.heap.size + 1 ≤ W.heap.size ∧ ∀ x ∈ L, Blk W x.1 x.2.1 x.2.2 ∧ w.heap.size < x.1
theorem AcS.dr {w : World} {v : Value} {n : Nat} {L : List (Nat × Array Value × TypeId)} {W W' : World} (h : AcS w v n L W) (hd : Dr w.heap.size W W') (hs : Src W' w.heap.size v n) : AcS w v n L W' :=
  ⟨hs, hd.under h.2.1 (Nat.le_refl _), by rw [hd.2]; exact h.2.2.1, fun x hx => ⟨(hd.1.block _ (h.2.2.2 x hx).1.lt (fun e => by have := (h.2.2.2 x hx).2; injection e with e; omega)).trans (h.2.2.2 x hx).1, (h.2.2.2 x hx).2⟩⟩
theorem AcS.below {w : World} {v : Value} {n : Nat} {L : List (Nat × Array Value × TypeId)} {W W' : World} (h : AcS w v n L W) (hb : Below W.heap.size W W') : AcS w v n L W' :=
  ⟨h.1.below hb h.1.lt, h.2.1.trans (hb.mono h.2.1.size), Nat.le_trans h.2.2.1 hb.size, fun x hx => ⟨(h.2.2.2 x hx).1.below hb (h.2.2.2 x hx).1.lt, (h.2.2.2 x hx).2⟩⟩
theorem AcS.new {w : World} {v : Value} {n : Nat} {L : List (Nat × Array Value × TypeId)} {W : World} (h : AcS w v n L W) (C : Array Value) (t : TypeId) : AcS w v n ((W.heap.size, C, t) :: L) (W.alloc (.cells C t)) := by
  have h2 := h.below (show Below W.heap.size W (W.alloc (.cells C t)) from (Below.refl _ _).alloc (Nat.le_refl _) _)
  refine ⟨h2.1, h2.2.1, h2.2.2.1, fun x hx => ?_⟩
  rcases List.mem_cons.1 hx with rfl | hx
  · exact ⟨Blk.new _ _ _, h.2.2.1⟩
  · exact h2.2.2.2 x hx
theorem AcS.head {w : World} {v : Value} {n : Nat} {L : List (Nat × Array Value × TypeId)} {W : World} {b : Nat} {C : Array Value} {t : TypeId} (h : AcS w v n ((b, C, t) :: L) W) : Blk W b C t := (h.2.2.2 _ (List.mem_cons_self ..)).1
theorem AcS.tail {w : World} {v : Value} {n : Nat} {x : Nat × Array Value × TypeId} {L : List (Nat × Array Value × TypeId)} {W : World} (h : AcS w v n (x :: L) W) : AcS w v n L W := ⟨h.1, h.2.1, h.2.2.1, fun y hy => h.2.2.2 y (List.mem_cons_of_mem _ hy)⟩
theorem AcS.drew {w : World} {v : Value} {n : Nat} {L : List (Nat × Array Value × TypeId)} {W : World} (h : AcS w v n L W) : AcS w v n L W.drew := h.below ((Below.refl _ _).drew)
theorem AcS.set {w : World} {v : Value} {n : Nat} {L : List (Nat × Array Value × TypeId)} {W : World} {b : Nat} {C : Array Value} {t : TypeId} (h : AcS w v n ((b, C, t) :: L) W) (hL : ∀ x ∈ L, x.1 ≠ b) (k : Nat) (u : Value) : AcS w v n ((b, C.setIfInBounds k u, t) :: L) (W.setCell ⟨b, k, none⟩ u) := by
  have hb := (h.2.2.2 _ (List.mem_cons_self ..)).2
  have hb' : w.heap.size < b := hb
  obtain ⟨i, x, h1, h2, h3, h4⟩ := h.1
  refine ⟨⟨i, x, h1, h2, h3, h4.other _ _ (by simp; omega)⟩, h.2.1.setCell (by simp; omega) _, by simpa using h.2.2.1, fun y hy => ?_⟩
  rcases List.mem_cons.1 hy with rfl | hy
  · exact ⟨h.head.set k u, hb⟩
  · exact ⟨(h.2.2.2 y (List.mem_cons_of_mem _ hy)).1.other _ _ (hL y hy), (h.2.2.2 y (List.mem_cons_of_mem _ hy)).2⟩
theorem wpList_load_midN {P : Program} {ops : Array Oper} {rest : List Oper} {op : Oper} {a : Act} {w : World} {Q : Exit → Act → World → Prop} (hw : Region.wanted op (yielded ops a.tmps) = true) (ty : TypeId) (x : Operand) (ho : op.op = .load ty x)
    (b o : Nat) (hx : a.eval x = .pointer (some ⟨b, o, none⟩)) (cs : List Value) (d : TypeDesc) (hc : w.rangeAt b o cs)
    (hu : P.underlying ty = some d) (hd : d.isRow = true) (hi : (P.info? ty).map (·.size) = some cs.length)
    (h : wpList P ops Q rest (a.put op.dst (.agg cs.toArray)) w) : wpList P ops Q (op :: rest) a w :=
  Go.BigFrame.wpList_want hw fun _ hK => wp_load_mid ty x ho b o hx cs d hc hu hd hi (hK _ _ h)
end Go.Proofs.Ytdkdmakjkodomaa
