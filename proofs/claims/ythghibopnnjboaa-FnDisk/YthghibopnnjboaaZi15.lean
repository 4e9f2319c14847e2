/- The device: what it holds; newDevice, hasBlock, read. Copies by append to an empty literal. -/
import Derived.Test.YthghibopnnjboaaZi14
import Derived.Test.YthghibopnnjboaaZi12
import Derived.Test.YthghibopnnjboaaZi02
import Derived.Maps.AppendAt
namespace Go.Proofs.Ythghibopnnjboaa
set_option linter.unusedVariables false
set_option linter.unusedSimpArgs false
open Go.RowKit

/-- Cached writes as cells: the sector's number, its bytes. -/
def cellsC (C : List (Nat × List Int)) : List Value := C.flatMap fun c => .int .i64 (c.1 : Int) :: c.2.map (Value.int .u8)
/-- Block d is a device: n sectors that are safe (bytes F), as they are seen (bytes E), the cache C, the fuse, whether the power is off. -/
structure Dev (W : World) (base d : Nat) (vf ve vc : Value) (n : Nat) (F E : List Int) (C : List (Nat × List Int)) (fuse : Int) (off : Bool) : Prop where
  blk : Blk W d #[vf, ve, vc, .int .i64 fuse, .bool off] 61
  saf : W.ownsRow base 76 128 vf n (F.map (Value.int .u8))
  see : W.ownsRow base 76 128 ve n (E.map (Value.int .u8))
  cac : W.ownsRow base 95 129 vc C.length (cellsC C)
  ap : ∀ k, vf.ownBlock = some k → ve.ownBlock ≠ some k
  n1 : n ≤ 8192
  ok : ∀ c ∈ C, c.1 < n ∧ c.2.length = 128
theorem Dev.below {W W' : World} {base d : Nat} {vf ve vc : Value} {n : Nat} {F E : List Int} {C : List (Nat × List Int)} {fuse : Int} {off : Bool} (h : Dev W base d vf ve vc n F E C fuse off) (hb : Below W.heap.size W W') : Dev W' base d vf ve vc n F E C fuse off :=
  ⟨h.blk.below hb h.blk.lt, own_below h.saf hb, own_below h.see hb, own_below h.cac hb, h.ap, h.n1, h.ok⟩
set_option maxRecDepth 100000 in
theorem newDevice_any (v : Value) (n : Nat) (zs : List Int) (w : World) (h : Rd .u8 w v zs) (hl : zs.length = n * 128) (hn : n ≤ 8192) :
    Calls Try.prog 26 #[v] w fun e w' => ∃ d vf ve, e = .returned (.pointer (some ⟨d, 0, none⟩)) ∧ w.heap.size ≤ d ∧ Dev w' w.heap.size d vf ve (.slice none 0 0) n zs zs [] (-1) false ∧ Below w.heap.size w w' := by
  have HR := hide h
  have HL := hide hl
  clear h hl
  go_enter Try.func26, Try.ntmps26
  go_wp2_with fail
  refine (sectorsOf_any v n zs w HR.out HL.out (by omega)).mono ?_
  rintro e w1 ⟨vf, rfl, o1, b1⟩
  obtain ⟨fa, fc, rfl⟩ := shape_rowK o1
  have H1 := hide (And.intro o1 b1)
  clear o1 b1
  go_wp2_with fail
  refine (sectorsOf_any v n zs w1 (HR.out.below H1.out.2) HL.out (by omega)).mono ?_
  rintro e w2 ⟨ve, rfl, o2, b2⟩
  obtain ⟨ea, ec, rfl⟩ := shape_rowK o2
  have H2 := hide (And.intro o2 b2)
  clear o2 b2
  go_wp2
  go_ret
  have hsz := H1.out.2.size
  have hsz2 := H2.out.2.size
  have b0 : Below w.heap.size w w2 := H1.out.2.trans (H2.out.2.mono hsz)
  have b3 : Below w2.heap.size w2 (w2.alloc (.cells #[.slice fa n fc, .slice ea n ec, .slice none 0 0, .int .i64 (-1), .bool false] 61)) := (Below.refl _ _).alloc (Nat.le_refl _) _
  refine ⟨w2.heap.size, _, _, rfl, by omega, ⟨Blk.new w2 _ _, own_below (own_below H1.out.1 H2.out.2) b3, own_below (own_mono H2.out.1 hsz) b3, World.ownsRow_nil _ _ _ _, fun k hk e => ?_, hn, fun c hc => by cases hc⟩, b0.trans (b3.mono (by omega))⟩
  have h1 := (H1.out.1.lt k hk).2
  have h2 := (H2.out.1.lt k e).1
  omega
set_option maxRecDepth 100000 in
theorem hasBlock_any {W : World} {base d : Nat} {vf ve vc : Value} {n : Nat} {F E : List Int} {C : List (Nat × List Int)} {fuse : Int} {off : Bool} (h : Dev W base d vf ve vc n F E C fuse off) (m : Nat) (hm : n = 4 * m) (A : Int) :
    Calls Try.prog 54 #[.pointer (some ⟨d, 0, none⟩), .int .i64 A] W fun e w' => e = .returned (.bool (decide (0 ≤ A ∧ A < m))) ∧ w' = W := by
  obtain ⟨fa, fc, rfl⟩ := shape_rowK h.saf
  have c0 := (h.blk.cell 0).trans (show _ = some (.slice fa n fc) from rfl)
  have hd : (n : Int) / 4 = (m : Int) := by omega
  have hn8 := h.n1
  clear h
  by_cases h0 : 0 ≤ A
  · have q0 : decide ((0 : Int) ≤ A) = true := by simp [h0]
    by_cases h1 : A < (m : Int)
    · go_enter Try.func54, Try.ntmps54
      go_wp2
      go_ret
      exact ⟨by simp [h0, h1], rfl⟩
    · go_enter Try.func54, Try.ntmps54
      go_wp2
      go_ret
      exact ⟨by simp [h0, h1], rfl⟩
  · go_enter Try.func54, Try.ntmps54
    go_wp2
    go_ret
    exact ⟨by simp; intro _; omega, rfl⟩
/-- Four sectors of a row, as bytes. -/
theorem RdK.cut {w : World} {v : Value} {n : Nat} {zs : List Int} {base : Nat} (h : w.ownsRow base 76 128 v n (zs.map (Value.int .u8))) (hn : n ≤ 8192) (m : Nat) (hm : 4 * m + 4 ≤ n) :
    ∃ a c, RdK w (.slice a 4 c) 4 ((zs.drop (m * 512)).take 512) ∧ ∀ wx, (Instr.slice 58 v (some (.int .i64 ((m : Int) * 4))) (some (.int .i64 ((m : Int) * 4 + 4))) none).run Try.prog wx = .ok (.slice a 4 c) wx := by
  obtain ⟨i0, hi0, hz0, hz1, hz2⟩ := info_parts infoSecZ
  have hl : zs.length = n * 128 := by have := h.1; simpa using this
  rcases h.2 with ⟨rfl, h0⟩ | ⟨g, cap, cur, rfl, hb, hg, h1, h2, h3, h4⟩
  · omega
  · have hrun : ∀ wx, (Instr.slice 58 (.slice (some ⟨g, 0, none⟩) n cap) (some (.int .i64 ((m * 4 : Nat) : Int))) (some (.int .i64 ((m * 4 + 4 : Nat) : Int))) none).run Try.prog wx = .ok (sliced (some ⟨g, 0, none⟩) (m * 4) (m * 4 + 4) cap 128) wx := fun wx => by
      rw [run_slice_lh (P := Try.prog) (w := wx) 58 (some ⟨g, 0, none⟩) n cap (by rw [Try.underlying58]; rfl) .i64 .i64 ((m * 4 : Nat) : Int) ((m * 4 + 4 : Nat) : Int) (by omega) (by omega) (by omega), Int.toNat_natCast, Int.toNat_natCast]
      simp only [sizeOf, typeInfo, show Try.prog.elem 58 = 76 from by kernel_rfl, hi0, hz1]
      rfl
    have hs : sliced (some ⟨g, 0, none⟩) (m * 4) (m * 4 + 4) cap 128 = .slice (some ⟨g, m * 4 * 128, none⟩) 4 (cap - m * 4) := by
      unfold sliced
      rw [if_neg (by omega), Option.map_some, Addr.add_mid, Nat.zero_add, show m * 4 + 4 - m * 4 = 4 by omega]
    refine ⟨some ⟨g, m * 4 * 128, none⟩, cap - m * 4, ⟨_, _, rfl, by rw [List.length_take, List.length_drop, hl]; omega, by omega, fun _ => ⟨g, m * 4 * 128, rfl, (h.lt g rfl).2, fun i hi => ?_⟩⟩, fun wx => ?_⟩
    · rw [h.cellAt (m * 4 * 128 + i) (by omega), List.getElem?_map, List.getElem?_eq_getElem (by omega)]
      have : ((zs.drop (m * 512)).take 512).getD i 0 = zs[m * 4 * 128 + i]'(by omega) := by
        rw [List.getD_eq_getElem?_getD, List.getElem?_take, if_pos (by omega), List.getElem?_drop, show m * 512 + i = m * 4 * 128 + i by omega, List.getElem?_eq_getElem (by omega)]
        rfl
      rw [this]
      rfl
    · have := hrun wx
      rw [hs, show ((m * 4 : Nat) : Int) = (m : Int) * 4 by omega, show ((m * 4 + 4 : Nat) : Int) = (m : Int) * 4 + 4 by omega] at this
      exact this
set_option maxRecDepth 100000 in
theorem readDev_any {W : World} {base d : Nat} {vf ve vc : Value} {n : Nat} {F E : List Int} {C : List (Nat × List Int)} {fuse : Int} {off : Bool} (h : Dev W base d vf ve vc n F E C fuse off) (m : Nat) (hm : 4 * m + 4 ≤ n) :
    Calls Try.prog 55 #[.pointer (some ⟨d, 0, none⟩), .int .i64 (m : Int)] W fun e w' => ∃ v', e = .returned v' ∧ w'.ownsRow W.heap.size 5 1 v' 512 (((E.drop (m * 512)).take 512).map (Value.int .u8)) ∧ Below W.heap.size W w' := by
  have hn8 := h.n1
  obtain ⟨a, c, hr, hs⟩ := RdK.cut h.see h.n1 m hm
  have c1 := (h.blk.cell 1).trans (show _ = some ve from rfl)
  obtain ⟨ea, ec, rfl⟩ := shape_rowK h.see
  have HR := hide hr
  clear h hr
  go_enter Try.func55, Try.ntmps55
  go_wp2_with fail
  refine (bytesOf_any _ 4 _ W HR.out).mono ?_
  rintro e w1 ⟨v1, rfl, o1, b1⟩
  have H1 := hide (And.intro o1 b1)
  clear o1 b1
  go_wp2
  go_ret
  exact ⟨_, rfl, H1.out.1, H1.out.2⟩
end Go.Proofs.Ythghibopnnjboaa

namespace Go.Proofs.Ythghibopnnjboaa
set_option linter.unusedVariables false
set_option linter.unusedSimpArgs false
open Go.RowKit

theorem own_emptyM (w : World) (e : TypeId) (sz : Nat) : (w.alloc (.cells #[] e)).ownsRow w.heap.size e sz (.slice (some ⟨w.heap.size, 0, none⟩) 0 0) 0 [] :=
  ⟨by simp, .inr ⟨w.heap.size, 0, #[], rfl, Nat.le_refl _, heap_alloc_new w _, Nat.le_refl _, by simp, by simp, by simp⟩⟩
theorem run_append_emptyM {P : Program} {w : World} (base : Nat) (t ty e : TypeId) (i : TypeInfo) (size : Nat) (ht : P.underlying t = some (.slice e)) (hi : P.info? e = some i)
    (v : Value) (n : Nat) (xs : List Value) (hown : w.ownsRow base e size v n xs) (a : Option Addr) (c : Nat) :
    (Builtin.append_ #[t, t] ty #[v, .slice a 0 c]).run P w = .ok v w := by
  rcases hown.2 with ⟨rfl, rfl⟩ | ⟨g, cap, cur, rfl, _, _, hnc, _⟩
  · cases a <;> simp [Builtin.append_, run_underlying ht, sizeOf, typeInfo, hi, Builtin.lenOf, Builtin.firstCells, loadCells, loadCellsFrom]
  · cases a <;> simp [Builtin.append_, run_underlying ht, sizeOf, typeInfo, hi, Builtin.lenOf, Builtin.firstCells, hnc, storeCells, loadCells, loadCellsFrom]
theorem wpList_append_emptyM {P : Program} {w : World} {ops : Array Oper} {rest : List Oper} {o : Oper} {a : Act} {Q : Exit → Act → World → Prop} (hgd : o.guard = none) (s x : Operand) (t : TypeId)
    (ho : o.op = .call { callee := .builtin .append, args := #[s, x], argTypes := #[t, t] })
    (base : Nat) (e : TypeId) (i : TypeInfo) (size : Nat) (ht : P.underlying t = some (.slice e)) (hi : P.info? e = some i)
    (v : Value) (n : Nat) (xs : List Value) (hs : a.eval s = v) (hown : w.ownsRow base e size v n xs) (ad : Option Addr) (c : Nat) (hx : a.eval x = .slice ad 0 c)
    (h : wpList P ops Q rest (a.put o.dst v) w) : wpList P ops Q (o :: rest) a w := by
  refine wpList_plain hgd fun K hK => ?_
  have hrun := run_append_emptyM (P := P) (w := w) base t o.type e i size ht hi v n xs hown ad c
  unfold Oper.wp
  simp [execOp, ho, resolve, invoke, builtin, hs, hx, hrun, Result.andThen]
  exact hK _ _ h
theorem wpList_append_copyM {P : Program} (w : World) {ops : Array Oper} {rest : List Oper} {o : Oper} {a : Act} {Q : Exit → Act → World → Prop}
    (hg : o.guard = none) (s x : Operand) (t : TypeId) (hop : o.op = Op.call { callee := Callee.builtin Builtin.append, args := #[s, x], argTypes := #[t, t] })
    (e : TypeId) (i : TypeInfo) (z : Value) (size bytes : Nat) (h1 : P.underlying t = some (.slice e)) (h2 : P.info? e = some i) (h3 : i.zero = some z) (h4 : i.size = size) (h5 : i.bytes = bytes) (h6 : z.cells.size = size) (h7 : 0 < size)
    (hs : a.eval s = .slice (some ⟨w.heap.size, 0, none⟩) 0 0) (ad : Option Addr) (m c : Nat) (xs : List Value) (hx : a.eval x = .slice ad m c) (hl : xs.length = m * size)
    (hr : 0 < m → ∃ bd off, ad = some ⟨bd, off, none⟩ ∧ bd < w.heap.size ∧ ∀ j u, xs[j]? = some u → w.cell? ⟨bd, off + j, none⟩ = some u) (hone : ∀ u ∈ xs, u.oneCell' = true) (hm : m ≤ maxLen) (hb : m * bytes ≤ 140737488355328)
    (hK : ∀ v' w', w'.ownsRow w.heap.size e size v' m xs → Below w.heap.size w w' → wpList P ops Q rest (a.put o.dst v') w') :
    wpList P ops Q (o :: rest) a (w.alloc (.cells #[] e)) := by
  have hB : Below w.heap.size w (w.alloc (.cells #[] e)) := (Below.refl _ _).alloc (Nat.le_refl _) _
  have hO := own_emptyM w e size
  by_cases hp : 0 < m
  · obtain ⟨bd, off, rfl, hbd, hc⟩ := hr hp
    refine append_fresh (w.alloc (.cells #[] e)) hg s x t hop w.heap.size e i z size bytes h1 h2 h3 h4 h5 h6 h7 _ 0 [] hs hO ⟨bd, off, none⟩ m c xs hx hl (fun j u hj => ?_) hone hp (by omega) (by rw [Nat.zero_add]; exact hb) (by simp) ?_
    · rw [Addr.add_mid]
      exact (hB.cell (p := ⟨bd, off + j, none⟩) hbd).trans (hc j u hj)
    · intro v' w' r1 r2 _
      rw [Nat.zero_add, List.nil_append] at r1
      exact hK v' w' r1 (hB.grown r2 hB.size (fun k e => by cases e; exact Nat.le_refl _))
  · obtain rfl : m = 0 := by omega
    have hx0 : xs = [] := List.eq_nil_of_length_eq_zero (by omega)
    subst hx0
    refine wpList_append_emptyM hg s x t hop w.heap.size e i size h1 h2 _ 0 [] hs hO ad c hx ?_
    exact hK _ _ hO hB
theorem Rd.srcM {w : World} {a : Option Addr} {cap : Nat} {zs : List Int} (h : Rd .u8 w (.slice a zs.length cap) zs) : 0 < zs.length → ∃ bd off, a = some ⟨bd, off, none⟩ ∧ bd < w.heap.size ∧ ∀ j u, (zs.map (Value.int .u8))[j]? = some u → w.cell? ⟨bd, off + j, none⟩ = some u := by
  intro hn
  obtain ⟨bd, off, cp, e, hbw, _, _, hcell⟩ := h.partsC hn
  injection e with e1 e2 e3
  refine ⟨bd, off, e1, hbw, fun j u hu => ?_⟩
  rw [List.getElem?_map] at hu
  have hj : j < zs.length := by
    rcases Nat.lt_or_ge j zs.length with h | h
    · exact h
    · rw [List.getElem?_eq_none h] at hu; cases hu
  rw [hcell j hj]
  rw [List.getElem?_eq_getElem hj] at hu
  simp at hu
  rw [← hu]
  simp [List.getD, hj]
end Go.Proofs.Ythghibopnnjboaa
