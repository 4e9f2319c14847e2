/- The model's words (l15Word). -/
import Derived.Test.YtnljpaohkkdjjaaGreatDoorTaA
import Derived.Maps.AppendAt
import Derived.OwnWalk
import Derived.Deep.RegionHeld
import Derived.Deep.RegionHeld3
namespace Go.Proofs.YtnljpaohkkdjjaaGreatDoor
set_option linter.unusedVariables false
set_option linter.unusedSimpArgs false
open Go.RowKit

theorem infoBT : (Tryz.prog.info? 5).map (fun i => (i.zero, i.size, i.bytes)) = some (some (.int .u8 0), 1, 1) := by kernel_rfl
set_option maxRecDepth 100000 in
theorem hex_at (w : World) (z : Int) (h0 : 0 ≤ z) (h1 : z < 16) : (Instr.index 9 (.string (⟨#[48, 49, 50, 51, 52, 53, 54, 55, 56, 57, 97, 98, 99, 100, 101, 102]⟩ : ByteArray)) (.int .u8 z)).run Tryz.prog w = .ok (.int .u8 ((hxd z.toNat).toNat : Int)) w := by
  obtain ⟨n, rfl⟩ : ∃ n : Nat, z = n := ⟨z.toNat, by omega⟩
  have hn : n < 16 := by omega
  match n, hn with
  | 0, _ => rfl
  | 1, _ => rfl
  | 2, _ => rfl
  | 3, _ => rfl
  | 4, _ => rfl
  | 5, _ => rfl
  | 6, _ => rfl
  | 7, _ => rfl
  | 8, _ => rfl
  | 9, _ => rfl
  | 10, _ => rfl
  | 11, _ => rfl
  | 12, _ => rfl
  | 13, _ => rfl
  | 14, _ => rfl
  | 15, _ => rfl
  | n + 16, h => omega
theorem own_emptyT (w : World) (e : TypeId) (sz : Nat) : (w.alloc (.cells #[] e)).ownsRow w.heap.size e sz (.slice (some ⟨w.heap.size, 0, none⟩) 0 0) 0 [] :=
  ⟨by simp, .inr ⟨w.heap.size, 0, #[], rfl, Nat.le_refl _, heap_alloc_new w _, Nat.le_refl _, by simp, by simp, by simp⟩⟩
theorem own_shapeT {w : World} {base n : Nat} {e : TypeId} {v : Value} {xs : List Value} (h : w.ownsRow base e 1 v n xs) : ∃ a cap, v = .slice a n cap := by
  rcases h.2 with ⟨rfl, rfl⟩ | ⟨g, cap, cur, rfl, _⟩
  · exact ⟨none, 0, rfl⟩
  · exact ⟨_, cap, rfl⟩
theorem own_drewT {w : World} {base n : Nat} {e : TypeId} {v : Value} {xs : List Value} (h : w.ownsRow base e 1 v n xs) (o : Obj) : (World.drew (w.alloc o)).ownsRow base e 1 v n xs :=
  own_below h (((Below.refl _ _).alloc (Nat.le_refl _) o).drew)
theorem size_drewT (w : World) (o : Obj) : (World.drew (w.alloc o)).heap.size = w.heap.size + 1 := by show (w.alloc o).heap.size = _; simp
theorem three_cells (w : World) (a b c : Value) (t : TypeId) : ∀ j u, [a, b, c][j]? = some u → (World.drew (w.alloc (.cells #[a, b, c] t))).cell? ((⟨w.heap.size, 0, none⟩ : Addr).add j) = some u := by
  intro j u hj
  rw [Addr.add_mid, Nat.zero_add]
  exact (show (World.drew (w.alloc (.cells #[a, b, c] t))).cell? ⟨w.heap.size, j, none⟩ = _ from World.cell?_alloc_new w _ _ _).trans (by simpa using hj)
theorem three_one (a b c : Int) : ∀ u ∈ [Value.int .u8 a, .int .u8 b, .int .u8 c], u.oneCell' = true := by
  intro u hu
  simp at hu
  rcases hu with rfl | rfl | rfl <;> rfl
theorem one_cell (w : World) (a : Value) (t : TypeId) : ∀ j u, [a][j]? = some u → (w.alloc (.cells #[a] t)).cell? ((⟨w.heap.size, 0, none⟩ : Addr).add j) = some u := by
  intro j u hj
  rw [Addr.add_mid, Nat.zero_add]
  exact (World.cell?_alloc_new w _ _ _).trans (by simpa using hj)
theorem one_one (a : Int) : ∀ u ∈ [Value.int .u8 a], u.oneCell' = true := by
  intro u hu
  simp at hu
  subst hu
  rfl
theorem wp_append_own_atT {P : Program} {w : World} {o : Oper} {a : Act} {K : Act → World → Prop} {Q : Exit → Act → World → Prop} (s x : Operand) (t : TypeId)
    (ho : o.op = .call { callee := .builtin .append, args := #[s, x], argTypes := #[t, t] })
    (base : Nat) (e : TypeId) (i : TypeInfo) (z : Value) (size bytes : Nat) (ht : P.underlying t = some (.slice e)) (hi : P.info? e = some i) (hz : i.zero = some z)
    (hsize : i.size = size) (hby : i.bytes = bytes) (hzs : z.cells.size = size) (hsz : 0 < size)
    (v : Value) (n : Nat) (xs : List Value) (hs : a.eval s = v) (hown : w.ownsRow base e size v n xs)
    (ad : Addr) (m c : Nat) (news : List Value) (hx : a.eval x = .slice (some ad) m c) (hl : news.length = m * size) (hnews : ∀ j u, news[j]? = some u → w.cell? (ad.add j) = some u) (h1 : ∀ u ∈ news, u.oneCell' = true)
    (h63 : n + m ≤ maxLen) (hbytes : (n + m) * bytes ≤ 140737488355328) (hbase : base ≤ w.heap.size)
    (h : ∀ v' w', w'.ownsRow base e size v' (n + m) (xs ++ news) → w.grownBy w' v.ownBlock → (v'.ownBlock = v.ownBlock ∨ v'.ownBlock = some w.heap.size) → K (a.put o.dst v') w') : o.wp P a w K Q := by
  obtain ⟨v', w', hr, h2, h3, h4, h5⟩ := run_append_own_at (P := P) w base t o.type e i z size bytes ht hi hz hsize hby hzs hsz v n xs hown ad m c news hl hnews h1 h63 hbytes hbase
  unfold Oper.wp execOp
  simp only [ho, resolve, invoke, builtin, Sem.run_bind, Sem.run_pure, Result.andThen_ok, List.map_toArray, List.map_cons, List.map_nil, hs, hx, hr]
  exact h v' w' h2 h3 h5
theorem plB_cases (c : UInt8) (z : Int) (hz : (c.toNat : Int) = z) : (escL c = [c] ∧ 33 ≤ z ∧ z ≤ 126 ∧ z ≠ 37 ∧ z ≠ 58 ∧ z ≠ 45) ∨
    (escL c = [37, hxd (z / 16).toNat, hxd (z % 16).toNat] ∧ (z < 33 ∨ (33 ≤ z ∧ 126 < z) ∨ (33 ≤ z ∧ z ≤ 126 ∧ (z != 37) = false) ∨ (33 ≤ z ∧ z ≤ 126 ∧ (z != 37) = true ∧ (z != 58) = false) ∨ (33 ≤ z ∧ z ≤ 126 ∧ (z != 37) = true ∧ (z != 58) = true ∧ (z != 45) = false))) := by
  subst hz
  unfold escL plB
  by_cases h : 33 ≤ c.toNat ∧ c.toNat ≤ 126 ∧ c.toNat ≠ 37 ∧ c.toNat ≠ 58 ∧ c.toNat ≠ 45
  · left; rw [decide_eq_true h]; exact ⟨rfl, by omega⟩
  · right
    rw [decide_eq_false h, show ((c.toNat : Int) / 16).toNat = c.toNat / 16 from by omega, show ((c.toNat : Int) % 16).toNat = c.toNat % 16 from by omega]
    refine ⟨rfl, ?_⟩
    simp only [bne_eq_false_iff_eq, bne_iff_ne, ne_eq]
    omega
theorem u8_div (z : Int) (h0 : 0 ≤ z) (h1 : z < 256) : IntKind.u8.wrap (z.tdiv 16) = z / 16 ∧ z.tmod 16 = z % 16 := by
  rw [Int.tdiv_eq_ediv_of_nonneg h0, Int.tmod_eq_emod_of_nonneg h0]
  have e : (2 : Int) ^ IntKind.u8.bits = 256 := by decide
  refine ⟨?_, rfl⟩
  simp [IntKind.wrap, IntKind.signed, e]
  omega
theorem cells_one {c : UInt8} {z : Int} (hz : (c.toNat : Int) = z) (h : escL c = [c]) : [Value.int .u8 z] = Lib.byteCells (escL c) ∧ 1 = (escL c).length := by
  rw [h, ← hz]; exact ⟨rfl, rfl⟩
theorem cells_esc {c : UInt8} {x y : UInt8} (h : escL c = [37, x, y]) : [Value.int .u8 37, .int .u8 (x.toNat : Int), .int .u8 (y.toNat : Int)] = Lib.byteCells (escL c) ∧ 3 = (escL c).length := by
  rw [h]; exact ⟨rfl, rfl⟩
/-- A word in the making: the first k bytes of l are told. -/
structure WdI (l : List UInt8) (w : World) (k : Nat) (v : Value) (wr : World) : Prop where
  own : wr.ownsRow w.heap.size 5 1 v ((l.take k).flatMap escL).length (Lib.byteCells ((l.take k).flatMap escL))
  bel : Below w.heap.size w wr
theorem take_snocT {l : List UInt8} {k : Nat} {c : UInt8} (h : l[k]? = some c) : l.take (k + 1) = l.take k ++ [c] := by
  rw [List.take_add_one, h]; rfl
theorem WdI.push {l : List UInt8} {w wr w' : World} {k n : Nat} {v v' : Value} {c : UInt8} {m : Nat} {xs : List Value} (h : WdI l w k v wr) (hc : l[k]? = some c) (hn : n = ((l.take k).flatMap escL).length) (hxs : xs = Lib.byteCells (escL c) ∧ m = (escL c).length)
    (ho : w'.ownsRow w.heap.size 5 1 v' (n + m) (Lib.byteCells ((l.take k).flatMap escL) ++ xs)) (hg : wr.grownBy w' v.ownBlock) : WdI l w (k + 1) v' w' := by
  refine ⟨?_, h.bel.grown hg h.bel.size (fun r hr => (h.own.lt r hr).1)⟩
  obtain ⟨rfl, rfl⟩ := hxs
  subst hn
  rw [take_snocT hc, flat_snoc, List.length_append, Lib.byteCells_append]
  exact ho
theorem WdI.pushA {l : List UInt8} {w wr w' : World} {k n : Nat} {v v' : Value} {c : UInt8} {m : Nat} {xs : List Value} {o : Obj} (h : WdI l w k v wr) (hc : l[k]? = some c) (hn : n = ((l.take k).flatMap escL).length) (hxs : xs = Lib.byteCells (escL c) ∧ m = (escL c).length)
    (ho : w'.ownsRow w.heap.size 5 1 v' (n + m) (Lib.byteCells ((l.take k).flatMap escL) ++ xs)) (hg : (wr.alloc o).grownBy w' v.ownBlock) : WdI l w (k + 1) v' w' := by
  have hb := h.bel.alloc h.bel.size o
  exact WdI.push (wr := wr.alloc o) ⟨own_below h.own ((Below.refl _ _).alloc (Nat.le_refl _) o), hb⟩ hc hn hxs ho hg
theorem WdI.pushD {l : List UInt8} {w wr w' : World} {k n : Nat} {v v' : Value} {c : UInt8} {m : Nat} {xs : List Value} {o : Obj} (h : WdI l w k v wr) (hc : l[k]? = some c) (hn : n = ((l.take k).flatMap escL).length) (hxs : xs = Lib.byteCells (escL c) ∧ m = (escL c).length)
    (ho : w'.ownsRow w.heap.size 5 1 v' (n + m) (Lib.byteCells ((l.take k).flatMap escL) ++ xs)) (hg : (World.drew (wr.alloc o)).grownBy w' v.ownBlock) : WdI l w (k + 1) v' w' := by
  have hb := (h.bel.alloc h.bel.size o).drew
  exact WdI.push (wr := World.drew (wr.alloc o)) ⟨own_drewT h.own o, hb⟩ hc hn hxs ho hg
theorem WdI.drewT {l : List UInt8} {w wr : World} {k : Nat} {v : Value} (h : WdI l w k v wr) : WdI l w k v (World.drew wr) := ⟨own_below h.own ((Below.refl _ _).drew), h.bel.drew⟩
theorem flat_bound (l : List UInt8) (k : Nat) : ((l.take k).flatMap escL).length ≤ 3 * l.length := by
  have h1 := flat_len (l.take k)
  have h2 : (l.take k).length ≤ l.length := List.length_take_le' _ _
  omega
theorem isEmpty_data (s : ByteArray) : s.toList.isEmpty = s.data.toList.isEmpty := by
  rw [ByteArray.toList_eq]
set_option maxRecDepth 100000 in
theorem back_bytes {w : World} {base n : Nat} {v : Value} {l : List UInt8} (h : w.ownsRow base 5 1 v n (Lib.byteCells l)) : (convert 22 9 v).run Tryz.prog w = .ok (.string (mk l)) w := by
  have hn : l.length = n := by have := h.1; simpa [Lib.byteCells] using this
  rcases h.2 with ⟨rfl, h0⟩ | ⟨g, cap, cur, rfl, hr⟩
  · have : l = [] := List.eq_nil_of_length_eq_zero (by omega)
    subst this
    subst h0
    rfl
  · have h' : w.ownsRow base 5 1 (.slice (some ⟨g, 0, none⟩) n cap) n (Lib.byteCells l) := h
    subst hn
    exact run_convert_bytes_back (P := Tryz.prog) w 22 9 5 ⟨g, 0, none⟩ cap l Tryz.underlying22 Tryz.underlying5 Tryz.underlying9 (fun j hj => h'.cells (g := g) rfl j _ (by simp [Lib.byteCells, hj]))
end Go.Proofs.YtnljpaohkkdjjaaGreatDoor
