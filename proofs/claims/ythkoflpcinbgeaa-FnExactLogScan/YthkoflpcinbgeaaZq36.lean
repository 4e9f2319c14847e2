/- The iterator over the records of a log: what is known between two rounds. -/
import Derived.Test.YthkoflpcinbgeaaZq34
import Derived.Test.YthkoflpcinbgeaaZq35
import Derived.Shelf.Abstract
import Derived.Shelf.RegionOpen
import Derived.WalkKit
import Derived.OwnWalkIn
import Derived.TacticsInMore
import Derived.LoopNIn
import Derived.LoopIn
import Derived.Maps.AppendAt
namespace Go.Proofs.Ythkoflpcinbgeaa
set_option linter.unusedVariables false
set_option linter.unusedSimpArgs false
open Go.RowKit

/-- What the iterator tells: an entry, the slice of its Data, the slice of its bytes. -/
abbrev LX := EntL × Value × Value
def LX.cells (x : LX) : Array Value := logC (x.1.n : Int) x.1.K x.1.A x.1.B x.1.U x.1.G x.1.p x.1.q x.2.1 x.2.2
def LX.enc (x : LX) : Array Value := #[.agg x.cells]
/-- What is known of it when it is told: it is the next entry of L; its bytes lie in the log; its Data is new. -/
structure OkL (L : List EntL) (z : Nat) (T : Nat → Prop) (pre : List LX) (x : LX) (W0 W1 : World) : Prop where
  here : L[pre.length]? = some x.1
  same : pre.map (·.1) = L.take pre.length
  raw : Rd .u8 W1 x.2.2 x.1.raw
  data : W1.ownsRow (if pre.length = 0 then z else W0.heap.size) 5 1 x.2.1 x.1.ds.length (x.1.ds.map (Value.int .u8))
  apart : ∀ k, x.2.1.ownBlock = some k → ¬ T k
/-- A reader, found again behind a round that kept its block and all below n₀. -/
theorem Rdr.again {w V W' : World} {b lo : Nat} {dv : Value} {zs : List Int} {pos : Nat} (h : Rdr (upTo V b) V b lo true dv zs pos) (hb : W'.heap[b]? = V.heap[b]?) (hR : Rd .u8 w dv zs) (hw : Below w.heap.size w W') (hn : w.heap.size ≤ b) (hV : V.heap.size ≤ W'.heap.size) :
    Rdr (upTo W' b) W' b (b + 1) true dv zs pos := by
  have hbl : b < V.heap.size := h.ck.lt
  obtain ⟨c1, c2, ev, c3, c4⟩ := h.ck
  rcases c4 with ⟨_, c4⟩ | ⟨c4, _⟩
  · refine ⟨⟨(World.cell?_of_block (a := ⟨b, 0, none⟩) hb).trans c1, (World.frozen?_of_block (a := ⟨b, 1, none⟩) hb).trans c2, ev, (World.cell?_of_block (a := ⟨b, 1, none⟩) hb).trans c3, .inl ⟨rfl, c4⟩⟩, (World.cell?_of_block (a := ⟨b, 2, none⟩) hb).trans h.data, (World.cell?_of_block (a := ⟨b, 3, none⟩) hb).trans h.at_, (World.frozen?_of_block (a := ⟨b, 3, none⟩) hb).trans h.fr, upTo_below W' b (by omega), upTo_size W' b (by omega), ?_, h.le, by omega, by omega⟩
    exact Rd.upTo (n₀ := 0) hR hw hn (by omega)
  · cases c4
/-- Any reader whose base is known only up to b, seen from the world as it stands. -/
theorem Rdr.base {w w0 V : World} {b lo : Nat} {ok : Bool} {dv : Value} {zs : List Int} {pos : Nat} (h : Rdr w0 V b lo ok dv zs pos) (hR : Rd .u8 w dv zs) (hw : Below w.heap.size w V) (hn : w.heap.size ≤ b) : Rdr (upTo V b) V b lo ok dv zs pos := by
  have hbl : b < V.heap.size := h.ck.lt
  exact ⟨h.ck, h.data, h.at_, h.fr, upTo_below V b (by omega), upTo_size V b (by omega), Rd.upTo (n₀ := 0) hR hw hn (by omega), h.le, h.lo1, h.lo2⟩
/-- How much is left to be read. -/
def rdM (b len : Nat) (W : World) : Nat := match W.cell? ⟨b, 1, none⟩, W.cell? ⟨b, 3, none⟩ with
  | some .nilIface, some (.int _ p) => len - p.toNat + 1
  | _, _ => 0
theorem rdM_ok {w0 W : World} {b lo : Nat} {dv : Value} {zs : List Int} {pos : Nat} (h : Rdr w0 W b lo true dv zs pos) (len : Nat) : rdM b len W = len - pos + 1 := by
  obtain ⟨c1, c2, ev, c3, c4⟩ := h.ck
  rcases c4 with ⟨_, rfl⟩ | ⟨c4, _⟩
  · unfold rdM; rw [c3, h.at_]; simp
  · cases c4
theorem rdM_no {w0 W : World} {b lo : Nat} {dv : Value} {zs : List Int} {pos : Nat} (h : Rdr w0 W b lo false dv zs pos) (len : Nat) : rdM b len W = 0 := by
  obtain ⟨c1, c2, ev, c3, c4⟩ := h.ck
  rcases c4 with ⟨c4, _⟩ | ⟨_, n, c5⟩
  · cases c4
  · obtain ⟨t', x', rfl⟩ := c5.iface
    unfold rdM; rw [c3]
/-- Between two rounds: the world w at the beginning (where the log lies), the reader at b, the record read at c. -/
structure Irc (w : World) (zs : List Int) (dv : Value) (L : List EntL) (J : (Nat → Prop) → List LX → World → Prop) (z b c : Nat) (ok : Bool) (p lo : Nat) (C : Array Value) (pre : List LX) (wr : World) : Prop where
  inv : J (fun r => r = b ∨ r = c) pre wr
  old : Below w.heap.size w wr
  rdr : Rdr (upTo wr b) wr b lo ok dv zs p
  blk : Blk wr c C 42
  lt : b < c
  base : w.heap.size ≤ b
  start : z ≤ b
  same : pre.map (·.1) = L.take pre.length
  le : pre.length ≤ L.length
  more : ok = true → ∃ (x : LX) (W0 : World), C = x.cells ∧ J (fun r => r = b ∨ r = c) pre W0 ∧ OkL L z (fun r => r = b ∨ r = c) pre x W0 wr ∧ x.1.ok ∧ Sc (some x.1.n) (zs.drop p) (L.drop (pre.length + 1))
  last : ok = false → pre.length = L.length
theorem rcM {w : World} {zs : List Int} {dv : Value} {L : List EntL} {J : (Nat → Prop) → List LX → World → Prop} {z b c : Nat} {ok : Bool} {p lo : Nat} {C : Array Value} {pre : List LX} {wr : World} (h : Irc w zs dv L J z b c ok p lo C pre wr) : rdM b zs.length wr = if ok then zs.length - p + 1 else 0 := by
  cases ok with
  | true => exact rdM_ok h.rdr _
  | false => exact rdM_no h.rdr _
/-- What reading on tells of the entries. -/
theorem rl_next {zs : List Int} (hbd : ∀ z ∈ zs, 0 ≤ z ∧ z < 256) {L : List EntL} {o : Option Nat} {k p p' : Nat} {e : EntL} {ok1 okN : Bool} (hS : Sc o (zs.drop p) (L.drop k)) (hk : k ≤ L.length) (hR : RL zs p e ok1 p') (hN : ok1 = true → (okN = true ↔ folE o e)) :
    ((ok1 && okN) = true → L[k]? = some e ∧ e.ok ∧ Sc (some e.n) (zs.drop p') (L.drop (k + 1)) ∧ p' = p + e.raw.length ∧ p' ≤ zs.length ∧ (zs.drop p).take (p' - p) = e.raw) ∧ ((ok1 && okN) = false → k = L.length) := by
  have bd' : ∀ z ∈ zs.drop p, 0 ≤ z ∧ z < 256 := fun z hz => hbd z (List.mem_of_mem_drop hz)
  have lastOf : L.drop k = [] → k = L.length := fun h => by
    have := congrArg List.length h
    rw [List.length_drop] at this
    simp at this
    omega
  rcases hR with ⟨h1, h2, h3, h4, h5⟩ | ⟨h1, h2⟩
  · subst h1
    rw [Bool.true_and]
    refine ⟨fun h => ?_, fun h => ?_⟩
    · obtain ⟨L', hL, hS'⟩ := hS.head bd' h2 ((hN rfl).1 h) h3
      have hk2 : k < L.length := by
        rcases Nat.lt_or_ge k L.length with h | h
        · exact h
        · rw [List.drop_eq_nil_of_le h] at hL; cases hL
      have hd := List.drop_eq_getElem_cons hk2
      rw [hd] at hL
      injection hL with hL1 hL2
      refine ⟨by rw [List.getElem?_eq_getElem hk2, hL1], h2, by rw [hL2]; exact hS', h4, h5, ?_⟩
      rw [h3, h4, Nat.add_sub_cancel_left, List.take_left]
    · refine lastOf (hS.nothing (fun f r hf hfol hz => ?_))
      obtain ⟨rfl, _⟩ := ent_one hf h2 (hz.symm.trans h3) (by rw [← hz]; exact bd')
      have := (hN rfl).2 hfol
      rw [this] at h
      cases h
  · subst h1
    rw [Bool.false_and]
    exact ⟨fun h => (by cases h), fun _ => lastOf (hS.nothing (fun f r hf _ => h2 f r hf))⟩
/-- A record has been read: what is known before the next round. -/
theorem irc_of {w : World} {zs : List Int} {dv : Value} {L : List EntL} {J : (Nat → Prop) → List LX → World → Prop} {z b c : Nat} {ok : Bool} {p p' lo : Nat} {pre : List LX} {wr w0 W0 : World} {x : Nat} {K A B U G : Int} {pa qa : ByteArray} {d rv : Value} {ds : List Int} {o : Option Nat} {ok1 okN : Bool}
    (hbd : ∀ z ∈ zs, 0 ≤ z ∧ z < 256) (inv : J (fun r => r = b ∨ r = c) pre wr) (old : Below w.heap.size w wr) (hR : Rd .u8 w dv zs) (rdr : Rdr w0 wr b lo ok dv zs p') (blk : Blk wr c (logC (wrap64 (x : Int)) K A B U G pa qa d rv) 42) (lt : b < c) (base : w.heap.size ≤ b) (start : z ≤ b)
    (same : pre.map (·.1) = L.take pre.length) (le : pre.length ≤ L.length) (hS : Sc o (zs.drop p) (L.drop pre.length)) (hm : RL zs p ⟨x, K, A, B, U, G, pa, qa, ds⟩ ok1 p') (hN : ok1 = true → (okN = true ↔ folE o ⟨x, K, A, B, U, G, pa, qa, ds⟩)) (hok : ok = (ok1 && okN))
    (hW0 : J (fun r => r = b ∨ r = c) pre W0) (raw : Rd .u8 wr rv ((zs.drop p).take (p' - p))) (data : wr.ownsRow (if pre.length = 0 then z else W0.heap.size) 5 1 d ds.length (ds.map (Value.int .u8))) (apart : ∀ k, d.ownBlock = some k → k ≠ b ∧ k ≠ c) :
    Irc w zs dv L J z b c ok p' lo (logC (wrap64 (x : Int)) K A B U G pa qa d rv) pre wr := by
  obtain ⟨n1, n2⟩ := rl_next hbd hS le hm hN
  rw [← hok] at n1 n2
  refine ⟨inv, old, rdr.base hR old base, blk, lt, base, start, same, le, fun h => ?_, n2⟩
  obtain ⟨q1, q2, q3, q4, q5, q6⟩ := n1 h
  have hx := q2.1
  refine ⟨(⟨x, K, A, B, U, G, pa, qa, ds⟩, d, rv), W0, ?_, hW0, ⟨q1, same, by rw [← q6]; exact raw, data, fun k hk hT => ?_⟩, q2, q3⟩
  · show logC (wrap64 (x : Int)) K A B U G pa qa d rv = logC (x : Int) K A B U G pa qa d rv
    rw [show wrap64 (x : Int) = (x : Int) from by unfold wrap64; simp only at hx; omega]
  · have := apart k hk
    omega
theorem wpListIn_store_rowL {F : Fence} {n : Nat} {P : Program} {ops : Array Oper} {rest : List Oper} {o : Oper} {a : Act} {w : World} {Q : Exit → Act → World → Prop} (hgd : o.guard = none) (ty : TypeId) (x y : Operand) (ho : o.op = .store ty x y)
    (g : Nat) (cells : Array Value) (hx : a.eval x = .pointer (some ⟨g, 0, none⟩)) (hy : a.eval y = .agg cells)
    (t : TypeId) (old : Array Value) (hg : Blk w g old t) (hi : (P.info? ty).map (·.size) = some cells.size)
    (hold : old.size = cells.size) (h1 : cells.all (·.oneCell') = true)
    (h : wpListIn F n P ops Q rest (a.put o.dst undef) (w.setRow g cells)) : wpListIn F n P ops Q (o :: rest) a w := by
  refine wpListIn_runS hgd (by rw [ho]; intro c hc; cases hc) (by rw [ho]; intro c hc; cases hc) (w.setRow g cells) ?_ h
  unfold execOp
  simp only [ho, hx, hy, Instr.storeAt, Instr.sureAddr, Sem.run_bind, Sem.run_pure, Result.andThen_ok, run_storeVar_row w g t ty old cells hg hi hold h1]
theorem grown_drew (W : World) (r : Option Nat) : W.grownBy W.drew r := ⟨rfl, rfl, rfl, Nat.le_refl _, fun _ _ _ => rfl⟩
theorem own_aside {W W' : World} {base g m : Nat} {e : TypeId} {v : Value} {xs : List Value} (h : W.ownsRow base e 1 v m xs) (hg : W.grownBy W' (some g)) (hlt : g < base) : W'.ownsRow base e 1 v m xs :=
  h.kept hg (by
    cases hv : v.ownBlock with
    | none => exact .inl rfl
    | some k => exact .inr (fun e => by have := (h.lt k hv).1; injection e with e; omega))
theorem take_snoc {L : List EntL} {pre : List LX} {x : LX} (h : pre.map (·.1) = L.take pre.length) (hx : L[pre.length]? = some x.1) : (pre ++ [x]).map (·.1) = L.take (pre ++ [x]).length ∧ (pre ++ [x]).length ≤ L.length := by
  have hlt := (List.getElem?_eq_some_iff.1 hx).1
  refine ⟨?_, by simp; omega⟩
  rw [List.map_append, h, List.length_append, List.length_singleton, List.take_add_one, hx]
  rfl
theorem raw_pos (e : EntL) : 45 ≤ e.raw.length := by rw [e.raw_len]; omega
end Go.Proofs.Ythkoflpcinbgeaa
