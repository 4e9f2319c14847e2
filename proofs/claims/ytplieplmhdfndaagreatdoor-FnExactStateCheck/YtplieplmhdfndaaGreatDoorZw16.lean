/- The program lays a snapshot down: laySnap. EncodeSnap of the program. EncodeSnap of the model: refusals. The mark that a conversion puts behind a row: what it keeps. -/
import Derived.Test.YtplieplmhdfndaaGreatDoorZw15
import Derived.Test.YtplieplmhdfndaaGreatDoorZw08
import Derived.Test.YtplieplmhdfndaaGreatDoorZw13
namespace Go.Proofs.YtplieplmhdfndaaGreatDoor
set_option linter.unusedVariables false
set_option linter.unusedSimpArgs false
open Go.RowKit

/-- The letters of a snapshot, where the program's own start lays them. -/
def snapLet : List Int := [115, 110, 97, 112, 115, 104, 111, 116]
def strInts (nm : ByteArray) : List Int := nm.data.toList.map fun b => (b.toNat : Int)
theorem strInts_cells (nm : ByteArray) : Go.Lib.strCells nm = (strInts nm).map (Value.int .u8) := by
  unfold Go.Lib.strCells strInts
  rw [List.map_map]
  rfl
theorem strInts_len (nm : ByteArray) : (strInts nm).length = nm.size := by
  unfold strInts
  rw [List.length_map, Array.length_toList]
  rfl
theorem strInts_bd (nm : ByteArray) : ∀ z ∈ strInts nm, 0 ≤ z ∧ z < 256 := by
  intro z hz
  unfold strInts at hz
  obtain ⟨b, _, rfl⟩ := List.mem_map.1 hz
  have := b.toNat_lt
  omega
/-- The bytes of a snapshot ahead of its sum. -/
def bytesS (a : Nat) (nm : ByteArray) (b c : Nat) (s : Int) (ds : List Int) (p q : Int) : List Int := snapLet ++ le 1 a ++ le 1 nm.size ++ strInts nm ++ List.replicate (40 - (10 + nm.size)) 0 ++ le 8 b ++ le 8 c ++ bytesR s ds p q
theorem bytesS_len (a : Nat) (nm : ByteArray) (b c : Nat) (s : Int) (ds : List Int) (p q : Int) (hd : ds.length = 12) (hn : nm.size ≤ 26) : (bytesS a nm b c s ds p q).length = 120 := by
  unfold bytesS
  simp only [List.length_append, le_len, List.length_replicate, bytesR_len s ds p q hd, strInts_len, snapLet, List.length_cons, List.length_nil]
  omega

/-- What the laying keeps, in a row of 512 bytes. -/
structure Ls (w wr : World) (g k : Nat) (xs : List Int) (C : Array Value) (t : TypeId) : Prop where
  own : wr.ownsRow w.heap.size 5 1 (.slice (some ⟨g, 0, none⟩) k 512) k (xs.map (Value.int .u8))
  blk : Blk wr w.heap.size C t
  old : Below w.heap.size w wr
  lt : w.heap.size < g
theorem Ls.step {w wr w' : World} {g k k' : Nat} {xs ys : List Int} {C : Array Value} {t : TypeId} (h : Ls w wr g k xs C t) (ho : w'.ownsRow w.heap.size 5 1 (.slice (some ⟨g, 0, none⟩) k' 512) k' (xs.map (Value.int .u8) ++ ys.map (Value.int .u8))) (hg : wr.grownBy w' (some g)) : Ls w w' g k' (xs ++ ys) C t :=
  ⟨by rw [List.map_append]; exact ho, (hg.block _ h.blk.lt (by have := h.lt; simp; omega)).trans h.blk, h.old.grown hg h.old.size (fun k e => by cases e; exact Nat.le_of_lt h.lt), h.lt⟩

end Go.Proofs.YtplieplmhdfndaaGreatDoor

namespace Go.Proofs.YtplieplmhdfndaaGreatDoor
set_option linter.unusedVariables false
set_option linter.unusedSimpArgs false
open Go.RowKit

def encS (pl : Int) (nm : ByteArray) (ge cl s : Int) (ds : List Int) (p q : Int) : List Int := if rightS pl nm ge cl s ds p q = true then sealed (bytesS pl.toNat nm ge.toNat cl.toNat s ds p q) else []
def codeS (pl : Int) (nm : ByteArray) (ge cl s : Int) (ds : List Int) (p q : Int) : Int := if rightS pl nm ge cl s ds p q = true then 0 else 7
theorem le_few : ∀ (m n : Nat), ∀ z ∈ le m n, 0 ≤ z ∧ z < 256
  | 0, _, z, h => by cases h
  | m + 1, n, z, h => by
    rw [le, List.mem_cons] at h
    rcases h with rfl | h
    · omega
    · exact le_few m _ z h
theorem bytesS_bd (a : Nat) (nm : ByteArray) (b c : Nat) (s : Int) (ds : List Int) (p q : Int) : ∀ z ∈ bytesS a nm b c s ds p q, 0 ≤ z ∧ z < 256 := by
  intro z h
  unfold bytesS at h
  simp only [List.mem_append] at h
  rcases h with ((((((h | h) | h) | h) | h) | h) | h) | h
  · simp only [snapLet, List.mem_cons, List.not_mem_nil, or_false] at h
    omega
  · exact le_few _ _ z h
  · exact le_few _ _ z h
  · exact strInts_bd nm z h
  · rw [(List.mem_replicate.1 h).2]; omega
  · exact le_few _ _ z h
  · exact le_few _ _ z h
  · unfold bytesR bytesW at h
    rw [List.mem_append] at h
    rcases h with h | h
    · exact le_few _ _ z h
    · obtain ⟨v, _, hv⟩ := List.mem_flatMap.1 h
      exact le_few _ _ z hv
theorem chk_size {nm : ByteArray} (h : (Chk.chkS nm == 0) = true) : nm.size ≤ 26 ∧ 0 < nm.size := by
  have h0 : Chk.chkS nm = 0 := by simpa using h
  unfold Chk.chkS at h0
  split at h0
  · omega
  · rename_i hn
    split at h0
    · omega
    · refine ⟨by omega, ?_⟩
      rcases Nat.eq_zero_or_pos nm.size with hz | hz
      · exact absurd (.inl (by rw [ByteArray.toList_eq]; exact List.eq_nil_of_length_eq_zero (by rw [Array.length_toList]; exact hz))) hn
      · exact hz
theorem snap_bd {pl : Int} {nm : ByteArray} {ge cl s : Int} {ds : List Int} {p q : Int} (hd : ds.length = 12) (h : rightS pl nm ge cl s ds p q = true) : (0 ≤ pl ∧ pl < 256) ∧ (nm.size ≤ 26 ∧ 0 < nm.size) ∧ (0 ≤ ge ∧ ge < 281474976710656) ∧ (0 ≤ cl ∧ cl < 281474976710656) ∧ (0 ≤ s ∧ s ≤ 262144) ∧ ∀ z ∈ ds ++ [p, q], 0 ≤ z ∧ z < 2048 := by
  unfold rightS at h
  simp only [Bool.and_eq_true] at h
  obtain ⟨⟨⟨⟨h1, h2⟩, h3⟩, h4⟩, h5, _⟩ := h
  have g1 := wi_true h1
  have g3 := wi_true h3
  have g4 := wi_true h4
  have g5 := right_bd hd h5
  exact ⟨by omega, chk_size h2, by omega, by omega, g5.1, g5.2⟩

theorem encS_len (pl : Int) (nm : ByteArray) (ge cl s : Int) (ds : List Int) (p q : Int) (hd : ds.length = 12) : (encS pl nm ge cl s ds p q).length ≤ 512 := by
  unfold encS
  split
  · rename_i h
    rw [sealed_len _ (by rw [bytesS_len _ _ _ _ _ _ _ _ hd (snap_bd hd h).2.1.1]; omega)]
    omega
  · simp
end Go.Proofs.YtplieplmhdfndaaGreatDoor

namespace Go.Proofs.YtplieplmhdfndaaGreatDoor
set_option linter.unusedVariables false
set_option linter.unusedSimpArgs false
open Go.RowKit

end Go.Proofs.YtplieplmhdfndaaGreatDoor

namespace Go.Proofs.YtplieplmhdfndaaGreatDoor
set_option linter.unusedVariables false
set_option linter.unusedSimpArgs false
open Go.RowKit

/-- What a mark behind a row keeps: every cell; and the blocks, but for the marks of one. -/
theorem freeze_cell (w : World) (g k : Nat) (a : Addr) : (w.freeze ⟨g, k, none⟩ 1).cell? a = w.cell? a := by
  unfold World.freeze World.cell?
  rw [if_neg (by decide)]
  simp only [Array.getElem?_modify]
  by_cases h : g = a.block
  · rw [if_pos h]
    cases e : w.heap[a.block]? with
    | none => rfl
    | some o => cases o <;> rfl
  · rw [if_neg h]
theorem freeze_size (w : World) (g k : Nat) : (w.freeze ⟨g, k, none⟩ 1).heap.size = w.heap.size := by
  unfold World.freeze
  rw [if_neg (by decide)]
  simp
theorem freeze_row (w : World) (g k : Nat) {b : Nat} {C : Array Value} {t : TypeId} (h : ∃ fr, w.heap[b]? = some (.cells C t fr)) : ∃ fr, (w.freeze ⟨g, k, none⟩ 1).heap[b]? = some (.cells C t fr) := by
  obtain ⟨fr, h⟩ := h
  unfold World.freeze
  rw [if_neg (by decide)]
  simp only [Array.getElem?_modify]
  by_cases e : g = b
  · rw [if_pos e, h]; exact ⟨_, rfl⟩
  · rw [if_neg e]; exact ⟨fr, h⟩
theorem freeze_below {B : Nat} {w0 w : World} (h : Below B w0 w) (g k : Nat) (hg : B ≤ g) : Below B w0 (w.freeze ⟨g, k, none⟩ 1) := by
  refine h.trans ⟨?_, ?_, ?_, by rw [freeze_size]; exact Nat.le_refl _, fun j hj => ?_⟩
  · unfold World.freeze; rw [if_neg (by decide)]
  · unfold World.freeze; rw [if_neg (by decide)]
  · unfold World.freeze; rw [if_neg (by decide)]
  · unfold World.freeze
    rw [if_neg (by decide)]
    simp only [Array.getElem?_modify]
    rw [if_neg (show ¬ g = j by omega)]
theorem Rd.freeze {k : IntKind} {w : World} {v : Value} {zs : List Int} (h : Rd k w v zs) (g m : Nat) : Rd k (w.freeze ⟨g, m, none⟩ 1) v zs := by
  obtain ⟨a, cap, rfl, hm, hc, hcap⟩ := h
  refine ⟨a, cap, rfl, hm, fun hne => ?_, hcap⟩
  obtain ⟨b, off, rfl, hlt, hcell⟩ := hc hne
  exact ⟨b, off, rfl, by rw [freeze_size]; exact hlt, fun i hi => by rw [freeze_cell]; exact hcell i hi⟩
theorem AllRd.freeze {w : World} (g m : Nat) : ∀ {vs : List Value} {bs : List (List Int)}, AllRd w vs bs → AllRd (w.freeze ⟨g, m, none⟩ 1) vs bs
  | [], [], _ => trivial
  | _ :: _, _ :: _, h => ⟨h.1.freeze g m, AllRd.freeze g m h.2⟩
  | [], _ :: _, h => h.elim
  | _ :: _, [], h => h.elim
theorem run_mark {P : Program} (w : World) (t e : TypeId) (g n c : Nat) {C : Array Value} (hg : ∃ fr, w.heap[g]? = some (.cells C e fr)) (ht : P.underlying t = some (.slice e)) (he : P.underlying e = some (.int .u8)) :
    (convert t t (.slice (some ⟨g, 0, none⟩) n c)).run P w = .ok (.slice (some ⟨g, 0, none⟩) n c) (w.freeze ⟨g, C.size, none⟩ 1) := by
  obtain ⟨fr, hg⟩ := hg
  have hsh : w.shape? g = some (e, C.size) := by unfold World.shape?; rw [hg]
  simp [convert, run_underlying ht, run_underlying he, markStringish, hsh]
theorem wp_mark {P : Program} {o : Oper} {a : Act} {w : World} {K : Act → World → Prop} {Q : Exit → Act → World → Prop} (t e : TypeId) (x : Operand) (ho : o.op = .convert t t x) (g n c : Nat) {C : Array Value} (hx : a.eval x = .slice (some ⟨g, 0, none⟩) n c) (hg : ∃ fr, w.heap[g]? = some (.cells C e fr)) (ht : P.underlying t = some (.slice e)) (he : P.underlying e = some (.int .u8))
    (h : K (a.put o.dst (.slice (some ⟨g, 0, none⟩) n c)) (w.freeze ⟨g, C.size, none⟩ 1)) : o.wp P a w K Q := by
  unfold Oper.wp execOp
  simp only [ho, hx, Sem.run_bind, Sem.run_pure, Result.andThen_ok, run_mark w t e g n c hg ht he]
  exact h
theorem wpList_mark {P : Program} {ops : Array Oper} {rest : List Oper} {o : Oper} {a : Act} {w : World} {Q : Exit → Act → World → Prop} (hgd : o.guard = none) (t e : TypeId) (x : Operand) (ho : o.op = .convert t t x) (g n c : Nat) {C : Array Value} (hx : a.eval x = .slice (some ⟨g, 0, none⟩) n c) (hg : ∃ fr, w.heap[g]? = some (.cells C e fr)) (ht : P.underlying t = some (.slice e)) (he : P.underlying e = some (.int .u8))
    (h : wpList P ops Q rest (a.put o.dst (.slice (some ⟨g, 0, none⟩) n c)) (w.freeze ⟨g, C.size, none⟩ 1)) : wpList P ops Q (o :: rest) a w := by
  refine wpList_plain hgd fun K hK => ?_
  exact wp_mark t e x ho g n c hx hg ht he (hK _ _ h)
end Go.Proofs.YtplieplmhdfndaaGreatDoor
