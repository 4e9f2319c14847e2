/- The program lays a snapshot down: layLetters, laySnap. The program lays a snapshot down: laySnap. EncodeSnap of the program. Two owned rows that lie apart. The law on EncodeRoot, walked: it answers true and turns nothing that was there. -/
import Derived.Test.YtkbbnflblkkepaaGreatDoorZm33
import Derived.Test.YtkbbnflblkkepaaGreatDoorZm25
import Derived.Deep.RegionHeld3
import Derived.Room.AppendFits
import Derived.Test.YtkbbnflblkkepaaGreatDoorZm01
import Derived.Test.YtkbbnflblkkepaaGreatDoorZm24
namespace Go.Proofs.YtkbbnflblkkepaaGreatDoor
set_option linter.unusedVariables false
set_option linter.unusedSimpArgs false
open Go.RowKit

theorem wp_append_fits {P : Program} (w : World) {o : Oper} {a : Act} {K : Act → World → Prop} {Q : Exit → Act → World → Prop}
    (s x : Operand) (t : TypeId) (hop : o.op = Op.call { callee := Callee.builtin Builtin.append, args := #[s, x], argTypes := #[t, t] })
    (base : Nat) (e : TypeId) (i : TypeInfo) (size : Nat) (h1 : P.underlying t = some (.slice e)) (h2 : P.info? e = some i) (h4 : i.size = size)
    (g k cap : Nat) (xs : List Value) (hs : a.eval s = .slice (some ⟨g, 0, none⟩) k cap) (hown : w.ownsRow base e size (.slice (some ⟨g, 0, none⟩) k cap) k xs) (ad : Addr) (m c : Nat) (news : List Value) (hx : a.eval x = .slice (some ad) m c) (hn : news.length = m * size)
    (hc : ∀ j u, news[j]? = some u → w.cell? (ad.add j) = some u) (h1c : ∀ u ∈ news, u.oneCell' = true) (b1 : k + m ≤ cap)
    (hK : ∀ w', w'.ownsRow base e size (.slice (some ⟨g, 0, none⟩) (k + m) cap) (k + m) (xs ++ news) → w.grownBy w' (some g) → K (a.put o.dst (.slice (some ⟨g, 0, none⟩) (k + m) cap)) w') :
    o.wp P a w K Q := by
  obtain ⟨w', hrun, r1, r2⟩ := run_append_fits (P := P) w base t o.type e i size h1 h2 h4 g k cap xs hown ad m c news hn hc h1c b1
  unfold Oper.wp
  simp [execOp, hop, resolve, invoke, builtin, hs, hx, hrun, Result.andThen]
  exact hK w' r1 r2
theorem make512 (w : World) : (Instr.makeSlice 22 (.int .i64 0) (.int .i64 512)).run Tryz.prog w = .ok (.slice (some ⟨w.heap.size, 0, none⟩) 0 512) (w.alloc (.cells (Array.replicate 512 (.int .u8 0)) 5)) := by kernel_rfl

end Go.Proofs.YtkbbnflblkkepaaGreatDoor

namespace Go.Proofs.YtkbbnflblkkepaaGreatDoor
set_option linter.unusedVariables false
set_option linter.unusedSimpArgs false
open Go.RowKit

/-- The letters of a snapshot, where the program's own start lays them. -/
def snapLet : List Int := [115, 110, 97, 112, 115, 104, 111, 116]
theorem info8 : (Tryz.prog.info? 94).map (·.size) = some 8 := by kernel_rfl
def strInts (nm : ByteArray) : List Int := nm.data.toList.map fun b => (b.toNat : Int)
theorem strInts_cells (nm : ByteArray) : Go.Lib.strCells nm = (strInts nm).map (Value.int .u8) := by
  unfold Go.Lib.strCells strInts
  rw [List.map_map]
  rfl
theorem strInts_len (nm : ByteArray) : (strInts nm).length = nm.size := by
  unfold strInts
  rw [List.length_map, Array.length_toList]
  rfl
theorem strInts_bd (nm : ByteArray) : ∀ z ∈ strInts nm, 0 ≤ z ∧ z < 256 := by
  intro z hz
  unfold strInts at hz
  obtain ⟨b, _, rfl⟩ := List.mem_map.1 hz
  have := b.toNat_lt
  omega
/-- The bytes of a snapshot ahead of its sum. -/
def bytesS (a : Nat) (nm : ByteArray) (b c : Nat) (s : Int) (ds : List Int) (p q : Int) : List Int := snapLet ++ le 1 a ++ le 1 nm.size ++ strInts nm ++ List.replicate (40 - (10 + nm.size)) 0 ++ le 8 b ++ le 8 c ++ bytesR s ds p q
theorem bytesS_len (a : Nat) (nm : ByteArray) (b c : Nat) (s : Int) (ds : List Int) (p q : Int) (hd : ds.length = 12) (hn : nm.size ≤ 26) : (bytesS a nm b c s ds p q).length = 120 := by
  unfold bytesS
  simp only [List.length_append, le_len, List.length_replicate, bytesR_len s ds p q hd, strInts_len, snapLet, List.length_cons, List.length_nil]
  omega

/-- What the laying keeps, in a row of 512 bytes. -/
structure Ls (w wr : World) (g k : Nat) (xs : List Int) (C : Array Value) (t : TypeId) : Prop where
  own : wr.ownsRow w.heap.size 5 1 (.slice (some ⟨g, 0, none⟩) k 512) k (xs.map (Value.int .u8))
  blk : Blk wr w.heap.size C t
  old : Below w.heap.size w wr
  lt : w.heap.size < g
theorem Ls.step {w wr w' : World} {g k k' : Nat} {xs ys : List Int} {C : Array Value} {t : TypeId} (h : Ls w wr g k xs C t) (ho : w'.ownsRow w.heap.size 5 1 (.slice (some ⟨g, 0, none⟩) k' 512) k' (xs.map (Value.int .u8) ++ ys.map (Value.int .u8))) (hg : wr.grownBy w' (some g)) : Ls w w' g k' (xs ++ ys) C t :=
  ⟨by rw [List.map_append]; exact ho, (hg.block _ h.blk.lt (by have := h.lt; simp; omega)).trans h.blk, h.old.grown hg h.old.size (fun k e => by cases e; exact Nat.le_of_lt h.lt), h.lt⟩

end Go.Proofs.YtkbbnflblkkepaaGreatDoor

namespace Go.Proofs.YtkbbnflblkkepaaGreatDoor
set_option linter.unusedVariables false
set_option linter.unusedSimpArgs false
open Go.RowKit

def encS (pl : Int) (nm : ByteArray) (ge cl s : Int) (ds : List Int) (p q : Int) : List Int := if rightS pl nm ge cl s ds p q = true then sealed (bytesS pl.toNat nm ge.toNat cl.toNat s ds p q) else []
def codeS (pl : Int) (nm : ByteArray) (ge cl s : Int) (ds : List Int) (p q : Int) : Int := if rightS pl nm ge cl s ds p q = true then 0 else 7
theorem le_few : ∀ (m n : Nat), ∀ z ∈ le m n, 0 ≤ z ∧ z < 256
  | 0, _, z, h => by cases h
  | m + 1, n, z, h => by
    rw [le, List.mem_cons] at h
    rcases h with rfl | h
    · omega
    · exact le_few m _ z h
theorem bytesS_bd (a : Nat) (nm : ByteArray) (b c : Nat) (s : Int) (ds : List Int) (p q : Int) : ∀ z ∈ bytesS a nm b c s ds p q, 0 ≤ z ∧ z < 256 := by
  intro z h
  unfold bytesS at h
  simp only [List.mem_append] at h
  rcases h with ((((((h | h) | h) | h) | h) | h) | h) | h
  · simp only [snapLet, List.mem_cons, List.not_mem_nil, or_false] at h
    omega
  · exact le_few _ _ z h
  · exact le_few _ _ z h
  · exact strInts_bd nm z h
  · rw [(List.mem_replicate.1 h).2]; omega
  · exact le_few _ _ z h
  · exact le_few _ _ z h
  · unfold bytesR bytesW at h
    rw [List.mem_append] at h
    rcases h with h | h
    · exact le_few _ _ z h
    · obtain ⟨v, _, hv⟩ := List.mem_flatMap.1 h
      exact le_few _ _ z hv
theorem chk_size {nm : ByteArray} (h : (Chk.chkS nm == 0) = true) : nm.size ≤ 26 ∧ 0 < nm.size := by
  have h0 : Chk.chkS nm = 0 := by simpa using h
  unfold Chk.chkS at h0
  split at h0
  · omega
  · rename_i hn
    split at h0
    · omega
    · refine ⟨by omega, ?_⟩
      rcases Nat.eq_zero_or_pos nm.size with hz | hz
      · exact absurd (.inl (by rw [ByteArray.toList_eq]; exact List.eq_nil_of_length_eq_zero (by rw [Array.length_toList]; exact hz))) hn
      · exact hz
theorem snap_bd {pl : Int} {nm : ByteArray} {ge cl s : Int} {ds : List Int} {p q : Int} (hd : ds.length = 12) (h : rightS pl nm ge cl s ds p q = true) : (0 ≤ pl ∧ pl < 256) ∧ (nm.size ≤ 26 ∧ 0 < nm.size) ∧ (0 ≤ ge ∧ ge < 281474976710656) ∧ (0 ≤ cl ∧ cl < 281474976710656) ∧ (0 ≤ s ∧ s ≤ 262144) ∧ ∀ z ∈ ds ++ [p, q], 0 ≤ z ∧ z < 2048 := by
  unfold rightS at h
  simp only [Bool.and_eq_true] at h
  obtain ⟨⟨⟨⟨h1, h2⟩, h3⟩, h4⟩, h5, _⟩ := h
  have g1 := wi_true h1
  have g3 := wi_true h3
  have g4 := wi_true h4
  have g5 := right_bd hd h5
  exact ⟨by omega, chk_size h2, by omega, by omega, g5.1, g5.2⟩

theorem encS_len (pl : Int) (nm : ByteArray) (ge cl s : Int) (ds : List Int) (p q : Int) (hd : ds.length = 12) : (encS pl nm ge cl s ds p q).length ≤ 512 := by
  unfold encS
  split
  · rename_i h
    rw [sealed_len _ (by rw [bytesS_len _ _ _ _ _ _ _ _ hd (snap_bd hd h).2.1.1]; omega)]
    omega
  · simp
end Go.Proofs.YtkbbnflblkkepaaGreatDoor

namespace Go.Proofs.YtkbbnflblkkepaaGreatDoor
open Go.RowKit

/-- Two owned rows, one below block m, one from m on. -/
theorem apart {v x : Value} (m : Nat) (h1 : ∀ k, v.ownBlock = some k → m ≤ k) (h2 : ∀ k, x.ownBlock = some k → k < m) : v.ownBlock = none ∨ v.ownBlock ≠ x.ownBlock := by
  cases hv : v.ownBlock with
  | none => exact .inl rfl
  | some k =>
    refine .inr fun h => ?_
    have a := h1 k hv
    have b := h2 k h.symm
    omega
theorem apart' {v x : Value} (m : Nat) (h1 : ∀ k, v.ownBlock = some k → k < m) (h2 : ∀ k, x.ownBlock = some k → m ≤ k) : v.ownBlock = none ∨ v.ownBlock ≠ x.ownBlock := by
  cases hv : v.ownBlock with
  | none => exact .inl rfl
  | some k =>
    refine .inr fun h => ?_
    have a := h1 k hv
    have b := h2 k h.symm
    omega
/-- Two rows of different calls. -/
theorem apart2 {v x : Value} {l1 h1 l2 h2 : Nat} (a : ∀ k, v.ownBlock = some k → l1 ≤ k ∧ k < h1) (b : ∀ k, x.ownBlock = some k → l2 ≤ k ∧ k < h2) (h : h1 ≤ l2 ∨ h2 ≤ l1) : v.ownBlock = none ∨ v.ownBlock ≠ x.ownBlock := by
  cases hv : v.ownBlock with
  | none => exact .inl rfl
  | some k =>
    refine .inr fun e => ?_
    have p := a k hv
    have q := b k e.symm
    omega
end Go.Proofs.YtkbbnflblkkepaaGreatDoor

namespace Go.Proofs.YtkbbnflblkkepaaGreatDoor
set_option linter.unusedVariables false
set_option linter.unusedSimpArgs false
open Go.RowKit


theorem root_of_list (rs : List Int) (h : rs.length = 15) : ∃ s ds p q, ds.length = 12 ∧ rs = rootI s ds p q := by
  match rs, h with
  | [s, d0, d1, d2, d3, d4, d5, d6, d7, d8, d9, d10, d11, p, q], _ => exact ⟨s, [d0, d1, d2, d3, d4, d5, d6, d7, d8, d9, d10, d11], p, q, rfl, rfl⟩
end Go.Proofs.YtkbbnflblkkepaaGreatDoor
