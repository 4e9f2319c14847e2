/- The program lays a snapshot down: laySnap. -/
import Derived.Test.YtfpfhmnmcjnmaaaDoorSnapC
namespace Go.Proofs.YtfpfhmnmcjnmaaaDoor
set_option linter.unusedVariables false
set_option linter.unusedSimpArgs false
open Go.RowKit

/-- The letters of a snapshot, where the program's own start lays them. -/
def snapLet : List Int := [115, 110, 97, 112, 115, 104, 111, 116]
def LetS (w : World) : Prop := w.rangeAt 0 0 (snapLet.map (Value.int .u8))
theorem LetS.below {w w' : World} (h : LetS w) (hb : Below w.heap.size w w') : LetS w' := fun j v hv => by
  have h1 := h j v hv
  exact (hb.cell (p := ⟨0, 0 + j, none⟩) (cell_lt h1)).trans h1
theorem info8 : (Tryd.prog.info? 121).map (·.size) = some 8 := by kernel_rfl
def strInts (nm : ByteArray) : List Int := nm.data.toList.map fun b => (b.toNat : Int)
theorem strInts_cells (nm : ByteArray) : Go.Lib.strCells nm = (strInts nm).map (Value.int .u8) := by
  unfold Go.Lib.strCells strInts
  rw [List.map_map]
  rfl
theorem strInts_len (nm : ByteArray) : (strInts nm).length = nm.size := by
  unfold strInts
  rw [List.length_map, Array.length_toList]
  rfl
theorem strInts_bd (nm : ByteArray) : ∀ z ∈ strInts nm, 0 ≤ z ∧ z < 256 := by
  intro z hz
  unfold strInts at hz
  obtain ⟨b, _, rfl⟩ := List.mem_map.1 hz
  have := b.toNat_lt
  omega
/-- The bytes of a snapshot ahead of its sum. -/
def bytesS (a : Nat) (nm : ByteArray) (b c : Nat) (s : Int) (ds : List Int) (p q : Int) : List Int := snapLet ++ le 1 a ++ le 1 nm.size ++ strInts nm ++ List.replicate (40 - (10 + nm.size)) 0 ++ le 8 b ++ le 8 c ++ bytesR s ds p q
theorem bytesS_len (a : Nat) (nm : ByteArray) (b c : Nat) (s : Int) (ds : List Int) (p q : Int) (hd : ds.length = 12) (hn : nm.size ≤ 26) : (bytesS a nm b c s ds p q).length = 120 := by
  unfold bytesS
  simp only [List.length_append, le_len, List.length_replicate, bytesR_len s ds p q hd, strInts_len, snapLet, List.length_cons, List.length_nil]
  omega

/-- What the laying keeps, in a row of 512 bytes. -/
structure Ls (w wr : World) (g k : Nat) (xs : List Int) (C : Array Value) (t : TypeId) : Prop where
  own : wr.ownsRow w.heap.size 5 1 (.slice (some ⟨g, 0, none⟩) k 512) k (xs.map (Value.int .u8))
  blk : Blk wr w.heap.size C t
  old : Below w.heap.size w wr
  lt : w.heap.size < g
theorem Ls.step {w wr w' : World} {g k k' : Nat} {xs ys : List Int} {C : Array Value} {t : TypeId} (h : Ls w wr g k xs C t) (ho : w'.ownsRow w.heap.size 5 1 (.slice (some ⟨g, 0, none⟩) k' 512) k' (xs.map (Value.int .u8) ++ ys.map (Value.int .u8))) (hg : wr.grownBy w' (some g)) : Ls w w' g k' (xs ++ ys) C t :=
  ⟨by rw [List.map_append]; exact ho, (hg.block _ h.blk.lt (by have := h.lt; simp; omega)).trans h.blk, h.old.grown hg h.old.size (fun k e => by cases e; exact Nat.le_of_lt h.lt), h.lt⟩

set_option maxRecDepth 100000 in
set_option maxHeartbeats 2000000 in
theorem laySnap_any (a : Nat) (nm : ByteArray) (b c : Nat) (s : Int) (ds : List Int) (p q : Int) (w : World) (hd : ds.length = 12) (h0 : a < 256) (hn : nm.size ≤ 26) (h1 : b < 281474976710656) (h2 : c < 281474976710656) (hs : 0 ≤ s ∧ s ≤ 262144) (hp : ∀ z ∈ ds ++ [p, q], 0 ≤ z ∧ z < 2048) (hbb : ∀ z ∈ bytesS a nm b c s ds p q, 0 ≤ z ∧ z < 256) (hL : LetS w) :
    Calls Tryd.prog 82 #[.agg (snapC (a : Int) nm (b : Int) (c : Int) s ds p q)] w fun e w' => ∃ v', e = .returned v' ∧ w'.ownsRow w.heap.size 5 1 v' 512 ((sealed (bytesS a nm b c s ds p q)).map (Value.int .u8)) ∧ Below w.heap.size w w' := by
  obtain ⟨i0, hi, hz0, hz1', hz2⟩ := info_parts infoU8
  have HD := hide hd
  have HSP := hide (And.intro hs hp)
  have HBB := hide hbb
  have HBL := hide (bytesS_len a nm b c s ds p q hd hn)
  have HLen := hide (show (cellsI (rootI s ds p q)).size = 15 from by rw [cellsI_size]; exact rootI_len s ds p q HD.out)
  have hb0 : Below w.heap.size w (w.alloc (.cells (snapC (a : Int) nm (b : Int) (c : Int) s ds p q) 67)) := (Below.refl _ _).alloc (Nat.le_refl _) _
  have K0 := hide (And.intro (Blk.new w (snapC (a : Int) nm (b : Int) (c : Int) s ds p q) 67) (And.intro hb0 (hL.below hb0)))
  clear hd hs hp hbb hb0 hL
  go_enter Tryd.func82, Tryd.ntmps82
  go_wp2_with (first | (refine wpList_load_mid rfl 121 _ rfl 0 0 rfl (snapLet.map (Value.int .u8)) _ K0.out.2.2 Tryd.underlying121 rfl info8 ?_) | (go_at_call 109; fail))
  refine (layLetters_any 115 110 97 112 115 104 111 116 _).mono ?_
  rintro e w1 ⟨rfl, o1, b1⟩
  rw [World.size_alloc] at o1 ⊢
  have L1 := hide (show Ls w w1 (w.heap.size + 1 + 1) 8 snapLet (snapC (a : Int) nm (b : Int) (c : Int) s ds p q) 67 from ⟨own_mono o1 (by omega), K0.out.1.below b1 K0.out.1.lt, K0.out.2.1.trans (b1.mono K0.out.2.1.size), by omega⟩)
  clear o1 b1 K0
  have c1 := (L1.out.blk.cell 0).trans (show (snapC (a : Int) nm (b : Int) (c : Int) s ds p q)[0]? = some (.int .i64 (a : Int)) from rfl)
  go_wp2_with (go_at_call 99; fail)
  refine (lay8_any (w.heap.size + 1 + 1) w.heap.size 8 512 a _ _ L1.out.own (by omega) (by omega) h0).mono ?_
  rintro e w2 ⟨rfl, o2, g2⟩
  have L2 := hide (L1.out.step o2 g2)
  clear o2 g2 L1 c1
  have c2 := (L2.out.blk.cell 1).trans (show (snapC (a : Int) nm (b : Int) (c : Int) s ds p q)[1]? = some (.string nm) from rfl)
  go_wp2_with (go_at_call 99; fail)
  refine (lay8_any (w.heap.size + 1 + 1) w.heap.size 9 512 nm.size _ _ L2.out.own (by omega) (by omega) (by omega)).mono ?_
  rintro e w3 ⟨rfl, o3, g3⟩
  have L3 := hide (L2.out.step o3 g3)
  clear o3 g3 L2 c2
  have c3 := (L3.out.blk.cell 1).trans (show (snapC (a : Int) nm (b : Int) (c : Int) s ds p q)[1]? = some (.string nm) from rfl)
  go_wp2_with (at_builtin; refine Go.Lib.wpList_append_fits_string _ rfl (.tmp 17) (.tmp 19) 23 9 rfl w.heap.size 5 i0 Tryd.underlying23 Tryd.underlying9 hi hz1' (some ⟨w.heap.size + 1 + 1, 0, none⟩) 10 512 _ rfl L3.out.own nm rfl (by omega) (by omega) ?_; intro w4 o4 g4)
  rw [strInts_cells] at o4
  have L4 := hide (L3.out.step o4 g4)
  clear o4 g4 L3 c3
  go_wp2_with (go_at_call 100; fail)
  refine (layZeros_any (w.heap.size + 1 + 1) w.heap.size (10 + nm.size) 512 40 _ _ L4.out.own (by omega) (by omega) (by omega)).mono ?_
  rintro e w5 ⟨rfl, o5, g5⟩
  have L5 := hide (L4.out.step o5 g5)
  clear o5 g5 L4 
  have c5 := (L5.out.blk.cell 2).trans (show (snapC (a : Int) nm (b : Int) (c : Int) s ds p q)[2]? = some (.int .i64 (b : Int)) from rfl)
  go_wp2_with (go_at_call 95; fail)
  refine (lay64_any (w.heap.size + 1 + 1) w.heap.size 40 512 b _ _ L5.out.own (by omega) (by omega) h1).mono ?_
  rintro e w6 ⟨rfl, o6, g6⟩
  have L6 := hide (L5.out.step o6 g6)
  clear o6 g6 L5 c5
  have c6 := (L6.out.blk.cell 3).trans (show (snapC (a : Int) nm (b : Int) (c : Int) s ds p q)[3]? = some (.int .i64 (c : Int)) from rfl)
  go_wp2_with (go_at_call 95; fail)
  refine (lay64_any (w.heap.size + 1 + 1) w.heap.size 48 512 c _ _ L6.out.own (by omega) (by omega) h2).mono ?_
  rintro e w7 ⟨rfl, o7, g7⟩
  have L7 := hide (L6.out.step o7 g7)
  clear o7 g7 L6 c6
  have HR := hide (snap_range (a : Int) nm (b : Int) (c : Int) s ds p q L7.out.blk)
  go_wp2_with (first | (refine wpList_load_mid rfl 36 _ rfl w.heap.size 4 rfl ((rootI s ds p q).map (Value.int .i64)) _ HR.out Tryd.underlying36 rfl (by rw [List.length_map, ← cellsI_size, HLen.out]; exact info15) ?_) | (go_at_call 56; fail))
  refine (layRoot_any (w.heap.size + 1 + 1) w.heap.size 56 512 _ s ds p q _ L7.out.own (by omega) (by omega) HD.out HSP.out.1 HSP.out.2).mono ?_
  rintro e w8 ⟨rfl, o8, g8⟩
  have L8 := hide (L7.out.step o8 g8)
  clear o8 g8 L7 HR
  have LF := hide (show Ls w w8 (w.heap.size + 1 + 1) (bytesS a nm b c s ds p q).length (bytesS a nm b c s ds p q) (snapC (a : Int) nm (b : Int) (c : Int) s ds p q) 67 from by rw [HBL.out]; exact L8.out)
  go_wp2_with (go_at_call 110; fail)
  have hS := laySum_any (w.heap.size + 1 + 1) w.heap.size (bytesS a nm b c s ds p q) _ LF.out.own (by rw [HBL.out]; omega) HBB.out
  rw [HBL.out] at hS
  refine hS.mono ?_
  clear hS
  rintro e w9 ⟨rfl, o9, g9⟩
  have H9 := hide (And.intro o9 (LF.out.old.grown g9 LF.out.old.size (fun k e => by cases e; exact Nat.le_of_lt LF.out.lt)))
  clear o9 g9
  go_wp2
  go_ret
  exact ⟨_, rfl, H9.out.1, H9.out.2⟩
end Go.Proofs.YtfpfhmnmcjnmaaaDoor
