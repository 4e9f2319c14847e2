/- The root of a table of inodes: l02TableSize of the model, tableRootFault of the program. The program's look at a snapshot: snapFault. EncodeWords of the program: it gives encW, in memory of its own. The program lays a root down: layRoot, EncodeRoot. The program's EncodeRoot: it gives encR, in memory of its own. The program lays an inode down: layZeros, layInode. The sum by eight steps a byte and by a table of a byte's part are one: plain arithmetic. -/
import Derived.Test.YtnbfpmmpmblmmaaGreatDoorZe09
import Derived.Test.YtnbfpmmpmblmmaaGreatDoorZe10
import Derived.Test.YtnbfpmmpmblmmaaGreatDoorZe12
import Derived.Test.YtnbfpmmpmblmmaaGreatDoorZe08
import Derived.Test.YtnbfpmmpmblmmaaGreatDoorZe04
import Derived.Deep.RegionHeld
import Derived.Outline
import Derived.Deep.RegionHeld3
import Derived.WalkKit
namespace Go.Proofs.YtnbfpmmpmblmmaaGreatDoor
set_option linter.unusedVariables false
set_option linter.unusedSimpArgs false
open Go.RowKit

end Go.Proofs.YtnbfpmmpmblmmaaGreatDoor

namespace Go.Proofs.YtnbfpmmpmblmmaaGreatDoor
set_option linter.unusedVariables false
set_option linter.unusedSimpArgs false
open Go.RowKit

theorem Below.iter (w : World) (s : ByteArray) (pos : Nat) : Below w.heap.size w (w.iter s pos) := (Below.refl _ _).alloc (Nat.le_refl _) _

end Go.Proofs.YtnbfpmmpmblmmaaGreatDoor

namespace Go.Proofs.YtnbfpmmpmblmmaaGreatDoor
open Go.RowKit

end Go.Proofs.YtnbfpmmpmblmmaaGreatDoor

namespace Go.Proofs.YtnbfpmmpmblmmaaGreatDoor
set_option linter.unusedVariables false
set_option linter.unusedSimpArgs false
open Go.RowKit

theorem bytesW_append (xs ys : List Int) : bytesW (xs ++ ys) = bytesW xs ++ bytesW ys := by simp [bytesW]

set_option maxRecDepth 100000 in
set_option maxHeartbeats 1000000 in
theorem layRoot_any (g base k cap : Nat) (xs : List Value) (s : Int) (ds : List Int) (p q : Int) (w : World) (h : w.ownsRow base 5 1 (.slice (some ⟨g, 0, none⟩) k cap) k xs) (hr : k + 64 ≤ cap) (hcap : cap ≤ 1048576) (hd : ds.length = 12) (hs : 0 ≤ s ∧ s ≤ 262144) (hp : ∀ z ∈ ds ++ [p, q], 0 ≤ z ∧ z < 2048) :
    Calls Tryz.prog 63 #[.slice (some ⟨g, 0, none⟩) k cap, .agg (cellsI (rootI s ds p q))] w fun e w' => e = .returned (.slice (some ⟨g, 0, none⟩) (k + 64) cap) ∧ w'.ownsRow base 5 1 (.slice (some ⟨g, 0, none⟩) (k + 64) cap) (k + 64) (xs ++ (bytesR s ds p q).map (Value.int .u8)) ∧ w.grownBy w' (some g) := by
  have HD := hide hd
  have hg := (h.lt g rfl).2
  obtain ⟨n, hn⟩ := Int.eq_ofNat_of_zero_le hs.1
  have hn2 : n ≤ 262144 := by omega
  have HN := hide hn
  have c0 : (w.alloc (.cells (cellsI (rootI s ds p q)) 81)).cell? ⟨w.heap.size, 0, none⟩ = some (.int .i64 (n : Int)) := by
    rw [(Blk.new w _ _).cell 0, ← hn]; rfl
  have hpp := hp p (by simp)
  have hqq := hp q (by simp)
  obtain ⟨pn, hpn⟩ := Int.eq_ofNat_of_zero_le hpp.1
  obtain ⟨qn, hqn⟩ := Int.eq_ofNat_of_zero_le hqq.1
  have hp2 : pn < 2048 := by omega
  have hq2 : qn < 2048 := by omega
  have HPQ := hide (And.intro hpn hqn)
  have HP := hide (show ∀ z ∈ ds, 0 ≤ z ∧ z < 2048 from fun z hz => hp z (by simp [hz]))
  have HX := hide (fun k hk w => index12 ds k HD.out hk w)
  have K := hide (And.intro h (Blk.new w (cellsI (rootI s ds p q)) 81))
  have HBR := hide (show bytesR s ds p q = le 8 n ++ bytesW ds ++ le 4 pn ++ le 4 qn from by
    unfold bytesR
    rw [bytesW_append, hn, hpn, hqn]
    simp [bytesW])
  clear hd hs hp h hn hpp hqq hpn hqn
  go_enter Tryz.func63, Tryz.ntmps63
  go_wp2_with fail
  refine (lay64_any g base k cap n xs _ (K.out.1.alloc _) (by omega) (by omega) (by omega)).mono ?_
  rintro e w1 ⟨rfl, o1, g1⟩
  have hs1 := g1.size
  rw [World.size_alloc] at hs1
  have H1 := hide (And.intro o1 (And.intro (show Blk w1 w.heap.size (cellsI (rootI s ds p q)) 81 from (g1.block _ (by simp) (by simp; omega)).trans K.out.2) (grownBy_trans (World.grownBy_alloc w _ (some g)) g1)))
  have HR := hide (show w1.rangeAt w.heap.size 1 (ds.map (Value.int .i64)) from by
    have hr := H1.out.2.1.range 1 12 (by rw [rootI_len _ _ _ _ HD.out]; omega)
    rw [root_range _ _ _ _ HD.out] at hr
    exact hr)
  clear o1 g1 c0
  go_wp2_with (refine wpList_load_mid rfl 79 _ rfl w.heap.size 1 rfl (ds.map (Value.int .i64)) _ HR.out Tryz.underlying79 rfl (by rw [List.length_map, HD.out]; exact info12) ?_)
  go_loopw [0, 14] (fun o i wr => ∃ j : Nat, j ≤ 12 ∧ i = .int .i64 j ∧ o = .slice (some ⟨g, 0, none⟩) (k + 8 + 4 * j) cap ∧ w.heap.size < wr.heap.size ∧ wr.ownsRow base 5 1 (.slice (some ⟨g, 0, none⟩) (k + 8 + 4 * j) cap) (k + 8 + 4 * j) (xs ++ (le 8 n ++ bytesW (ds.take j)).map (Value.int .u8)) ∧ Blk wr w.heap.size (cellsI (rootI s ds p q)) 81 ∧ w.grownBy wr (some g)) (fun _ i _ => 12 - (intOf i).toNat)
  case atStart => exact ⟨0, by omega, rfl, rfl, by omega, by simpa [bytesW] using H1.out.1, H1.out.2.1, H1.out.2.2⟩
  case round =>
    clear H1 HR hs1
    obtain ⟨j, hj, rfl, rfl, hwr, hown, hblk, hgr⟩ := hrel
    have HC := hide (And.intro hown (And.intro hblk hgr))
    clear hown hblk hgr
    by_cases hlt : j < 12
    · have hjl : j < ds.length := by rw [HD.out]; exact hlt
      have hix : ∀ w, (Instr.index 79 (.agg (ds.map (Value.int .i64)).toArray) (.int .i64 j)).run Tryz.prog w = .ok (.int .i64 (ds.getD j 0)) w := fun w => HX.out j hlt w
      have hz1 := HP.out (ds.getD j 0) (by simp [List.getD, hjl])
      have HT := hide (bytesW_take ds j hjl)
      clear hjl
      generalize ds.getD j 0 = z at hix HT hz1
      obtain ⟨y, rfl⟩ := Int.eq_ofNat_of_zero_le hz1.1
      obtain ⟨_, hy2⟩ := hz1
      have hy : y < 2048 := by omega
      clear hy2
      rw [Int.toNat_natCast] at HT
      go_wp2_with (go_at_call 61; fail)
      refine (lay32_any g base (k + 8 + 4 * j) cap y _ _ HC.out.1 (by omega) (by omega) (by omega)).mono ?_
      rintro e w2 ⟨rfl, o2, g2⟩
      have hs2 := g2.size
      have HW := hide (show w2.ownsRow base 5 1 (.slice (some ⟨g, 0, none⟩) (k + 8 + 4 * (j + 1)) cap) (k + 8 + 4 * (j + 1)) (xs ++ (le 8 n ++ bytesW (ds.take (j + 1))).map (Value.int .u8)) ∧ Blk w2 w.heap.size (cellsI (rootI s ds p q)) 81 ∧ w.grownBy w2 (some g) from by
        refine ⟨?_, (g2.block _ hwr (by simp; omega)).trans HC.out.2.1, grownBy_trans HC.out.2.2 g2⟩
        rw [HT.out, ← List.append_assoc, List.map_append, ← List.append_assoc, show k + 8 + 4 * (j + 1) = k + 8 + 4 * j + 4 from by omega]
        exact o2)
      clear o2 g2
      go_wp2
      go_roundw
      case rel => exact ⟨j + 1, by omega, by go_num, by rw [show k + 8 + 4 * (j + 1) = k + 8 + 4 * j + 4 from by omega], by omega, HW.out.1, HW.out.2.1, HW.out.2.2⟩
      case measure => simp [intOf]; omega
    · have e12 : j = 12 := by omega
      subst e12
      have a13 := (HC.out.2.1.cell 13).trans (rootI_get13 s ds p q HD.out)
      rw [HPQ.out.1] at a13
      go_wp2_with (go_at_call 61; fail)
      refine (lay32_any g base (k + 8 + 4 * 12) cap pn _ _ HC.out.1 (by omega) (by omega) (by omega)).mono ?_
      rintro e w2 ⟨rfl, o2, g2⟩
      have hk2 : Blk w2 w.heap.size (cellsI (rootI s ds p q)) 81 := (g2.block _ hwr (by simp; omega)).trans HC.out.2.1
      have a14 := (hk2.cell 14).trans (rootI_get14 s ds p q HD.out)
      rw [HPQ.out.2] at a14
      have H2 := hide (And.intro o2 (grownBy_trans HC.out.2.2 g2))
      clear o2 g2 a13 hk2
      go_wp2_with (go_at_call 61; fail)
      refine (lay32_any g base (k + 8 + 4 * 12 + 4) cap qn _ _ H2.out.1 (by omega) (by omega) (by omega)).mono ?_
      rintro e w3 ⟨rfl, o3, g3⟩
      have H3 := hide (And.intro o3 (grownBy_trans H2.out.2 g3))
      clear o3 g3 a14
      go_wp2
      go_ret
      have ho := H3.out.1
      rw [List.take_of_length_le (by rw [HD.out]; omega)] at ho
      refine ⟨rfl, ?_, H3.out.2⟩
      rw [HBR.out, List.map_append, List.map_append, ← List.append_assoc, ← List.append_assoc]
      exact ho
end Go.Proofs.YtnbfpmmpmblmmaaGreatDoor

namespace Go.Proofs.YtnbfpmmpmblmmaaGreatDoor
set_option linter.unusedVariables false
set_option linter.unusedSimpArgs false
open Go.RowKit

theorem far_cells {w1 w5 : World} {b : Nat} {o : Obj} (hb : b < w1.heap.size) (g5 : (w1.alloc o).drew.grownBy w5 (some w1.heap.size)) : ∀ j, w5.cell? ⟨b, j, none⟩ = w1.cell? ⟨b, j, none⟩ := fun j =>
  World.cell?_of_block (a := ⟨b, j, none⟩) ((g5.block b (show b < (w1.alloc o).heap.size by simp; omega) (by simp; omega)).trans (Below.heap_alloc w1 o b hb))
theorem below_far {w w1 w5 : World} {o : Obj} (g5 : (w1.alloc o).drew.grownBy w5 (some w1.heap.size)) (hs : w.heap.size ≤ w1.heap.size) : Below w.heap.size w1 w5 :=
  (((Below.refl w.heap.size w1).alloc hs o).drew).grown g5 (show w.heap.size ≤ (w1.alloc o).heap.size by simp; omega) (fun k h => by cases h; exact hs)

end Go.Proofs.YtnbfpmmpmblmmaaGreatDoor

namespace Go.Proofs.YtnbfpmmpmblmmaaGreatDoor
set_option linter.unusedVariables false
set_option linter.unusedSimpArgs false
open Go.RowKit

set_option maxRecDepth 100000 in
set_option maxHeartbeats 400000 in
theorem layZeros_any (g base k cap m : Nat) (xs : List Value) (w : World) (h : w.ownsRow base 5 1 (.slice (some ⟨g, 0, none⟩) k cap) k xs) (hk : k ≤ m) (hm : m ≤ cap) (hcap : cap ≤ 140737488355328) :
    Calls Tryz.prog 59 #[.slice (some ⟨g, 0, none⟩) k cap, .int .i64 m] w fun e w' => e = .returned (.slice (some ⟨g, 0, none⟩) m cap) ∧ w'.ownsRow base 5 1 (.slice (some ⟨g, 0, none⟩) m cap) m (xs ++ (List.replicate (m - k) (0 : Int)).map (Value.int .u8)) ∧ w.grownBy w' (some g) := by
  obtain ⟨i0, hi, hz0, hz1, hz2⟩ := info_parts infoU8
  have hgl := h.lt g rfl
  go_enter Tryz.func59, Tryz.ntmps59
  go_wp2
  go_loopw [0] (fun v wr => ∃ j : Nat, k + j ≤ m ∧ v = .slice (some ⟨g, 0, none⟩) (k + j) cap ∧ wr.ownsRow base 5 1 (.slice (some ⟨g, 0, none⟩) (k + j) cap) (k + j) (xs ++ (List.replicate j (0 : Int)).map (Value.int .u8)) ∧ w.grownBy wr (some g)) (fun v _ => m - (match v with | .slice _ l _ => l | _ => 0))
  case atStart => exact ⟨0, by omega, rfl, by simpa using h, World.grownBy.refl _ _⟩
  case round =>
    clear h
    obtain ⟨j, hj, rfl, hown, hgr⟩ := hrel
    have hsz := hgr.size
    by_cases hlt : k + j < m
    · go_wp2_with (at_builtin; refine wpList_append_fits _ rfl _ _ 48 rfl base 5 i0 1 Tryz.underlying48 hi hz1 g (k + j) cap _ rfl (hown.alloc _) ⟨wr.heap.size, 0, none⟩ 1 1 [.int .u8 0] rfl rfl (cell_one_new _ _ _) (one_u8 _) (by omega) ?_; intro w1 hown1 hgr1)
      have HW := hide (show w1.ownsRow base 5 1 (.slice (some ⟨g, 0, none⟩) (k + (j + 1)) cap) (k + (j + 1)) (xs ++ (List.replicate (j + 1) (0 : Int)).map (Value.int .u8)) ∧ w.grownBy w1 (some g) from by
        refine ⟨?_, grownBy_trans hgr (grownBy_trans (World.grownBy_alloc _ _ _) hgr1)⟩
        rw [List.replicate_succ', List.map_append, ← List.append_assoc]
        exact hown1)
      clear hown hown1 hgr hgr1
      go_roundw
      case rel => exact ⟨j + 1, by omega, rfl, HW.out.1, HW.out.2⟩
      case measure => show m - (k + (j + 1)) < m - (k + j); omega
    · have HO := hide (And.intro hown hgr)
      have e : j = m - k := by omega
      clear hown hgr
      go_wp2
      go_ret
      have h2 := HO.out
      rw [show k + j = m by omega, e] at h2
      exact ⟨by rw [show k + j = m by omega]; rfl, h2.1, h2.2⟩

theorem lay8_eq (x : Int) (g base k cap n : Nat) (xs : List Value) (w : World) (hx : x = (n : Int)) (h : w.ownsRow base 5 1 (.slice (some ⟨g, 0, none⟩) k cap) k xs) (hr : k + 1 ≤ cap) (hcap : cap ≤ 140737488355328) (hn : n < 256) :
    Calls Tryz.prog 58 #[.slice (some ⟨g, 0, none⟩) k cap, .int .u8 x] w fun e w' => e = .returned (.slice (some ⟨g, 0, none⟩) (k + 1) cap) ∧ w'.ownsRow base 5 1 (.slice (some ⟨g, 0, none⟩) (k + 1) cap) (k + 1) (xs ++ (le 1 n).map (Value.int .u8)) ∧ w.grownBy w' (some g) := by
  subst hx
  exact lay8_any g base k cap n xs w h hr hcap hn
theorem wrap_u8 (n : Nat) (h : n < 256) : IntKind.u8.wrap (n : Int) = n := by
  simp only [IntKind.wrap, IntKind.bits, IntKind.signed]
  simp
  omega

/-- The bytes of an inode. -/
def bytesIno (a0 a1 a2 a3 a4 a5 a6 a7 a8 : Nat) (s : Int) (ds : List Int) (p q : Int) : List Int := le 1 a0 ++ List.replicate 1 0 ++ le 2 a1 ++ le 2 a2 ++ le 2 a3 ++ le 2 a4 ++ List.replicate 2 0 ++ le 4 a5 ++ le 8 a6 ++ le 8 a7 ++ le 8 a8 ++ bytesR s ds p q ++ List.replicate 24 0
theorem bytesIno_len (a0 a1 a2 a3 a4 a5 a6 a7 a8 : Nat) (s : Int) (ds : List Int) (p q : Int) (hd : ds.length = 12) : (bytesIno a0 a1 a2 a3 a4 a5 a6 a7 a8 s ds p q).length = 128 := by
  unfold bytesIno
  simp only [List.length_append, le_len, List.length_replicate, bytesR_len s ds p q hd]

/-- What the laying keeps: the row so far, the boxed inode, all that is older. -/
structure Li (w wr : World) (g k : Nat) (xs : List Int) (C : Array Value) (t : TypeId) : Prop where
  own : wr.ownsRow w.heap.size 5 1 (.slice (some ⟨g, 0, none⟩) k 128) k (xs.map (Value.int .u8))
  blk : Blk wr w.heap.size C t
  old : Below w.heap.size w wr
  lt : w.heap.size < g
theorem Li.step {w wr w' : World} {g k k' : Nat} {xs ys : List Int} {C : Array Value} {t : TypeId} (h : Li w wr g k xs C t) (ho : w'.ownsRow w.heap.size 5 1 (.slice (some ⟨g, 0, none⟩) k' 128) k' (xs.map (Value.int .u8) ++ ys.map (Value.int .u8))) (hg : wr.grownBy w' (some g)) : Li w w' g k' (xs ++ ys) C t :=
  ⟨by rw [List.map_append]; exact ho, (hg.block _ h.blk.lt (by have := h.lt; simp; omega)).trans h.blk, h.old.grown hg h.old.size (fun k e => by cases e; exact Nat.le_of_lt h.lt), h.lt⟩

theorem make128 (w : World) : (Instr.makeSlice 48 (.int .i64 0) (.int .i64 128)).run Tryz.prog w = .ok (.slice (some ⟨w.heap.size, 0, none⟩) 0 128) (w.alloc (.cells (Array.replicate 128 (.int .u8 0)) 5)) := by kernel_rfl

set_option maxRecDepth 100000 in
set_option maxHeartbeats 2000000 in
theorem layInode_any (a0 a1 a2 a3 a4 a5 a6 a7 a8 : Nat) (s : Int) (ds : List Int) (p q : Int) (w : World) (hd : ds.length = 12) (h0 : a0 < 256) (h1 : a1 < 65536) (h2 : a2 < 65536) (h3 : a3 < 65536) (h4 : a4 < 65536) (h5 : a5 < 4294967296) (h6 : a6 < 281474976710656) (h7 : a7 < 281474976710656) (h8 : a8 < 281474976710656) (hs : 0 ≤ s ∧ s ≤ 262144) (hp : ∀ z ∈ ds ++ [p, q], 0 ≤ z ∧ z < 2048) :
    Calls Tryz.prog 34 #[.agg (cellsI (inoI [(a0 : Int), (a1 : Int), (a2 : Int), (a3 : Int), (a4 : Int), (a5 : Int), (a6 : Int), (a7 : Int), (a8 : Int)] s ds p q))] w fun e w' => ∃ v', e = .returned v' ∧ w'.ownsRow w.heap.size 5 1 v' 128 ((bytesIno a0 a1 a2 a3 a4 a5 a6 a7 a8 s ds p q).map (Value.int .u8)) ∧ Below w.heap.size w w' := by
  have HD := hide hd
  have HSP := hide (And.intro hs hp)
  have HLen := hide (show (cellsI (rootI s ds p q)).size = 15 from by rw [cellsI_size]; exact rootI_len s ds p q HD.out)
  have HBY := hide (show bytesIno a0 a1 a2 a3 a4 a5 a6 a7 a8 s ds p q = _ from rfl)
  obtain ⟨w1, hw1⟩ : ∃ w1, w1 = w.alloc (.cells (cellsI (inoI [(a0 : Int), (a1 : Int), (a2 : Int), (a3 : Int), (a4 : Int), (a5 : Int), (a6 : Int), (a7 : Int), (a8 : Int)] s ds p q)) 83) := ⟨_, rfl⟩
  have K0 := hide (show Blk w1 w.heap.size (cellsI (inoI [(a0 : Int), (a1 : Int), (a2 : Int), (a3 : Int), (a4 : Int), (a5 : Int), (a6 : Int), (a7 : Int), (a8 : Int)] s ds p q)) 83 ∧ Below w.heap.size w w1 from by rw [hw1]; exact ⟨Blk.new w _ _, (Below.refl _ _).alloc (Nat.le_refl _) _⟩)
  have hlt : w.heap.size < w1.heap.size := K0.out.1.lt
  have q0 : w1.cell? ⟨w.heap.size, 0, none⟩ = some (.int .i64 (a0 : Int)) := (K0.out.1.cell 0).trans rfl
  have hmk := make128
  have OWN := hide (World.ownsRow_made (base := w1.heap.size) (e := 5) (size := 1) w1 (Array.replicate 128 (.int .u8 0)) 128 (Nat.le_refl _) (by unfold maxLen; omega) (by simp))
  have HW := hide hw1
  clear hd hs hp hw1
  go_enter Tryz.func34, Tryz.ntmps34
  go_wp2
  rw [← HW.out]
  go_region_held (fun w' => w'.cell? ⟨w.heap.size, 0, none⟩ = some (.int .i64 (a0 : Int))) (go_keep) ((go_at_call 58; refine (lay8_eq (IntKind.u8.wrap (a0 : Int)) w1.heap.size w1.heap.size 0 128 a0 [] _ (wrap_u8 a0 h0) OWN.out.drew (by omega) (by omega) h0).mono ?_; rintro e w2 ⟨rfl, o2, g2⟩; have re := far_cells hlt g2))
  have L1 := hide (show Li w w2 w1.heap.size 1 (le 1 a0) (cellsI (inoI [(a0 : Int), (a1 : Int), (a2 : Int), (a3 : Int), (a4 : Int), (a5 : Int), (a6 : Int), (a7 : Int), (a8 : Int)] s ds p q)) 83 from ⟨own_mono (by simpa using o2) (Nat.le_of_lt hlt), ((g2.block _ (show w.heap.size < (w1.alloc _).heap.size by simp; omega) (by simp; omega)).trans (Below.heap_alloc w1 _ _ hlt)).trans K0.out.1, K0.out.2.trans (below_far g2 (Nat.le_of_lt hlt)), hlt⟩)
  clear o2 g2 re q0 hmk
  go_wp2_with fail
  refine (layZeros_any w1.heap.size w.heap.size 1 128 2 _ _ L1.out.own (by omega) (by omega) (by omega)).mono ?_
  rintro e w3 ⟨rfl, o3, g3⟩
  have L2 := hide (L1.out.step o3 g3)
  clear o3 g3 L1 
  have c1 := (L2.out.blk.cell 1).trans (show (cellsI (inoI [(a0 : Int), (a1 : Int), (a2 : Int), (a3 : Int), (a4 : Int), (a5 : Int), (a6 : Int), (a7 : Int), (a8 : Int)] s ds p q))[1]? = some (.int .i64 (a1 : Int)) from rfl)
  go_wp2_with (go_at_call 60; fail)
  refine (lay16_any w1.heap.size w.heap.size 2 128 a1 _ _ L2.out.own (by omega) (by omega) h1).mono ?_
  rintro e w4 ⟨rfl, o4, g4⟩
  have L3 := hide (L2.out.step o4 g4)
  clear o4 g4 L2 c1
  have c2 := (L3.out.blk.cell 2).trans (show (cellsI (inoI [(a0 : Int), (a1 : Int), (a2 : Int), (a3 : Int), (a4 : Int), (a5 : Int), (a6 : Int), (a7 : Int), (a8 : Int)] s ds p q))[2]? = some (.int .i64 (a2 : Int)) from rfl)
  go_wp2_with (go_at_call 60; fail)
  refine (lay16_any w1.heap.size w.heap.size 4 128 a2 _ _ L3.out.own (by omega) (by omega) h2).mono ?_
  rintro e w5 ⟨rfl, o5, g5⟩
  have L4 := hide (L3.out.step o5 g5)
  clear o5 g5 L3 c2
  have c3 := (L4.out.blk.cell 3).trans (show (cellsI (inoI [(a0 : Int), (a1 : Int), (a2 : Int), (a3 : Int), (a4 : Int), (a5 : Int), (a6 : Int), (a7 : Int), (a8 : Int)] s ds p q))[3]? = some (.int .i64 (a3 : Int)) from rfl)
  go_wp2_with (go_at_call 60; fail)
  refine (lay16_any w1.heap.size w.heap.size 6 128 a3 _ _ L4.out.own (by omega) (by omega) h3).mono ?_
  rintro e w6 ⟨rfl, o6, g6⟩
  have L5 := hide (L4.out.step o6 g6)
  clear o6 g6 L4 c3
  have c4 := (L5.out.blk.cell 4).trans (show (cellsI (inoI [(a0 : Int), (a1 : Int), (a2 : Int), (a3 : Int), (a4 : Int), (a5 : Int), (a6 : Int), (a7 : Int), (a8 : Int)] s ds p q))[4]? = some (.int .i64 (a4 : Int)) from rfl)
  go_wp2_with (go_at_call 60; fail)
  refine (lay16_any w1.heap.size w.heap.size 8 128 a4 _ _ L5.out.own (by omega) (by omega) h4).mono ?_
  rintro e w7 ⟨rfl, o7, g7⟩
  have L6 := hide (L5.out.step o7 g7)
  clear o7 g7 L5 c4
  go_wp2_with fail
  refine (layZeros_any w1.heap.size w.heap.size 10 128 12 _ _ L6.out.own (by omega) (by omega) (by omega)).mono ?_
  rintro e w8 ⟨rfl, o8, g8⟩
  have L7 := hide (L6.out.step o8 g8)
  clear o8 g8 L6 
  have c5 := (L7.out.blk.cell 5).trans (show (cellsI (inoI [(a0 : Int), (a1 : Int), (a2 : Int), (a3 : Int), (a4 : Int), (a5 : Int), (a6 : Int), (a7 : Int), (a8 : Int)] s ds p q))[5]? = some (.int .i64 (a5 : Int)) from rfl)
  go_wp2_with (go_at_call 61; fail)
  refine (lay32_any w1.heap.size w.heap.size 12 128 a5 _ _ L7.out.own (by omega) (by omega) h5).mono ?_
  rintro e w9 ⟨rfl, o9, g9⟩
  have L8 := hide (L7.out.step o9 g9)
  clear o9 g9 L7 c5
  have c6 := (L8.out.blk.cell 6).trans (show (cellsI (inoI [(a0 : Int), (a1 : Int), (a2 : Int), (a3 : Int), (a4 : Int), (a5 : Int), (a6 : Int), (a7 : Int), (a8 : Int)] s ds p q))[6]? = some (.int .i64 (a6 : Int)) from rfl)
  go_wp2_with (go_at_call 62; fail)
  refine (lay64_any w1.heap.size w.heap.size 16 128 a6 _ _ L8.out.own (by omega) (by omega) h6).mono ?_
  rintro e w10 ⟨rfl, o10, g10⟩
  have L9 := hide (L8.out.step o10 g10)
  clear o10 g10 L8 c6
  have c7 := (L9.out.blk.cell 7).trans (show (cellsI (inoI [(a0 : Int), (a1 : Int), (a2 : Int), (a3 : Int), (a4 : Int), (a5 : Int), (a6 : Int), (a7 : Int), (a8 : Int)] s ds p q))[7]? = some (.int .i64 (a7 : Int)) from rfl)
  go_wp2_with (go_at_call 62; fail)
  refine (lay64_any w1.heap.size w.heap.size 24 128 a7 _ _ L9.out.own (by omega) (by omega) h7).mono ?_
  rintro e w11 ⟨rfl, o11, g11⟩
  have L10 := hide (L9.out.step o11 g11)
  clear o11 g11 L9 c7
  have c8 := (L10.out.blk.cell 8).trans (show (cellsI (inoI [(a0 : Int), (a1 : Int), (a2 : Int), (a3 : Int), (a4 : Int), (a5 : Int), (a6 : Int), (a7 : Int), (a8 : Int)] s ds p q))[8]? = some (.int .i64 (a8 : Int)) from rfl)
  go_wp2_with (go_at_call 62; fail)
  refine (lay64_any w1.heap.size w.heap.size 32 128 a8 _ _ L10.out.own (by omega) (by omega) h8).mono ?_
  rintro e w12 ⟨rfl, o12, g12⟩
  have L11 := hide (L10.out.step o12 g12)
  clear o12 g12 L10 c8
  have HR := hide (ino_range (a0 : Int) (a1 : Int) (a2 : Int) (a3 : Int) (a4 : Int) (a5 : Int) (a6 : Int) (a7 : Int) (a8 : Int) s ds p q HD.out L11.out.blk)
  go_wp2_with (first | (refine wpList_load_mid rfl 81 _ rfl w.heap.size 9 rfl ((rootI s ds p q).map (Value.int .i64)) _ HR.out Tryz.underlying81 rfl (by rw [List.length_map, ← cellsI_size, HLen.out]; exact info15) ?_) | (go_at_call 63; fail))
  refine (layRoot_any w1.heap.size w.heap.size 40 128 _ s ds p q _ L11.out.own (by omega) (by omega) HD.out HSP.out.1 HSP.out.2).mono ?_
  rintro e w13 ⟨rfl, o13, g13⟩
  have L12 := hide (L11.out.step o13 g13)
  clear o13 g13 L11 HR
  go_wp2_with fail
  refine (layZeros_any w1.heap.size w.heap.size 104 128 128 _ _ L12.out.own (by omega) (by omega) (by omega)).mono ?_
  rintro e w14 ⟨rfl, o14, g14⟩
  have L13 := hide (L12.out.step o14 g14)
  clear o14 g14 L12 
  go_wp2
  go_ret
  exact ⟨_, rfl, L13.out.own, L13.out.old⟩
end Go.Proofs.YtnbfpmmpmblmmaaGreatDoor

namespace Go.Proofs.YtnbfpmmpmblmmaaGreatDoor.Crc

/-- One of the eight steps of a byte. -/
def stp (n : Nat) : Nat := if n % 2 = 1 then (n / 2) ^^^ 3988292384 else n / 2
def rep : Nat → Nat → Nat
  | 0, n => n
  | k + 1, n => rep k (stp n)

theorem stp_xor (a b : Nat) : stp (a ^^^ b) = stp a ^^^ stp b := by
  unfold stp
  have hm : (a ^^^ b) % 2 = (a + b) % 2 := by
    have h := Nat.xor_mod_two_eq_one (a := a) (b := b)
    omega
  rw [Nat.xor_div_two, hm]
  rcases Nat.mod_two_eq_zero_or_one a with ha | ha <;> rcases Nat.mod_two_eq_zero_or_one b with hb | hb
  · rw [if_neg (by omega), if_neg (by omega), if_neg (by omega)]
  · rw [if_pos (by omega), if_neg (by omega), if_pos (by omega), Nat.xor_assoc]
  · rw [if_pos (by omega), if_pos (by omega), if_neg (by omega), Nat.xor_assoc, Nat.xor_assoc, Nat.xor_comm (b / 2)]
  · rw [if_neg (by omega), if_pos (by omega), if_pos (by omega)]
    rw [Nat.xor_assoc, Nat.xor_comm (b / 2), ← Nat.xor_assoc 3988292384, Nat.xor_self, Nat.zero_xor]

theorem rep_xor : ∀ (k a b : Nat), rep k (a ^^^ b) = rep k a ^^^ rep k b
  | 0, _, _ => rfl
  | k + 1, a, b => by simp only [rep]; rw [stp_xor, rep_xor k]

theorem rep_shift : ∀ (k q : Nat), rep k (2 ^ k * q) = q
  | 0, q => by simp [rep]
  | k + 1, q => by
    have : stp (2 ^ (k + 1) * q) = 2 ^ k * q := by
      have e : 2 ^ (k + 1) * q = 2 * (2 ^ k * q) := by rw [Nat.pow_succ, Nat.mul_comm (2 ^ k) 2, Nat.mul_assoc]
      unfold stp
      rw [e, if_neg (by omega)]
      omega
    simp only [rep]
    rw [this, rep_shift k]

theorem split256 (x : Nat) : x = (2 ^ 8 * (x / 256)) ^^^ (x % 256) := by
  have h : (2 ^ 8 * (x / 256)) ^^^ (x % 256) = 2 ^ 8 * (x / 256) + x % 256 := by
    apply Nat.eq_of_testBit_eq
    intro i
    rw [Nat.testBit_xor, Nat.testBit_two_pow_mul_add _ (by omega), Nat.testBit_two_pow_mul]
    by_cases hi : i < 8
    · rw [if_pos hi]
      have : ¬ (8 ≤ i) := by omega
      simp [this]
    · rw [if_neg hi]
      have : (x % 256).testBit i = false := Nat.testBit_lt_two_pow (Nat.lt_of_lt_of_le (Nat.mod_lt _ (by decide)) (Nat.pow_le_pow_right (n := 2) (by decide) (by omega : 8 ≤ i)))
      rw [this]; simp; omega
  rw [h]; omega

theorem rep8_split (x : Nat) : rep 8 x = (x / 256) ^^^ rep 8 (x % 256) := by
  conv => lhs; rw [split256 x]
  rw [rep_xor, rep_shift]

theorem xor_div256 (r c : Nat) (hc : c < 256) : (r ^^^ c) / 256 = r / 256 := by
  have := Nat.xor_div_two_pow (a := r) (b := c) (n := 8)
  rw [show (2 : Nat) ^ 8 = 256 from rfl] at this
  rw [this, Nat.div_eq_of_lt hc, Nat.xor_zero]

/-- The table's way and the eight steps are one. -/
theorem byte_eq (r c : Nat) (hc : c < 256) : (r / 256) ^^^ rep 8 ((r ^^^ c) % 256) = rep 8 (r ^^^ c) := by
  rw [rep8_split (r ^^^ c), xor_div256 r c hc]

theorem stp_lt (n : Nat) (h : n < 4294967296) : stp n < 4294967296 := by
  unfold stp
  split
  · exact Nat.xor_lt_two_pow (n := 32) (by omega) (by decide)
  · omega
theorem rep_lt : ∀ (k n : Nat), n < 4294967296 → rep k n < 4294967296
  | 0, _, h => h
  | k + 1, n, h => rep_lt k _ (stp_lt n h)
theorem xor_lt (a b : Nat) (ha : a < 4294967296) (hb : b < 4294967296) : a ^^^ b < 4294967296 := Nat.xor_lt_two_pow (n := 32) ha hb

def crcStep (r : Nat) (c : Int) : Nat := rep 8 (r ^^^ c.toNat)
def crcFold (zs : List Int) : Nat := zs.foldl crcStep 4294967295
def crc (zs : List Int) : Nat := crcFold zs ^^^ 4294967295

theorem fold_snoc (zs : List Int) (z : Int) : crcFold (zs ++ [z]) = crcStep (crcFold zs) z := by simp [crcFold]
theorem fold_take (zs : List Int) (k : Nat) (h : k < zs.length) : crcFold (zs.take (k + 1)) = crcStep (crcFold (zs.take k)) (zs.getD k 0) := by
  rw [List.take_succ_eq_append_getElem h, fold_snoc]
  simp [List.getD, h]
end Go.Proofs.YtnbfpmmpmblmmaaGreatDoor.Crc
