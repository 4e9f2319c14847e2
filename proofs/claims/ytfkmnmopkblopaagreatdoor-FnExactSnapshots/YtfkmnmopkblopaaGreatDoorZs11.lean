/- The model's EncodeRoot. EncodeWords of the program: it gives encW, in memory of its own. The program lays a root down: layRoot, EncodeRoot. The program's EncodeRoot: it gives encR, in memory of its own. -/
import Derived.Test.YtfkmnmopkblopaaGreatDoorZs08
import Derived.Test.YtfkmnmopkblopaaGreatDoorZs10
import Derived.Test.YtfkmnmopkblopaaGreatDoorZs09
import Derived.Test.YtfkmnmopkblopaaGreatDoorZs04
import Derived.Deep.RegionHeld
import Derived.Outline
namespace Go.Proofs.YtfkmnmopkblopaaGreatDoor
set_option linter.unusedVariables false
set_option linter.unusedSimpArgs false
open Go.RowKit

def bytesR (s : Int) (ds : List Int) (p q : Int) : List Int := le 8 s.toNat ++ bytesW (ds ++ [p, q])
def encR (s : Int) (ds : List Int) (p q : Int) : List Int := if rightR s ds p q = true then bytesR s ds p q else []
def codeR (s : Int) (ds : List Int) (p q : Int) : Int := if rightR s ds p q = true then 0 else 7
theorem bytesR_len (s : Int) (ds : List Int) (p q : Int) (hd : ds.length = 12) : (bytesR s ds p q).length = 64 := by
  unfold bytesR
  rw [List.length_append, le_len, bytesW_len]
  simp [hd]
theorem encR_len (s : Int) (ds : List Int) (p q : Int) (hd : ds.length = 12) : (encR s ds p q).length ≤ 64 := by
  unfold encR
  split
  · rw [bytesR_len s ds p q hd]; omega
  · simp
theorem right_bd {s : Int} {ds : List Int} {p q : Int} (hd : ds.length = 12) (h : rightR s ds p q = true) : (0 ≤ s ∧ s ≤ 262144) ∧ ∀ z ∈ ds ++ [p, q], 0 ≤ z ∧ z < 2048 := by
  unfold rightR at h
  rw [Bool.and_eq_true, Bool.and_eq_true] at h
  refine ⟨⟨by simpa using h.1.1, by simpa using h.1.2⟩, fun z hz => ?_⟩
  obtain ⟨i, hi, rfl⟩ := List.getElem_of_mem hz
  have h2 := h.2
  unfold allR at h2
  rw [List.all_eq_true] at h2
  have h3 := h2 i (by simp at hi ⊢; omega)
  unfold okAt at h3
  rw [Bool.and_eq_true] at h3
  have h4 := h3.1
  have e : (ds ++ [p, q]).getD i 0 = (ds ++ [p, q])[i] := by rw [List.getD, List.getElem?_eq_getElem hi, Option.getD_some]
  rw [e] at h4
  unfold ptrB at h4
  simp at h4
  omega

set_option maxRecDepth 100000 in
set_option maxHeartbeats 1000000 in
theorem rootBytes_any (s : Int) (ds : List Int) (p q : Int) (w : World) (hd : ds.length = 12) (hs : 0 ≤ s ∧ s ≤ 262144) (hp : ∀ z ∈ ds ++ [p, q], 0 ≤ z ∧ z < 2048) :
    Calls Tryz.prog 43 #[.agg (cellsI (rootI s ds p q))] w fun e w' => ∃ v', e = .returned v' ∧ w'.ownsRow w.heap.size 5 1 v' 64 ((bytesR s ds p q).map (Value.int .u8)) ∧ Below w.heap.size w w' := by
  obtain ⟨i0, hi, hz0, hz1', hz2⟩ := info_parts infoU8
  have HD := hide hd
  have HZ := hide (show (cellsI (rootI s ds p q)).size = 15 from by rw [cellsI_size]; exact rootI_len s ds p q HD.out)
  have HL := hide (show (ds ++ [p, q]).length = 14 from by simp [HD.out])
  obtain ⟨n, hn⟩ := Int.eq_ofNat_of_zero_le hs.1
  have hn2 : n ≤ 262144 := by omega
  have HN := hide hn
  have HP := hide hp
  have c0 : (w.alloc (.cells (cellsI (rootI s ds p q)) 34)).cell? ⟨w.heap.size, 0, none⟩ = some (.int .i64 (n : Int)) := by
    rw [(Blk.new w _ _).cell 0, ← hn]; rfl
  have hb0 : Below w.heap.size w (w.alloc (.cells (cellsI (rootI s ds p q)) 34)) := (Below.refl _ _).alloc (Nat.le_refl _) _
  clear hd hs hn hp
  go_enter Tryz.func43, Tryz.ntmps43
  go_wp2_with fail
  refine (put_pos n 8 _ (by omega) (by omega) (by omega)).mono ?_
  rintro e w1 ⟨g1, cp1, rfl, o1, b1⟩
  rw [World.size_alloc] at o1
  have hs1 : w.heap.size + 1 ≤ w1.heap.size := by have := b1.size; simpa using this
  have K1 := hide (And.intro o1 (And.intro (hb0.trans (b1.mono hb0.size)) ((Blk.new w (cellsI (rootI s ds p q)) 34).below b1 (by simp))))
  clear o1 b1 hb0 c0
  go_wp2_with (first | (refine wpList_load_row rfl 34 _ rfl w.heap.size rfl 34 (cellsI (rootI s ds p q)) (0, 0) _ K1.out.2.2 Tryz.underlying34 rfl (by rw [HZ.out]; exact info15) ?_) | (go_at_call 61; fail))
  refine (pointers_any s ds p q _ HD.out).mono ?_
  rintro e w2 ⟨v2, rfl, o2, b2⟩
  obtain ⟨bd, off, cap, rfl, hbw, _, _, hcell⟩ := (Rd.own o2).partsC (by rw [HL.out]; omega)
  rw [HL.out] at hcell ⊢
  have HB := hide (K1.out.2.1.trans (b2.mono K1.out.2.1.size))
  have hbd1 : w.heap.size + 1 ≤ bd := by have := (o2.lt bd rfl).1; omega
  have HO := hide (own_below K1.out.1 b2)
  have HG := hide (show ∀ r, (Value.slice (some ⟨g1, 0, none⟩) 8 cp1).ownBlock = some r → r ≠ bd from fun r hr => by have h1 := (K1.out.1.lt r hr).2; have h2 := (o2.lt bd rfl).1; omega)
  have HQ := hide (show bytesR s ds p q = le 8 n ++ bytesW (ds ++ [p, q]) from by unfold bytesR; rw [HN.out]; rfl)
  generalize ds ++ [p, q] = pts at hcell HP HL HQ
  clear o2 b2 K1
  go_wp2
  go_loopw [3, 12] (fun o i wr => ∃ k : Nat, k ≤ 14 ∧ i = .int .i64 k ∧ bd < wr.heap.size ∧ (∀ r, o.ownBlock = some r → r ≠ bd) ∧ (∀ j, j < 14 → wr.cell? ⟨bd, off + j, none⟩ = some (.int .i64 (pts.getD j 0))) ∧ wr.ownsRow (w.heap.size + 1) 5 1 o (8 + 4 * k) ((le 8 n ++ bytesW (pts.take k)).map (Value.int .u8)) ∧ Below w.heap.size w wr) (fun _ i _ => 14 - (intOf i).toNat)
  case atStart => exact ⟨0, by omega, rfl, hbw, HG.out, hcell, by simpa [bytesW] using HO.out, HB.out⟩
  case round =>
    clear hcell hbw HO HB HG
    obtain ⟨k, hk, rfl, hbw, hne, hcell, hown, hb⟩ := hrel
    have hsz := hb.size
    by_cases hlt : k < 14
    · have hkl : k < pts.length := by rw [HL.out]; exact hlt
      have c1 := hcell k hlt
      have hz1 := HP.out (pts.getD k 0) (by simp [List.getD, hkl])
      have HT := hide (bytesW_take pts k hkl)
      have HC := hide (And.intro hcell (And.intro hne (And.intro hown hb)))
      clear hcell hne hown hb hkl
      generalize pts.getD k 0 = z at c1 HT hz1
      obtain ⟨y, rfl⟩ := Int.eq_ofNat_of_zero_le hz1.1
      obtain ⟨_, hy2⟩ := hz1
      have hy : y < 2048 := by omega
      clear hy2
      rw [Int.toNat_natCast] at HT
      go_wp2_with fail
      refine (put_pos y 4 _ (by omega) (by omega) (by omega)).mono ?_
      rintro e w3 ⟨g3, cp3, rfl, o3, b3⟩
      have hs3 := b3.size
      have hop := own_below HC.out.2.2.1 b3
      clear c1
      go_wp2_with (at_builtin; refine append_fresh _ rfl (.tmp 16) (.tmp 18) 22 rfl (w.heap.size + 1) 5 i0 (.int .u8 0) 1 1 Tryz.underlying22 hi hz0 hz1' hz2 rfl (by decide) _ _ _ rfl hop ⟨g3, 0, none⟩ 4 cp3 ((le 4 y).map (Value.int .u8)) rfl (by simp [le_len]) (o3.cells rfl) (ints_oneCell _ _) (by omega) (by unfold maxLen; omega) (by omega) (by omega) ?_; intro v4 w4 o4 g4 f4)
      have HW := hide (show bd < w4.heap.size ∧ (∀ r, v4.ownBlock = some r → r ≠ bd) ∧ (∀ j, j < 14 → w4.cell? ⟨bd, off + j, none⟩ = some (.int .i64 (pts.getD j 0))) ∧ w4.ownsRow (w.heap.size + 1) 5 1 v4 (8 + 4 * (k + 1)) ((le 8 n ++ bytesW (pts.take (k + 1))).map (Value.int .u8)) ∧ Below w.heap.size w w4 from by
        have hs4 := g4.size
        refine ⟨by omega, ?_, ?_, ?_, ?_⟩
        · intro r hr
          rcases f4 r hr with h | h
          · exact HC.out.2.1 r h
          · omega
        · intro j hj
          have h3 := (b3.cell (p := ⟨bd, off + j, none⟩) hbw).trans (HC.out.1 j hj)
          exact g4.cell h3 (fun e => HC.out.2.1 bd e.symm rfl)
        · rw [HT.out, ← List.append_assoc, List.map_append, show 8 + 4 * (k + 1) = 8 + 4 * k + 4 from by omega]
          exact o4
        · exact (HC.out.2.2.2.trans (b3.mono hsz)).grown g4 (by omega) (fun r h => by have := (hop.lt r h).1; omega))
      clear o3 b3 hop o4 g4 f4
      go_roundw
      case rel => exact ⟨k + 1, by omega, by go_num, HW.out.1, HW.out.2.1, HW.out.2.2.1, HW.out.2.2.2.1, HW.out.2.2.2.2⟩
      case measure => simp [intOf]; omega
    · have e14 : k = 14 := by omega
      subst e14
      have HC := hide (And.intro hown hb)
      clear hcell hne hown hb
      go_wp2
      go_ret
      refine ⟨_, rfl, ?_, HC.out.2⟩
      have ho := HC.out.1
      rw [List.take_of_length_le (by rw [HL.out]; omega), ← HQ.out] at ho
      exact own_mono ho (by omega)

end Go.Proofs.YtfkmnmopkblopaaGreatDoor

namespace Go.Proofs.YtfkmnmopkblopaaGreatDoor
open Go.RowKit

/-- The bytes of whatever integers, each cut to its lowest 32 bits. -/
def bytesM (ws : List Int) : List Int := ws.flatMap fun v => le 4 (v % 4294967296).toNat
theorem bytesM_take (ws : List Int) (k : Nat) (h : k < ws.length) : bytesM (ws.take (k + 1)) = bytesM (ws.take k) ++ le 4 (ws.getD k 0 % 4294967296).toNat := by
  unfold bytesM
  rw [List.take_succ_eq_append_getElem h, List.flatMap_append]
  simp [List.getD, h]
theorem bytesM_eq (ws : List Int) (h : ws.all okW = true) : bytesM ws = bytesW ws := by
  unfold bytesM bytesW
  induction ws with
  | nil => rfl
  | cons v ws ih =>
    rw [List.all_cons, Bool.and_eq_true] at h
    rw [List.flatMap_cons, List.flatMap_cons, ih h.2]
    have := h.1
    simp only [okW, Bool.and_eq_true, decide_eq_true_eq] at this
    rw [Int.emod_eq_of_lt this.1 (by omega)]

end Go.Proofs.YtfkmnmopkblopaaGreatDoor

namespace Go.Proofs.YtfkmnmopkblopaaGreatDoor
set_option linter.unusedVariables false
set_option linter.unusedSimpArgs false
open Go.RowKit

theorem bytesW_append (xs ys : List Int) : bytesW (xs ++ ys) = bytesW xs ++ bytesW ys := by simp [bytesW]

end Go.Proofs.YtfkmnmopkblopaaGreatDoor

namespace Go.Proofs.YtfkmnmopkblopaaGreatDoor
set_option linter.unusedVariables false
set_option linter.unusedSimpArgs false
open Go.RowKit

theorem make64 (w : World) : (Instr.makeSlice 22 (.int .i64 0) (.int .i64 64)).run Tryz.prog w = .ok (.slice (some ⟨w.heap.size, 0, none⟩) 0 64) (w.alloc (.cells (Array.replicate 64 (.int .u8 0)) 5)) := by kernel_rfl

theorem list12 {ds : List Int} (h : ds.length = 12) : ∃ d0 d1 d2 d3 d4 d5 d6 d7 d8 d9 d10 d11, ds = [d0, d1, d2, d3, d4, d5, d6, d7, d8, d9, d10, d11] := by
  match ds, h with | [d0, d1, d2, d3, d4, d5, d6, d7, d8, d9, d10, d11], _ => exact ⟨d0, d1, d2, d3, d4, d5, d6, d7, d8, d9, d10, d11, rfl⟩
theorem far_cells {w1 w5 : World} {b : Nat} {o : Obj} (hb : b < w1.heap.size) (g5 : (w1.alloc o).drew.grownBy w5 (some w1.heap.size)) : ∀ j, w5.cell? ⟨b, j, none⟩ = w1.cell? ⟨b, j, none⟩ := fun j =>
  World.cell?_of_block (a := ⟨b, j, none⟩) ((g5.block b (show b < (w1.alloc o).heap.size by simp; omega) (by simp; omega)).trans (Below.heap_alloc w1 o b hb))
theorem below_far {w w1 w5 : World} {o : Obj} (g5 : (w1.alloc o).drew.grownBy w5 (some w1.heap.size)) (hs : w.heap.size ≤ w1.heap.size) : Below w.heap.size w1 w5 :=
  (((Below.refl w.heap.size w1).alloc hs o).drew).grown g5 (show w.heap.size ≤ (w1.alloc o).heap.size by simp; omega) (fun k h => by cases h; exact hs)

end Go.Proofs.YtfkmnmopkblopaaGreatDoor
