/- EncodeWords, the model's and the program's: both give encW. -/
import Derived.Test.YtfpfhmnmcjnmaaaDoorPut
import Derived.Test.YtfpfhmnmcjnmaaaDoorCheck
import Derived.Test.YtfpfhmnmcjnmaaaDoorMarks
import Derived.Test.YtfpfhmnmcjnmaaaDoorInts

namespace Go.Proofs.YtfpfhmnmcjnmaaaDoor
open Go.RowKit

def okW (v : Int) : Bool := decide (0 ≤ v) && decide (v ≤ 4294967295)
def bytesW (ws : List Int) : List Int := ws.flatMap fun v => le 4 v.toNat
def goodW (ws : List Int) : Bool := decide (ws.length = 128) && ws.all okW
def encW (ws : List Int) : List Int := if goodW ws = true then bytesW ws else []
def codeW (ws : List Int) : Int := if goodW ws = true then 0 else 7

theorem bytesW_len (ws : List Int) : (bytesW ws).length = 4 * ws.length := by
  unfold bytesW
  induction ws with
  | nil => rfl
  | cons v ws ih => rw [List.flatMap_cons, List.length_append, ih, le_len, List.length_cons]; omega
theorem bytesW_take (ws : List Int) (k : Nat) (h : k < ws.length) : bytesW (ws.take (k + 1)) = bytesW (ws.take k) ++ le 4 (ws.getD k 0).toNat := by
  unfold bytesW
  rw [List.take_succ_eq_append_getElem h, List.flatMap_append]
  simp [List.getD, h]
theorem all_take (ws : List Int) (k : Nat) (h : k < ws.length) : (ws.take (k + 1)).all okW = ((ws.take k).all okW && okW (ws.getD k 0)) := by
  rw [List.take_succ_eq_append_getElem h, List.all_append]
  simp [List.getD, h]
theorem bad_of_get (ws : List Int) (k : Nat) (h : k < ws.length) (hb : okW (ws.getD k 0) = false) : goodW ws = false := by
  unfold goodW
  rw [Bool.and_eq_false_iff]
  right
  rw [List.all_eq_false]
  refine ⟨ws.getD k 0, ?_, by rw [hb]; simp⟩
  simp [List.getD, h]

set_option maxRecDepth 100000 in
set_option maxHeartbeats 400000 in
theorem specW_any (v : Value) (ws : List Int) (w : World) (h : Rd .i64 w v ws) :
    Calls Tryd.prog 12 #[v] w fun e w' => ∃ v', e = .returned (.tuple #[v', .int .i64 (codeW ws)]) ∧ w'.ownsRow w.heap.size 5 1 v' (encW ws).length ((encW ws).map (Value.int .u8)) ∧ Below w.heap.size w w' := by
  obtain ⟨i0, hi, hz0, hz1, hz2⟩ := info_parts infoU8
  have hm := h.len
  unfold maxLen at hm
  by_cases hlen : ws.length = 128
  · rcases h.parts with ⟨a, cap, rfl, hlow⟩ | ⟨b, off, cap, rfl, hbw, hcell⟩
    · omega
    · have h0 := own_empty w 5
      have hb0 : Below w.heap.size w (w.alloc (.cells #[] 5)) := (Below.refl _ _).alloc (Nat.le_refl _) _
      have HN : Hid (ws.length = 128) := hlen
      rw [hlen] at hcell ⊢
      clear h hlen hm
      go_enter Tryd.func12, Tryd.ntmps12
      go_wp2
      go_loopw [4, 13] (fun o i wr => ∃ k : Nat, k ≤ 128 ∧ i = .int .i64 k ∧ (ws.take k).all okW = true ∧ wr.ownsRow w.heap.size 5 1 o (4 * k) ((bytesW (ws.take k)).map (Value.int .u8)) ∧ Below w.heap.size w wr) (fun _ i _ => 128 - (intOf i).toNat)
      case atStart => exact ⟨0, by omega, rfl, rfl, by simpa [bytesW] using h0, hb0⟩
      case round =>
        clear h0 hb0
        obtain ⟨k, hk, rfl, hall, hown, hb⟩ := hrel
        have HA : Hid ((ws.take k).all okW = true) := hall
        clear hall
        have hsz := hb.size
        by_cases hlt : k < 128
        · have hkl : k < ws.length := by rw [HN.out]; exact hlt
          have c1 : wr.cell? ⟨b, off + k, none⟩ = some (.int .i64 (ws.getD k 0)) := (hb.cell (p := ⟨b, off + k, none⟩) hbw).trans (hcell k hlt)
          have HT : Hid (bytesW (ws.take (k + 1)) = bytesW (ws.take k) ++ le 4 (ws.getD k 0).toNat ∧ (ws.take (k + 1)).all okW = ((ws.take k).all okW && okW (ws.getD k 0)) ∧ (okW (ws.getD k 0) = false → goodW ws = false)) := ⟨bytesW_take ws k hkl, all_take ws k hkl, bad_of_get ws k hkl⟩
          clear hcell hkl
          generalize ws.getD k 0 = z at c1 HT
          by_cases hz : 0 ≤ z
          · by_cases hz2' : z ≤ 4294967295
            · obtain ⟨q, rfl⟩ := Int.eq_ofNat_of_zero_le hz
              rw [Int.toNat_natCast] at HT
              have HO := hide hown
              clear hown
              go_wp2_with fail
              refine (put_pos q 4 _ (by omega) (by omega) (by omega)).mono ?_
              rintro e wp ⟨gp, cp, rfl, op, bp⟩
              have hsp := bp.size
              have hop := own_below HO.out bp
              clear HO
              go_wp2_with (at_builtin; refine wpList_append_own _ rfl (.tmp 23) (.tmp 25) 23 rfl w.heap.size 5 i0 (.int .u8 0) 1 1 Tryd.underlying23 hi hz0 hz1 hz2 rfl (by decide) _ _ _ rfl hop ⟨gp, 0, none⟩ 4 cp ((le 4 q).map (Value.int .u8)) rfl (by simp [le_len]) (op.cells rfl) (ints_oneCell _ _) (by unfold maxLen; omega) (by omega) (by omega) ?_; intro v1 w1 hown1 hgr1 _)
              have HW := hide (show w1.ownsRow w.heap.size 5 1 v1 (4 * (k + 1)) ((bytesW (ws.take (k + 1))).map (Value.int .u8)) ∧ Below w.heap.size w w1 ∧ (ws.take (k + 1)).all okW = true from by
                refine ⟨?_, (hb.trans (bp.mono hsz)).grown hgr1 (by omega) (fun r h => (hop.lt r h).1), ?_⟩
                · rw [HT.out.1, List.map_append, show 4 * (k + 1) = 4 * k + 4 from by omega]; exact hown1
                · rw [HT.out.2.1, HA.out]; simp [okW]; omega)
              clear hown1 hgr1 hop op bp hb
              go_roundw
              case rel => exact ⟨k + 1, by omega, by go_num, HW.out.2.2, HW.out.1, HW.out.2.1⟩
              case measure => simp [intOf]; omega
            · have HG := hide (HT.out.2.2 (by simp [okW]; omega))
              go_wp2
              go_ret2
              exact ⟨_, by rw [codeW, HG.out]; rfl, by rw [encW, HG.out]; exact World.ownsRow_nil _ _ _ _, hb⟩
          · have HG := hide (HT.out.2.2 (by simp [okW]; omega))
            go_wp2
            go_ret2
            exact ⟨_, by rw [codeW, HG.out]; rfl, by rw [encW, HG.out]; exact World.ownsRow_nil _ _ _ _, hb⟩
        · have hk8 : k = 128 := by omega
          subst hk8
          have ht : ws.take 128 = ws := List.take_of_length_le (by rw [HN.out]; omega)
          rw [ht] at HA hown
          have HG := hide (show goodW ws = true from by unfold goodW; simp [HN.out, HA.out])
          have HO := hide hown
          clear hown
          go_wp2
          go_ret2
          refine ⟨_, by rw [codeW, HG.out]; rfl, ?_, hb⟩
          rw [encW, if_pos HG.out, bytesW_len, HN.out]
          exact HO.out
  · obtain ⟨a, cap, rfl, _, _⟩ := h
    have hq : ((ws.length : Int) == 128) = false := by simp; omega
    have HG : Hid (goodW ws = false) := by unfold Hid goodW; simp [hlen]
    clear hlen
    go_enter Tryd.func12, Tryd.ntmps12
    go_wp2
    go_ret2
    exact ⟨_, by rw [codeW, HG.out]; rfl, by rw [encW, HG.out]; exact World.ownsRow_nil _ _ _ _, Below.refl _ _⟩
end Go.Proofs.YtfpfhmnmcjnmaaaDoor
