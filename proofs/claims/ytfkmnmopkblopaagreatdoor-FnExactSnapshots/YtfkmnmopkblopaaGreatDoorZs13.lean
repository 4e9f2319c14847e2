/- The walks of the two sums: the model's by its table, the program's by eight steps a byte. A block with its sum: laySum of the program, l02Sealed of the model. -/
import Derived.Test.YtfkmnmopkblopaaGreatDoorRows
import Derived.Test.YtfkmnmopkblopaaGreatDoorZs01
import Derived.Test.YtfkmnmopkblopaaGreatDoorZs12
import Derived.WalkLawsBesides
namespace Go.Proofs.YtfkmnmopkblopaaGreatDoor
open Go.RowKit

theorem xor_half (y : Nat) (hy : y < 4294967296) : bits .xor .u32 ((y : Int) / 2) 3988292384 = ((y / 2 ^^^ 3988292384 : Nat) : Int) := by
  have h := u32_xor_nat (y / 2) 3988292384 (by omega) (by omega)
  simpa using h
theorem step_one (y k : Nat) (hk : k < 8) (h : ((y : Int) % 2 == 1) = true) : Crc.rep (8 - (k + 1)) (y / 2 ^^^ 3988292384) = Crc.rep (8 - k) y := by
  have e : 8 - k = (8 - (k + 1)) + 1 := by omega
  have hm : y % 2 = 1 := by simp at h; omega
  rw [e]
  show _ = Crc.rep (8 - (k + 1)) (Crc.stp y)
  rw [Crc.stp, if_pos hm]
theorem step_none (y k : Nat) (hk : k < 8) (h : ((y : Int) % 2 == 1) = false) : Crc.rep (8 - (k + 1)) (y / 2) = Crc.rep (8 - k) y := by
  have e : 8 - k = (8 - (k + 1)) + 1 := by omega
  have hm : ¬ y % 2 = 1 := by simp at h; omega
  rw [e]
  show _ = Crc.rep (8 - (k + 1)) (Crc.stp y)
  rw [Crc.stp, if_neg hm]
theorem half_lt (y : Nat) (hy : y < 4294967296) : y / 2 ^^^ 3988292384 < 4294967296 := Crc.xor_lt _ _ (by omega) (by omega)
theorem xor_all' (r : Nat) (hr : r < 4294967296) : bits .xor .u32 IntKind.u32.max (r : Int) = ((r ^^^ 4294967295 : Nat) : Int) := by
  have e : IntKind.u32.max = ((4294967295 : Nat) : Int) := by decide
  rw [e, u32_xor_nat 4294967295 r (by omega) hr, Nat.xor_comm]
theorem bits_low (y : Nat) (hy : y < 4294967296) : bits .and .u32 (y : Int) 1 = (y : Int) % 2 := by
  have h := u32_and_nat y 1 hy (by omega)
  rw [Nat.and_one_is_mod] at h
  simpa using h

set_option maxHeartbeats 400000 in
theorem table_any (x : Nat) (w : World) (hx : x < 4294967296) :
    Calls Tryz.prog 83 #[.int .u32 x] w fun e w' => e = .returned (.int .u32 (Crc.rep 8 x)) ∧ w' = w := by
  go_enter Tryz.func83, Tryz.ntmps83
  go_wp2
  go_loop [0, 3] (fun v i => ∃ k y : Nat, k ≤ 8 ∧ i = .int .i64 k ∧ v = .int .u32 y ∧ y < 4294967296 ∧ Crc.rep (8 - k) y = Crc.rep 8 x) (fun _ i => 8 - (intOf i).toNat)
  case atStart => exact ⟨0, x, by omega, rfl, rfl, hx, rfl⟩
  case round =>
    obtain ⟨k, y, hk, rfl, rfl, hy, he⟩ := hrel
    have HE : Hid (Crc.rep (8 - k) y = Crc.rep 8 x) := he
    clear he
    by_cases hlt : k < 8
    · have hx := xor_half y hy
      have hyl := half_lt y hy
      go_wp2
      · go_round
        case rel => exact ⟨k + 1, _, by omega, by go_num, rfl, hyl, by rw [step_one y k hlt ‹_›]; exact HE.out⟩
        case measure => simp [intOf]; omega
      · go_round
        case rel => exact ⟨k + 1, y / 2, by omega, by go_num, by go_num, by omega, by rw [step_none y k hlt ‹_›]; exact HE.out⟩
        case measure => simp [intOf]; omega
    · go_wp2
      go_ret
      have e : 8 - k = 0 := by omega
      have h := HE.out
      rw [e] at h
      exact ⟨ret_int (by rw [← h]; rfl), rfl⟩

set_option maxHeartbeats 400000 in
theorem implCrc_any (v : Value) (zs : List Int) (w : World) (h : Rd .u8 w v zs) (hz : ∀ z ∈ zs, 0 ≤ z ∧ z < 256) :
    Calls Tryz.prog 84 #[v] w fun e w' => e = .returned (.int .u32 (Crc.crc zs)) ∧ w' = w := by
  have hm := h.len
  unfold maxLen at hm
  rcases h.parts with ⟨a, cap, rfl, hlow⟩ | ⟨b, off, cap, rfl, hbw, hcell⟩
  all_goals
    clear h
    go_enter Tryz.func84, Tryz.ntmps84
    go_wp2
    go_loop [3, 9] (fun v i => ∃ k r : Nat, k ≤ zs.length ∧ i = .int .i64 k ∧ v = .int .u32 r ∧ r < 4294967296 ∧ r = Crc.crcFold (zs.take k)) (fun _ i => zs.length - (intOf i).toNat)
    case atStart => exact ⟨0, 4294967295, by omega, rfl, rfl, by omega, rfl⟩
    case round =>
      obtain ⟨k, r, hk, rfl, rfl, hr, he⟩ := hrel
      have HE : Hid (r = Crc.crcFold (zs.take k)) := he
      clear he
      by_cases hlt : k < zs.length
      · first
        | omega
        | (have c1 := hcell k hlt
           have HF : Hid (Crc.crcFold (zs.take (k + 1)) = Crc.rep 8 (r ^^^ (zs.getD k 0).toNat)) := by rw [Crc.fold_take zs k hlt, ← HE.out]; rfl
           have hz1 := hz (zs.getD k 0) (by simp [List.getD, hlt])
           clear hcell hz
           generalize zs.getD k 0 = z at c1 HF hz1
           obtain ⟨c, rfl⟩ := Int.eq_ofNat_of_zero_le hz1.1
           obtain ⟨_, hc2⟩ := hz1
           have hc : c < 256 := by omega
           clear hc2
           have hmod : (c : Int) % 4294967296 = c := by omega
           have hx := u32_xor_nat r c hr (by omega)
           have hy0 := Crc.xor_lt r c hr (by omega)
           rw [Int.toNat_natCast] at HF
           generalize r ^^^ c = x at hx hy0 HF
           go_wp2
           go_loop [3, 17] (fun v i => ∃ j y : Nat, j ≤ 8 ∧ i = .int .i64 j ∧ v = .int .u32 y ∧ y < 4294967296 ∧ Crc.rep (8 - j) y = Crc.rep 8 x) (fun _ i => 8 - (intOf i).toNat)
           case atStart => exact ⟨0, x, by omega, rfl, rfl, hy0, rfl⟩
           case round =>
             obtain ⟨j, y, hj, rfl, rfl, hy, he⟩ := hrel
             have HY : Hid (Crc.rep (8 - j) y = Crc.rep 8 x) := he
             clear he
             have hx2 := xor_half y hy
             have hl2 := bits_low y hy
             by_cases hjt : j < 8
             · have hyl := half_lt y hy
               go_wp2
               · go_round
                 case rel => exact ⟨j + 1, _, by omega, by go_num, rfl, hyl, by rw [step_one y j hjt ‹_›]; exact HY.out⟩
                 case measure => simp [intOf]; omega
               · go_round
                 case rel => exact ⟨j + 1, y / 2, by omega, by go_num, by go_num, by omega, by rw [step_none y j hjt ‹_›]; exact HY.out⟩
                 case measure => simp [intOf]; omega
             · have HQ : Hid (y = Crc.crcFold (zs.take (k + 1))) := by
                 have e : 8 - j = 0 := by omega
                 have h := HY.out
                 rw [e] at h
                 rw [HF.out, ← h]; rfl
               go_wp2
               go_round
               case rel => exact ⟨k + 1, y, by omega, by go_num, rfl, hy, HQ.out⟩
               case measure => simp [intOf]; omega)
      · have hx := xor_all' r hr
        go_wp2
        go_ret
        have e1 := HE.out
        rw [List.take_of_length_le (by omega)] at e1
        exact ⟨ret_int (by rw [Crc.crc, ← e1]), rfl⟩

set_option maxHeartbeats 400000 in
theorem specCrc_any (v : Value) (zs : List Int) (w : World) (h : Rd .u8 w v zs) (hz : ∀ z ∈ zs, 0 ≤ z ∧ z < 256) :
    Calls Tryz.prog 63 #[v] w fun e w' => e = .returned (.int .u32 (Crc.crc zs)) ∧ w' = w := by
  have hm := h.len
  unfold maxLen at hm
  rcases h.parts with ⟨a, cap, rfl, hlow⟩ | ⟨b, off, cap, rfl, hbw, hcell⟩
  all_goals
    clear h
    go_enter Tryz.func63, Tryz.ntmps63
    go_wp2
    go_loop [3, 8] (fun v i => ∃ k r : Nat, k ≤ zs.length ∧ i = .int .i64 k ∧ v = .int .u32 r ∧ r < 4294967296 ∧ r = Crc.crcFold (zs.take k)) (fun _ i => zs.length - (intOf i).toNat)
    case atStart => exact ⟨0, 4294967295, by omega, rfl, rfl, by omega, rfl⟩
    case round =>
      obtain ⟨k, r, hk, rfl, rfl, hr, he⟩ := hrel
      have HE : Hid (r = Crc.crcFold (zs.take k)) := he
      clear he
      by_cases hlt : k < zs.length
      · first
        | omega
        | (have c1 := hcell k hlt
           have HF : Hid (Crc.crcFold (zs.take (k + 1)) = Crc.rep 8 (r ^^^ (zs.getD k 0).toNat)) := by rw [Crc.fold_take zs k hlt, ← HE.out]; rfl
           have hz1 := hz (zs.getD k 0) (by simp [List.getD, hlt])
           clear hcell hz
           generalize zs.getD k 0 = z at c1 HF hz1
           obtain ⟨c, rfl⟩ := Int.eq_ofNat_of_zero_le hz1.1
           obtain ⟨_, hc2⟩ := hz1
           have hc : c < 256 := by omega
           clear hc2
           have hmod : (c : Int) % 4294967296 = c := by omega
           have hx := u32_xor_nat r c hr (by omega)
           have hy0 := Crc.xor_lt r c hr (by omega)
           rw [Int.toNat_natCast] at HF
           have HB := Crc.byte_eq r c hc
           have HG : Hid (Crc.crcFold (zs.take (k + 1)) = (r / 256) ^^^ Crc.rep 8 ((r ^^^ c) % 256)) := HF.out.trans HB.symm
           clear HF HB
           generalize r ^^^ c = x at hx hy0 HG
           have hc8 : ((x : Int) % 256) = ((x % 256 : Nat) : Int) := by omega
           have hrl := Crc.rep_lt 8 (x % 256) (by omega)
           generalize x % 256 = x8 at hc8 HG hrl
           have hq : bits .xor .u32 ((r : Int) / 256) ((Crc.rep 8 x8 : Nat) : Int) = ((r / 256 ^^^ Crc.rep 8 x8 : Nat) : Int) := by
             have h := u32_xor_nat (r / 256) (Crc.rep 8 x8) (by omega) hrl
             simpa using h
           have hql := Crc.xor_lt (r / 256) (Crc.rep 8 x8) (by omega) hrl
           go_wp2_with (go_at_call 83; refine (table_any x8 _ (by omega)).mono ?_; rintro e w' ⟨rfl, rfl⟩)
           go_round
           case rel => exact ⟨k + 1, _, by omega, by go_num, rfl, hql, HG.out.symm⟩
           case measure => simp [intOf]; omega)
      · have hx := u32_xor_nat r 4294967295 hr (by omega)
        go_wp2
        go_ret
        have e1 := HE.out
        rw [List.take_of_length_le (by omega)] at e1
        exact ⟨ret_int (by rw [Crc.crc, ← e1]; simpa using hx), rfl⟩
end Go.Proofs.YtfkmnmopkblopaaGreatDoor

namespace Go.Proofs.YtfkmnmopkblopaaGreatDoor
set_option linter.unusedVariables false
set_option linter.unusedSimpArgs false
open Go.RowKit

/-- Bytes filled up to where the sum stands; with the sum behind them. -/
def pad (zs : List Int) : List Int := zs ++ List.replicate (508 - zs.length) 0
def sealed (zs : List Int) : List Int := pad zs ++ le 4 (Crc.crc (pad zs))
theorem pad_len (zs : List Int) (h : zs.length ≤ 508) : (pad zs).length = 508 := by
  unfold pad
  rw [List.length_append, List.length_replicate]
  omega
theorem sealed_len (zs : List Int) (h : zs.length ≤ 508) : (sealed zs).length = 512 := by
  unfold sealed
  rw [List.length_append, pad_len zs h, le_len]
theorem pad_bd (zs : List Int) (h : ∀ z ∈ zs, 0 ≤ z ∧ z < 256) : ∀ z ∈ pad zs, 0 ≤ z ∧ z < 256 := by
  intro z hz
  unfold pad at hz
  rw [List.mem_append] at hz
  rcases hz with hz | hz
  · exact h z hz
  · rw [(List.mem_replicate.1 hz).2]; omega

theorem crc_lt (zs : List Int) (hz : ∀ z ∈ zs, 0 ≤ z ∧ z < 256) : Crc.crc zs < 4294967296 := Crc.xor_lt _ _ (Crc.fold_lt zs hz) (by omega)

set_option maxRecDepth 100000 in
set_option maxHeartbeats 1000000 in
theorem sealed_any (v : Value) (zs : List Int) (w : World) (h : Rd .u8 w v zs) (h0 : 0 < zs.length) (hk : zs.length ≤ 508) (hb : ∀ z ∈ zs, 0 ≤ z ∧ z < 256) :
    Calls Tryz.prog 42 #[v] w fun e w' => ∃ v', e = .returned v' ∧ w'.ownsRow w.heap.size 5 1 v' 512 ((sealed zs).map (Value.int .u8)) ∧ Below w.heap.size w w' := by
  obtain ⟨i0, hi, hz0, hz1', hz2⟩ := info_parts infoU8
  have H := hide h
  have HB := hide (pad_bd zs hb)
  have HS := hide (show sealed zs = pad zs ++ le 4 (Crc.crc (pad zs)) from rfl)
  have HP := hide (show pad zs = zs ++ List.replicate (508 - zs.length) 0 from rfl)
  have hc : Crc.crc (pad zs) < 4294967296 := crc_lt _ HB.out
  clear h hb
  go_enter Tryz.func42, Tryz.ntmps42
  go_wp2_with fail
  refine (fill_any v zs 508 _ H.out h0 hk (by omega)).mono ?_
  rintro e w1 ⟨v1, rfl, o1, b1⟩
  rw [← HP.out] at o1
  have O1 := hide (And.intro o1 b1)
  clear o1 b1
  go_wp2_with fail
  refine (specCrc_any _ (pad zs) _ (Rd.own O1.out.1) HB.out).mono ?_
  rintro e w2 ⟨rfl, rfl⟩
  go_wp2_with fail
  refine (put_pos (Crc.crc (pad zs)) 4 _ (by omega) (by omega) (by omega)).mono ?_
  rintro e w3 ⟨g3, cp3, rfl, o3, b3⟩
  have O3 := hide (And.intro (own_below O1.out.1 b3) (And.intro o3 (O1.out.2.trans (b3.mono O1.out.2.size))))
  have hs3 := O3.out.2.2.size
  clear o3 b3
  go_wp2_with (at_builtin; refine append_fresh _ rfl (.tmp 6) (.tmp 10) 22 rfl w.heap.size 5 i0 (.int .u8 0) 1 1 Tryz.underlying22 hi hz0 hz1' hz2 rfl (by decide) _ _ _ rfl O3.out.1 ⟨g3, 0, none⟩ 4 cp3 ((le 4 (Crc.crc (pad zs))).map (Value.int .u8)) rfl (by simp [le_len]) (O3.out.2.1.cells rfl) (ints_oneCell _ _) (by omega) (by unfold maxLen; omega) (by omega) (by omega) ?_; intro v4 w4 o4 g4 f4)
  have H4 := hide (show w4.ownsRow w.heap.size 5 1 v4 512 ((sealed zs).map (Value.int .u8)) ∧ Below w.heap.size w w4 from ⟨by rw [HS.out, List.map_append]; exact o4, O3.out.2.2.grown g4 (by omega) (fun r h => (O3.out.1.lt r h).1)⟩)
  clear o4 g4 f4
  go_wp2
  go_ret
  exact ⟨_, rfl, H4.out.1, H4.out.2⟩
end Go.Proofs.YtfkmnmopkblopaaGreatDoor
