/- A block with its sum: laySum of the program, l02Sealed of the model. -/
import Derived.Test.YtkbbnflblkkepaaGreatDoorZm24
import Derived.Test.YtkbbnflblkkepaaGreatDoorZm08
namespace Go.Proofs.YtkbbnflblkkepaaGreatDoor
set_option linter.unusedVariables false
set_option linter.unusedSimpArgs false
open Go.RowKit

/-- Bytes filled up to where the sum stands; with the sum behind them. -/
def pad (zs : List Int) : List Int := zs ++ List.replicate (508 - zs.length) 0
def sealed (zs : List Int) : List Int := pad zs ++ le 4 (Crc.crc (pad zs))
theorem pad_len (zs : List Int) (h : zs.length ≤ 508) : (pad zs).length = 508 := by
  unfold pad
  rw [List.length_append, List.length_replicate]
  omega
theorem sealed_len (zs : List Int) (h : zs.length ≤ 508) : (sealed zs).length = 512 := by
  unfold sealed
  rw [List.length_append, pad_len zs h, le_len]
theorem pad_bd (zs : List Int) (h : ∀ z ∈ zs, 0 ≤ z ∧ z < 256) : ∀ z ∈ pad zs, 0 ≤ z ∧ z < 256 := by
  intro z hz
  unfold pad at hz
  rw [List.mem_append] at hz
  rcases hz with hz | hz
  · exact h z hz
  · rw [(List.mem_replicate.1 hz).2]; omega

theorem crc_lt (zs : List Int) (hz : ∀ z ∈ zs, 0 ≤ z ∧ z < 256) : Crc.crc zs < 4294967296 := Crc.xor_lt _ _ (Crc.fold_lt zs hz) (by omega)

set_option maxRecDepth 100000 in
set_option maxHeartbeats 1000000 in
theorem sealed_any (v : Value) (zs : List Int) (w : World) (h : Rd .u8 w v zs) (h0 : 0 < zs.length) (hk : zs.length ≤ 508) (hb : ∀ z ∈ zs, 0 ≤ z ∧ z < 256) :
    Calls Tryz.prog 56 #[v] w fun e w' => ∃ v', e = .returned v' ∧ w'.ownsRow w.heap.size 5 1 v' 512 ((sealed zs).map (Value.int .u8)) ∧ Below w.heap.size w w' := by
  obtain ⟨i0, hi, hz0, hz1', hz2⟩ := info_parts infoU8
  have H := hide h
  have HB := hide (pad_bd zs hb)
  have HS := hide (show sealed zs = pad zs ++ le 4 (Crc.crc (pad zs)) from rfl)
  have HP := hide (show pad zs = zs ++ List.replicate (508 - zs.length) 0 from rfl)
  have hc : Crc.crc (pad zs) < 4294967296 := crc_lt _ HB.out
  clear h hb
  go_enter Tryz.func56, Tryz.ntmps56
  go_wp2_with fail
  refine (fill_any v zs 508 _ H.out h0 hk (by omega)).mono ?_
  rintro e w1 ⟨v1, rfl, o1, b1⟩
  rw [← HP.out] at o1
  have O1 := hide (And.intro o1 b1)
  clear o1 b1
  go_wp2_with fail
  refine (specCrc_any _ (pad zs) _ (Rd.own O1.out.1) HB.out).mono ?_
  rintro e w2 ⟨rfl, rfl⟩
  go_wp2_with fail
  refine (put_pos (Crc.crc (pad zs)) 4 _ (by omega) (by omega) (by omega)).mono ?_
  rintro e w3 ⟨g3, cp3, rfl, o3, b3⟩
  have O3 := hide (And.intro (own_below O1.out.1 b3) (And.intro o3 (O1.out.2.trans (b3.mono O1.out.2.size))))
  have hs3 := O3.out.2.2.size
  clear o3 b3
  go_wp2_with (at_builtin; refine append_fresh _ rfl (.tmp 6) (.tmp 10) 22 rfl w.heap.size 5 i0 (.int .u8 0) 1 1 Tryz.underlying22 hi hz0 hz1' hz2 rfl (by decide) _ _ _ rfl O3.out.1 ⟨g3, 0, none⟩ 4 cp3 ((le 4 (Crc.crc (pad zs))).map (Value.int .u8)) rfl (by simp [le_len]) (O3.out.2.1.cells rfl) (ints_oneCell _ _) (by omega) (by unfold maxLen; omega) (by omega) (by omega) ?_; intro v4 w4 o4 g4 f4)
  have H4 := hide (show w4.ownsRow w.heap.size 5 1 v4 512 ((sealed zs).map (Value.int .u8)) ∧ Below w.heap.size w w4 from ⟨by rw [HS.out, List.map_append]; exact o4, O3.out.2.2.grown g4 (by omega) (fun r h => (O3.out.1.lt r h).1)⟩)
  clear o4 g4 f4
  go_wp2
  go_ret
  exact ⟨_, rfl, H4.out.1, H4.out.2⟩
end Go.Proofs.YtkbbnflblkkepaaGreatDoor
