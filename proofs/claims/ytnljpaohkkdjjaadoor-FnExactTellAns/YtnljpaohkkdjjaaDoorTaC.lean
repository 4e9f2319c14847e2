/- The model's numbers with a mark between (l15Join); the program's tellNumbers and isToldPlainly. -/
import Derived.Test.YtnljpaohkkdjjaaDoorTaB
namespace Go.Proofs.YtnljpaohkkdjjaaDoor
set_option linter.unusedVariables false
set_option linter.unusedSimpArgs false
open Go.RowKit

theorem join_take {m : UInt8} {zs : List Int} {k : Nat} {z : Int} (h : zs[k]? = some z) (hk : 0 < k) : joinL m (zs.take (k + 1)) = joinL m (zs.take k) ++ m :: Lib.itoa z := by
  have hl : k < zs.length := by
    rcases Nat.lt_or_ge k zs.length with h1 | h1
    · exact h1
    · rw [List.getElem?_eq_none h1] at h; cases h
  rw [List.take_add_one, h]
  exact join_snoc m _ z (fun e => by
    have := congrArg List.length e
    rw [List.length_take] at this
    simp only [List.length_nil] at this
    omega)
theorem join_take0 {m : UInt8} {zs : List Int} {z : Int} (h : zs[0]? = some z) : joinL m (zs.take 1) = Lib.itoa z := by
  rw [List.take_add_one, h]
  rfl
theorem join_len {m : UInt8} : ∀ (zs : List Int) (a : List UInt8), (∀ z ∈ zs, -9223372036854775808 ≤ z ∧ z ≤ 9223372036854775807) → (zs.foldl (fun a y => a ++ m :: Lib.itoa y) a).length ≤ a.length + 22 * zs.length
  | [], a, _ => by simp
  | z :: zs, a, h => by
    have h1 := join_len (m := m) zs (a ++ m :: Lib.itoa z) (fun y hy => h y (List.mem_cons_of_mem _ hy))
    have h2 := h z (List.mem_cons_self ..)
    have h3 := Lib.itoa_length_le z h2.1 h2.2
    simp only [List.foldl_cons, List.length_cons, List.length_append] at h1 ⊢
    omega
theorem join_bound {m : UInt8} {zs : List Int} (h : ∀ z ∈ zs, -9223372036854775808 ≤ z ∧ z ≤ 9223372036854775807) : (joinL m zs).length ≤ 22 * zs.length := by
  cases zs with
  | nil => simp [joinL]
  | cons z zs =>
    have h1 := join_len (m := m) zs (Lib.itoa z) (fun y hy => h y (List.mem_cons_of_mem _ hy))
    have h2 := h z (List.mem_cons_self ..)
    have h3 := Lib.itoa_length_le z h2.1 h2.2
    simp only [joinL, List.length_cons]
    omega
theorem mem_takeT {zs : List Int} {k : Nat} {z : Int} (h : z ∈ zs.take k) : z ∈ zs := List.mem_of_mem_take h
set_option maxRecDepth 100000 in
set_option maxHeartbeats 2000000 in
theorem join_any (v : Value) (zs : List Int) (w : World) (h : Rd .i64 w v zs) (hl : zs.length ≤ 100) (hb : ∀ z ∈ zs, -9223372036854775808 ≤ z ∧ z ≤ 9223372036854775807) :
    Calls Tryd.prog 13 #[v] w fun e w' => e = .returned (.string (mk (joinL 58 zs))) ∧ Below w.heap.size w w' := by
  have HR := hide h
  have HZ := hide hb
  obtain ⟨va, vc, rfl⟩ : ∃ a cap, v = .slice a zs.length cap := by obtain ⟨a, cap, h1, _⟩ := h; exact ⟨a, cap, h1⟩
  clear h hb
  go_enter Tryd.func13, Tryd.ntmps13
  go_wp2
  go_loopw [3, 8] (fun t i wr => ∃ (k : Nat) (x : ByteArray), k ≤ zs.length ∧ i = .int .i64 (k : Int) ∧ t = .string x ∧ Hid (x = mk (joinL 58 (zs.take k)) ∧ Below w.heap.size w wr)) (fun _ i _ => zs.length - (intOf i).toNat)
  case atStart => exact ⟨0, ⟨#[]⟩, Nat.zero_le _, rfl, rfl, ⟨rfl, Below.refl _ _⟩⟩
  case round =>
    obtain ⟨k, x, hk, rfl, rfl, HX⟩ := hrel
    have hxs : x.size ≤ 2200 := by
      rw [HX.out.1, mk_size]
      have h1 := join_bound (m := 58) (zs := zs.take k) (fun z hz => HZ.out z (mem_takeT hz))
      have h2 : (zs.take k).length ≤ zs.length := List.length_take_le' _ _
      omega
    by_cases hlt : k < zs.length
    · obtain ⟨bz, oz, cz, ez, hb1, _, _, hcell⟩ := HR.out.partsC (by omega)
      injection ez with ez1 ez2 ez3
      subst ez1 ez3
      obtain ⟨z, hz⟩ : ∃ x, zs[k]? = some x := ⟨_, List.getElem?_eq_getElem hlt⟩
      have hc := hcell k hlt
      rw [show zs.getD k 0 = z from by rw [List.getD_eq_getElem?_getD, hz]; rfl] at hc
      have hcr : wr.cell? ⟨bz, oz + k, none⟩ = some (.int .i64 z) := (HX.out.2.cell (p := ⟨bz, oz + k, none⟩) hb1).trans hc
      have HB := hide (HZ.out z (List.mem_of_getElem? hz))
      have HT := hide hz
      have hil := Lib.itoa_length_le z HB.out.1 HB.out.2
      clear hcell hc ez2 hz
      have HM := hide (mk_size (Lib.itoa z))
      by_cases hk0 : 0 < k
      · have hcat : ¬ 9223372036854775807 < x.size + 1 := by omega
        go_wp2_with (go_at_call 11; refine (dec_any z _ HB.out.1 HB.out.2).mono ?_; rintro e w1 ⟨rfl, b1⟩; have hcat2 : ¬ 9223372036854775807 < x.size + 1 + (mk (Lib.itoa z)).size := (by have := HM.out; omega); have B1 := hide (HX.out.2.trans (b1.mono HX.out.2.size)); clear b1)
        go_roundw
        case rel =>
          refine ⟨k + 1, _, by omega, by go_num, rfl, ⟨?_, B1.out⟩⟩
          rw [HX.out.1, join_take HT.out hk0, show (⟨#[58]⟩ : ByteArray) = mk [58] from rfl, mk_cat, mk_cat]
          simp
        case measure => simp [intOf]; omega
      · obtain rfl : k = 0 := by omega
        rw [Nat.add_zero] at hcr
        go_wp2_with (go_at_call 11; refine (dec_any z _ HB.out.1 HB.out.2).mono ?_; rintro e w1 ⟨rfl, b1⟩; have hcat2 : ¬ 9223372036854775807 < x.size + (mk (Lib.itoa z)).size := (by have := HM.out; omega); have B1 := hide (HX.out.2.trans (b1.mono HX.out.2.size)); clear b1)
        go_roundw
        case rel =>
          refine ⟨1, _, by omega, by go_num, rfl, ⟨?_, B1.out⟩⟩
          rw [HX.out.1, join_take0 HT.out, mk_cat]
          rfl
        case measure => simp [intOf]; omega
    · obtain rfl : k = zs.length := by omega
      have HE := hide (show x = mk (joinL 58 zs) from by rw [HX.out.1, List.take_of_length_le (Nat.le_refl _)])
      go_wp2
      go_ret
      refine ⟨ret_val ?_, HX.out.2⟩
      rw [← HE.out]
      rfl
end Go.Proofs.YtnljpaohkkdjjaaDoor
