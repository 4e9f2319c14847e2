/- The program's readEscape. -/
import Derived.Test.YtnljpaohkkdjjaaGreatDoorPlI
import Derived.Test.YtnljpaohkkdjjaaGreatDoorPlE
import Derived.Test.YtnljpaohkkdjjaaGreatDoorPlF
namespace Go.Proofs.YtnljpaohkkdjjaaGreatDoor
set_option linter.unusedVariables false
set_option linter.unusedSimpArgs false
open Go.RowKit

theorem hex_idx0 : ∀ n : Fin 256, Lib.indexByte ([48, 49, 50, 51, 52, 53, 54, 55, 56, 57, 97, 98, 99, 100, 101, 102] : List UInt8) (UInt8.ofNat n.val) = digI (n.val : Int) ∧ ([48, 49, 50, 51, 52, 53, 54, 55, 56, 57, 97, 98, 99, 100, 101, 102] : List UInt8).contains (UInt8.ofNat n.val) = decide (0 ≤ digI (n.val : Int)) := by decide +kernel
theorem hex_idx (c : UInt8) : Lib.indexByte ([48, 49, 50, 51, 52, 53, 54, 55, 56, 57, 97, 98, 99, 100, 101, 102] : List UInt8) c = digI (c.toNat : Int) ∧ ([48, 49, 50, 51, 52, 53, 54, 55, 56, 57, 97, 98, 99, 100, 101, 102] : List UInt8).contains c = decide (0 ≤ digI (c.toNat : Int)) := by
  have h := hex_idx0 ⟨c.toNat, UInt8.toNat_lt c⟩
  simpa using h
theorem hex_ascii : ∀ b ∈ ([48, 49, 50, 51, 52, 53, 54, 55, 56, 57, 97, 98, 99, 100, 101, 102] : List UInt8), b.toNat < 128 := by decide
theorem or16 (a b : Int) (ha : 0 ≤ a) (ha2 : a < 16) (hb : 0 ≤ b) (hb2 : b < 16) : bits .or .i64 (a * 16) b = 16 * a + b := by
  rw [Int.mul_comm a 16]
  show IntKind.i64.wrap ((BitVec.ofInt 64 (16 * a) ||| BitVec.ofInt 64 b).toNat : Int) = _
  have e1 : (BitVec.ofInt 64 (16 * a)).toNat = 2 ^ 4 * a.toNat := by simp [BitVec.toNat_ofInt]; omega
  have e2 : (BitVec.ofInt 64 b).toNat = b.toNat := by simp [BitVec.toNat_ofInt]; omega
  rw [BitVec.toNat_or, e1, e2, ← Nat.two_pow_add_eq_or_of_lt (by omega)]
  rw [i64_wrap _ (by omega) (by omega)]
  omega
/-- What two digits ahead of a text tell. -/
def escV (l : List UInt8) : Value := match l with
  | a :: b :: _ => if 0 ≤ digI a.toNat ∧ 0 ≤ digI b.toNat then .tuple #[.int .u8 ((escB a b).toNat : Int), .bool true] else .tuple #[.int .u8 0, .bool false]
  | _ => .tuple #[.int .u8 0, .bool false]
theorem two_of {l : List UInt8} (h : 2 ≤ l.length) : ∃ a b r, l = a :: b :: r := by
  match l, h with
  | a :: b :: r, _ => exact ⟨a, b, r, rfl⟩
theorem ext_two (s : ByteArray) (h : 2 ≤ s.size) : (s.extract 0 2).data.toList = s.data.toList.take 2 := by
  rw [ext_mk s 0 2 h, mk_toList]
  simp
set_option maxRecDepth 100000 in
set_option maxHeartbeats 2000000 in
theorem esc_any (s : ByteArray) (w : World) (hs : s.size ≤ 1048576) :
    Calls Tryz.prog 56 #[.string s] w fun e w' => e = .returned (escV s.data.toList) ∧ Below w.heap.size w w' := by
  have hll : s.data.toList.length = s.size := rfl
  by_cases h2 : s.size < 2
  · have HF := hide (show escV s.data.toList = .tuple #[.int .u8 0, .bool false] from by
      rw [← hll] at h2
      match s.data.toList, h2 with
      | [], _ => rfl
      | [a], _ => rfl
      | a :: b :: r, h => simp at h; omega)
    clear hll
    go_enter Tryz.func56, Tryz.ntmps56
    go_wp2
    go_ret2
    refine ⟨ret_val ?_, Below.refl _ _⟩
    rw [HF.out]
    rfl
  obtain ⟨a, b, r, hl⟩ := two_of (l := s.data.toList) (by rw [hll]; omega)
  have h20 : 0 < s.size := by omega
  have h21 : 1 < s.size := by omega
  have e0 := byte_at s 0 h20
  have e1 := byte_at s 1 h21
  rw [hl] at e0 e1
  have hs0 : s[0] = a := (Option.some.inj e0).symm
  have hs1 : s[1] = b := (Option.some.inj e1).symm
  have HV := hide (show escV s.data.toList = if 0 ≤ digI a.toNat ∧ 0 ≤ digI b.toNat then .tuple #[.int .u8 ((escB a b).toNat : Int), .bool true] else .tuple #[.int .u8 0, .bool false] from by rw [hl]; rfl)
  have HM := hide (show (s.extract 0 2).data.toList.all (([48, 49, 50, 51, 52, 53, 54, 55, 56, 57, 97, 98, 99, 100, 101, 102] : List UInt8).contains ·) = (decide (0 ≤ digI (a.toNat : Int)) && decide (0 ≤ digI (b.toNat : Int))) from by
    rw [ext_two s (by omega), hl]
    simp only [List.take_succ_cons, List.take_zero, List.all_cons, List.all_nil, Bool.and_true, (hex_idx a).2, (hex_idx b).2])
  have HC := hide (fun W => (show Calls Tryz.prog 52 #[.string (s.extract 0 2), .string (⟨#[48, 49, 50, 51, 52, 53, 54, 55, 56, 57, 97, 98, 99, 100, 101, 102]⟩ : ByteArray)] W fun e w' => e = .returned (.bool (decide (0 ≤ digI (a.toNat : Int)) && decide (0 ≤ digI (b.toNat : Int)))) ∧ Below W.heap.size W w' from by
    rw [← HM.out]
    exact made_any (s.extract 0 2) (⟨#[48, 49, 50, 51, 52, 53, 54, 55, 56, 57, 97, 98, 99, 100, 101, 102]⟩ : ByteArray) W (by rw [ByteArray.size_extract]; omega) (by decide) (fun j b hb => hex_ascii b (List.mem_of_getElem? hb))))
  have da := digI_bd (a.toNat : Int)
  have db := digI_bd (b.toNat : Int)
  have HIa := hide (hex_idx a)
  have HIb := hide (hex_idx b)
  have HEN := hide (fun h1 h2 => esc_num (a := a) (b := b) h1 h2)
  have hba : (a.toNat : Int) < 256 := by have := UInt8.toNat_lt a; omega
  have hbb : (b.toNat : Int) < 256 := by have := UInt8.toNat_lt b; omega
  clear hl e0 e1 hll HM
  by_cases hok : 0 ≤ digI (a.toNat : Int) ∧ 0 ≤ digI (b.toNat : Int)
  · have HB := hide (show (decide (0 ≤ digI (a.toNat : Int)) && decide (0 ≤ digI (b.toNat : Int))) = true from by rw [decide_eq_true hok.1, decide_eq_true hok.2]; rfl)
    rw [HB.out] at HC
    have HV2 := hide (show escV s.data.toList = .tuple #[.int .u8 (16 * digI (a.toNat : Int) + digI (b.toNat : Int)), .bool true] from by rw [HV.out, if_pos hok, HEN.out hok.1 hok.2])
    have HQa := hide (fun W => (show Calls Tryz.prog 64 #[.string (⟨#[48, 49, 50, 51, 52, 53, 54, 55, 56, 57, 97, 98, 99, 100, 101, 102]⟩ : ByteArray), .int .u8 (a.toNat : Int)] W fun e w' => e = .returned (.int .i64 (digI (a.toNat : Int))) ∧ w' = W from by
      have h := idxByte (⟨#[48, 49, 50, 51, 52, 53, 54, 55, 56, 57, 97, 98, 99, 100, 101, 102]⟩ : ByteArray) (a.toNat : Int) W
      rw [show Lib.indexByte (⟨#[48, 49, 50, 51, 52, 53, 54, 55, 56, 57, 97, 98, 99, 100, 101, 102]⟩ : ByteArray).data.toList ((a.toNat : Int)).toNat.toUInt8 = digI (a.toNat : Int) from by rw [← HIa.out.1]; congr 1; simp] at h
      exact h))
    have HQb := hide (fun W => (show Calls Tryz.prog 64 #[.string (⟨#[48, 49, 50, 51, 52, 53, 54, 55, 56, 57, 97, 98, 99, 100, 101, 102]⟩ : ByteArray), .int .u8 (b.toNat : Int)] W fun e w' => e = .returned (.int .i64 (digI (b.toNat : Int))) ∧ w' = W from by
      have h := idxByte (⟨#[48, 49, 50, 51, 52, 53, 54, 55, 56, 57, 97, 98, 99, 100, 101, 102]⟩ : ByteArray) (b.toNat : Int) W
      rw [show Lib.indexByte (⟨#[48, 49, 50, 51, 52, 53, 54, 55, 56, 57, 97, 98, 99, 100, 101, 102]⟩ : ByteArray).data.toList ((b.toNat : Int)).toNat.toUInt8 = digI (b.toNat : Int) from by rw [← HIb.out.1]; congr 1; simp] at h
      exact h))
    obtain ⟨ok1, ok2⟩ := hok
    have HO := hide (or16 (digI (a.toNat : Int)) (digI (b.toNat : Int)) ok1 (by omega) ok2 (by omega))
    have HU := hide (u8_wrap (16 * digI (a.toNat : Int) + digI (b.toNat : Int)) (by omega) (by omega))
    generalize digI (a.toNat : Int) = ga at HV2 HQa da ok1 HO HU HC HB
    generalize digI (b.toNat : Int) = gb at HV2 HQb db ok2 HO HU HC HB
    clear HV HEN HIa HIb HB
    go_enter Tryz.func56, Tryz.ntmps56
    go_wp2_with (go_at_call 52; refine (HC.out _).mono ?_; rintro e w1 ⟨rfl, b1⟩; have B1 := hide b1; clear b1)
    have H1X := hide (show ¬ (s.size : Int) ≤ 1 from by omega)
    refine wp_region_noPanic ?_
    refine wp_region_held_drew (S := fun _ => True) (by kernel_rfl) trivial (fun hH => ?_)
    refine wpAnyH_take (i := 0) (oi := _) (v := .string s) rfl (by kernel_rfl) (by kernel_rfl) (by kernel_rfl) (fun _ _ _ h => h) (Or.inl ⟨by rfl, fun w' hw' => by go_simp⟩) hH ?_
    try simp only [Act.put, List.getElem_toArray, List.getElem_cons_zero, List.getElem_cons_succ, List.setIfInBounds_toArray, List.set_cons_zero, List.set_cons_succ]
    refine wpAnyH_take (i := 1) (oi := _) (v := .int .u8 (a.toNat : Int)) rfl (by kernel_rfl) (by kernel_rfl) (by kernel_rfl) (fun _ _ _ h => h) (Or.inl ⟨by rfl, fun w' hw' => by go_simp⟩) hH ?_
    try simp only [Act.put, List.getElem_toArray, List.getElem_cons_zero, List.getElem_cons_succ, List.setIfInBounds_toArray, List.set_cons_zero, List.set_cons_succ]
    refine wpAnyH_take (i := 3) (oi := _) (v := .string s) rfl (by kernel_rfl) (by kernel_rfl) (by kernel_rfl) (fun _ _ _ h => h) (Or.inl ⟨by rfl, fun w' hw' => by go_simp⟩) hH ?_
    try simp only [Act.put, List.getElem_toArray, List.getElem_cons_zero, List.getElem_cons_succ, List.setIfInBounds_toArray, List.set_cons_zero, List.set_cons_succ]
    refine wpAnyH_take (i := 4) (oi := _) (v := .int .u8 (b.toNat : Int)) rfl (by kernel_rfl) (by kernel_rfl) (by kernel_rfl) (fun _ _ _ h => h) (Or.inl ⟨by rfl, fun w' hw' => by have hx := H1X.out; go_simp⟩) hH ?_
    try simp only [Act.put, List.getElem_toArray, List.getElem_cons_zero, List.getElem_cons_succ, List.setIfInBounds_toArray, List.set_cons_zero, List.set_cons_succ]
    refine wpAnyH_ready (rs := [2]) (by kernel_rfl) (by simp) ?_
    refine AllReadyH.cons (o := _) rfl (fun K hK => ?_) AllReadyH.nil
    go_simp
    refine (HQa.out _).mono ?_
    rintro e w9 ⟨rfl, e9⟩
    rw [e9]
    clear e9
    refine hK.out _ _ trivial (fun h2x => ?_)
    clear hK K hH
    try simp only [Act.put, List.getElem_toArray, List.getElem_cons_zero, List.getElem_cons_succ, List.setIfInBounds_toArray, List.set_cons_zero, List.set_cons_succ]
    refine wpAnyH_ready (rs := [5]) (by kernel_rfl) (by simp) ?_
    refine AllReadyH.cons (o := _) rfl (fun K hK => ?_) AllReadyH.nil
    go_simp
    refine (HQb.out _).mono ?_
    rintro e w9 ⟨rfl, e9⟩
    rw [e9]
    clear e9
    refine hK.out _ _ trivial (fun h3x => ?_)
    clear hK K h2x
    try simp only [Act.put, List.getElem_toArray, List.getElem_cons_zero, List.getElem_cons_succ, List.setIfInBounds_toArray, List.set_cons_zero, List.set_cons_succ]
    refine wpAnyH_take (i := 6) (oi := _) (v := .int .i64 ga) rfl (by kernel_rfl) (by kernel_rfl) (by kernel_rfl) (fun _ _ _ h => h) (Or.inl ⟨by rfl, fun w' hw' => by go_simp⟩) h3x ?_
    try simp only [Act.put, List.getElem_toArray, List.getElem_cons_zero, List.getElem_cons_succ, List.setIfInBounds_toArray, List.set_cons_zero, List.set_cons_succ]
    refine wpAnyH_take (i := 7) (oi := _) (v := .int .i64 gb) rfl (by kernel_rfl) (by kernel_rfl) (by kernel_rfl) (fun _ _ _ h => h) (Or.inl ⟨by rfl, fun w' hw' => by go_simp⟩) h3x ?_
    try simp only [Act.put, List.getElem_toArray, List.getElem_cons_zero, List.getElem_cons_succ, List.setIfInBounds_toArray, List.set_cons_zero, List.set_cons_succ]
    refine wpAnyH_done (by kernel_rfl) (NoPanic.normal ?_) _
    clear h3x
    have hor := HO.out
    have hu1 := HU.out.1
    have hu2 := HU.out.2
    go_wp2
    go_ret2
    refine ⟨ret_val ?_, B1.out.drew⟩
    rw [HV2.out]
    rfl
  · have HB := hide (show (decide (0 ≤ digI (a.toNat : Int)) && decide (0 ≤ digI (b.toNat : Int))) = false from by
      by_cases h : 0 ≤ digI (a.toNat : Int)
      · rw [decide_eq_false (fun h9 => hok ⟨h, h9⟩)]; simp
      · rw [decide_eq_false h]; rfl)
    rw [HB.out] at HC
    have HV2 := hide (show escV s.data.toList = .tuple #[.int .u8 0, .bool false] from by rw [HV.out, if_neg hok])
    clear HV hok HB HEN HIa HIb
    go_enter Tryz.func56, Tryz.ntmps56
    go_wp2_with (go_at_call 52; refine (HC.out _).mono ?_; rintro e w1 ⟨rfl, b1⟩; have B1 := hide b1; clear b1)
    go_ret2
    refine ⟨ret_val ?_, B1.out⟩
    rw [HV2.out]
    rfl
end Go.Proofs.YtnljpaohkkdjjaaGreatDoor
