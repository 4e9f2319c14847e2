/- The law on ParseLine, walked. -/
import Derived.Test.YtnljpaohkkdjjaaGreatDoorPmI
namespace Go.Proofs.YtnljpaohkkdjjaaGreatDoor
set_option linter.unusedVariables false
set_option linter.unusedSimpArgs false
open Go.RowKit

theorem sayF_small {f : UInt8} {x : List UInt8} {y : Int × List UInt8} (h : sayF f x = .ok y) : y.2.length ≤ x.length := by
  unfold sayF at h
  split at h
  · split at h
    · injection h with h; subst h; simp
    · cases h
  · split at h
    · split at h
      · injection h with h; subst h; simp
      · cases h
    · split at h
      · rename_i t ht
        injection h with h
        subst h
        exact textR_len ht
      · cases h
theorem sayAll_small {n : Nat} : ∀ (f : List UInt8) (xs : List (List UInt8)) (L : List (Int × List UInt8)), (∀ x ∈ xs, x.length ≤ n) → sayAll f xs = .ok L → ∀ y ∈ L, y.2.length ≤ n
  | [], _, L, _, h, y, hy => by simp [sayAll] at h; subst h; cases hy
  | _ :: _, [], L, _, h, y, hy => by simp [sayAll] at h; subst h; cases hy
  | f :: fs, x :: xs, L, hx, h, y, hy => by
    simp only [sayAll] at h
    cases hs : sayF f x with
    | error c => rw [hs] at h; simp at h
    | ok z =>
      rw [hs] at h
      cases hr : sayAll fs xs with
      | error c => rw [hr] at h; simp [Except.map] at h
      | ok M =>
        rw [hr] at h
        simp [Except.map] at h
        subst h
        rcases List.mem_cons.1 hy with rfl | hy
        · exact Nat.le_trans (sayF_small hs) (hx x (by simp))
        · exact sayAll_small fs xs M (fun q hq => hx q (by simp [hq])) hr y hy
theorem getD_small {n : Nat} {L : List (Int × List UInt8)} (h : ∀ y ∈ L, y.2.length ≤ n) (i : Nat) : (L.getD i (0, [])).2.length ≤ n := by
  by_cases hi : i < L.length
  · exact h _ (by simp [List.getD, hi])
  · simp [List.getD, List.getElem?_eq_none (Nat.le_of_not_lt hi)]
theorem fill_small {n : Nat} {L : List (Int × List UInt8)} (h : ∀ y ∈ L, y.2.length ≤ n) (j : Nat) : (fillBy j L).d.length ≤ n := by
  unfold fillBy
  simp only []
  split <;> first | exact getD_small h _ | exact Nat.zero_le _
theorem line_small (l : List UInt8) : (ansL (parseL l)).2.1.d.length ≤ l.length := by
  by_cases h : 2048 < l.length
  · rw [parse_large h]; exact Nat.zero_le _
  cases hw : wordsL l with
  | nil => rw [parse_none h hw]; exact Nat.zero_le _
  | cons x xs =>
    cases hc : cmdAt x with
    | none => rw [parse_word h hw hc]; exact Nat.zero_le _
    | some k =>
      by_cases hn : xs.length = (cmdF.getD k []).length
      · rw [parse_run h hw hc hn, run_fill k (cmd_lt hc) xs hn]
        cases hy : sayAll (cmdF.getD k []) xs with
        | error c => exact Nat.zero_le _
        | ok L => exact fill_small (sayAll_small _ xs L (str_len hw).1 hy) _
      · rw [parse_args h hw hc hn]; exact Nat.zero_le _
/-- What is answered of a line, in letters. -/
def IsLine (l : List UInt8) (K A B : Int) (p q : ByteArray) (zs : List Int) (code : Int) : Prop := K = ((ansL (parseL l)).1 : Int) ∧ A = (ansL (parseL l)).2.1.A ∧ B = (ansL (parseL l)).2.1.B ∧ p = mk (ansL (parseL l)).2.1.p ∧ q = mk (ansL (parseL l)).2.1.q ∧ zs = (ansL (parseL l)).2.1.d.map (fun c => (c.toNat : Int)) ∧ code = (ansL (parseL l)).2.2
theorem specPL_lit (s : ByteArray) (w : World) (hs : s.size ≤ 1048576) (K A B code : Int) (p q : ByteArray) (zs : List Int) (h : IsLine s.data.toList K A B p q zs code) :
    Calls Tryz.prog 4 #[.string s] w fun e w' => ∃ dv, e = .returned (.tuple #[.agg #[.int .i64 K, .int .i64 A, .int .i64 B, .int .i64 0, .int .i64 0, .string p, .string q, dv], .int .i64 code]) ∧ Rd .u8 w' dv zs ∧ Below w.heap.size w w' := by
  obtain ⟨rfl, rfl, rfl, rfl, rfl, rfl, rfl⟩ := h
  exact specPL_any s w hs
theorem implPL_lit (s : ByteArray) (w : World) (hs : s.size ≤ 1048576) (K A B code : Int) (p q : ByteArray) (zs : List Int) (h : IsLine s.data.toList K A B p q zs code) (hv : ErrV w) (hg : ErrT w) :
    Calls Tryz.prog 5 #[.string s] w fun e w' => ∃ dv, e = .returned (.tuple #[.agg #[.int .i64 K, .int .i64 A, .int .i64 B, .int .i64 0, .int .i64 0, .string p, .string q, dv], .int .i64 code]) ∧ w'.ownsRow w.heap.size 5 1 dv zs.length (zs.map (Value.int .u8)) ∧ Below w.heap.size w w' := by
  obtain ⟨rfl, rfl, rfl, rfl, rfl, rfl, rfl⟩ := h
  refine (implPL_any s w hs hv hg).mono ?_
  rintro e w' ⟨dv, rfl, ho, hb⟩
  rw [bytes_neS] at ho
  exact ⟨dv, rfl, by rw [List.length_map]; exact ho, hb⟩
set_option maxRecDepth 100000 in
set_option maxHeartbeats 4000000 in
theorem lawPL (s : ByteArray) (w : World) (hv : ErrV w) (hg : ErrT w) :
    Calls Tryz.prog 3 #[.string s] w fun x w' => x = .returned (.bool true) ∧ Below w.heap.size w w' := by
  by_cases hbig : 1048576 < s.size
  · have hb2 : (1048576 : Int) < (s.size : Int) := by omega
    go_enter Tryz.func3, Tryz.ntmps3
    go_wp2
    go_ret
    exact ⟨rfl, Below.refl _ _⟩
  have hb2 : ¬ (1048576 : Int) < (s.size : Int) := by omega
  have hs : s.size ≤ 1048576 := by omega
  have HV := hide hv
  have HG := hide hg
  obtain ⟨K, A, B, code, p, q, zs, hline⟩ : ∃ K A B code p q zs, IsLine s.data.toList K A B p q zs code := ⟨_, _, _, _, _, _, _, rfl, rfl, rfl, rfl, rfl, rfl, rfl⟩
  have HL := hide hline
  have hcc : (code != code) = false := by simp
  clear hv hg hbig hline
  go_enter Tryz.func3, Tryz.ntmps3
  go_wp2_with (go_at_call 4; fail)
  refine (specPL_lit s w hs K A B code p q zs HL.out).mono ?_
  rintro x w1 ⟨dv2, rfl, r1, b1⟩
  have hzm := r1.len
  obtain ⟨a2, c2, rfl⟩ : ∃ a c, dv2 = .slice a zs.length c := by obtain ⟨a, c, e, _⟩ := r1; exact ⟨a, c, e⟩
  obtain ⟨n, hn⟩ : ∃ n, n = zs.length := ⟨_, rfl⟩
  rw [← hn] at r1 hzm ⊢
  have HN := hide hn
  have hnb : n ≤ 140737488355328 := by rw [hn, HL.out.2.2.2.2.2.1, List.length_map]; have h1 := line_small s.data.toList; have h2 : s.data.toList.length = s.size := rfl; omega
  obtain ⟨W2, hW2⟩ : ∃ W2, W2 = w1.alloc (.cells #[.int .i64 K, .int .i64 A, .int .i64 B, .int .i64 0, .int .i64 0, .string p, .string q, .slice a2 n c2] 24) := ⟨_, rfl⟩
  have kS : Blk W2 w1.heap.size #[.int .i64 K, .int .i64 A, .int .i64 B, .int .i64 0, .int .i64 0, .string p, .string q, .slice a2 n c2] 24 := by rw [hW2]; exact Blk.new w1 _ _
  have b2 : Below w1.heap.size w1 W2 := by rw [hW2]; exact (Below.refl _ _).alloc (Nat.le_refl _) _
  have KS := hide kS
  have R2 := hide (r1.below b2)
  have B2 := hide (b1.trans (b2.mono b1.size))
  have HW2 := hide hW2
  clear hn hzm r1 b1 b2 kS hW2
  go_upto_region 4 with fail
  rw [← HW2.out]
  go_wp2_with (go_at_call 5; fail)
  refine (implPL_lit s W2 hs K A B code p q zs HL.out (HV.out.below B2.out) (HG.out.below B2.out)).mono ?_
  rintro x w3 ⟨dv5, rfl, o3, b3⟩
  rw [← HN.out] at o3
  obtain ⟨a5, c5, rfl⟩ := own_shapeT o3
  obtain ⟨W4, hW4⟩ : ∃ W4, W4 = w3.alloc (.cells #[.int .i64 K, .int .i64 A, .int .i64 B, .int .i64 0, .int .i64 0, .string p, .string q, .slice a5 n c5] 24) := ⟨_, rfl⟩
  have kJ : Blk W4 w3.heap.size #[.int .i64 K, .int .i64 A, .int .i64 B, .int .i64 0, .int .i64 0, .string p, .string q, .slice a5 n c5] 24 := by rw [hW4]; exact Blk.new w3 _ _
  have b4 : Below w3.heap.size w3 W4 := by rw [hW4]; exact (Below.refl _ _).alloc (Nat.le_refl _) _
  have KJ := hide kJ
  have F4 := hide (b3.trans (b4.mono b3.size))
  have O4 := hide (own_below o3 b4)
  have LG := hide (fun k hk => (o3.lt k hk).2)
  have HW4 := hide hW4
  clear o3 b3 b4 kJ hW4
  go_upto_region 5 with fail
  rw [← HW4.out]
  have KS4 := hide (KS.out.below F4.out KS.out.lt)
  go_wp2_with (first | (refine wpList_load_row rfl 24 _ rfl w3.heap.size rfl 24 #[.int .i64 K, .int .i64 A, .int .i64 B, .int .i64 0, .int .i64 0, .string p, .string q, .slice a5 n c5] (0, 0) _ KJ.out Tryz.underlying24 rfl infoO8 ?_) | (refine wpList_load_row rfl 24 _ rfl w1.heap.size rfl 24 #[.int .i64 K, .int .i64 A, .int .i64 B, .int .i64 0, .int .i64 0, .string p, .string q, .slice a2 n c2] (0, 0) _ KS4.out Tryz.underlying24 rfl infoO8 ?_) | (go_at_call 6; fail))
  refine (eqOp_same K A B 0 0 p q _ _ zs _ (Rd.own O4.out) (R2.out.below F4.out)).mono ?_
  rintro x w5 ⟨rfl, b5⟩
  have F5 := hide (F4.out.trans (b5.mono F4.out.size))
  have KJ5 := hide (KJ.out.below b5 KJ.out.lt)
  have O5 := hide (own_below O4.out b5)
  clear b5 F4 KJ O4 KS4
  go_wp2_with (first | (refine wpList_load_row rfl 24 _ rfl w3.heap.size rfl 24 #[.int .i64 K, .int .i64 A, .int .i64 B, .int .i64 0, .int .i64 0, .string p, .string q, .slice a5 n c5] (0, 0) _ KJ5.out Tryz.underlying24 rfl infoO8 ?_) | (go_at_call 7; fail))
  refine (markOp_any K A B 0 0 p q (.slice a5 n c5) W2.heap.size n 1 _ _ O5.out hnb (by omega)).mono ?_
  rintro e w6 ⟨he, o6, g6⟩
  obtain ⟨M, hM⟩ : ∃ M : Nat, M = 1 + n := ⟨_, rfl⟩
  rw [← hM] at he
  subst he
  have HM := hide hM
  have hMb : M ≤ 140737488355329 := by omega
  have F6 := hide (F5.out.grown g6 F5.out.size (fun r hr => (O5.out.lt r hr).1))
  have KJ6 := hide (show Blk w6 w3.heap.size #[.int .i64 K, .int .i64 A, .int .i64 B, .int .i64 0, .int .i64 0, .string p, .string q, .slice a5 n c5] 24 from (g6.block _ KJ5.out.lt (fun e => by have h1 := LG.out _ e.symm; omega)).trans KJ5.out)
  have O6 := hide o6
  clear o6 g6 KJ5 F5 O5 hM
  go_wp2_with (first | (refine wpList_load_row rfl 24 _ rfl w3.heap.size rfl 24 #[.int .i64 K, .int .i64 A, .int .i64 B, .int .i64 0, .int .i64 0, .string p, .string q, .slice a5 n c5] (0, 0) _ KJ6.out Tryz.underlying24 rfl infoO8 ?_) | (go_at_call 8; fail))
  refine (heldOp_any K A B 0 0 p q (.slice a5 n c5) n 1 _ (Rd.own O6.out) hnb (by omega)).mono ?_
  rintro e w7 ⟨he, b7⟩
  rw [← HM.out] at he
  subst he
  have F7 := hide (F6.out.trans (b7.mono F6.out.size))
  have KJ7 := hide (KJ6.out.below b7 KJ6.out.lt)
  have O7 := hide (own_below O6.out b7)
  have hk1 : decide ((M : Int) < 0) = false := by simp
  clear b7 F6 KJ6 O6
  go_wp2_with (go_at_call 5; fail)
  refine (implPL_lit s w7 hs K A B code p q zs HL.out (HV.out.below (B2.out.trans (F7.out.mono B2.out.size))) (HG.out.below (B2.out.trans (F7.out.mono B2.out.size)))).mono ?_
  rintro x w8 ⟨dv8, rfl, o8, b8⟩
  rw [← HN.out] at o8
  obtain ⟨a8, c8, rfl⟩ := own_shapeT o8
  obtain ⟨W9, hW9⟩ : ∃ W9, W9 = w8.alloc (.cells #[.int .i64 K, .int .i64 A, .int .i64 B, .int .i64 0, .int .i64 0, .string p, .string q, .slice a8 n c8] 24) := ⟨_, rfl⟩
  have kH : Blk W9 w8.heap.size #[.int .i64 K, .int .i64 A, .int .i64 B, .int .i64 0, .int .i64 0, .string p, .string q, .slice a8 n c8] 24 := by rw [hW9]; exact Blk.new w8 _ _
  have b9 : Below w8.heap.size w8 W9 := by rw [hW9]; exact (Below.refl _ _).alloc (Nat.le_refl _) _
  have b79 := b8.trans (b9.mono b8.size)
  have KH := hide kH
  have F9 := hide (F7.out.trans (b79.mono F7.out.size))
  have KJ9 := hide (KJ7.out.below b79 KJ7.out.lt)
  have O9 := hide (own_below O7.out b79)
  have H9 := hide (own_below o8 b9)
  have HW9 := hide hW9
  clear o8 b8 b9 b79 kH hW9 F7 KJ7 O7 hk1
  go_upto_region 16 with fail
  rw [← HW9.out]
  have KS9 := hide (KS.out.below F9.out KS.out.lt)
  go_wp2_with (first | (refine wpList_load_row rfl 24 _ rfl w8.heap.size rfl 24 #[.int .i64 K, .int .i64 A, .int .i64 B, .int .i64 0, .int .i64 0, .string p, .string q, .slice a8 n c8] (0, 0) _ KH.out Tryz.underlying24 rfl infoO8 ?_) | (refine wpList_load_row rfl 24 _ rfl w1.heap.size rfl 24 #[.int .i64 K, .int .i64 A, .int .i64 B, .int .i64 0, .int .i64 0, .string p, .string q, .slice a2 n c2] (0, 0) _ KS9.out Tryz.underlying24 rfl infoO8 ?_) | (go_at_call 6; fail))
  refine (eqOp_same K A B 0 0 p q _ _ zs _ (Rd.own H9.out) (R2.out.below F9.out)).mono ?_
  rintro x wA ⟨rfl, bA⟩
  have FA := hide (F9.out.trans (bA.mono F9.out.size))
  have KJA := hide (KJ9.out.below bA KJ9.out.lt)
  have OA := hide (own_below O9.out bA)
  clear bA F9 KJ9 O9 KS9 KH H9
  go_wp2_with (first | (refine wpList_load_row rfl 24 _ rfl w3.heap.size rfl 24 #[.int .i64 K, .int .i64 A, .int .i64 B, .int .i64 0, .int .i64 0, .string p, .string q, .slice a5 n c5] (0, 0) _ KJA.out Tryz.underlying24 rfl infoO8 ?_) | (go_at_call 8; fail))
  refine (heldOp_any K A B 0 0 p q (.slice a5 n c5) n 1 _ (Rd.own OA.out) hnb (by omega)).mono ?_
  rintro e wB ⟨he, bB⟩
  rw [← HM.out] at he
  subst he
  have hk1 : decide ((M : Int) < 0) = false := by simp
  have FB := hide (B2.out.trans ((FA.out.trans (bB.mono FA.out.size)).mono B2.out.size))
  clear bB
  go_wp2_with fail
  go_ret
  exact ⟨rfl, FB.out⟩
end Go.Proofs.YtnljpaohkkdjjaaGreatDoor
