/- A number read at its width: number at its four widths. The model's number of at most eight bytes: l02Get. -/
import Derived.Test.YthkoflpcinbgeaaZq17
import Derived.Test.YthkoflpcinbgeaaZq02
namespace Go.Proofs.Ythkoflpcinbgeaa
open Go.RowKit

/-- The number that bytes are, the lowest first. -/
def unle : List Int → Nat
  | [] => 0
  | z :: zs => z.toNat + 256 * unle zs
theorem unle_snoc (zs : List Int) (z : Int) : unle (zs ++ [z]) = unle zs + z.toNat * 256 ^ zs.length := by
  induction zs with
  | nil => simp [unle]
  | cons y ys ih =>
    rw [List.cons_append, unle, ih, unle, List.length_cons, Nat.pow_succ]
    have : z.toNat * (256 ^ ys.length * 256) = 256 * (z.toNat * 256 ^ ys.length) := by rw [← Nat.mul_assoc, Nat.mul_comm]
    omega
theorem unle_lt (zs : List Int) (h : ∀ z ∈ zs, 0 ≤ z ∧ z < 256) : unle zs < 256 ^ zs.length := by
  induction zs with
  | nil => simp [unle]
  | cons y ys ih =>
    have h1 := h y (by simp)
    have h2 := ih (fun z hz => h z (by simp [hz]))
    rw [unle, List.length_cons, Nat.pow_succ]
    have : y.toNat < 256 := by omega
    have h3 : unle ys + 1 ≤ 256 ^ ys.length := h2
    have := Nat.mul_le_mul_left 256 h3
    omega
theorem unle_take (zs : List Int) (k : Nat) (h : k < zs.length) : unle (zs.take (k + 1)) = unle (zs.take k) + (zs.getD k 0).toNat * 256 ^ k := by
  rw [List.take_succ_eq_append_getElem h, unle_snoc, List.length_take, Nat.min_eq_left (by omega)]
  simp [List.getD, h]

theorem or_step (q c k : Nat) (hq : q < 256 ^ k) (hc : c < 256) (hk : k < 8) : bits .or .u64 (q : Int) (IntKind.u64.wrap (IntKind.u64.wrap (c : Int) * 2 ^ (8 * k))) = ((q + c * 256 ^ k : Nat) : Int) := by
  have hp : (256 : Nat) ^ k = 2 ^ (8 * k) := by rw [Nat.pow_mul]
  have hle : (256 : Nat) ^ (k + 1) ≤ 256 ^ 8 := Nat.pow_le_pow_right (by decide) (by omega)
  have hmul : c * 256 ^ k + 256 ^ k ≤ 256 ^ (k + 1) := by
    rw [Nat.pow_succ, Nat.mul_comm (256 ^ k)]
    have := Nat.mul_le_mul_right (256 ^ k) (show c + 1 ≤ 256 by omega)
    rw [Nat.add_mul, Nat.one_mul] at this
    exact this
  have h64 : (256 : Nat) ^ 8 = 18446744073709551616 := by decide
  have w1 : ∀ n : Nat, n < 18446744073709551616 → IntKind.u64.wrap (n : Int) = n := by
    intro n hn
    simp only [IntKind.wrap, IntKind.bits, IntKind.signed]
    simp
    omega
  rw [w1 c (by omega)]
  have e : (c : Int) * 2 ^ (8 * k) = ((c * 256 ^ k : Nat) : Int) := by rw [hp]; simp
  rw [e, w1 _ (by omega), u64_or_nat q (c * 256 ^ k) (by omega) (by omega), Nat.or_comm]
  rw [nat_join (8 * k) (c * 256 ^ k) q (by rw [hp, Nat.mul_mod_left]) (by rw [← hp]; exact hq), Nat.add_comm]
theorem or_step' (q c k : Nat) (hq : q < 256 ^ k) (hc : c < 256) (hk : k < 8) : bits .or .u64 (q : Int) (IntKind.u64.wrap ((c : Int) * 2 ^ (8 * k))) = ((q + c * 256 ^ k : Nat) : Int) := by
  have h := or_step q c k hq hc hk
  have w1 : IntKind.u64.wrap (c : Int) = c := by
    simp only [IntKind.wrap, IntKind.bits, IntKind.signed]
    simp
    omega
  rw [w1] at h
  exact h
/-- What number leaves, of m bytes: their number and a reader that much further; or 0 and a fault. -/
def Numd (w0 w w' : World) (b lo : Nat) (ok : Bool) (dv : Value) (zs : List Int) (pos m x : Nat) : Prop :=
  w.grownBy w' (some b) ∧ ((ok = true ∧ pos + m ≤ zs.length ∧ x = unle ((zs.drop pos).take m) ∧ Rdr w0 w' b lo true dv zs (pos + m)) ∨ (¬ (ok = true ∧ pos + m ≤ zs.length) ∧ x = 0 ∧ Rdr w0 w' b lo false dv zs pos))

set_option maxRecDepth 100000 in
set_option maxHeartbeats 1000000 in
theorem number32_any (w0 w : World) (b lo : Nat) (ok : Bool) (dv : Value) (zs : List Int) (pos : Nat) (h : Rdr w0 w b lo ok dv zs pos) (hz : zs.length ≤ 140737488355328) (hbd : ∀ z ∈ zs, 0 ≤ z ∧ z < 256) :
    Calls Try.prog 36 #[.pointer (some ⟨b, 0, none⟩)] w fun e w' => ∃ x : Nat, e = .returned (.int .i64 x) ∧ Numd w0 w w' b lo ok dv zs pos 4 x := by
  have H := hide h
  clear h
  go_enter Try.func36, Try.ntmps36
  go_wp2_with fail
  refine (width32 _).mono ?_
  rintro e w1 ⟨rfl, rfl⟩
  go_wp2_with fail
  refine (take_any w0 _ b lo ok dv zs pos 4 H.out (by omega) (by omega) hz).mono ?_
  rintro e w1 ⟨sv, rfl, hg, ht⟩
  rcases ht with ⟨hok, _, hle, hrd, hr⟩ | ⟨hno, rfl, hr⟩
  · have hlen : ((zs.drop pos).take ((4 : Nat) : Int).toNat).length = 4 := by simp; omega
    obtain ⟨bd, off, cap, rfl, hbw, _, _, hcell⟩ := (hr.lift hrd).partsC (by omega)
    have HB := hide (show ∀ z ∈ (zs.drop pos).take 4, 0 ≤ z ∧ z < 256 from fun z hz => hbd z (List.mem_of_mem_drop (List.mem_of_mem_take hz)))
    have HE := hide (show ∀ x, x = unle ((zs.drop pos).take 4) → Numd w0 w w1 b lo ok dv zs pos 4 x from
      fun x hx => ⟨hg, .inl ⟨hok, by omega, hx, hr⟩⟩)
    rw [hlen] at hcell ⊢
    rw [Int.toNat_natCast] at hcell hlen
    generalize (zs.drop pos).take 4 = ts at hcell HB hlen HE
    have HL := hide hlen
    clear hrd hr hg hok hlen
    go_wp2
    go_loop [3, 10] (fun v i => ∃ k q : Nat, k ≤ 4 ∧ i = .int .i64 k ∧ v = .int .u64 q ∧ q = unle (ts.take k)) (fun _ i => 4 - (intOf i).toNat)
    case atStart => exact ⟨0, 0, by omega, rfl, rfl, rfl⟩
    case round =>
      obtain ⟨k, q, hk, rfl, rfl, hq⟩ := hrel
      have HQ := hide hq
      clear hq
      by_cases hlt : k < 4
      · have c1 := hcell k hlt
        have hkl : k < ts.length := by rw [HL.out]; exact hlt
        have hz1 := HB.out (ts.getD k 0) (by simp [List.getD, hkl])
        have HT := hide (unle_take ts k hkl)
        have HQ2 := hide (show q < 256 ^ k from by
          have := unle_lt (ts.take k) (fun z hz => HB.out z (List.mem_of_mem_take hz))
          rw [← HQ.out, List.length_take, Nat.min_eq_left (by omega)] at this
          exact this)
        clear hcell hkl
        generalize ts.getD k 0 = z at c1 HT hz1
        obtain ⟨c, rfl⟩ := Int.eq_ofNat_of_zero_le hz1.1
        obtain ⟨_, hc2⟩ := hz1
        have hc : c < 256 := by omega
        clear hc2
        rw [Int.toNat_natCast] at HT
        have hor := or_step' q c k HQ2.out hc (by omega)
        generalize c * 256 ^ k = cc at hor HT
        go_wp2
        go_round
        case rel => exact ⟨k + 1, _, by omega, by go_num, rfl, by rw [HT.out, ← HQ.out]⟩
        case measure => simp [intOf]; omega
      · have hk4 : k = 4 := by omega
        subst hk4
        have HQ3 := hide (show q = unle ts ∧ q < 4294967296 from by
          have h1 := HQ.out
          rw [List.take_of_length_le (by rw [HL.out]; omega)] at h1
          refine ⟨h1, ?_⟩
          have h2 := unle_lt ts HB.out
          rw [HL.out, ← h1] at h2
          exact h2)
        have hql : q < 4294967296 := HQ3.out.2
        go_wp2
        go_ret
        exact ⟨q, rfl, HE.out q HQ3.out.1⟩
  · have HE := hide (show Numd w0 w w1 b lo ok dv zs pos 4 0 from
      ⟨hg, .inr ⟨fun h => hno ⟨h.1, by omega, by omega⟩, rfl, hr⟩⟩)
    clear hr hg hno
    go_wp2
    refine wp_loop_rounds 1 ?_
    rw [rounds_succ]
    go_wp2
    go_ret
    exact ⟨0, rfl, HE.out⟩

set_option maxRecDepth 100000 in
set_option maxHeartbeats 1000000 in
theorem number8_any (w0 w : World) (b lo : Nat) (ok : Bool) (dv : Value) (zs : List Int) (pos : Nat) (h : Rdr w0 w b lo ok dv zs pos) (hz : zs.length ≤ 140737488355328) (hbd : ∀ z ∈ zs, 0 ≤ z ∧ z < 256) :
    Calls Try.prog 48 #[.pointer (some ⟨b, 0, none⟩)] w fun e w' => ∃ x : Nat, e = .returned (.int .i64 x) ∧ Numd w0 w w' b lo ok dv zs pos 1 x := by
  have H := hide h
  clear h
  go_enter Try.func48, Try.ntmps48
  go_wp2_with fail
  refine (width8 _).mono ?_
  rintro e w1 ⟨rfl, rfl⟩
  go_wp2_with fail
  refine (take_any w0 _ b lo ok dv zs pos 1 H.out (by omega) (by omega) hz).mono ?_
  rintro e w1 ⟨sv, rfl, hg, ht⟩
  rcases ht with ⟨hok, _, hle, hrd, hr⟩ | ⟨hno, rfl, hr⟩
  · have hlen : ((zs.drop pos).take ((1 : Nat) : Int).toNat).length = 1 := by simp; omega
    obtain ⟨bd, off, cap, rfl, hbw, _, _, hcell⟩ := (hr.lift hrd).partsC (by omega)
    have HB := hide (show ∀ z ∈ (zs.drop pos).take 1, 0 ≤ z ∧ z < 256 from fun z hz => hbd z (List.mem_of_mem_drop (List.mem_of_mem_take hz)))
    have HE := hide (show ∀ x, x = unle ((zs.drop pos).take 1) → Numd w0 w w1 b lo ok dv zs pos 1 x from
      fun x hx => ⟨hg, .inl ⟨hok, by omega, hx, hr⟩⟩)
    rw [hlen] at hcell ⊢
    rw [Int.toNat_natCast] at hcell hlen
    generalize (zs.drop pos).take 1 = ts at hcell HB hlen HE
    have HL := hide hlen
    clear hrd hr hg hok hlen
    go_wp2
    go_loop [3, 10] (fun v i => ∃ k q : Nat, k ≤ 1 ∧ i = .int .i64 k ∧ v = .int .u64 q ∧ q = unle (ts.take k)) (fun _ i => 1 - (intOf i).toNat)
    case atStart => exact ⟨0, 0, by omega, rfl, rfl, rfl⟩
    case round =>
      obtain ⟨k, q, hk, rfl, rfl, hq⟩ := hrel
      have HQ := hide hq
      clear hq
      by_cases hlt : k < 1
      · have c1 := hcell k hlt
        have hkl : k < ts.length := by rw [HL.out]; exact hlt
        have hz1 := HB.out (ts.getD k 0) (by simp [List.getD, hkl])
        have HT := hide (unle_take ts k hkl)
        have HQ2 := hide (show q < 256 ^ k from by
          have := unle_lt (ts.take k) (fun z hz => HB.out z (List.mem_of_mem_take hz))
          rw [← HQ.out, List.length_take, Nat.min_eq_left (by omega)] at this
          exact this)
        clear hcell hkl
        generalize ts.getD k 0 = z at c1 HT hz1
        obtain ⟨c, rfl⟩ := Int.eq_ofNat_of_zero_le hz1.1
        obtain ⟨_, hc2⟩ := hz1
        have hc : c < 256 := by omega
        clear hc2
        rw [Int.toNat_natCast] at HT
        have hor := or_step' q c k HQ2.out hc (by omega)
        generalize c * 256 ^ k = cc at hor HT
        go_wp2
        go_round
        case rel => exact ⟨k + 1, _, by omega, by go_num, rfl, by rw [HT.out, ← HQ.out]⟩
        case measure => simp [intOf]; omega
      · have hk4 : k = 1 := by omega
        subst hk4
        have HQ3 := hide (show q = unle ts ∧ q < 256 from by
          have h1 := HQ.out
          rw [List.take_of_length_le (by rw [HL.out]; omega)] at h1
          refine ⟨h1, ?_⟩
          have h2 := unle_lt ts HB.out
          rw [HL.out, ← h1] at h2
          exact h2)
        have hql : q < 256 := HQ3.out.2
        go_wp2
        go_ret
        exact ⟨q, rfl, HE.out q HQ3.out.1⟩
  · have HE := hide (show Numd w0 w w1 b lo ok dv zs pos 1 0 from
      ⟨hg, .inr ⟨fun h => hno ⟨h.1, by omega, by omega⟩, rfl, hr⟩⟩)
    clear hr hg hno
    go_wp2
    refine wp_loop_rounds 1 ?_
    rw [rounds_succ]
    go_wp2
    go_ret
    exact ⟨0, rfl, HE.out⟩

set_option maxRecDepth 100000 in
set_option maxHeartbeats 1000000 in
theorem number16_any (w0 w : World) (b lo : Nat) (ok : Bool) (dv : Value) (zs : List Int) (pos : Nat) (h : Rdr w0 w b lo ok dv zs pos) (hz : zs.length ≤ 140737488355328) (hbd : ∀ z ∈ zs, 0 ≤ z ∧ z < 256) :
    Calls Try.prog 49 #[.pointer (some ⟨b, 0, none⟩)] w fun e w' => ∃ x : Nat, e = .returned (.int .i64 x) ∧ Numd w0 w w' b lo ok dv zs pos 2 x := by
  have H := hide h
  clear h
  go_enter Try.func49, Try.ntmps49
  go_wp2_with fail
  refine (width16 _).mono ?_
  rintro e w1 ⟨rfl, rfl⟩
  go_wp2_with fail
  refine (take_any w0 _ b lo ok dv zs pos 2 H.out (by omega) (by omega) hz).mono ?_
  rintro e w1 ⟨sv, rfl, hg, ht⟩
  rcases ht with ⟨hok, _, hle, hrd, hr⟩ | ⟨hno, rfl, hr⟩
  · have hlen : ((zs.drop pos).take ((2 : Nat) : Int).toNat).length = 2 := by simp; omega
    obtain ⟨bd, off, cap, rfl, hbw, _, _, hcell⟩ := (hr.lift hrd).partsC (by omega)
    have HB := hide (show ∀ z ∈ (zs.drop pos).take 2, 0 ≤ z ∧ z < 256 from fun z hz => hbd z (List.mem_of_mem_drop (List.mem_of_mem_take hz)))
    have HE := hide (show ∀ x, x = unle ((zs.drop pos).take 2) → Numd w0 w w1 b lo ok dv zs pos 2 x from
      fun x hx => ⟨hg, .inl ⟨hok, by omega, hx, hr⟩⟩)
    rw [hlen] at hcell ⊢
    rw [Int.toNat_natCast] at hcell hlen
    generalize (zs.drop pos).take 2 = ts at hcell HB hlen HE
    have HL := hide hlen
    clear hrd hr hg hok hlen
    go_wp2
    go_loop [3, 10] (fun v i => ∃ k q : Nat, k ≤ 2 ∧ i = .int .i64 k ∧ v = .int .u64 q ∧ q = unle (ts.take k)) (fun _ i => 2 - (intOf i).toNat)
    case atStart => exact ⟨0, 0, by omega, rfl, rfl, rfl⟩
    case round =>
      obtain ⟨k, q, hk, rfl, rfl, hq⟩ := hrel
      have HQ := hide hq
      clear hq
      by_cases hlt : k < 2
      · have c1 := hcell k hlt
        have hkl : k < ts.length := by rw [HL.out]; exact hlt
        have hz1 := HB.out (ts.getD k 0) (by simp [List.getD, hkl])
        have HT := hide (unle_take ts k hkl)
        have HQ2 := hide (show q < 256 ^ k from by
          have := unle_lt (ts.take k) (fun z hz => HB.out z (List.mem_of_mem_take hz))
          rw [← HQ.out, List.length_take, Nat.min_eq_left (by omega)] at this
          exact this)
        clear hcell hkl
        generalize ts.getD k 0 = z at c1 HT hz1
        obtain ⟨c, rfl⟩ := Int.eq_ofNat_of_zero_le hz1.1
        obtain ⟨_, hc2⟩ := hz1
        have hc : c < 256 := by omega
        clear hc2
        rw [Int.toNat_natCast] at HT
        have hor := or_step' q c k HQ2.out hc (by omega)
        generalize c * 256 ^ k = cc at hor HT
        go_wp2
        go_round
        case rel => exact ⟨k + 1, _, by omega, by go_num, rfl, by rw [HT.out, ← HQ.out]⟩
        case measure => simp [intOf]; omega
      · have hk4 : k = 2 := by omega
        subst hk4
        have HQ3 := hide (show q = unle ts ∧ q < 65536 from by
          have h1 := HQ.out
          rw [List.take_of_length_le (by rw [HL.out]; omega)] at h1
          refine ⟨h1, ?_⟩
          have h2 := unle_lt ts HB.out
          rw [HL.out, ← h1] at h2
          exact h2)
        have hql : q < 65536 := HQ3.out.2
        go_wp2
        go_ret
        exact ⟨q, rfl, HE.out q HQ3.out.1⟩
  · have HE := hide (show Numd w0 w w1 b lo ok dv zs pos 2 0 from
      ⟨hg, .inr ⟨fun h => hno ⟨h.1, by omega, by omega⟩, rfl, hr⟩⟩)
    clear hr hg hno
    go_wp2
    refine wp_loop_rounds 1 ?_
    rw [rounds_succ]
    go_wp2
    go_ret
    exact ⟨0, rfl, HE.out⟩

set_option maxRecDepth 100000 in
set_option maxHeartbeats 1000000 in
theorem number64_any (w0 w : World) (b lo : Nat) (ok : Bool) (dv : Value) (zs : List Int) (pos : Nat) (h : Rdr w0 w b lo ok dv zs pos) (hz : zs.length ≤ 140737488355328) (hbd : ∀ z ∈ zs, 0 ≤ z ∧ z < 256) :
    Calls Try.prog 35 #[.pointer (some ⟨b, 0, none⟩)] w fun e w' => ∃ x : Nat, e = .returned (.int .i64 (wrap64 x)) ∧ Numd w0 w w' b lo ok dv zs pos 8 x := by
  have H := hide h
  clear h
  go_enter Try.func35, Try.ntmps35
  go_wp2_with fail
  refine (width64 _).mono ?_
  rintro e w1 ⟨rfl, rfl⟩
  go_wp2_with fail
  refine (take_any w0 _ b lo ok dv zs pos 8 H.out (by omega) (by omega) hz).mono ?_
  rintro e w1 ⟨sv, rfl, hg, ht⟩
  rcases ht with ⟨hok, _, hle, hrd, hr⟩ | ⟨hno, rfl, hr⟩
  · have hlen : ((zs.drop pos).take ((8 : Nat) : Int).toNat).length = 8 := by simp; omega
    obtain ⟨bd, off, cap, rfl, hbw, _, _, hcell⟩ := (hr.lift hrd).partsC (by omega)
    have HB := hide (show ∀ z ∈ (zs.drop pos).take 8, 0 ≤ z ∧ z < 256 from fun z hz => hbd z (List.mem_of_mem_drop (List.mem_of_mem_take hz)))
    have HE := hide (show ∀ x, x = unle ((zs.drop pos).take 8) → Numd w0 w w1 b lo ok dv zs pos 8 x from
      fun x hx => ⟨hg, .inl ⟨hok, by omega, hx, hr⟩⟩)
    rw [hlen] at hcell ⊢
    rw [Int.toNat_natCast] at hcell hlen
    generalize (zs.drop pos).take 8 = ts at hcell HB hlen HE
    have HL := hide hlen
    clear hrd hr hg hok hlen
    go_wp2
    go_loop [3, 10] (fun v i => ∃ k q : Nat, k ≤ 8 ∧ i = .int .i64 k ∧ v = .int .u64 q ∧ q = unle (ts.take k)) (fun _ i => 8 - (intOf i).toNat)
    case atStart => exact ⟨0, 0, by omega, rfl, rfl, rfl⟩
    case round =>
      obtain ⟨k, q, hk, rfl, rfl, hq⟩ := hrel
      have HQ := hide hq
      clear hq
      by_cases hlt : k < 8
      · have c1 := hcell k hlt
        have hkl : k < ts.length := by rw [HL.out]; exact hlt
        have hz1 := HB.out (ts.getD k 0) (by simp [List.getD, hkl])
        have HT := hide (unle_take ts k hkl)
        have HQ2 := hide (show q < 256 ^ k from by
          have := unle_lt (ts.take k) (fun z hz => HB.out z (List.mem_of_mem_take hz))
          rw [← HQ.out, List.length_take, Nat.min_eq_left (by omega)] at this
          exact this)
        clear hcell hkl
        generalize ts.getD k 0 = z at c1 HT hz1
        obtain ⟨c, rfl⟩ := Int.eq_ofNat_of_zero_le hz1.1
        obtain ⟨_, hc2⟩ := hz1
        have hc : c < 256 := by omega
        clear hc2
        rw [Int.toNat_natCast] at HT
        have hor := or_step' q c k HQ2.out hc (by omega)
        generalize c * 256 ^ k = cc at hor HT
        go_wp2
        go_round
        case rel => exact ⟨k + 1, _, by omega, by go_num, rfl, by rw [HT.out, ← HQ.out]⟩
        case measure => simp [intOf]; omega
      · have hk4 : k = 8 := by omega
        subst hk4
        have HQ3 := hide (show q = unle ts ∧ q < 18446744073709551616 from by
          have h1 := HQ.out
          rw [List.take_of_length_le (by rw [HL.out]; omega)] at h1
          refine ⟨h1, ?_⟩
          have h2 := unle_lt ts HB.out
          rw [HL.out, ← h1] at h2
          exact h2)
        go_wp2
        go_ret
        exact ⟨q, rfl, HE.out q HQ3.out.1⟩
  · have HE := hide (show Numd w0 w w1 b lo ok dv zs pos 8 0 from
      ⟨hg, .inr ⟨fun h => hno ⟨h.1, by omega, by omega⟩, rfl, hr⟩⟩)
    clear hr hg hno
    go_wp2
    refine wp_loop_rounds 1 ?_
    rw [rounds_succ]
    go_wp2
    go_ret
    exact ⟨0, ret_int (show (0 : Int) = wrap64 ((0 : Nat) : Int) from by unfold wrap64; decide), HE.out⟩
end Go.Proofs.Ythkoflpcinbgeaa

namespace Go.Proofs.Ythkoflpcinbgeaa
open Go.RowKit

def gval (ts : List Int) : Nat := if 70368744177664 ≤ unle ts / 256 then 4611686018427387904 else unle ts
theorem unle_drop (ts : List Int) (j : Nat) (h : j < ts.length) : unle (ts.drop j) = (ts.getD j 0).toNat + 256 * unle (ts.drop (j + 1)) := by
  rw [List.drop_eq_getElem_cons h, unle]
  simp [List.getD, h]
theorem unle_ge (ts : List Int) : ∀ j, 1 ≤ j → j ≤ ts.length → 256 * unle (ts.drop j) ≤ unle ts
  | 0, h, _ => by omega
  | 1, _, h2 => by
    have h := unle_drop ts 0 (by omega)
    rw [List.drop_zero, Nat.zero_add] at h
    rw [h]; omega
  | j + 2, _, h2 => by
    have h := unle_drop ts (j + 1) (by omega)
    have ih := unle_ge ts (j + 1) (by omega) (by omega)
    have e : j + 1 + 1 = j + 2 := rfl
    rw [e] at h
    omega
theorem gval_big (ts : List Int) (j : Nat) (h1 : 1 ≤ j) (h2 : j ≤ ts.length) (h : 70368744177664 ≤ unle (ts.drop j)) : gval ts = 4611686018427387904 := by
  have := unle_ge ts j h1 h2
  unfold gval
  rw [if_pos (by omega)]
theorem gval_small (ts : List Int) (h : unle ts < 18014398509481984) : gval ts = unle ts := by
  unfold gval
  rw [if_neg (by omega)]

set_option maxRecDepth 100000 in
set_option maxHeartbeats 400000 in
theorem get_any (v : Value) (ts : List Int) (w : World) (h : Rd .u8 w v ts) (hl : ts.length ≤ 8) (hbd : ∀ z ∈ ts, 0 ≤ z ∧ z < 256) :
    Calls Try.prog 18 #[v] w fun e w' => e = .returned (.int .i64 (gval ts)) ∧ w = w' := by
  have HB := hide hbd
  clear hbd
  rcases h.parts with ⟨a, cap, rfl, hlow⟩ | ⟨b, off, cap, rfl, hbw, hcell⟩
  all_goals
    clear h
    go_enter Try.func18, Try.ntmps18
    go_wp2
    go_loop [3, 4] (fun x i => ∃ j q : Nat, j ≤ ts.length ∧ i = .int .i64 ((j : Int) - 1) ∧ x = .int .i64 q ∧ q = unle (ts.drop j) ∧ q < 18014398509481984) (fun _ i => (intOf i + 1).toNat)
    case atStart => exact ⟨ts.length, 0, by omega, rfl, rfl, by simp [unle], by omega⟩
    case round =>
      obtain ⟨j, q, hj, rfl, rfl, hq, hql⟩ := hrel
      have HQ := hide hq
      have HQL := hide hql
      clear hq hql
      by_cases hlt : 1 ≤ j
      · obtain ⟨i, rfl⟩ : ∃ i, j = i + 1 := ⟨j - 1, by omega⟩
        by_cases hbig : (70368744177664 : Int) ≤ (q : Int)
        · first
          | (exfalso; omega)
          | (have HG := hide (gval_big ts (i + 1) hlt hj (by rw [← HQ.out]; omega))
             clear hcell
             have e1 : (((i + 1 : Nat) : Int) - 1) = (i : Int) := by omega
             rw [e1]
             clear e1
             go_wp2
             go_ret
             exact ⟨ret_int (by rw [HG.out]; rfl), rfl⟩)
        · first
          | (exfalso; omega)
          | (have e1 : (((i + 1 : Nat) : Int) - 1) = (i : Int) := by omega
             rw [e1]
             have c1 := hcell i (by omega)
             have hz1 := HB.out (ts.getD i 0) (by simp [List.getD, show i < ts.length by omega])
             have HT := hide (unle_drop ts i (by omega))
             clear hcell e1
             generalize ts.getD i 0 = z at c1 HT hz1
             obtain ⟨c, rfl⟩ := Int.eq_ofNat_of_zero_le hz1.1
             obtain ⟨_, hc2⟩ := hz1
             have hc : c < 256 := by omega
             clear hc2
             rw [Int.toNat_natCast] at HT
             go_wp2
             go_round
             case rel => exact ⟨i, c + 256 * q, by omega, by go_num, by go_num, by rw [HT.out, HQ.out], by omega⟩
             case measure => first | (simp [intOf]; done) | (simp [intOf]; omega))
      · have hj0 : j = 0 := by omega
        subst hj0
        have HG := hide (show gval ts = q from by
          have h1 := HQ.out
          rw [List.drop_zero] at h1
          have h2 := HQL.out
          rw [gval_small ts (by omega), ← h1])
        go_wp2
        go_ret
        exact ⟨ret_int (by rw [HG.out]), rfl⟩
end Go.Proofs.Ythkoflpcinbgeaa
