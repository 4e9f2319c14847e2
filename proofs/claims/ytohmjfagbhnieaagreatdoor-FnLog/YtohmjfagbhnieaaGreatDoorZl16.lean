/- EncodeOp of program and model whole; an operation's helpers: szOp, toOp, eqOp, markOp, heldOp. The sum by eight steps a byte and by a table of a byte's part are one: plain arithmetic. The walks of the two sums: the model's by its table, the program's by eight steps a byte. -/
import Derived.Test.YtohmjfagbhnieaaGreatDoorZl14
import Derived.Test.YtohmjfagbhnieaaGreatDoorZl15
import Derived.WalkKit
import Derived.Test.YtohmjfagbhnieaaGreatDoorRows
import Derived.Test.YtohmjfagbhnieaaGreatDoorZl01
import Derived.WalkLawsBesides
namespace Go.Proofs.YtohmjfagbhnieaaGreatDoor
set_option linter.unusedVariables false
set_option linter.unusedSimpArgs false
open Go.RowKit

def codeEO (K U G : Int) (p q : ByteArray) (n : Nat) : Int := if rightO K U G p q n then 0 else 7
def encO (K A B U G : Int) (p q : ByteArray) (ds : List Int) : List Int := if rightO K U G p q ds.length then bytesO K.toNat A B U.toNat G.toNat p q ds else []
theorem rightO_bd {K U G : Int} {p q : ByteArray} {n : Nat} (h : rightO K U G p q n = true) : (0 ≤ K ∧ K < 256) ∧ (0 ≤ U ∧ U < 65536) ∧ (0 ≤ G ∧ G < 65536) ∧ p.size ≤ 512 ∧ q.size ≤ 512 ∧ n ≤ 4096 := by
  unfold rightO wi at h
  simp only [Bool.and_eq_true, decide_eq_true_eq] at h
  omega
theorem encO_len (K A B U G : Int) (p q : ByteArray) (ds : List Int) : (encO K A B U G p q ds).length ≤ 5149 := by
  unfold encO
  split
  · next h =>
    have := rightO_bd h
    rw [bytesO_len]
    omega
  · simp
theorem specEO_any (K A B U G : Int) (p q : ByteArray) (dv : Value) (ds : List Int) (w : World) (h : Rd .u8 w dv ds) (hp : p.size ≤ maxLen) (hq : q.size ≤ maxLen) :
    Calls Tryz.prog 11 #[.agg (opC K A B U G p q dv)] w fun e w' => ∃ v', e = .returned (.tuple #[v', .int .i64 (codeEO K U G p q ds.length)]) ∧ w'.ownsRow w.heap.size 5 1 v' (encO K A B U G p q ds).length ((encO K A B U G p q ds).map (Value.int .u8)) ∧ Below w.heap.size w w' := by
  cases hr : rightO K U G p q ds.length with
  | false =>
    have hl := h.len
    obtain ⟨da, dc, rfl⟩ : ∃ a c, dv = .slice a ds.length c := by obtain ⟨a, c, e, _⟩ := h; exact ⟨a, c, e⟩
    refine (specEO_false K A B U G p q da ds.length dc w hp hq hl hr).mono ?_
    rintro e w' ⟨rfl, hb⟩
    rw [show codeEO K U G p q ds.length = 7 from by simp [codeEO, hr], show encO K A B U G p q ds = [] from by simp [encO, hr]]
    exact ⟨_, rfl, World.ownsRow_nil _ _ _ _, hb⟩
  | true =>
    obtain ⟨b0, b1, b2, b3, b4, b5⟩ := rightO_bd hr
    obtain ⟨k, rfl⟩ := Int.eq_ofNat_of_zero_le b0.1
    obtain ⟨u, rfl⟩ := Int.eq_ofNat_of_zero_le b1.1
    obtain ⟨g, rfl⟩ := Int.eq_ofNat_of_zero_le b2.1
    refine (specEO_true k A B u g p q dv ds w h (by omega) (by omega) (by omega) b3 b4 b5).mono ?_
    rintro e w' ⟨v', rfl, ho, hb⟩
    refine ⟨v', by unfold codeEO; rw [hr]; rfl, ?_, hb⟩
    unfold encO
    rw [if_pos hr]
    simp only [Int.toNat_natCast]
    exact ho
set_option maxRecDepth 100000 in
set_option maxHeartbeats 1000000 in
theorem implEO_any (K A B U G : Int) (p q : ByteArray) (dv : Value) (ds : List Int) (w : World) (h : Rd .u8 w dv ds) (hp : p.size ≤ maxLen) (hq : q.size ≤ maxLen) (hg : ErrT w) :
    Calls Tryz.prog 27 #[.agg (opC K A B U G p q dv)] w fun e w' => ∃ v', e = .returned (.tuple #[v', .int .i64 (codeEO K U G p q ds.length)]) ∧ w'.ownsRow w.heap.size 5 1 v' (encO K A B U G p q ds).length ((encO K A B U G p q ds).map (Value.int .u8)) ∧ Below w.heap.size w w' := by
  have HE := hide hg
  have HR := hide h
  have HN := hide (And.intro hp (And.intro hq h.len))
  obtain ⟨da, dc, rfl⟩ : ∃ a c, dv = .slice a ds.length c := by obtain ⟨a, c, e, _⟩ := h; exact ⟨a, c, e⟩
  have K0 := hide (And.intro (Blk.new w (opC K A B U G p q (.slice da ds.length dc)) 30) (show Below w.heap.size w (w.alloc (.cells (opC K A B U G p q (.slice da ds.length dc)) 30)) from (Below.refl _ _).alloc (Nat.le_refl _) _))
  clear hp hq hg h
  go_enter Tryz.func27, Tryz.ntmps27
  go_wp2_with (first | (refine wpList_load_row rfl 30 _ rfl w.heap.size rfl 30 (opC K A B U G p q (.slice da ds.length dc)) (0, 0) _ K0.out.1 Tryz.underlying30 rfl infoO8 ?_) | (go_at_call 41; fail))
  refine (opFault_any K A B U G p q da ds.length dc 7 _ HN.out.1 HN.out.2.1 HN.out.2.2).mono ?_
  rintro e w1 ⟨ev, rfl, hf, b1⟩
  have B1 := hide (K0.out.2.trans (b1.mono K0.out.2.size))
  have K1 := hide (K0.out.1.below b1 K0.out.1.lt)
  have R1 := hide (HR.out.below (K0.out.2.trans (b1.mono K0.out.2.size)))
  clear b1 K0 HR
  rcases hf with ⟨hr, rfl⟩ | ⟨hr, m, hm⟩
  · have HRR := hide hr
    clear hr
    go_wp2_with (first | (refine wpList_load_row rfl 30 _ rfl w.heap.size rfl 30 (opC K A B U G p q (.slice da ds.length dc)) (0, 0) _ K1.out Tryz.underlying30 rfl infoO8 ?_) | (go_at_call 42; fail))
    have hL : Calls Tryz.prog 42 #[.agg (opC K A B U G p q (.slice da ds.length dc))] w1 fun e w' => ∃ v', e = .returned v' ∧ w'.ownsRow w1.heap.size 5 1 v' (encO K A B U G p q ds).length ((encO K A B U G p q ds).map (Value.int .u8)) ∧ Below w1.heap.size w1 w' := by
      obtain ⟨b0, b1, b2, b3, b4, b5⟩ := rightO_bd HRR.out
      have hr := HRR.out
      obtain ⟨k, rfl⟩ := Int.eq_ofNat_of_zero_le b0.1
      obtain ⟨u, rfl⟩ := Int.eq_ofNat_of_zero_le b1.1
      obtain ⟨g, rfl⟩ := Int.eq_ofNat_of_zero_le b2.1
      unfold encO
      rw [if_pos hr]
      exact layOp_any k A B u g p q _ ds w1 R1.out (by omega) (by omega) (by omega) b3 b4 b5
    refine hL.mono ?_
    rintro e w2 ⟨v', rfl, ho, hb⟩
    have H2 := hide (And.intro ho hb)
    clear ho hb hL
    go_wp2
    go_ret2
    refine ⟨v', by unfold codeEO; rw [HRR.out]; rfl, own_mono H2.out.1 B1.out.size, B1.out.trans (H2.out.2.mono B1.out.size)⟩
  · obtain ⟨t', x', rfl⟩ := hm.iface
    have HRR := hide hr
    have H4 := hide hm
    clear hr hm
    go_wp2_with (go_at_call 37; refine (codeOf_any m _ 7 _ _ H4.out (HE.out.below B1.out)).mono ?_; rintro e w2 ⟨rfl, hb2⟩)
    go_ret2
    rw [show codeEO K U G p q ds.length = 7 from by simp [codeEO, HRR.out], show encO K A B U G p q ds = [] from by simp [encO, HRR.out]]
    exact ⟨_, rfl, World.ownsRow_nil _ _ _ _, B1.out.trans (hb2.mono B1.out.size)⟩
end Go.Proofs.YtohmjfagbhnieaaGreatDoor

namespace Go.Proofs.YtohmjfagbhnieaaGreatDoor.Crc

/-- One of the eight steps of a byte. -/
def stp (n : Nat) : Nat := if n % 2 = 1 then (n / 2) ^^^ 3988292384 else n / 2
def rep : Nat → Nat → Nat
  | 0, n => n
  | k + 1, n => rep k (stp n)

theorem stp_xor (a b : Nat) : stp (a ^^^ b) = stp a ^^^ stp b := by
  unfold stp
  have hm : (a ^^^ b) % 2 = (a + b) % 2 := by
    have h := Nat.xor_mod_two_eq_one (a := a) (b := b)
    omega
  rw [Nat.xor_div_two, hm]
  rcases Nat.mod_two_eq_zero_or_one a with ha | ha <;> rcases Nat.mod_two_eq_zero_or_one b with hb | hb
  · rw [if_neg (by omega), if_neg (by omega), if_neg (by omega)]
  · rw [if_pos (by omega), if_neg (by omega), if_pos (by omega), Nat.xor_assoc]
  · rw [if_pos (by omega), if_pos (by omega), if_neg (by omega), Nat.xor_assoc, Nat.xor_assoc, Nat.xor_comm (b / 2)]
  · rw [if_neg (by omega), if_pos (by omega), if_pos (by omega)]
    rw [Nat.xor_assoc, Nat.xor_comm (b / 2), ← Nat.xor_assoc 3988292384, Nat.xor_self, Nat.zero_xor]

theorem rep_xor : ∀ (k a b : Nat), rep k (a ^^^ b) = rep k a ^^^ rep k b
  | 0, _, _ => rfl
  | k + 1, a, b => by simp only [rep]; rw [stp_xor, rep_xor k]

theorem rep_shift : ∀ (k q : Nat), rep k (2 ^ k * q) = q
  | 0, q => by simp [rep]
  | k + 1, q => by
    have : stp (2 ^ (k + 1) * q) = 2 ^ k * q := by
      have e : 2 ^ (k + 1) * q = 2 * (2 ^ k * q) := by rw [Nat.pow_succ, Nat.mul_comm (2 ^ k) 2, Nat.mul_assoc]
      unfold stp
      rw [e, if_neg (by omega)]
      omega
    simp only [rep]
    rw [this, rep_shift k]

theorem rep_snoc : ∀ (k n : Nat), rep (k + 1) n = stp (rep k n)
  | 0, _ => rfl
  | k + 1, n => by
    show rep (k + 1) (stp n) = stp (rep k (stp n))
    exact rep_snoc k (stp n)

theorem split256 (x : Nat) : x = (2 ^ 8 * (x / 256)) ^^^ (x % 256) := by
  have h : (2 ^ 8 * (x / 256)) ^^^ (x % 256) = 2 ^ 8 * (x / 256) + x % 256 := by
    apply Nat.eq_of_testBit_eq
    intro i
    rw [Nat.testBit_xor, Nat.testBit_two_pow_mul_add _ (by omega), Nat.testBit_two_pow_mul]
    by_cases hi : i < 8
    · rw [if_pos hi]
      have : ¬ (8 ≤ i) := by omega
      simp [this]
    · rw [if_neg hi]
      have : (x % 256).testBit i = false := Nat.testBit_lt_two_pow (Nat.lt_of_lt_of_le (Nat.mod_lt _ (by decide)) (Nat.pow_le_pow_right (n := 2) (by decide) (by omega : 8 ≤ i)))
      rw [this]; simp; omega
  rw [h]; omega

theorem rep8_split (x : Nat) : rep 8 x = (x / 256) ^^^ rep 8 (x % 256) := by
  conv => lhs; rw [split256 x]
  rw [rep_xor, rep_shift]

theorem xor_div256 (r c : Nat) (hc : c < 256) : (r ^^^ c) / 256 = r / 256 := by
  have := Nat.xor_div_two_pow (a := r) (b := c) (n := 8)
  rw [show (2 : Nat) ^ 8 = 256 from rfl] at this
  rw [this, Nat.div_eq_of_lt hc, Nat.xor_zero]

/-- The table's way and the eight steps are one. -/
theorem byte_eq (r c : Nat) (hc : c < 256) : (r / 256) ^^^ rep 8 ((r ^^^ c) % 256) = rep 8 (r ^^^ c) := by
  rw [rep8_split (r ^^^ c), xor_div256 r c hc]

theorem stp_lt (n : Nat) (h : n < 4294967296) : stp n < 4294967296 := by
  unfold stp
  split
  · exact Nat.xor_lt_two_pow (n := 32) (by omega) (by decide)
  · omega
theorem rep_lt : ∀ (k n : Nat), n < 4294967296 → rep k n < 4294967296
  | 0, _, h => h
  | k + 1, n, h => rep_lt k _ (stp_lt n h)
theorem xor_lt (a b : Nat) (ha : a < 4294967296) (hb : b < 4294967296) : a ^^^ b < 4294967296 := Nat.xor_lt_two_pow (n := 32) ha hb

def crcStep (r : Nat) (c : Int) : Nat := rep 8 (r ^^^ c.toNat)
def crcFold (zs : List Int) : Nat := zs.foldl crcStep 4294967295
def crc (zs : List Int) : Nat := crcFold zs ^^^ 4294967295

theorem fold_lt (zs : List Int) (hz : ∀ z ∈ zs, 0 ≤ z ∧ z < 256) : crcFold zs < 4294967296 := by
  unfold crcFold
  suffices ∀ (r : Nat), r < 4294967296 → zs.foldl crcStep r < 4294967296 from this _ (by decide)
  induction zs with
  | nil => intro r h; exact h
  | cons z zs ih =>
    intro r h
    rw [List.foldl_cons]
    have := hz z (by simp)
    exact ih (fun y hy => hz y (by simp [hy])) _ (rep_lt _ _ (xor_lt _ _ h (by omega)))

theorem fold_snoc (zs : List Int) (z : Int) : crcFold (zs ++ [z]) = crcStep (crcFold zs) z := by simp [crcFold]
theorem fold_take (zs : List Int) (k : Nat) (h : k < zs.length) : crcFold (zs.take (k + 1)) = crcStep (crcFold (zs.take k)) (zs.getD k 0) := by
  rw [List.take_succ_eq_append_getElem h, fold_snoc]
  simp [List.getD, h]
end Go.Proofs.YtohmjfagbhnieaaGreatDoor.Crc

namespace Go.Proofs.YtohmjfagbhnieaaGreatDoor
open Go.RowKit

theorem xor_half (y : Nat) (hy : y < 4294967296) : bits .xor .u32 ((y : Int) / 2) 3988292384 = ((y / 2 ^^^ 3988292384 : Nat) : Int) := by
  have h := u32_xor_nat (y / 2) 3988292384 (by omega) (by omega)
  simpa using h
theorem step_one (y k : Nat) (hk : k < 8) (h : ((y : Int) % 2 == 1) = true) : Crc.rep (8 - (k + 1)) (y / 2 ^^^ 3988292384) = Crc.rep (8 - k) y := by
  have e : 8 - k = (8 - (k + 1)) + 1 := by omega
  have hm : y % 2 = 1 := by simp at h; omega
  rw [e]
  show _ = Crc.rep (8 - (k + 1)) (Crc.stp y)
  rw [Crc.stp, if_pos hm]
theorem step_none (y k : Nat) (hk : k < 8) (h : ((y : Int) % 2 == 1) = false) : Crc.rep (8 - (k + 1)) (y / 2) = Crc.rep (8 - k) y := by
  have e : 8 - k = (8 - (k + 1)) + 1 := by omega
  have hm : ¬ y % 2 = 1 := by simp at h; omega
  rw [e]
  show _ = Crc.rep (8 - (k + 1)) (Crc.stp y)
  rw [Crc.stp, if_neg hm]
theorem half_lt (y : Nat) (hy : y < 4294967296) : y / 2 ^^^ 3988292384 < 4294967296 := Crc.xor_lt _ _ (by omega) (by omega)
theorem xor_all' (r : Nat) (hr : r < 4294967296) : bits .xor .u32 IntKind.u32.max (r : Int) = ((r ^^^ 4294967295 : Nat) : Int) := by
  have e : IntKind.u32.max = ((4294967295 : Nat) : Int) := by decide
  rw [e, u32_xor_nat 4294967295 r (by omega) hr, Nat.xor_comm]
theorem bits_low (y : Nat) (hy : y < 4294967296) : bits .and .u32 (y : Int) 1 = (y : Int) % 2 := by
  have h := u32_and_nat y 1 hy (by omega)
  rw [Nat.and_one_is_mod] at h
  simpa using h

set_option maxHeartbeats 400000 in
theorem implCrc_any (v : Value) (zs : List Int) (w : World) (h : Rd .u8 w v zs) (hz : ∀ z ∈ zs, 0 ≤ z ∧ z < 256) :
    Calls Tryz.prog 45 #[v] w fun e w' => e = .returned (.int .u32 (Crc.crc zs)) ∧ w' = w := by
  have hm := h.len
  unfold maxLen at hm
  rcases h.parts with ⟨a, cap, rfl, hlow⟩ | ⟨b, off, cap, rfl, hbw, hcell⟩
  all_goals
    clear h
    go_enter Tryz.func45, Tryz.ntmps45
    go_wp2
    go_loop [3, 9] (fun v i => ∃ k r : Nat, k ≤ zs.length ∧ i = .int .i64 k ∧ v = .int .u32 r ∧ r < 4294967296 ∧ r = Crc.crcFold (zs.take k)) (fun _ i => zs.length - (intOf i).toNat)
    case atStart => exact ⟨0, 4294967295, by omega, rfl, rfl, by omega, rfl⟩
    case round =>
      obtain ⟨k, r, hk, rfl, rfl, hr, he⟩ := hrel
      have HE : Hid (r = Crc.crcFold (zs.take k)) := he
      clear he
      by_cases hlt : k < zs.length
      · first
        | omega
        | (have c1 := hcell k hlt
           have HF : Hid (Crc.crcFold (zs.take (k + 1)) = Crc.rep 8 (r ^^^ (zs.getD k 0).toNat)) := by rw [Crc.fold_take zs k hlt, ← HE.out]; rfl
           have hz1 := hz (zs.getD k 0) (by simp [List.getD, hlt])
           clear hcell hz
           generalize zs.getD k 0 = z at c1 HF hz1
           obtain ⟨c, rfl⟩ := Int.eq_ofNat_of_zero_le hz1.1
           obtain ⟨_, hc2⟩ := hz1
           have hc : c < 256 := by omega
           clear hc2
           have hmod : (c : Int) % 4294967296 = c := by omega
           have hx := u32_xor_nat r c hr (by omega)
           have hy0 := Crc.xor_lt r c hr (by omega)
           rw [Int.toNat_natCast] at HF
           generalize r ^^^ c = x at hx hy0 HF
           go_wp2
           go_loop [3, 17] (fun v i => ∃ j y : Nat, j ≤ 8 ∧ i = .int .i64 j ∧ v = .int .u32 y ∧ y < 4294967296 ∧ Crc.rep (8 - j) y = Crc.rep 8 x) (fun _ i => 8 - (intOf i).toNat)
           case atStart => exact ⟨0, x, by omega, rfl, rfl, hy0, rfl⟩
           case round =>
             obtain ⟨j, y, hj, rfl, rfl, hy, he⟩ := hrel
             have HY : Hid (Crc.rep (8 - j) y = Crc.rep 8 x) := he
             clear he
             have hx2 := xor_half y hy
             have hl2 := bits_low y hy
             by_cases hjt : j < 8
             · have hyl := half_lt y hy
               go_wp2
               · go_round
                 case rel => exact ⟨j + 1, _, by omega, by go_num, rfl, hyl, by rw [step_one y j hjt ‹_›]; exact HY.out⟩
                 case measure => simp [intOf]; omega
               · go_round
                 case rel => exact ⟨j + 1, y / 2, by omega, by go_num, by go_num, by omega, by rw [step_none y j hjt ‹_›]; exact HY.out⟩
                 case measure => simp [intOf]; omega
             · have HQ : Hid (y = Crc.crcFold (zs.take (k + 1))) := by
                 have e : 8 - j = 0 := by omega
                 have h := HY.out
                 rw [e] at h
                 rw [HF.out, ← h]; rfl
               go_wp2
               go_round
               case rel => exact ⟨k + 1, y, by omega, by go_num, rfl, hy, HQ.out⟩
               case measure => simp [intOf]; omega)
      · have hx := xor_all' r hr
        go_wp2
        go_ret
        have e1 := HE.out
        rw [List.take_of_length_le (by omega)] at e1
        exact ⟨ret_int (by rw [Crc.crc, ← e1]), rfl⟩

end Go.Proofs.YtohmjfagbhnieaaGreatDoor
