/- MayAccess of the program and of the model: the three bits of the mode that count. Nodes: szNode, toNode, eqNode. The law on MayAccess: eqNode, the walk. States copied, measured and compared: szState, toState, eqState. -/
import Derived.Test.YtplieplmhdfndaaGreatDoorZa01
import Derived.Test.YtplieplmhdfndaaGreatDoorZa04
import Derived.Test.YtplieplmhdfndaaGreatDoorZa02
import Derived.Test.YtplieplmhdfndaaGreatDoorZa03
import Derived.Deep.RegionHeld
import Derived.Deep.MidRow
import Derived.Deep.RegionHeld3
import Derived.Test.YtplieplmhdfndaaGreatDoorZa16
namespace Go.Proofs.YtplieplmhdfndaaGreatDoor
set_option linter.unusedVariables false
set_option linter.unusedSimpArgs false
open Go.RowKit

/-- A node's value: nine integers and its bytes. -/
abbrev nodeV (k l m u g p e t c : Int) (v : Value) : Value := .agg #[.int .i64 k, .int .i64 l, .int .i64 m, .int .i64 u, .int .i64 g, .int .i64 p, .int .i64 e, .int .i64 t, .int .i64 c, v]

/-- All bits of want (0 to 7) are in the lowest three of m. -/
def accB (m want : Int) : Bool := (want.toNat &&& (7 - (m % 8).toNat)) == 0
def mayB (m u g uid gid want : Int) : Bool :=
  if want < 0 ∨ 7 < want then false else if uid = 0 then true else accB (if uid = u then m / 64 else if gid = g then m / 8 else m) want

theorem natB (n : Nat) : ((n : Int) == 0) = (n == 0) := by cases n <;> rfl
theorem low3 : ∀ (c x : Nat), c < 8 → c &&& x = c &&& (x % 8) := by
  intro c x hc
  have h1 : c = c &&& 7 := by
    have : c % 8 = c := Nat.mod_eq_of_lt hc
    rw [show (7 : Nat) = 2 ^ 3 - 1 from rfl, Nat.and_two_pow_sub_one_eq_mod]; omega
  have h2 : x % 8 = 7 &&& x := by
    rw [Nat.and_comm, show (7 : Nat) = 2 ^ 3 - 1 from rfl, Nat.and_two_pow_sub_one_eq_mod]
  rw [h2, ← Nat.and_assoc, ← h1]
theorem andNot_low (c : Nat) (hc : c < 8) (m : Int) : bits .andNot .i64 (c : Int) m = ((c &&& (7 - (m % 8).toNat) : Nat) : Int) := by
  have hx : ∀ y : Nat, c &&& y < 8 := fun y => by
    have := Nat.and_le_left (n := c) (m := y); omega
  show IntKind.i64.wrap ((BitVec.ofInt 64 (c : Int) &&& ~~~BitVec.ofInt 64 m).toNat : Int) = _
  have e1 : (BitVec.ofInt 64 (c : Int)).toNat = c := by simp [BitVec.toNat_ofInt]; omega
  have e2 : (BitVec.ofInt 64 m).toNat = (m % 18446744073709551616).toNat := by simp [BitVec.toNat_ofInt]
  rw [BitVec.toNat_and, BitVec.toNat_not, e1, e2]
  have e3 : (2 ^ 64 - 1 - (m % 18446744073709551616).toNat) % 8 = 7 - (m % 8).toNat := by omega
  rw [low3 _ _ hc, e3]
  have := hx (7 - (m % 8).toNat)
  generalize c &&& (7 - (m % 8).toNat) = y at this
  simp [IntKind.wrap, IntKind.bits, IntKind.signed]
  omega
theorem and1 (x : Int) : bits .and .i64 x 1 = x % 2 := by
  show IntKind.i64.wrap ((BitVec.ofInt 64 x &&& BitVec.ofInt 64 1).toNat : Int) = _
  have e2 : (BitVec.ofInt 64 x).toNat = (x % 18446744073709551616).toNat := by simp [BitVec.toNat_ofInt]
  have e1 : (BitVec.ofInt 64 1).toNat = 1 := by decide
  rw [BitVec.toNat_and, e1, e2, Nat.and_one_is_mod]
  have h1 : ((x % 18446744073709551616).toNat % 2 : Nat) = (x % 2).toNat := by omega
  rw [h1]
  have h2 : 0 ≤ x % 2 := by omega
  have h3 : x % 2 < 2 := by omega
  generalize x % 2 = y at h2 h3
  simp [IntKind.wrap, IntKind.bits, IntKind.signed]
  omega

theorem implMay_any (k l m u g p e t c : Int) (v : Value) (uid gid want : Int) (w : World) :
    Calls Tryz.prog 159 #[nodeV k l m u g p e t c v, .int .i64 uid, .int .i64 gid, .int .i64 want] w fun e w' => e = .returned (.bool (mayB m u g uid gid want)) ∧ Below w.heap.size w w' := by
  unfold mayB nodeV
  by_cases h0 : want < 0
  · rw [if_pos (Or.inl h0)]
    go_enter Tryz.func159, Tryz.ntmps159
    go_wp2
    go_ret
    exact ⟨rfl, (Below.refl _ _).alloc (Nat.le_refl _) _⟩
  by_cases h7 : 7 < want
  · rw [if_pos (Or.inr h7)]
    go_enter Tryz.func159, Tryz.ntmps159
    go_wp2
    go_ret
    exact ⟨rfl, (Below.refl _ _).alloc (Nat.le_refl _) _⟩
  rw [if_neg (by omega)]
  by_cases hu0 : uid = 0
  · subst hu0
    rw [if_pos rfl]
    go_enter Tryz.func159, Tryz.ntmps159
    go_wp2
    go_ret
    exact ⟨rfl, (Below.refl _ _).alloc (Nat.le_refl _) _⟩
  rw [if_neg hu0]
  obtain ⟨c0, rfl⟩ := Int.eq_ofNat_of_zero_le (by omega : 0 ≤ want)
  have hc : c0 < 8 := by omega
  by_cases hu : uid = u
  · subst hu
    rw [if_pos rfl]
    have hb := andNot_low c0 hc (m / 64)
    go_enter Tryz.func159, Tryz.ntmps159
    go_wp2
    go_ret
    exact ⟨ret_bool (natB _), (Below.refl _ _).alloc (Nat.le_refl _) _⟩
  rw [if_neg hu]
  by_cases hg : gid = g
  · subst hg
    rw [if_pos rfl]
    have hb := andNot_low c0 hc (m / 8)
    go_enter Tryz.func159, Tryz.ntmps159
    go_wp2
    go_ret
    exact ⟨ret_bool (natB _), (Below.refl _ _).alloc (Nat.le_refl _) _⟩
  · rw [if_neg hg]
    have hb := andNot_low c0 hc m
    go_enter Tryz.func159, Tryz.ntmps159
    go_wp2
    go_ret
    exact ⟨ret_bool (natB _), (Below.refl _ _).alloc (Nat.le_refl _) _⟩
theorem bit_ok : ∀ (c y : Nat), c < 8 → y < 8 → (c &&& (7 - y) == 0) = (!(c % 2 == 1 && y % 2 == 0) && !(c / 2 % 2 == 1 && y / 2 % 2 == 0) && !(c / 4 % 2 == 1 && y / 4 % 2 == 0)) := by
  intro c y hc hy
  have h : ∀ c : Fin 8, ∀ y : Fin 8, (c.1 &&& (7 - y.1) == 0) = (!(c.1 % 2 == 1 && y.1 % 2 == 0) && !(c.1 / 2 % 2 == 1 && y.1 / 2 % 2 == 0) && !(c.1 / 4 % 2 == 1 && y.1 / 4 % 2 == 0)) := by decide
  exact h ⟨c, hc⟩ ⟨y, hy⟩
/-- Bit p of want isn't asked, or is in m. -/
def bitOk (m want : Int) (p : Nat) : Bool := !(want / 2 ^ p % 2 == 1 && m / 2 ^ p % 2 == 0)
theorem acc_bits (m want : Int) (h0 : 0 ≤ want) (h7 : want ≤ 7) : accB m want = (bitOk m want 0 && bitOk m want 1 && bitOk m want 2) := by
  unfold accB
  rw [bit_ok _ _ (by omega) (by omega)]
  unfold bitOk
  have e : ∀ a b : Int, ∀ x y : Nat, (a = (x : Int)) → (b = (y : Int)) → (!(x == 1 && y == 0)) = (!(a == 1 && b == 0)) := by
    intro a b x y h1 h2
    subst h1; subst h2
    cases x with
    | zero => simp
    | succ n => cases n with
      | zero => simp [natB]
      | succ k => simp; omega
  rw [e (want / 2 ^ 0 % 2) (m / 2 ^ 0 % 2) _ _ (by omega) (by omega), e (want / 2 ^ 1 % 2) (m / 2 ^ 1 % 2) _ _ (by omega) (by omega), e (want / 2 ^ 2 % 2) (m / 2 ^ 2 % 2) _ _ (by omega) (by omega)]

theorem bits_any (m want : Int) (w : World) (h0 : 0 ≤ want) (h7 : want ≤ 7) :
    Calls Tryz.prog 115 #[.int .i64 m, .int .i64 want] w fun e w' => e = .returned (.bool (accB m want)) ∧ w' = w := by
  rw [acc_bits m want h0 h7]
  have a0 := and1 want
  have a1 := and1 (want / 2)
  have a2 := and1 (want / 4)
  have b0 := and1 m
  have b1 := and1 (m / 2)
  have b2 := and1 (m / 4)
  go_enter Tryz.func115, Tryz.ntmps115
  go_wp2
  go_loop [5] (fun i => ∃ k : Nat, k ≤ 3 ∧ i = .int .i64 k ∧ ∀ p < k, bitOk m want p = true) (fun i => 3 - (intOf i).toNat)
  case atStart => exact ⟨0, by omega, rfl, fun p hp => by omega⟩
  case round =>
    obtain ⟨k, hk, rfl, hall⟩ := hrel
    have HA := hide hall
    clear hall
    rcases (by omega : k = 0 ∨ k = 1 ∨ k = 2 ∨ k = 3) with rfl | rfl | rfl | rfl
    · -- bit 0
      by_cases hw : want / 1 % 2 = 1
      · by_cases hm : m / 1 % 2 = 0
        · have hf : bitOk m want 0 = false := by unfold bitOk; simp; exact ⟨by omega, by omega⟩
          go_wp2
          go_ret
          exact ⟨ret_bool (by simp [hf]), rfl⟩
        · have hf : bitOk m want 0 = true := by unfold bitOk; simp; omega
          go_wp2
          go_round
          case rel => exact ⟨1, by omega, by go_num, fun p hp => by rcases Nat.lt_succ_iff_lt_or_eq.1 hp with h | h; exact HA.out p h; subst h; exact hf⟩
          case measure => simp [intOf]
      · have hf : bitOk m want 0 = true := by unfold bitOk; simp; omega
        go_wp2
        go_round
        case rel => exact ⟨1, by omega, by go_num, fun p hp => by rcases Nat.lt_succ_iff_lt_or_eq.1 hp with h | h; exact HA.out p h; subst h; exact hf⟩
        case measure => simp [intOf]
    · -- bit 1
      by_cases hw : want / 2 % 2 = 1
      · by_cases hm : m / 2 % 2 = 0
        · have hf : bitOk m want 1 = false := by unfold bitOk; simp; exact ⟨by omega, by omega⟩
          go_wp2
          go_ret
          exact ⟨ret_bool (by simp [hf]), rfl⟩
        · have hf : bitOk m want 1 = true := by unfold bitOk; simp; omega
          go_wp2
          go_round
          case rel => exact ⟨2, by omega, by go_num, fun p hp => by rcases Nat.lt_succ_iff_lt_or_eq.1 hp with h | h; exact HA.out p h; subst h; exact hf⟩
          case measure => simp [intOf]
      · have hf : bitOk m want 1 = true := by unfold bitOk; simp; omega
        go_wp2
        go_round
        case rel => exact ⟨2, by omega, by go_num, fun p hp => by rcases Nat.lt_succ_iff_lt_or_eq.1 hp with h | h; exact HA.out p h; subst h; exact hf⟩
        case measure => simp [intOf]
    · -- bit 2
      by_cases hw : want / 4 % 2 = 1
      · by_cases hm : m / 4 % 2 = 0
        · have hf : bitOk m want 2 = false := by unfold bitOk; simp; exact ⟨by omega, by omega⟩
          go_wp2
          go_ret
          exact ⟨ret_bool (by simp [hf]), rfl⟩
        · have hf : bitOk m want 2 = true := by unfold bitOk; simp; omega
          go_wp2
          go_round
          case rel => exact ⟨3, by omega, by go_num, fun p hp => by rcases Nat.lt_succ_iff_lt_or_eq.1 hp with h | h; exact HA.out p h; subst h; exact hf⟩
          case measure => simp [intOf]
      · have hf : bitOk m want 2 = true := by unfold bitOk; simp; omega
        go_wp2
        go_round
        case rel => exact ⟨3, by omega, by go_num, fun p hp => by rcases Nat.lt_succ_iff_lt_or_eq.1 hp with h | h; exact HA.out p h; subst h; exact hf⟩
        case measure => simp [intOf]
    · have e0 := HA.out 0 (by omega)
      have e1 := HA.out 1 (by omega)
      have e2 := HA.out 2 (by omega)
      go_wp2
      go_ret
      exact ⟨ret_bool (by simp [e0, e1, e2]), rfl⟩

theorem specMay_any (k l m u g p e t c : Int) (v : Value) (uid gid want : Int) (w : World) :
    Calls Tryz.prog 74 #[nodeV k l m u g p e t c v, .int .i64 uid, .int .i64 gid, .int .i64 want] w fun e w' => e = .returned (.bool (mayB m u g uid gid want)) ∧ Below w.heap.size w w' := by
  unfold mayB nodeV
  by_cases h0 : want < 0
  · rw [if_pos (Or.inl h0)]
    go_enter Tryz.func74, Tryz.ntmps74
    go_wp2
    go_ret
    exact ⟨rfl, (Below.refl _ _).alloc (Nat.le_refl _) _⟩
  by_cases h7 : 7 < want
  · rw [if_pos (Or.inr h7)]
    go_enter Tryz.func74, Tryz.ntmps74
    go_wp2
    go_ret
    exact ⟨rfl, (Below.refl _ _).alloc (Nat.le_refl _) _⟩
  rw [if_neg (by omega)]
  by_cases hu0 : uid = 0
  · subst hu0
    rw [if_pos rfl]
    go_enter Tryz.func74, Tryz.ntmps74
    go_wp2
    go_ret
    exact ⟨rfl, (Below.refl _ _).alloc (Nat.le_refl _) _⟩
  rw [if_neg hu0]
  by_cases hu : uid = u
  · subst hu
    rw [if_pos rfl]
    go_enter Tryz.func74, Tryz.ntmps74
    go_wp2_with (go_at_call 115; refine (bits_any (m / 64) want _ (by omega) (by omega)).mono ?_; rintro e w1 ⟨rfl, rfl⟩)
    go_ret
    exact ⟨rfl, (Below.refl _ _).alloc (Nat.le_refl _) _⟩
  rw [if_neg hu]
  by_cases hg : gid = g
  · subst hg
    rw [if_pos rfl]
    go_enter Tryz.func74, Tryz.ntmps74
    go_wp2_with (go_at_call 115; refine (bits_any (m / 8) want _ (by omega) (by omega)).mono ?_; rintro e w1 ⟨rfl, rfl⟩)
    go_ret
    exact ⟨rfl, (Below.refl _ _).alloc (Nat.le_refl _) _⟩
  · rw [if_neg hg]
    go_enter Tryz.func74, Tryz.ntmps74
    go_wp2_with (go_at_call 115; refine (bits_any m want _ (by omega) (by omega)).mono ?_; rintro e w1 ⟨rfl, rfl⟩)
    go_ret
    exact ⟨rfl, (Below.refl _ _).alloc (Nat.le_refl _) _⟩
end Go.Proofs.YtplieplmhdfndaaGreatDoor

namespace Go.Proofs.YtplieplmhdfndaaGreatDoor
set_option linter.unusedVariables false
set_option linter.unusedSimpArgs false
open Go.RowKit

theorem own_aside {w : World} {base : Nat} {e : TypeId} {v : Value} {n : Nat} {xs : List Value} (hr : w.ownsRow base e 1 v n xs) (a : Addr) (u : Value) (hb : a.block < base) : (w.setCell a u).ownsRow base e 1 v n xs :=
  hr.kept (w' := w.setCell a u) (row := some a.block) ⟨rfl, rfl, rfl, by simp, fun k hk hne => Below.heap_setCell w a u k (fun e => hne (by rw [e]))⟩ (by
    cases hv : v.ownBlock with
    | none => exact .inl rfl
    | some k => exact .inr (fun e => by have := (hr.lt k hv).1; injection e with e; omega))

theorem szByteS_any (v : Value) (zs : List Int) (l : Int) (w : World) (h : Rd .u8 w v zs) (h0 : 0 ≤ l) (h1 : l ≤ 1048576) :
    Calls Tryz.prog 91 #[v, .int .i64 l] w fun e w' => e = .returned (.int .i64 (if l < (zs.length : Int) then -1 else l - zs.length)) ∧ w' = w := by
  have hm := h.len
  unfold maxLen at hm
  obtain ⟨a, cap, rfl, _⟩ := h
  by_cases hb : l < (zs.length : Int)
  · rw [if_pos hb]
    go_enter Tryz.func91, Tryz.ntmps91
    go_wp2
    go_ret
    exact ⟨rfl, rfl⟩
  · rw [if_neg hb]
    go_enter Tryz.func91, Tryz.ntmps91
    go_wp2
    go_ret
    exact ⟨rfl, rfl⟩

theorem szNode_any (k l m u g p e t c : Int) (v : Value) (zs : List Int) (left : Int) (w : World) (h : Rd .u8 w v zs) (h0 : 0 ≤ left) (h1 : left ≤ 1048576) :
    Calls Tryz.prog 53 #[nodeV k l m u g p e t c v, .int .i64 left] w fun e w' => e = .returned (.int .i64 (if left < (zs.length : Int) then -1 else left - zs.length)) ∧ Below w.heap.size w w' := by
  have HR := hide h
  have hsh : ∃ a cap, v = .slice a zs.length cap := by obtain ⟨a, cap, h1, _⟩ := h; exact ⟨a, cap, h1⟩
  obtain ⟨a, cap, rfl⟩ := hsh
  have HB := hide (show ∀ o, Below w.heap.size w (w.alloc o) from fun o => (Below.refl _ _).alloc (Nat.le_refl _) o)
  clear h
  by_cases hb : left < (zs.length : Int)
  · rw [if_pos hb]
    go_enter Tryz.func53, Tryz.ntmps53
    go_wp2_with (go_at_call 91; refine (szByteS_any _ zs left _ (HR.out.below (HB.out _)) h0 h1).mono ?_; rintro e w1 ⟨rfl, rfl⟩; rw [if_pos hb])
    go_ret
    exact ⟨rfl, HB.out _⟩
  · rw [if_neg hb]
    go_enter Tryz.func53, Tryz.ntmps53
    go_wp2_with (go_at_call 91; refine (szByteS_any _ zs left _ (HR.out.below (HB.out _)) h0 h1).mono ?_; rintro e w1 ⟨rfl, rfl⟩; rw [if_neg hb])
    go_ret
    exact ⟨rfl, HB.out _⟩

theorem toNode_any (k l m u g p e t c : Int) (v : Value) (zs : List Int) (w : World) (h : Rd .u8 w v zs) (hn : zs.length ≤ 1048576) :
    Calls Tryz.prog 60 #[nodeV k l m u g p e t c v] w fun x w' => ∃ v', x = .returned (nodeV k l m u g p e t c v') ∧ w'.ownsRow w.heap.size 5 1 v' zs.length (zs.map (Value.int .u8)) ∧ Below w.heap.size w w' := by
  have HR := hide h
  have hsh : ∃ a cap, v = .slice a zs.length cap := by obtain ⟨a, cap, h1, _⟩ := h; exact ⟨a, cap, h1⟩
  obtain ⟨a, cap, rfl⟩ := hsh
  clear h
  go_enter Tryz.func60, Tryz.ntmps60
  go_wp2_with fail
  refine (toByteS_any _ zs _ (HR.out.below ?_) (by omega)).mono ?_
  · exact (((Below.refl _ _).alloc (Nat.le_refl _) _).alloc (by simp) _).alloc (by simp; omega) _
  rintro x w1 ⟨v1, rfl, o1, b1⟩
  have hz2 : ∃ a1 cap1, v1 = .slice a1 zs.length cap1 := by obtain ⟨a1, cap1, h1, _⟩ := Rd.own o1; exact ⟨a1, cap1, h1⟩
  obtain ⟨a1, cap1, rfl⟩ := hz2
  have hz1 := (Blk.new _ _ _).below b1 (by simp)
  simp only [World.size_alloc] at hz1
  have hz0 := ((Blk.new _ _ _).alloc _).below b1 (by simp)
  simp only [World.size_alloc] at hz0
  have hB : Below w.heap.size w w1 := ((((Below.refl _ _).alloc (Nat.le_refl _) _).alloc (by simp) _).alloc (by simp; omega) _).trans (b1.mono (by simp; omega))
  have f0 := hz0.frozen 0
  have d0 := (hz0.cell 0).trans (show _ = some (.int .i64 0) from rfl)
  have f1 := hz0.frozen 1
  have d1 := (hz0.cell 1).trans (show _ = some (.int .i64 0) from rfl)
  have f2 := hz0.frozen 2
  have d2 := (hz0.cell 2).trans (show _ = some (.int .i64 0) from rfl)
  have f3 := hz0.frozen 3
  have d3 := (hz0.cell 3).trans (show _ = some (.int .i64 0) from rfl)
  have f4 := hz0.frozen 4
  have d4 := (hz0.cell 4).trans (show _ = some (.int .i64 0) from rfl)
  have f5 := hz0.frozen 5
  have d5 := (hz0.cell 5).trans (show _ = some (.int .i64 0) from rfl)
  have f6 := hz0.frozen 6
  have d6 := (hz0.cell 6).trans (show _ = some (.int .i64 0) from rfl)
  have f7 := hz0.frozen 7
  have d7 := (hz0.cell 7).trans (show _ = some (.int .i64 0) from rfl)
  have f8 := hz0.frozen 8
  have d8 := (hz0.cell 8).trans (show _ = some (.int .i64 0) from rfl)
  have f9 := hz0.frozen 9
  have d9 := (hz0.cell 9).trans (show _ = some (.slice none 0 0) from rfl)
  have g9 := hz1.frozen 9
  have c0 := (hz1.cell 0).trans (show _ = some (.int .i64 k) from rfl)
  have c1 := (hz1.cell 1).trans (show _ = some (.int .i64 l) from rfl)
  have c2 := (hz1.cell 2).trans (show _ = some (.int .i64 m) from rfl)
  have c3 := (hz1.cell 3).trans (show _ = some (.int .i64 u) from rfl)
  have c4 := (hz1.cell 4).trans (show _ = some (.int .i64 g) from rfl)
  have c5 := (hz1.cell 5).trans (show _ = some (.int .i64 p) from rfl)
  have c6 := (hz1.cell 6).trans (show _ = some (.int .i64 e) from rfl)
  have c7 := (hz1.cell 7).trans (show _ = some (.int .i64 t) from rfl)
  have c8 := (hz1.cell 8).trans (show _ = some (.int .i64 c) from rfl)
  have c9 := (hz1.cell 9).trans (show _ = some (.slice none 0 0) from rfl)
  have ho : w1.ownsRow (w.heap.size + 3) 5 1 (.slice a1 zs.length cap1) zs.length (zs.map (Value.int .u8)) := own_mono o1 (by simp)
  have K := hide (And.intro hB ho)
  have KZ := hide hz0
  clear hz1 hz0 hB ho o1 b1
  go_wp2
  have q0 := KZ.out.other ⟨w.heap.size + 1 + 1, 9, none⟩ (.slice a1 zs.length cap1) (by simp)
  have q1 : Blk _ _ #[.int .i64 k, .int .i64 0, .int .i64 0, .int .i64 0, .int .i64 0, .int .i64 0, .int .i64 0, .int .i64 0, .int .i64 0, .slice none 0 0] 56 := q0.set 0 (.int .i64 k)
  have q2 : Blk _ _ #[.int .i64 k, .int .i64 l, .int .i64 0, .int .i64 0, .int .i64 0, .int .i64 0, .int .i64 0, .int .i64 0, .int .i64 0, .slice none 0 0] 56 := q1.set 1 (.int .i64 l)
  have q3 : Blk _ _ #[.int .i64 k, .int .i64 l, .int .i64 m, .int .i64 0, .int .i64 0, .int .i64 0, .int .i64 0, .int .i64 0, .int .i64 0, .slice none 0 0] 56 := q2.set 2 (.int .i64 m)
  have q4 : Blk _ _ #[.int .i64 k, .int .i64 l, .int .i64 m, .int .i64 u, .int .i64 0, .int .i64 0, .int .i64 0, .int .i64 0, .int .i64 0, .slice none 0 0] 56 := q3.set 3 (.int .i64 u)
  have q5 : Blk _ _ #[.int .i64 k, .int .i64 l, .int .i64 m, .int .i64 u, .int .i64 g, .int .i64 0, .int .i64 0, .int .i64 0, .int .i64 0, .slice none 0 0] 56 := q4.set 4 (.int .i64 g)
  have q6 : Blk _ _ #[.int .i64 k, .int .i64 l, .int .i64 m, .int .i64 u, .int .i64 g, .int .i64 p, .int .i64 0, .int .i64 0, .int .i64 0, .slice none 0 0] 56 := q5.set 5 (.int .i64 p)
  have q7 : Blk _ _ #[.int .i64 k, .int .i64 l, .int .i64 m, .int .i64 u, .int .i64 g, .int .i64 p, .int .i64 e, .int .i64 0, .int .i64 0, .slice none 0 0] 56 := q6.set 6 (.int .i64 e)
  have q8 : Blk _ _ #[.int .i64 k, .int .i64 l, .int .i64 m, .int .i64 u, .int .i64 g, .int .i64 p, .int .i64 e, .int .i64 t, .int .i64 0, .slice none 0 0] 56 := q7.set 7 (.int .i64 t)
  have q9 : Blk _ _ #[.int .i64 k, .int .i64 l, .int .i64 m, .int .i64 u, .int .i64 g, .int .i64 p, .int .i64 e, .int .i64 t, .int .i64 c, .slice none 0 0] 56 := q8.set 8 (.int .i64 c)
  have q10 : Blk _ _ #[.int .i64 k, .int .i64 l, .int .i64 m, .int .i64 u, .int .i64 g, .int .i64 p, .int .i64 e, .int .i64 t, .int .i64 c, .slice a1 zs.length cap1] 56 := q9.set 9 (.slice a1 zs.length cap1)
  have KQ := hide q10
  clear q0 q1 q2 q3 q4 q5 q6 q7 q8 q9 q10 KZ
  refine bodyPost_ret (v := nodeV k l m u g p e t c (.slice a1 zs.length cap1)) ?_ rfl ⟨_, rfl, own_mono ?_ (by omega : w.heap.size ≤ w.heap.size + 3), ?_⟩
  · exact results_cell_row rfl _ _ (w.heap.size + 1) 56 #[.int .i64 k, .int .i64 l, .int .i64 m, .int .i64 u, .int .i64 g, .int .i64 p, .int .i64 e, .int .i64 t, .int .i64 c, .slice a1 zs.length cap1] (0, 0) _ rfl KQ.out Tryz.underlying56 rfl (by kernel_rfl)
  · repeat (refine own_aside ?_ _ _ (by simp <;> omega))
    exact K.out.2
  · repeat (refine Below.setCell ?_ (by simp <;> omega) _)
    exact K.out.1
end Go.Proofs.YtplieplmhdfndaaGreatDoor

namespace Go.Proofs.YtplieplmhdfndaaGreatDoor
set_option linter.unusedVariables false
set_option linter.unusedSimpArgs false
open Go.RowKit

theorem eqNode_same (k l m u g p e t c : Int) (v1 v2 : Value) (zs : List Int) (w : World) (h1 : Rd .u8 w v1 zs) (h2 : Rd .u8 w v2 zs) :
    Calls Tryz.prog 67 #[nodeV k l m u g p e t c v1, nodeV k l m u g p e t c v2] w fun x w' => x = .returned (.bool true) ∧ Below w.heap.size w w' := by
  have H := hide (And.intro h1 h2)
  have hsh : ∃ a cap, v1 = .slice a zs.length cap := by obtain ⟨a, cap, h1, _⟩ := h1; exact ⟨a, cap, h1⟩
  obtain ⟨a, cap, rfl⟩ := hsh
  have hsh : ∃ a cap, v2 = .slice a zs.length cap := by obtain ⟨a, cap, h1, _⟩ := h2; exact ⟨a, cap, h1⟩
  obtain ⟨a2, cap2, rfl⟩ := hsh
  have HB := hide (show ∀ o o2, Below w.heap.size w ((w.alloc o).alloc o2) from fun o o2 => ((Below.refl _ _).alloc (Nat.le_refl _) o).alloc (by simp) o2)
  clear h1 h2
  go_enter Tryz.func67, Tryz.ntmps67
  go_wp2_with (go_at_call 106; refine (eqByteS_same _ _ zs _ (H.out.1.below (HB.out _ _)) (H.out.2.below (HB.out _ _))).mono ?_; rintro e w1 ⟨rfl, b1⟩; have HB2 := hide ((HB.out _ _).trans (b1.mono (HB.out _ _).size)); clear b1)
  go_ret
  exact ⟨rfl, HB2.out⟩

theorem infoN10 : (Tryz.prog.info? 56).map (·.size) = some 10 := by kernel_rfl
theorem infoLN10 : (Tryz.prog.info? 118).map (·.size) = some 10 := by kernel_rfl
end Go.Proofs.YtplieplmhdfndaaGreatDoor

namespace Go.Proofs.YtplieplmhdfndaaGreatDoor
set_option linter.unusedVariables false
set_option linter.unusedSimpArgs false
open Go.RowKit

theorem ndE_pre (L : List Nd) : ∀ l ∈ L.map ndE, l.1.length = 9 := by
  intro l hl
  obtain ⟨x, _, rfl⟩ := List.mem_map.1 hl
  rfl
theorem infoNz : (Tryz.prog.info? 56).map (fun i => (i.zero, i.size, i.bytes)) = some (some (.agg #[.int .i64 0, .int .i64 0, .int .i64 0, .int .i64 0, .int .i64 0, .int .i64 0, .int .i64 0, .int .i64 0, .int .i64 0, .slice none 0 0]), 10, 96) := by kernel_rfl
theorem oneNd (x : Nd) (a : Option Addr) (n c : Nat) : (#[.int .i64 x.k, .int .i64 x.l, .int .i64 x.m, .int .i64 x.u, .int .i64 x.g, .int .i64 x.p, .int .i64 x.e, .int .i64 x.t, .int .i64 x.c, Value.slice a n c] : Array Value).all (·.oneCell') = true := by kernel_rfl
set_option maxRecDepth 100000 in
set_option maxHeartbeats 1000000 in
theorem szNodeS_any (v : Value) (L : List Nd) (us : List Value) (w : World) (h : RdN w 9 v (L.map ndE) us) :
    Calls Tryz.prog 32 #[v, .int .i64 1048576] w fun e w' => ∃ r : Int, e = .returned (.int .i64 r) ∧ (0 ≤ r → r ≤ 1048576 ∧ L.length ≤ 1048576 ∧ totN L ≤ 1048576) ∧ Below w.heap.size w w' := by
  obtain ⟨a, cap, rfl⟩ : ∃ a cap, v = .slice a L.length cap := by obtain ⟨a, cap, e, _⟩ := h.row; exact ⟨a, cap, by simpa using e⟩
  have hm : L.length ≤ 9223372036854775807 := by obtain ⟨a, cap, _, _, g1, g2⟩ := h.row; unfold maxLen at g2; simp at g1; omega
  have HQ := hide h
  obtain ⟨N, hN⟩ : ∃ N, N = L.length := ⟨_, rfl⟩
  have HN := hide hN
  rw [← hN] at hm HQ ⊢
  clear h hN
  by_cases hbig : (1048576 : Int) < (N : Int)
  · go_enter Tryz.func32, Tryz.ntmps32
    go_wp2
    go_ret
    exact ⟨-1, rfl, fun h => by omega, Below.refl _ _⟩
  · have hq : N ≤ 1048576 := by omega
    go_enter Tryz.func32, Tryz.ntmps32
    go_wp2
    go_loopw [1, 5] (fun x i wr => ∃ (k : Nat) (l : Int), k ≤ N ∧ i = .int .i64 (k : Int) ∧ x = .int .i64 l ∧ 0 ≤ l ∧ l ≤ 1048576 ∧ Hid ((totN (L.take k) : Int) + l ≤ 1048576) ∧ Hid (Below w.heap.size w wr)) (fun _ i _ => N - (intOf i).toNat)
    case atStart => exact ⟨0, _, Nat.zero_le _, rfl, rfl, by omega, by omega, by show (totN (L.take 0) : Int) + _ ≤ _; simp [totN]; omega, Below.refl _ _⟩
    case round =>
      obtain ⟨k, l, hk, rfl, rfl, hl0, hl1, HP, HB⟩ := hrel
      by_cases hlt : k < N
      · obtain ⟨b, off, cap', na, nc, e0, hb0, hrd, hu, hrg⟩ := node_at (HQ.out.below HB.out) (i := k) (by rw [← HN.out]; exact hlt)
        injection e0 with e1 e2 e3
        subst e1 e3
        obtain ⟨x, hx⟩ : ∃ x, x = ndAt L k := ⟨_, rfl⟩
        have HTS := hide (totN_succ L k (by rw [← HN.out]; exact hlt))
        rw [← hx] at hrd hrg HTS
        obtain ⟨q, hq'⟩ : ∃ q, q = x.d.length := ⟨_, rfl⟩
        have HRd := hide hrd
        rw [← hq'] at hrd hrg HTS
        have HRg := hide (show wr.rangeAt b (off + k * 10) [.int .i64 x.k, .int .i64 x.l, .int .i64 x.m, .int .i64 x.u, .int .i64 x.g, .int .i64 x.p, .int .i64 x.e, .int .i64 x.t, .int .i64 x.c, .slice na q nc] from hrg)
        have HSZ := hide (show Calls Tryz.prog 53 #[.agg #[.int .i64 x.k, .int .i64 x.l, .int .i64 x.m, .int .i64 x.u, .int .i64 x.g, .int .i64 x.p, .int .i64 x.e, .int .i64 x.t, .int .i64 x.c, .slice na q nc], .int .i64 l] wr _ from by rw [hq']; exact szNode_any x.k x.l x.m x.u x.g x.p x.e x.t x.c (.slice na x.d.length nc) x.d l wr HRd.out hl0 hl1)
        rw [← hq'] at HSZ
        clear hrg hrd hu e2 hb0 hx hq'
        go_wp2_with (first | (refine wpList_load_mid rfl 118 _ rfl b (off + k * 10) rfl [.int .i64 x.k, .int .i64 x.l, .int .i64 x.m, .int .i64 x.u, .int .i64 x.g, .int .i64 x.p, .int .i64 x.e, .int .i64 x.t, .int .i64 x.c, .slice na q nc] _ HRg.out Tryz.underlying118 rfl infoLN10 ?_) | (go_at_call 53; fail))
        refine HSZ.out.mono ?_
        rintro e w2 ⟨rfl, b2⟩
        have B2 := hide (HB.out.trans (b2.mono HB.out.size))
        clear b2 HSZ
        by_cases hzs : l < (q : Int)
        · rw [if_pos hzs]
          go_wp2
          go_ret
          first
          | exact ⟨-1, rfl, fun h => by omega, B2.out⟩
          | exact ⟨_, rfl, fun h => by omega, B2.out⟩
        · rw [if_neg hzs]
          have hq2 : decide (l - (q : Int) < 0) = false := by simp; omega
          have HP2 := hide (show (totN (L.take (k + 1)) : Int) + (l - (q : Int)) ≤ 1048576 from by rw [HTS.out]; have := HP.out; omega)
          clear HTS
          go_wp2
          go_roundw
          case rel => exact ⟨k + 1, _, by omega, by go_num, rfl, by omega, by omega, HP2, B2⟩
          case measure => simp [intOf]; omega
      · have hkN : k = N := by omega
        have HTE := hide (show totN (L.take k) = totN L from by rw [hkN, HN.out, List.take_length])
        clear hkN
        go_wp2
        go_ret
        exact ⟨_, rfl, fun h => ⟨by omega, by first | omega | (rw [← HN.out]; omega), by have := HP.out; rw [HTE.out] at this; omega⟩, HB.out⟩
end Go.Proofs.YtplieplmhdfndaaGreatDoor
