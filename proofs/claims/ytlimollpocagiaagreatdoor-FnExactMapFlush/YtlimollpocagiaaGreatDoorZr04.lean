/- The counts of a map: MapCount of the model and of the program. A plane set in a map: the mathematics of bits and of the rows. A plane set in a map: the program's MapPlane. The free blocks of a map from a cursor on: the mathematics; the block behind one. The writing of the map: mathematics. -/
import Derived.Test.YtlimollpocagiaaGreatDoorZr03
import Derived.Deep.RegionHeld3
import Derived.Laws.BitsLemmas
import Derived.Test.YtlimollpocagiaaGreatDoorZr02
namespace Go.Proofs.YtlimollpocagiaaGreatDoor
set_option linter.unusedVariables false
set_option linter.unusedSimpArgs false
open Go.RowKit

/-- Bit p of a word. -/
def bitN (z p : Nat) : Nat := z / 2 ^ p % 2
theorem wraps_i64 (n : Int) (h0 : 0 ≤ n) (h1 : n < 2 ^ 63) : IntKind.i64.wrap n = n := by rw [IntKind.wrap_i64]; omega
theorem bit_any (z p : Nat) (w : World) (hz : z ≤ 4294967295) (hp : p < 32) :
    Calls Tryz.prog 119 #[.int .i64 (z : Int), .int .i64 (p : Int)] w fun e w' => e = .returned (.int .i64 (bitN z p : Nat)) ∧ w' = w := by
  have H0 := hide (show z / 2 ^ 0 = z from by simp)
  have HS := hide (show ∀ k, z / 2 ^ (k + 1) = z / 2 ^ k / 2 from fun k => by rw [Nat.pow_succ, Nat.div_div_eq_div_mul])
  have HL := hide (show ∀ k, z / 2 ^ k ≤ 4294967295 from fun k => Nat.le_trans (Nat.div_le_self _ _) hz)
  have HB := hide (show bitN z p = z / 2 ^ p % 2 from rfl)
  go_enter Tryz.func119, Tryz.ntmps119
  go_wp2
  go_loop [0, 5] (fun a i => ∃ k y : Nat, k ≤ p ∧ i = .int .i64 k ∧ a = .int .i64 y ∧ y = z / 2 ^ k) (fun _ i => p - (intOf i).toNat)
  case atStart => exact ⟨0, z, by omega, rfl, rfl, H0.out.symm⟩
  case round =>
    obtain ⟨k, y, hk, rfl, rfl, hy⟩ := hrel
    have hyl : y ≤ 4294967295 := by rw [hy]; exact HL.out k
    have HY := hide hy
    clear hy hz
    by_cases hlt : k < p
    · go_wp2
      go_round
      case rel => exact ⟨k + 1, y / 2, by omega, by go_num, by go_num, by rw [HS.out, ← HY.out]⟩
      case measure => simp [intOf]; omega
    · have ek : k = p := by omega
      subst ek
      go_wp2
      go_ret
      exact ⟨ret_int (by rw [HB.out, ← HY.out]; omega), rfl⟩

end Go.Proofs.YtlimollpocagiaaGreatDoor

namespace Go.Proofs.YtlimollpocagiaaGreatDoor
set_option linter.unusedVariables false
set_option linter.unusedSimpArgs false
open Go.RowKit

def clrN (y p : Nat) : Nat := y - bitN y p * 2 ^ p
def putN (y p : Nat) : Nat := clrN y p + 2 ^ p
theorem bitN_lt (y p : Nat) : bitN y p < 2 := Nat.mod_lt _ (by decide)
theorem bit_test (x p : Nat) : x.testBit p = decide (bitN x p = 1) := Nat.testBit_eq_decide_div_mod_eq
theorem add_bit (x p : Nat) (h : bitN x p = 0) (i : Nat) : (2 ^ p + x).testBit i = (x.testBit i || decide (p = i)) := by
  rcases Nat.lt_trichotomy i p with hi | rfl | hi
  · rw [Nat.testBit_two_pow_add_gt hi, decide_eq_false (by omega), Bool.or_false]
  · rw [Nat.testBit_two_pow_add_eq, bit_test, h]; simp
  · rw [bit_test, bit_test, decide_eq_false (show ¬ p = i by omega), Bool.or_false]
    have e : (2 ^ p + x) / 2 ^ i = x / 2 ^ i := by
      have hp : 2 ^ i = 2 ^ p * (2 * 2 ^ (i - p - 1)) := by
        rw [← Nat.pow_succ', ← Nat.pow_add]; congr 1; omega
      rw [hp, ← Nat.div_div_eq_div_mul, ← Nat.div_div_eq_div_mul, ← Nat.div_div_eq_div_mul, ← Nat.div_div_eq_div_mul]
      congr 1
      rw [Nat.add_div_left _ (Nat.two_pow_pos p)]
      unfold bitN at h
      generalize x / 2 ^ p = q at h
      omega
    unfold bitN
    rw [e]
theorem split_bit (y p : Nat) : bitN (clrN y p) p = 0 ∧ y = clrN y p + bitN y p * 2 ^ p := by
  have hb := bitN_lt y p
  have hd := Nat.div_mul_le_self y (2 ^ p)
  have hle : bitN y p * 2 ^ p ≤ y := Nat.le_trans (Nat.mul_le_mul_right _ (Nat.mod_le _ _)) hd
  refine ⟨?_, by unfold clrN; omega⟩
  rcases (show bitN y p = 0 ∨ bitN y p = 1 by omega) with h | h
  · unfold clrN; rw [h]; simpa using h
  · have e : y = 2 ^ p + clrN y p := by unfold clrN; rw [h] at hle ⊢; omega
    have h2 : y.testBit p = true := by rw [bit_test, h]; rfl
    rw [e, Nat.testBit_two_pow_add_eq, bit_test] at h2
    have := bitN_lt (clrN y p) p
    simp at h2
    omega
theorem clr_le (y p : Nat) : clrN y p ≤ y := Nat.sub_le _ _
theorem and_clr (y p : Nat) (hy : y < 2 ^ 64) (hp : p < 64) : y &&& (2 ^ 64 - (2 ^ p + 1)) = clrN y p := by
  apply Nat.eq_of_testBit_eq
  intro i
  have h2 : 2 ^ p < 2 ^ 64 := Nat.pow_lt_pow_right (by decide) hp
  have hs := split_bit y p
  have hc := clr_le y p
  have hz : (clrN y p).testBit p = false := by rw [bit_test, hs.1]; rfl
  rw [Nat.testBit_and, Nat.testBit_two_pow_sub_succ h2, Nat.testBit_two_pow]
  by_cases hi : i < 64
  · have hy2 : y.testBit i = ((clrN y p).testBit i || (decide (p = i) && decide (bitN y p = 1))) := by
      rcases (show bitN y p = 0 ∨ bitN y p = 1 by have := bitN_lt y p; omega) with h | h
      · have e : clrN y p = y := by unfold clrN; rw [h]; simp
        rw [e, h]; simp
      · have e : y = 2 ^ p + clrN y p := by have := hs.2; rw [h] at this; omega
        have := add_bit (clrN y p) p hs.1 i
        rw [← e] at this
        rw [this, h]; simp
    rw [hy2]
    by_cases hpi : p = i
    · subst hpi; rw [hz]; simp
    · simp [hpi, hi]
  · have h64 : 2 ^ 64 ≤ 2 ^ i := Nat.pow_le_pow_right (by decide) (by omega)
    rw [Nat.testBit_lt_two_pow (show y < 2 ^ i by omega), Nat.testBit_lt_two_pow (show clrN y p < 2 ^ i by omega)]
    rfl
theorem clr_i64 (y p : Nat) (hy : y ≤ 4294967295) (hp : p < 32) : bits .andNot .i64 (y : Int) ((2 ^ p : Nat) : Int) = (clrN y p : Int) := by
  have h2 : 2 ^ p < 2 ^ 64 := Nat.pow_lt_pow_right (by decide) (by omega)
  have hy' : y % 2 ^ 64 = y := Nat.mod_eq_of_lt (by omega)
  have hp' : 2 ^ p % 2 ^ 64 = 2 ^ p := Nat.mod_eq_of_lt h2
  have e := and_clr y p (by omega) (by omega)
  have hc := clr_le y p
  have eb : IntKind.i64.bits = 64 := rfl
  have : (BitVec.ofInt IntKind.i64.bits (y : Int) &&& ~~~ BitVec.ofInt IntKind.i64.bits ((2 ^ p : Nat) : Int)).toNat = clrN y p := by
    rw [eb, BitVec.ofInt_natCast, BitVec.ofInt_natCast, BitVec.toNat_and, BitVec.toNat_not, BitVec.toNat_ofNat, BitVec.toNat_ofNat, hy', hp', ← e]
    congr 1
    omega
  show IntKind.i64.wrap ((BitVec.ofInt IntKind.i64.bits (y : Int) &&& ~~~ BitVec.ofInt IntKind.i64.bits ((2 ^ p : Nat) : Int)).toNat : Int) = _
  rw [this]
  exact wraps_i64 _ (by omega) (by omega)
/-- The blocks of a set, as far as k: all inside 2 to n - 1; whether b is one. -/
def insB (n : Nat) (z : Int) : Bool := decide (2 ≤ z) && decide (z < n)
def withN (y p : Nat) (i : Bool) : Nat := if i then putN y p else clrN y p
theorem right_word (ws : List Int) (hr : rightM ws = true) (k : Nat) (hk : k < ws.length) : ∃ y : Nat, ws.getD k 0 = (y : Int) ∧ y ≤ 4294967295 := by
  unfold rightM at hr
  rw [Bool.and_eq_true] at hr
  have h1 := okTo_mono ws ws.length (k + 1) (by omega) hr.2
  have h2 : (okTo ws k && (wordB (ws.getD k 0) && headB k (ws.getD k 0))) = true := h1
  simp only [Bool.and_eq_true] at h2
  have h3 := h2.2.1
  generalize ws.getD k 0 = z at h3
  simp [wordB] at h3
  exact ⟨z.toNat, by omega, by omega⟩
theorem right_len (ws : List Int) (hr : rightM ws = true) : 64 ≤ ws.length ∧ ws.length ≤ 2048 := by
  unfold rightM sizeB at hr
  simp at hr
  omega
end Go.Proofs.YtlimollpocagiaaGreatDoor

namespace Go.Proofs.YtlimollpocagiaaGreatDoor
set_option linter.unusedVariables false
set_option linter.unusedSimpArgs false
open Go.RowKit

theorem isBlockN_any (z : Int) (n : Nat) (w : World) :
    Calls Tryz.prog 59 #[.int .i64 z, .int .i64 (n : Int)] w fun e w' => e = .returned (.bool (insB n z)) ∧ w' = w := by
  by_cases h1 : 2 ≤ z <;> by_cases h2 : z < (n : Int)
  all_goals
    have HI := hide (show insB n z = (decide (2 ≤ z) && decide (z < (n : Int))) from rfl)
    go_enter Tryz.func59, Tryz.ntmps59
    go_wp2
    go_ret
    exact ⟨ret_bool (by rw [HI.out]; simp [h1, h2]), rfl⟩

theorem own_splice {w : World} {g n : Nat} {e : TypeId} {xs : List Value} (h : w.heap[g]? = some (.cells xs.toArray e (0, 0))) (hn : xs.length = n) (hm : n ≤ maxLen) (base : Nat) (hb : base ≤ g) : w.ownsRow base e 1 (.slice (some ⟨g, 0, none⟩) n n) n xs :=
  ⟨by omega, .inr ⟨g, n, xs.toArray, rfl, hb, h, Nat.le_refl _, hm, by simp [hn], by rw [Nat.mul_one]; exact List.take_of_length_le (by simp; omega)⟩⟩

theorem own_full {w : World} {base g n : Nat} {e : TypeId} {xs : List Value} (h : w.ownsRow base e 1 (.slice (some ⟨g, 0, none⟩) n n) n xs) : w.heap[g]? = some (.cells xs.toArray e (0, 0)) := by
  rcases h.2 with ⟨h1, _⟩ | ⟨g', cap, cur, e1, hb, hg, hnc, hcm, hcs, htake⟩
  · cases h1
  · injection e1 with e1 e2 e3
    injection e1 with e1
    injection e1 with e1
    subst e1 e3
    rw [hg]
    have : cur = xs.toArray := by
      apply Array.ext'
      rw [← htake, List.take_of_length_le (by simp; omega)]
    rw [this]
theorem splice_all {α : Type} (L X : List α) (h : L.length = X.length) : splice L 0 X = X := by
  unfold splice
  rw [List.drop_of_length_le (by omega)]
  simp

set_option maxRecDepth 100000 in
set_option maxHeartbeats 400000 in
theorem copyW_any (v : Value) (ws : List Int) (w : World) (h : Rd .i64 w v ws) (hn : ws.length ≤ 1048576) :
    Calls Tryz.prog 63 #[v] w fun e w' => e = .returned (.slice (some ⟨w.heap.size, 0, none⟩) ws.length ws.length) ∧ w'.ownsRow w.heap.size 3 1 (.slice (some ⟨w.heap.size, 0, none⟩) ws.length ws.length) ws.length (ws.map (Value.int .i64)) ∧ Below w.heap.size w w' := by
  obtain ⟨i0, hi, hz0, hz1, hz2⟩ := info_parts infoI64
  have hm := h.len
  have HN := hide (show ws.length ≤ maxLen from hm)
  unfold maxLen at hm
  obtain ⟨X, hX⟩ : ∃ X, X = ws.map (Value.int .i64) := ⟨_, rfl⟩
  have HX := hide (show X.length = ws.length ∧ (∀ v ∈ X, v.oneCell' = true) from by subst hX; refine ⟨by simp, ?_⟩; intro v hv; simp at hv; obtain ⟨z, _, rfl⟩ := hv; rfl)
  have HSrc := hide (show ∀ a cap, v = .slice a ws.length cap → 0 < X.length → ∃ ad, a = some ad ∧ ∀ j u, X[j]? = some u → w.cell? (ad.add j) = some u from by
    intro a cap e hpos
    obtain ⟨b, off, cap', rfl, hbw, _, _, hcell⟩ := h.partsC (by subst hX; simpa using hpos)
    injection e with e1 e2 e3
    subst e1
    refine ⟨_, rfl, fun j u hu => ?_⟩
    have hj : j < ws.length := by
      rcases Nat.lt_or_ge j ws.length with h1 | h1
      · exact h1
      · rw [hX, List.getElem?_eq_none (by simp; omega)] at hu; cases hu
    have ea : (⟨b, off, none⟩ : Addr).add j = ⟨b, off + j, none⟩ := by
      unfold Addr.add
      split
      · rename_i h; subst h; rfl
      · rfl
    rw [ea]
    rw [hcell j hj]
    rw [hX] at hu
    simp [hj] at hu
    rw [← hu]
    simp [List.getD, hj])
  have hsh : ∃ a cap, v = .slice a ws.length cap := by obtain ⟨a, cap, h1, _⟩ := h; exact ⟨a, cap, h1⟩
  obtain ⟨a0, cap0, rfl⟩ := hsh
  rw [← hX]
  clear h hX
  go_enter Tryz.func63, Tryz.ntmps63
  go_wp2_with (first
    | (refine wpList_make_full _ rfl (.tmp 5) (.tmp 5) 29 rfl w.heap.size 3 i0 (.int .i64 0) 1 Tryz.underlying29 hi hz0 hz1 .i64 .i64 ws.length ws.length ws.length rfl rfl rfl rfl (by rw [hz2]; omega) (by unfold maxLen; omega) (Nat.le_refl _) ?_; intro w1 hown hgrow; rw [made_one _ _ rfl] at hown; have H1 := hide (And.intro hown hgrow); clear hown hgrow)
    | (refine wpList_copy_splice rfl (.tmp 7) (.tmp 8) 29 29 rfl 3 Tryz.underlying29 (by rw [hi]; exact congrArg some hz1) (some ⟨w.heap.size, 0, none⟩) a0 ws.length ws.length ws.length cap0 rfl rfl w.heap.size 0 (List.replicate ws.length (.int .i64 0)) 3 (own_full H1.out.1) X (by rw [HX.out.1]; exact (Nat.min_self _).symm) (fun hpos => ⟨rfl, ?_⟩) (by rw [HX.out.1, List.length_replicate, Nat.zero_add]; exact Nat.le_refl _) HX.out.2 w.heap.size w ((Below.refl _ _).grown H1.out.2 (Nat.le_refl _) (fun k h => by cases h)) (Nat.le_refl _) ?_))
  · obtain ⟨ad, e, hc⟩ := HSrc.out _ _ rfl hpos
    refine ⟨ad, e, fun j v hv => ?_⟩
    exact (((Below.refl _ _).grown H1.out.2 (Nat.le_refl _) (fun k h => by cases h)).cell (cell_lt (hc j v hv))).trans (hc j v hv)
  · intro w2 h2 hb2
    have H2 := hide (And.intro h2 hb2)
    clear h2 hb2
    go_wp2
    go_ret
    refine ⟨rfl, own_splice ?_ HX.out.1 HN.out _ (Nat.le_refl _), H2.out.2⟩
    have h := H2.out.1.out
    rw [splice_all _ _ (by rw [HX.out.1]; simp)] at h
    exact h
end Go.Proofs.YtlimollpocagiaaGreatDoor

namespace Go.Proofs.YtlimollpocagiaaGreatDoor
set_option linter.unusedVariables false
set_option linter.unusedSimpArgs false
open Go.RowKit

/-- The block at place i from cursor c on, round the end of n blocks. -/
def ordAt (n c i : Nat) : Nat := if c + i < n then c + i else c + i - n + 2
/-- The block behind b. -/
def behI (n : Nat) (x : Int) : Int := if x = (n : Int) - 1 then 2 else wrap64 (x + 1)
theorem ord_in (n c i : Nat) (h2 : 2 ≤ c) (hc : c < n) (hi : i < n - 2) : 2 ≤ ordAt n c i ∧ ordAt n c i < n := by
  unfold ordAt; split <;> omega
theorem ord_zero (n c : Nat) (hc : c < n) : ordAt n c 0 = c := by unfold ordAt; rw [if_pos (by omega)]; rfl
theorem ord_succ (n c i : Nat) (h2 : 2 ≤ c) (hc : c < n) (hn : n ≤ 2048) (hi : i < n - 2) : ((ordAt n c (i + 1) : Nat) : Int) = behI n (ordAt n c i : Nat) := by
  unfold behI ordAt wrap64
  split <;> split <;> split <;> omega
def isFree (ws : List Int) (b : Nat) : Bool := decide (ws.getD b 0 = 0)
def freesTo (ws : List Int) (c k : Nat) : List Int := (((List.range k).map (ordAt ws.length c)).filter (isFree ws)).map fun b : Nat => (b : Int)
theorem frees_yes (ws : List Int) (c k : Nat) (h : ws.getD (ordAt ws.length c k) 0 = 0) : freesTo ws c (k + 1) = freesTo ws c k ++ [((ordAt ws.length c k : Nat) : Int)] := by
  have e : isFree ws (ordAt ws.length c k) = true := by unfold isFree; rw [h]; rfl
  simp [freesTo, List.range_succ, List.filter_cons, e]
theorem frees_no (ws : List Int) (c k : Nat) (h : ¬ ws.getD (ordAt ws.length c k) 0 = 0) : freesTo ws c (k + 1) = freesTo ws c k := by
  have e : isFree ws (ordAt ws.length c k) = false := by unfold isFree; exact decide_eq_false h
  simp [freesTo, List.range_succ, List.filter_cons, e]
theorem frees_pre (ws : List Int) (c k : Nat) : ∀ m, k ≤ m → freesTo ws c k <+: freesTo ws c m
  | 0, h => by have : k = 0 := by omega
               subst this; exact List.prefix_refl _
  | m + 1, h => by
    by_cases e : k = m + 1
    · subst e; exact List.prefix_refl _
    · have h1 := frees_pre ws c k m (by omega)
      by_cases hz : ws.getD (ordAt ws.length c m) 0 = 0
      · rw [frees_yes ws c m hz]; exact h1.trans (List.prefix_append _ _)
      · rw [frees_no ws c m hz]; exact h1
def freesM (ws : List Int) (c : Nat) : List Int := freesTo ws c (ws.length - 2)
theorem behind_any (x : Int) (n : Nat) (w : World) (hn : 2 ≤ n) (hn2 : n ≤ 1048576) :
    Calls Tryz.prog 116 #[.int .i64 x, .int .i64 (n : Int)] w fun e w' => e = .returned (.int .i64 (behI n x)) ∧ w' = w := by
  by_cases h : x = (n : Int) - 1
  · have HB := hide (show behI n x = 2 from by unfold behI; rw [if_pos h])
    subst h
    go_enter Tryz.func116, Tryz.ntmps116
    go_wp2
    go_ret
    exact ⟨ret_int (by rw [HB.out]), rfl⟩
  · have HB := hide (show behI n x = wrap64 (x + 1) from by unfold behI; rw [if_neg h])
    have hq : (x == (n : Int) - 1) = false := by simpa using h
    go_enter Tryz.func116, Tryz.ntmps116
    go_wp2
    go_ret
    exact ⟨ret_int (by rw [HB.out]), rfl⟩
theorem specBehind_any (x : Int) (n : Nat) (w : World) (hn : 2 ≤ n) (hn2 : n ≤ 1048576) :
    Calls Tryz.prog 107 #[.int .i64 (n : Int), .int .i64 x] w fun e w' => e = .returned (.int .i64 (behI n x)) ∧ w' = w := by
  by_cases h : x = (n : Int) - 1
  · have HB := hide (show behI n x = 2 from by unfold behI; rw [if_pos h])
    subst h
    go_enter Tryz.func107, Tryz.ntmps107
    go_wp2
    go_ret
    exact ⟨ret_int (by rw [HB.out]), rfl⟩
  · have HB := hide (show behI n x = wrap64 (x + 1) from by unfold behI; rw [if_neg h])
    have hq : (x == (n : Int) - 1) = false := by simpa using h
    go_enter Tryz.func107, Tryz.ntmps107
    go_wp2
    go_ret
    exact ⟨ret_int (by rw [HB.out]), rfl⟩
end Go.Proofs.YtlimollpocagiaaGreatDoor

namespace Go.Proofs.YtlimollpocagiaaGreatDoor
set_option linter.unusedVariables false
set_option linter.unusedSimpArgs false
open Go.RowKit

/-- A map in the writing: its words, the places given (the data blocks', then Single's), which were given in order, the cursor. -/
structure FD where
  ws : List Int
  pl : List Int
  od : List Nat
  cu : Nat
def partW (ws : List Int) (k : Nat) : List Int := (List.range 128).map fun j => ws.getD (128 * k + j) 0
/-- A word without its first plane. -/
def even (z : Int) : Int := z - z % 2
def clrB (ws : List Int) (o : Int) : List Int := if o = 0 then ws else ws.set o.toNat (even (ws.getD o.toNat 0))
/-- The next block that is free now and was free before. -/
def pickB (ws bf : List Int) (c : Nat) : Option Nat := ((List.range (ws.length - 2)).map (ordAt ws.length c)).find? fun b => decide (ws.getD b 0 = 0) && decide (bf.getD b 0 = 0)
def moveF (ol : List Int) (s : FD) (k b : Nat) : FD := ⟨clrB (s.ws.set b 1) (ol.getD k 0), s.pl.set k (b : Int), s.od ++ [k], (behI s.ws.length b).toNat⟩
def farF (m : Nat) (pl : List Int) : Bool := (List.range m).any fun k => decide (12 ≤ k) && decide (pl.getD k 0 ≠ 0)
def staleF (m : Nat) (bf ol : List Int) (s : FD) (k : Nat) : Bool := decide (s.pl.getD k 0 = 0) && (decide (ol.getD k 0 = 0) || if k < m then decide (partW s.ws k ≠ partW bf k) else farF m s.pl)
def giveF (bf ol : List Int) (s : FD) (k : Nat) : FD × Bool := match pickB s.ws bf s.cu with
  | some b => (moveF ol s k b, true)
  | none => (s, false)
def stepF (m : Nat) (bf ol : List Int) (s : FD × Bool) (k : Nat) : FD × Bool := if s.2 && staleF m bf ol s.1 k then giveF bf ol s.1 k else s
def posL (m : Nat) : List Nat := List.range m ++ if 12 < m then [m] else []
def passF (m : Nat) (bf ol : List Int) (s : FD) : FD × Bool := (posL m).foldl (stepF m bf ol) (s, true)
/-- All passes. -/
def runF (m : Nat) (bf ol : List Int) : Nat → FD → FD × Bool
  | 0, s => (s, true)
  | f + 1, s => if (passF m bf ol s).2 && decide ((passF m bf ol s).1.od.length ≠ s.od.length) then runF m bf ol f (passF m bf ol s).1 else passF m bf ol s

/-- What holds of a map in the writing. -/
structure WfD (m n : Nat) (s : FD) : Prop where
  wl : s.ws.length = n
  wr : ∀ z ∈ s.ws, 0 ≤ z ∧ z < 4294967296
  pn : s.pl.length = m + 1
  pr : ∀ k, s.pl.getD k 0 = 0 ∨ (2 ≤ s.pl.getD k 0 ∧ s.pl.getD k 0 < n)
  on : ∀ k, k ∈ s.od ↔ s.pl.getD k 0 ≠ 0
  od : s.od.Nodup
  cu : 2 ≤ s.cu ∧ s.cu < n
theorem WfD.odlt {m n : Nat} {s : FD} (h : WfD m n s) : ∀ k ∈ s.od, k < m + 1 := fun k hk => by
  have h1 := (h.on k).1 hk
  rcases Nat.lt_or_ge k (m + 1) with h2 | h2
  · exact h2
  · exact absurd (by simp [List.getD, List.getElem?_eq_none (by rw [h.pn]; exact h2)]) h1
theorem nodup_le : ∀ (l : List Nat) (n : Nat), l.Nodup → (∀ k ∈ l, k < n) → l.length ≤ n := by
  intro l n h1 h2
  have h3 : l ⊆ List.range n := fun k hk => List.mem_range.2 (h2 k hk)
  have h4 := List.Nodup.length_le_of_subset h1 h3
  simpa using h4
theorem WfD.odlen {m n : Nat} {s : FD} (h : WfD m n s) : s.od.length ≤ m + 1 := nodup_le _ _ h.od h.odlt
theorem pick_some {ws bf : List Int} {c b : Nat} (h2 : 2 ≤ c) (hc : c < ws.length) (h : pickB ws bf c = some b) : 2 ≤ b ∧ b < ws.length ∧ ws.getD b 0 = 0 ∧ bf.getD b 0 = 0 := by
  unfold pickB at h
  have h1 := List.mem_of_find?_eq_some h
  have h3 := List.find?_some h
  obtain ⟨i, hi, rfl⟩ := List.mem_map.1 h1
  have h4 := ord_in ws.length c i h2 hc (List.mem_range.1 hi)
  simp only [Bool.and_eq_true, decide_eq_true_eq] at h3
  exact ⟨h4.1, h4.2, h3⟩
theorem beh_in {n b : Nat} (h2 : 2 ≤ b) (hb : b < n) (hn : n ≤ 2048) : behI n b = ((behI n b).toNat : Int) ∧ 2 ≤ (behI n b).toNat ∧ (behI n b).toNat < n := by
  unfold behI wrap64
  split <;> omega
theorem getD_set (l : List Int) (i j : Nat) (x : Int) (hi : i < l.length) : (l.set i x).getD j 0 = if j = i then x else l.getD j 0 := by
  simp only [List.getD, List.getElem?_set]
  by_cases h : i = j
  · subst h; simp [hi]
  · rw [if_neg h, if_neg (fun e => h e.symm)]
theorem even_in {z : Int} (h : 0 ≤ z ∧ z < 4294967296) : 0 ≤ even z ∧ even z < 4294967296 := by unfold even; omega
theorem clr_len (ws : List Int) (o : Int) : (clrB ws o).length = ws.length := by unfold clrB; split <;> simp
theorem getD_in {ws : List Int} (h : ∀ z ∈ ws, 0 ≤ z ∧ z < 4294967296) (k : Nat) : 0 ≤ ws.getD k 0 ∧ ws.getD k 0 < 4294967296 := by
  rcases Nat.lt_or_ge k ws.length with hk | hk
  · have : ws.getD k 0 = ws[k] := by simp [List.getD, hk]
    rw [this]
    exact h _ (List.getElem_mem hk)
  · simp [List.getD, List.getElem?_eq_none hk]
theorem clr_in {ws : List Int} (h : ∀ z ∈ ws, 0 ≤ z ∧ z < 4294967296) (o : Int) : ∀ z ∈ clrB ws o, 0 ≤ z ∧ z < 4294967296 := by
  intro z hz
  unfold clrB at hz
  split at hz
  · exact h z hz
  · rcases List.mem_or_eq_of_mem_set hz with hz | rfl
    · exact h z hz
    · exact even_in (getD_in h _)
theorem WfD.move {m n : Nat} {s : FD} (h : WfD m n s) (hn : n ≤ 2048) (ol : List Int) {k b : Nat} (hk : k < m + 1) (h0 : s.pl.getD k 0 = 0) (hb : 2 ≤ b ∧ b < n) : WfD m n (moveF ol s k b) := by
  have hkl : k < s.pl.length := by rw [h.pn]; exact hk
  have e : ∀ j, (moveF ol s k b).pl.getD j 0 = if j = k then (b : Int) else s.pl.getD j 0 := fun j => getD_set _ _ _ _ hkl
  refine ⟨?_, ?_, ?_, fun j => ?_, fun j => ?_, ?_, ?_⟩
  · show (clrB (s.ws.set b 1) _).length = n
    rw [clr_len, List.length_set, h.wl]
  · refine clr_in (fun z hz => ?_) _
    rcases List.mem_or_eq_of_mem_set hz with hz | rfl
    · exact h.wr z hz
    · omega
  · show (s.pl.set k _).length = _
    rw [List.length_set, h.pn]
  · rw [e j]
    split
    · right; omega
    · exact h.pr j
  · rw [e j]
    show j ∈ s.od ++ [k] ↔ _
    rw [List.mem_append, List.mem_singleton, h.on j]
    by_cases hj : j = k
    · subst hj; rw [if_pos rfl]; simp; omega
    · rw [if_neg hj]; simp [hj]
  · show (s.od ++ [k]).Nodup
    rw [List.nodup_append]
    refine ⟨h.od, by simp, fun x hx y hy => ?_⟩
    rw [List.mem_singleton] at hy
    subst hy
    rintro rfl
    exact (h.on _).1 hx h0
  · show 2 ≤ (behI s.ws.length b).toNat ∧ (behI s.ws.length b).toNat < n
    rw [h.wl]
    exact (beh_in hb.1 hb.2 hn).2
theorem stale_zero {m : Nat} {bf ol : List Int} {s : FD} {k : Nat} (h : staleF m bf ol s k = true) : s.pl.getD k 0 = 0 := by
  unfold staleF at h
  simp only [Bool.and_eq_true, decide_eq_true_eq] at h
  exact h.1
theorem pos_lt {m k : Nat} (h : k ∈ posL m) : k < m + 1 := by
  unfold posL at h
  rcases List.mem_append.1 h with h | h
  · have := List.mem_range.1 h; omega
  · split at h
    · rw [List.mem_singleton] at h; omega
    · cases h
theorem WfD.step {m n : Nat} {s : FD × Bool} (h : WfD m n s.1) (hn : n ≤ 2048) (bf ol : List Int) {k : Nat} (hk : k < m + 1) : WfD m n (stepF m bf ol s k).1 ∧ s.1.od.length ≤ (stepF m bf ol s k).1.od.length := by
  unfold stepF
  split
  · rename_i hs
    simp only [Bool.and_eq_true] at hs
    unfold giveF
    split
    · rename_i b hb
      have h1 := pick_some h.cu.1 (by rw [h.wl]; exact h.cu.2) hb
      rw [h.wl] at h1
      exact ⟨h.move hn ol hk (stale_zero hs.2) ⟨h1.1, h1.2.1⟩, by show _ ≤ (s.1.od ++ [k]).length; simp⟩
    · exact ⟨h, Nat.le_refl _⟩
  · exact ⟨h, Nat.le_refl _⟩
theorem WfD.fold {m n : Nat} (hn : n ≤ 2048) (bf ol : List Int) : ∀ (ks : List Nat) (s : FD × Bool), WfD m n s.1 → (∀ k ∈ ks, k < m + 1) → WfD m n (ks.foldl (stepF m bf ol) s).1 ∧ s.1.od.length ≤ (ks.foldl (stepF m bf ol) s).1.od.length
  | [], s, h, _ => ⟨h, Nat.le_refl _⟩
  | k :: ks, s, h, hk => by
    have h1 := h.step hn bf ol (hk k (by simp))
    have h2 := WfD.fold hn bf ol ks _ h1.1 (fun j hj => hk j (by simp [hj]))
    exact ⟨h2.1, Nat.le_trans h1.2 h2.2⟩
theorem WfD.pass {m n : Nat} {s : FD} (h : WfD m n s) (hn : n ≤ 2048) (bf ol : List Int) : WfD m n (passF m bf ol s).1 ∧ s.od.length ≤ (passF m bf ol s).1.od.length := WfD.fold hn bf ol (posL m) (s, true) h (fun k hk => pos_lt hk)
end Go.Proofs.YtlimollpocagiaaGreatDoor
