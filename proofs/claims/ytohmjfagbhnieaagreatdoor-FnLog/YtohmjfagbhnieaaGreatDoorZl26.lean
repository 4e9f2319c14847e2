/- Mathematics of an operation's bytes: what the program reads is what was laid down. told at an operation; DecodeOp of the program. -/
import Derived.Test.YtohmjfagbhnieaaGreatDoorZl25
namespace Go.Proofs.YtohmjfagbhnieaaGreatDoor
set_option linter.unusedVariables false
set_option linter.unusedSimpArgs false
open Go.RowKit

theorem unleL : ∀ (n c : Nat), unle (le n c) = c % 256 ^ n
  | 0, c => by simp [le, unle, Nat.mod_one]
  | n + 1, c => by
    rw [le, unle, unleL n (c / 256), Int.toNat_natCast, Nat.pow_succ, Nat.mul_comm (256 ^ n) 256, Nat.mod_mul]
theorem le_unleL : ∀ (ts : List Int), (∀ z ∈ ts, 0 ≤ z ∧ z < 256) → le ts.length (unle ts) = ts
  | [], _ => rfl
  | z :: ts, h => by
    have h1 := h z (by simp)
    have ih := le_unleL ts (fun y hy => h y (by simp [hy]))
    rw [List.length_cons, le, unle]
    obtain ⟨n, rfl⟩ := Int.eq_ofNat_of_zero_le h1.1
    have hn : n < 256 := by omega
    rw [Int.toNat_natCast, show (n + 256 * unle ts) % 256 = n from by omega, show (n + 256 * unle ts) / 256 = unle ts from by omega, ih]
theorem strI_strOf : ∀ (xs : List Int), (∀ z ∈ xs, 0 ≤ z ∧ z < 256) → strI (strOfNums xs) = xs
  | [], _ => rfl
  | x :: xs, h => by
    have h1 := h x (by simp)
    have ih := strI_strOf xs (fun y hy => h y (by simp [hy]))
    unfold strI at ih ⊢
    rw [strOfNums_data] at ih ⊢
    rw [List.map_cons, List.map_cons, ih]
    congr 1
    simp only [UInt8.toNat_ofNat']
    omega
theorem strOf_strI (nm : ByteArray) : strOfNums (strI nm) = nm := by
  unfold strOfNums strI
  rw [List.map_map]
  have h : ((fun n : Int => UInt8.ofNat n.toNat) ∘ fun b : UInt8 => (b.toNat : Int)) = id := by
    funext b
    simp
  rw [h, List.map_id]
theorem s64_wrap (x : Nat) (h : x < 18446744073709551616) : s64 (wrap64 (x : Int)) = x := by
  unfold s64 wrap64
  omega
theorem wrap_range (x : Int) : -9223372036854775808 ≤ wrap64 x ∧ wrap64 x ≤ 9223372036854775807 := by
  unfold wrap64
  omega
theorem midL {α : Type} (a b c : List α) (i n : Nat) (hi : a.length = i) (hn : b.length = n) : ((a ++ (b ++ c)).drop i).take n = b := by
  subst hi
  subst hn
  simp

theorem bo0 (K : Nat) (A B : Int) (U G : Nat) (p q : ByteArray) (ds : List Int) : ((bytesO K A B U G p q ds).drop (0)).take (1) = le 1 K := by
  have e : bytesO K A B U G p q ds = ([] : List Int) ++ (le 1 K ++ (le 8 (s64 A) ++ le 8 (s64 B) ++ le 2 U ++ le 2 G ++ le 2 p.size ++ strI p ++ le 2 q.size ++ strI q ++ le 4 ds.length ++ ds)) := by simp only [bytesO, partsO, List.flatten_cons, List.flatten_nil, List.append_assoc, List.append_nil, List.nil_append]
  rw [e]
  refine midL _ _ _ _ _ ?_ ?_
  · simp only [List.length_append, le_len, strI_len, List.length_nil]
  · simp only [le_len, strI_len]
theorem bo1 (K : Nat) (A B : Int) (U G : Nat) (p q : ByteArray) (ds : List Int) : ((bytesO K A B U G p q ds).drop (1)).take (8) = le 8 (s64 A) := by
  have e : bytesO K A B U G p q ds = (le 1 K : List Int) ++ (le 8 (s64 A) ++ (le 8 (s64 B) ++ le 2 U ++ le 2 G ++ le 2 p.size ++ strI p ++ le 2 q.size ++ strI q ++ le 4 ds.length ++ ds)) := by simp only [bytesO, partsO, List.flatten_cons, List.flatten_nil, List.append_assoc, List.append_nil, List.nil_append]
  rw [e]
  refine midL _ _ _ _ _ ?_ ?_
  · simp only [List.length_append, le_len, strI_len, List.length_nil]
  · simp only [le_len, strI_len]
theorem bo2 (K : Nat) (A B : Int) (U G : Nat) (p q : ByteArray) (ds : List Int) : ((bytesO K A B U G p q ds).drop (9)).take (8) = le 8 (s64 B) := by
  have e : bytesO K A B U G p q ds = (le 1 K ++ le 8 (s64 A) : List Int) ++ (le 8 (s64 B) ++ (le 2 U ++ le 2 G ++ le 2 p.size ++ strI p ++ le 2 q.size ++ strI q ++ le 4 ds.length ++ ds)) := by simp only [bytesO, partsO, List.flatten_cons, List.flatten_nil, List.append_assoc, List.append_nil, List.nil_append]
  rw [e]
  refine midL _ _ _ _ _ ?_ ?_
  · simp only [List.length_append, le_len, strI_len, List.length_nil] <;> omega
  · simp only [le_len, strI_len]
theorem bo3 (K : Nat) (A B : Int) (U G : Nat) (p q : ByteArray) (ds : List Int) : ((bytesO K A B U G p q ds).drop (17)).take (2) = le 2 U := by
  have e : bytesO K A B U G p q ds = (le 1 K ++ le 8 (s64 A) ++ le 8 (s64 B) : List Int) ++ (le 2 U ++ (le 2 G ++ le 2 p.size ++ strI p ++ le 2 q.size ++ strI q ++ le 4 ds.length ++ ds)) := by simp only [bytesO, partsO, List.flatten_cons, List.flatten_nil, List.append_assoc, List.append_nil, List.nil_append]
  rw [e]
  refine midL _ _ _ _ _ ?_ ?_
  · simp only [List.length_append, le_len, strI_len, List.length_nil] <;> omega
  · simp only [le_len, strI_len]
theorem bo4 (K : Nat) (A B : Int) (U G : Nat) (p q : ByteArray) (ds : List Int) : ((bytesO K A B U G p q ds).drop (19)).take (2) = le 2 G := by
  have e : bytesO K A B U G p q ds = (le 1 K ++ le 8 (s64 A) ++ le 8 (s64 B) ++ le 2 U : List Int) ++ (le 2 G ++ (le 2 p.size ++ strI p ++ le 2 q.size ++ strI q ++ le 4 ds.length ++ ds)) := by simp only [bytesO, partsO, List.flatten_cons, List.flatten_nil, List.append_assoc, List.append_nil, List.nil_append]
  rw [e]
  refine midL _ _ _ _ _ ?_ ?_
  · simp only [List.length_append, le_len, strI_len, List.length_nil] <;> omega
  · simp only [le_len, strI_len]
theorem bo5 (K : Nat) (A B : Int) (U G : Nat) (p q : ByteArray) (ds : List Int) : ((bytesO K A B U G p q ds).drop (21)).take (2) = le 2 p.size := by
  have e : bytesO K A B U G p q ds = (le 1 K ++ le 8 (s64 A) ++ le 8 (s64 B) ++ le 2 U ++ le 2 G : List Int) ++ (le 2 p.size ++ (strI p ++ le 2 q.size ++ strI q ++ le 4 ds.length ++ ds)) := by simp only [bytesO, partsO, List.flatten_cons, List.flatten_nil, List.append_assoc, List.append_nil, List.nil_append]
  rw [e]
  refine midL _ _ _ _ _ ?_ ?_
  · simp only [List.length_append, le_len, strI_len, List.length_nil] <;> omega
  · simp only [le_len, strI_len]
theorem bo6 (K : Nat) (A B : Int) (U G : Nat) (p q : ByteArray) (ds : List Int) : ((bytesO K A B U G p q ds).drop (23)).take (p.size) = strI p := by
  have e : bytesO K A B U G p q ds = (le 1 K ++ le 8 (s64 A) ++ le 8 (s64 B) ++ le 2 U ++ le 2 G ++ le 2 p.size : List Int) ++ (strI p ++ (le 2 q.size ++ strI q ++ le 4 ds.length ++ ds)) := by simp only [bytesO, partsO, List.flatten_cons, List.flatten_nil, List.append_assoc, List.append_nil, List.nil_append]
  rw [e]
  refine midL _ _ _ _ _ ?_ ?_
  · simp only [List.length_append, le_len, strI_len, List.length_nil] <;> omega
  · simp only [le_len, strI_len]
theorem bo7 (K : Nat) (A B : Int) (U G : Nat) (p q : ByteArray) (ds : List Int) : ((bytesO K A B U G p q ds).drop (23 + p.size)).take (2) = le 2 q.size := by
  have e : bytesO K A B U G p q ds = (le 1 K ++ le 8 (s64 A) ++ le 8 (s64 B) ++ le 2 U ++ le 2 G ++ le 2 p.size ++ strI p : List Int) ++ (le 2 q.size ++ (strI q ++ le 4 ds.length ++ ds)) := by simp only [bytesO, partsO, List.flatten_cons, List.flatten_nil, List.append_assoc, List.append_nil, List.nil_append]
  rw [e]
  refine midL _ _ _ _ _ ?_ ?_
  · simp only [List.length_append, le_len, strI_len, List.length_nil] <;> omega
  · simp only [le_len, strI_len]
theorem bo8 (K : Nat) (A B : Int) (U G : Nat) (p q : ByteArray) (ds : List Int) : ((bytesO K A B U G p q ds).drop (25 + p.size)).take (q.size) = strI q := by
  have e : bytesO K A B U G p q ds = (le 1 K ++ le 8 (s64 A) ++ le 8 (s64 B) ++ le 2 U ++ le 2 G ++ le 2 p.size ++ strI p ++ le 2 q.size : List Int) ++ (strI q ++ (le 4 ds.length ++ ds)) := by simp only [bytesO, partsO, List.flatten_cons, List.flatten_nil, List.append_assoc, List.append_nil, List.nil_append]
  rw [e]
  refine midL _ _ _ _ _ ?_ ?_
  · simp only [List.length_append, le_len, strI_len, List.length_nil] <;> omega
  · simp only [le_len, strI_len]
theorem bo9 (K : Nat) (A B : Int) (U G : Nat) (p q : ByteArray) (ds : List Int) : ((bytesO K A B U G p q ds).drop (25 + p.size + q.size)).take (4) = le 4 ds.length := by
  have e : bytesO K A B U G p q ds = (le 1 K ++ le 8 (s64 A) ++ le 8 (s64 B) ++ le 2 U ++ le 2 G ++ le 2 p.size ++ strI p ++ le 2 q.size ++ strI q : List Int) ++ (le 4 ds.length ++ (ds)) := by simp only [bytesO, partsO, List.flatten_cons, List.flatten_nil, List.append_assoc, List.append_nil, List.nil_append]
  rw [e]
  refine midL _ _ _ _ _ ?_ ?_
  · simp only [List.length_append, le_len, strI_len, List.length_nil] <;> omega
  · simp only [le_len, strI_len]
theorem bo10 (K : Nat) (A B : Int) (U G : Nat) (p q : ByteArray) (ds : List Int) : ((bytesO K A B U G p q ds).drop (29 + p.size + q.size)).take (ds.length) = ds := by
  have e : bytesO K A B U G p q ds = (le 1 K ++ le 8 (s64 A) ++ le 8 (s64 B) ++ le 2 U ++ le 2 G ++ le 2 p.size ++ strI p ++ le 2 q.size ++ strI q ++ le 4 ds.length : List Int) ++ (ds ++ ([] : List Int)) := by simp only [bytesO, partsO, List.flatten_cons, List.flatten_nil, List.append_assoc, List.append_nil, List.nil_append]
  rw [e]
  refine midL _ _ _ _ _ ?_ ?_
  · simp only [List.length_append, le_len, strI_len, List.length_nil] <;> omega
  · simp only [le_len, strI_len]
theorem chopL (zs : List Int) (i n j : Nat) (h : j = i + n) : zs.drop i = (zs.drop i).take n ++ zs.drop j := by
  subst h
  rw [← List.drop_drop]
  exact (List.take_append_drop n (zs.drop i)).symm
theorem leAt {zs : List Int} (h : ∀ z ∈ zs, 0 ≤ z ∧ z < 256) (i n x : Nat) (hn : i + n ≤ zs.length) (hx : x = unle ((zs.drop i).take n)) : (zs.drop i).take n = le n x := by
  have hl : ((zs.drop i).take n).length = n := by rw [List.length_take, List.length_drop]; omega
  have h2 := le_unleL ((zs.drop i).take n) (fun z hz => h z (List.mem_of_mem_drop (List.mem_of_mem_take hz)))
  rw [hl, ← hx] at h2
  exact h2.symm
/-- What was read whole is what was laid down. -/
theorem opRd_ok {zs : List Int} {x0 x1 x2 x3 x4 x5 : Nat} {ps : List Int} {x6 : Nat} {qs : List Int} {x7 : Nat} {ds : List Int} {okr : Bool} {pr : Nat} (h : OpRd zs x0 x1 x2 x3 x4 x5 ps x6 qs x7 ds okr pr) (hbd : ∀ z ∈ zs, 0 ≤ z ∧ z < 256) (hok : okr = true) (hl : zs.length = pr) :
    zs = bytesO x0 (wrap64 (x1 : Int)) (wrap64 (x2 : Int)) x3 x4 (strOfNums ps) (strOfNums qs) ds ∧ ∀ z ∈ ds, 0 ≤ z ∧ z < 256 := by
  have hm := h.adv.1.1 hok
  have hpr := h.adv.2 hok
  have g0 := leAt hbd 0 1 x0 (by omega) (h.e0 (by omega))
  have g1 := leAt hbd 1 8 x1 (by omega) (h.e1 (by omega))
  have g2 := leAt hbd 9 8 x2 (by omega) (h.e2 (by omega))
  have g3 := leAt hbd 17 2 x3 (by omega) (h.e3 (by omega))
  have g4 := leAt hbd 19 2 x4 (by omega) (h.e4 (by omega))
  have g5 := leAt hbd 21 2 x5 (by omega) (h.e5 (by omega))
  have g6 := leAt hbd (23 + x5) 2 x6 (by omega) (h.e6 (by omega))
  have g7 := leAt hbd (25 + x5 + x6) 4 x7 (by omega) (h.e7 (by omega))
  have bdp : ∀ z ∈ ps, 0 ≤ z ∧ z < 256 := by rw [h.ep (by omega)]; exact fun z hz => hbd z (List.mem_of_mem_drop (List.mem_of_mem_take hz))
  have bdq : ∀ z ∈ qs, 0 ≤ z ∧ z < 256 := by rw [h.eq (by omega)]; exact fun z hz => hbd z (List.mem_of_mem_drop (List.mem_of_mem_take hz))
  have bdd : ∀ z ∈ ds, 0 ≤ z ∧ z < 256 := by rw [h.ed (by omega)]; exact fun z hz => hbd z (List.mem_of_mem_drop (List.mem_of_mem_take hz))
  have lp : ps.length = x5 := by rw [h.ep (by omega), List.length_take, List.length_drop]; omega
  have lq : qs.length = x6 := by rw [h.eq (by omega), List.length_take, List.length_drop]; omega
  have ld : ds.length = x7 := by rw [h.ed (by omega), List.length_take, List.length_drop]; omega
  have y1 : x1 < 18446744073709551616 := by
    rw [h.e1 (by omega)]
    have := unle_lt ((zs.drop 1).take 8) (fun z hz => hbd z (List.mem_of_mem_drop (List.mem_of_mem_take hz)))
    rw [List.length_take, List.length_drop, show min 8 (zs.length - 1) = 8 from by omega] at this
    omega
  have y2 : x2 < 18446744073709551616 := by
    rw [h.e2 (by omega)]
    have := unle_lt ((zs.drop 9).take 8) (fun z hz => hbd z (List.mem_of_mem_drop (List.mem_of_mem_take hz)))
    rw [List.length_take, List.length_drop, show min 8 (zs.length - 9) = 8 from by omega] at this
    omega
  refine ⟨?_, bdd⟩
  unfold bytesO partsO
  rw [s64_wrap x1 y1, s64_wrap x2 y2, strI_strOf ps bdp, strI_strOf qs bdq, strOfNums_size, strOfNums_size, lp, lq, ld]
  simp only [List.flatten_cons, List.flatten_nil, List.append_nil]
  have e0 : zs = zs.drop 0 := by simp
  conv => lhs; rw [e0]
  rw [chopL zs 0 1 1 (by omega), g0, chopL zs 1 8 9 (by omega), g1, chopL zs 9 8 17 (by omega), g2, chopL zs 17 2 19 (by omega), g3, chopL zs 19 2 21 (by omega), g4, chopL zs 21 2 23 (by omega), g5, chopL zs 23 x5 (23 + x5) (by omega), ← h.ep (by omega), chopL zs (23 + x5) 2 (25 + x5) (by omega), g6, chopL zs (25 + x5) x6 (25 + x5 + x6) (by omega), ← h.eq (by omega), chopL zs (25 + x5 + x6) 4 (29 + x5 + x6) (by omega), g7, chopL zs (29 + x5 + x6) x7 (29 + x5 + x6 + x7) (by omega), ← h.ed (by omega), List.drop_eq_nil_of_le (show zs.length ≤ 29 + x5 + x6 + x7 by omega), List.append_nil]
/-- What was laid down is read whole, and as it was. -/
theorem opRd_back {zs : List Int} {x0 x1 x2 x3 x4 x5 : Nat} {ps : List Int} {x6 : Nat} {qs : List Int} {x7 : Nat} {ds : List Int} {okr : Bool} {pr : Nat} (h : OpRd zs x0 x1 x2 x3 x4 x5 ps x6 qs x7 ds okr pr) {K U G : Int} {A B : Int} {p q : ByteArray} {es : List Int} (hr : rightO K U G p q es.length = true) (hA : -9223372036854775808 ≤ A ∧ A ≤ 9223372036854775807) (hB : -9223372036854775808 ≤ B ∧ B ≤ 9223372036854775807) (hz : zs = bytesO K.toNat A B U.toNat G.toNat p q es) :
    okr = true ∧ zs.length = pr ∧ (x0 : Int) = K ∧ wrap64 (x1 : Int) = A ∧ wrap64 (x2 : Int) = B ∧ (x3 : Int) = U ∧ (x4 : Int) = G ∧ strOfNums ps = p ∧ strOfNums qs = q ∧ ds = es := by
  obtain ⟨b0, b1, b2, b3, b4, b5⟩ := rightO_bd hr
  have hl : zs.length = 29 + p.size + q.size + es.length := by rw [hz]; exact bytesO_len _ _ _ _ _ _ _ _
  have k5 : x5 = p.size := by
    have := h.e5 (by omega)
    rw [hz, bo5, unleL, Nat.mod_eq_of_lt (by omega)] at this
    exact this
  subst k5
  have k6 : x6 = q.size := by
    have := h.e6 (by omega)
    rw [hz, bo7, unleL, Nat.mod_eq_of_lt (by omega)] at this
    exact this
  subst k6
  have k7 : x7 = es.length := by
    have := h.e7 (by omega)
    rw [hz, bo9, unleL, Nat.mod_eq_of_lt (by omega)] at this
    exact this
  subst k7
  have ho := h.adv.1.2 (by omega)
  have k0 := h.e0 (by omega)
  rw [hz, bo0, unleL, Nat.mod_eq_of_lt (by omega)] at k0
  have k1 := h.e1 (by omega)
  rw [hz, bo1, unleL, Nat.mod_eq_of_lt (by have := s64_lt A; omega)] at k1
  have k2 := h.e2 (by omega)
  rw [hz, bo2, unleL, Nat.mod_eq_of_lt (by have := s64_lt B; omega)] at k2
  have k3 := h.e3 (by omega)
  rw [hz, bo3, unleL, Nat.mod_eq_of_lt (by omega)] at k3
  have k4 := h.e4 (by omega)
  rw [hz, bo4, unleL, Nat.mod_eq_of_lt (by omega)] at k4
  have kp := h.ep (by omega)
  rw [hz, bo6] at kp
  have kq := h.eq (by omega)
  rw [hz, bo8] at kq
  have kd := h.ed (by omega)
  rw [hz, bo10] at kd
  refine ⟨ho, by rw [h.adv.2 ho]; omega, by omega, by rw [k1]; exact s64_back A hA, by rw [k2]; exact s64_back B hB, by omega, by omega, by rw [kp]; exact strOf_strI p, by rw [kq]; exact strOf_strI q, kd⟩
end Go.Proofs.YtohmjfagbhnieaaGreatDoor

namespace Go.Proofs.YtohmjfagbhnieaaGreatDoor
set_option linter.unusedVariables false
set_option linter.unusedSimpArgs false
open Go.RowKit

def noOp : Array Value := opC 0 0 0 0 0 ⟨#[]⟩ ⟨#[]⟩ (.slice none 0 0)
theorem opC_one (K A B U G : Int) (p q : ByteArray) (a : Option Addr) (n c : Nat) : (opC K A B U G p q (.slice a n c)).all (·.oneCell') = true := by
  unfold opC
  rw [Array.all_eq_true_iff_forall_mem]
  intro v hv
  simp only [List.mem_toArray, List.mem_cons, List.not_mem_nil, or_false] at hv
  rcases hv with rfl | rfl | rfl | rfl | rfl | rfl | rfl | rfl <;> rfl
theorem noOp_one : noOp.all (·.oneCell') = true := opC_one 0 0 0 0 0 ⟨#[]⟩ ⟨#[]⟩ none 0 0
/-- A whole number that an int holds. -/
def In64 (A : Int) : Prop := -9223372036854775808 ≤ A ∧ A ≤ 9223372036854775807
/-- What DecodeOp is to tell of zs. -/
def IsDec (zs : List Int) (K A B U G : Int) (p q : ByteArray) (ds : List Int) (code : Int) : Prop :=
  (code = 0 ∧ zs = bytesO K.toNat A B U.toNat G.toNat p q ds ∧ rightO K U G p q ds.length = true ∧ In64 A ∧ In64 B) ∨
  (code = 21 ∧ (K = 0 ∧ A = 0 ∧ B = 0 ∧ U = 0 ∧ G = 0 ∧ p = ⟨#[]⟩ ∧ q = ⟨#[]⟩ ∧ ds = []) ∧ ∀ (K' A' B' U' G' : Int) (p' q' : ByteArray) (ds' : List Int), rightO K' U' G' p' q' ds'.length = true → In64 A' → In64 B' → zs ≠ bytesO K'.toNat A' B' U'.toNat G'.toNat p' q' ds')
theorem bytesO_inj {K A B U G : Int} {p q : ByteArray} {ds : List Int} {K' A' B' U' G' : Int} {p' q' : ByteArray} {ds' : List Int} (h : bytesO K.toNat A B U.toNat G.toNat p q ds = bytesO K'.toNat A' B' U'.toNat G'.toNat p' q' ds') (hr : rightO K U G p q ds.length = true) (hr' : rightO K' U' G' p' q' ds'.length = true) (hA : In64 A) (hB : In64 B) (hA' : In64 A') (hB' : In64 B') :
    K = K' ∧ A = A' ∧ B = B' ∧ U = U' ∧ G = G' ∧ p = p' ∧ q = q' ∧ ds = ds' := by
  obtain ⟨b0, b1, b2, b3, b4, b5⟩ := rightO_bd hr
  obtain ⟨c0, c1, c2, c3, c4, c5⟩ := rightO_bd hr'
  have e0 := bo0 K.toNat A B U.toNat G.toNat p q ds
  have e1 := bo1 K.toNat A B U.toNat G.toNat p q ds
  have e2 := bo2 K.toNat A B U.toNat G.toNat p q ds
  have e3 := bo3 K.toNat A B U.toNat G.toNat p q ds
  have e4 := bo4 K.toNat A B U.toNat G.toNat p q ds
  have e5 := bo5 K.toNat A B U.toNat G.toNat p q ds
  rw [h] at e0 e1 e2 e3 e4 e5
  rw [bo0] at e0
  rw [bo1] at e1
  rw [bo2] at e2
  rw [bo3] at e3
  rw [bo4] at e4
  rw [bo5] at e5
  have k : ∀ n x y, x < 256 ^ n → y < 256 ^ n → le n x = le n y → x = y := fun n x y hx hy e => by
    have e2 := congrArg unle e
    rw [unleL, unleL, Nat.mod_eq_of_lt hx, Nat.mod_eq_of_lt hy] at e2
    exact e2
  have k0 := k 1 _ _ (by omega) (by omega) e0
  have k1 := k 8 _ _ (by have := s64_lt A'; omega) (by have := s64_lt A; omega) e1
  have k2 := k 8 _ _ (by have := s64_lt B'; omega) (by have := s64_lt B; omega) e2
  have k3 := k 2 _ _ (by omega) (by omega) e3
  have k4 := k 2 _ _ (by omega) (by omega) e4
  have k5 := k 2 _ _ (by omega) (by omega) e5
  have ep := bo6 K.toNat A B U.toNat G.toNat p q ds
  rw [h, ← k5, bo6] at ep
  have hp : p = p' := by rw [← strOf_strI p, ← strOf_strI p', ep]
  have e7 := bo7 K.toNat A B U.toNat G.toNat p q ds
  rw [h, ← k5, bo7] at e7
  have k6 := k 2 _ _ (by omega) (by omega) e7
  have eq := bo8 K.toNat A B U.toNat G.toNat p q ds
  rw [h, ← k5, ← k6, bo8] at eq
  have hq : q = q' := by rw [← strOf_strI q, ← strOf_strI q', eq]
  have e9 := bo9 K.toNat A B U.toNat G.toNat p q ds
  rw [h, ← k5, ← k6, bo9] at e9
  have k7 := k 4 _ _ (by omega) (by omega) e9
  have ed := bo10 K.toNat A B U.toNat G.toNat p q ds
  rw [h, ← k5, ← k6, ← k7, bo10] at ed
  refine ⟨by omega, ?_, ?_, by omega, by omega, hp, hq, ed.symm⟩
  · rw [← s64_back A hA, ← s64_back A' hA', k1]
  · rw [← s64_back B hB, ← s64_back B' hB', k2]
theorem IsDec.one {zs : List Int} {K A B U G : Int} {p q : ByteArray} {ds : List Int} {code : Int} {K' A' B' U' G' : Int} {p' q' : ByteArray} {ds' : List Int} {code' : Int} (h : IsDec zs K A B U G p q ds code) (h' : IsDec zs K' A' B' U' G' p' q' ds' code') :
    code = code' ∧ K = K' ∧ A = A' ∧ B = B' ∧ U = U' ∧ G = G' ∧ p = p' ∧ q = q' ∧ ds = ds' := by
  rcases h with ⟨h1, h2, h3, h4, h5⟩ | ⟨h1, ⟨a1, a2, a3, a4, a5, a6, a7, a8⟩, h3⟩
  · rcases h' with ⟨g1, g2, g3, g4, g5⟩ | ⟨g1, g2, g3⟩
    · exact ⟨by omega, bytesO_inj (h2.symm.trans g2) h3 g3 h4 h5 g4 g5⟩
    · exact absurd h2 (g3 _ _ _ _ _ _ _ _ h3 h4 h5)
  · rcases h' with ⟨g1, g2, g3, g4, g5⟩ | ⟨g1, ⟨c1, c2, c3, c4, c5, c6, c7, c8⟩, g3⟩
    · exact absurd g2 (h3 _ _ _ _ _ _ _ _ g3 g4 g5)
    · subst a6 a7 a8 c6 c7 c8
      exact ⟨by omega, by omega, by omega, by omega, by omega, by omega, rfl, rfl, rfl⟩
theorem isDec_len {zs : List Int} {K A B U G : Int} {p q : ByteArray} {ds : List Int} {code : Int} (h : IsDec zs K A B U G p q ds code) : p.size ≤ 512 ∧ q.size ≤ 512 ∧ ds.length ≤ 4096 := by
  rcases h with ⟨_, _, h, _⟩ | ⟨_, ⟨_, _, _, _, _, rfl, rfl, rfl⟩, _⟩
  · have := rightO_bd h; omega
  · exact ⟨by decide, by decide, by simp⟩
theorem opRd_dec {zs : List Int} {x0 x1 x2 x3 x4 x5 : Nat} {ps : List Int} {x6 : Nat} {qs : List Int} {x7 : Nat} {ds : List Int} {okr : Bool} {pr : Nat} (h : OpRd zs x0 x1 x2 x3 x4 x5 ps x6 qs x7 ds okr pr) (hbd : ∀ z ∈ zs, 0 ≤ z ∧ z < 256) :
    ((okr && decide (zs.length = pr) && rightO (x0 : Int) (x3 : Int) (x4 : Int) (strOfNums ps) (strOfNums qs) ds.length) = true → IsDec zs (x0 : Int) (wrap64 (x1 : Int)) (wrap64 (x2 : Int)) (x3 : Int) (x4 : Int) (strOfNums ps) (strOfNums qs) ds 0) ∧
    ((okr && decide (zs.length = pr) && rightO (x0 : Int) (x3 : Int) (x4 : Int) (strOfNums ps) (strOfNums qs) ds.length) = false → IsDec zs 0 0 0 0 0 ⟨#[]⟩ ⟨#[]⟩ [] 21) := by
  constructor
  · intro hk
    simp only [Bool.and_eq_true, decide_eq_true_eq] at hk
    exact .inl ⟨rfl, (opRd_ok h hbd hk.1.1 hk.1.2).1, hk.2, wrap_range _, wrap_range _⟩
  · intro hk
    refine .inr ⟨rfl, ⟨rfl, rfl, rfl, rfl, rfl, rfl, rfl, rfl⟩, fun K' A' B' U' G' p' q' ds' hr hA hB hz => ?_⟩
    obtain ⟨g1, g2, g3, g4, g5, g6, g7, g8, g9, g10⟩ := opRd_back h hr hA hB hz
    rw [g1, decide_eq_true g2, g3, g6, g7, g8, g9, g10, hr] at hk
    cases hk
end Go.Proofs.YtohmjfagbhnieaaGreatDoor
