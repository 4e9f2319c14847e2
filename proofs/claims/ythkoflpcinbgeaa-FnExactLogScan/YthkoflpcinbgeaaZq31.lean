/- told at an operation; DecodeOp of the program. Mathematics of a log: its first record, and that there is but one way to cut it. -/
import Derived.Test.YthkoflpcinbgeaaZq30
namespace Go.Proofs.Ythkoflpcinbgeaa
set_option linter.unusedVariables false
set_option linter.unusedSimpArgs false
open Go.RowKit

def noOp : Array Value := opC 0 0 0 0 0 ⟨#[]⟩ ⟨#[]⟩ (.slice none 0 0)
theorem opC_one (K A B U G : Int) (p q : ByteArray) (a : Option Addr) (n c : Nat) : (opC K A B U G p q (.slice a n c)).all (·.oneCell') = true := by
  unfold opC
  rw [Array.all_eq_true_iff_forall_mem]
  intro v hv
  simp only [List.mem_toArray, List.mem_cons, List.not_mem_nil, or_false] at hv
  rcases hv with rfl | rfl | rfl | rfl | rfl | rfl | rfl | rfl <;> rfl
theorem noOp_one : noOp.all (·.oneCell') = true := opC_one 0 0 0 0 0 ⟨#[]⟩ ⟨#[]⟩ none 0 0
/-- A whole number that an int holds. -/
def In64 (A : Int) : Prop := -9223372036854775808 ≤ A ∧ A ≤ 9223372036854775807
/-- What DecodeOp is to tell of zs. -/
def IsDec (zs : List Int) (K A B U G : Int) (p q : ByteArray) (ds : List Int) (code : Int) : Prop :=
  (code = 0 ∧ zs = bytesO K.toNat A B U.toNat G.toNat p q ds ∧ rightO K U G p q ds.length = true ∧ In64 A ∧ In64 B) ∨
  (code = 21 ∧ (K = 0 ∧ A = 0 ∧ B = 0 ∧ U = 0 ∧ G = 0 ∧ p = ⟨#[]⟩ ∧ q = ⟨#[]⟩ ∧ ds = []) ∧ ∀ (K' A' B' U' G' : Int) (p' q' : ByteArray) (ds' : List Int), rightO K' U' G' p' q' ds'.length = true → In64 A' → In64 B' → zs ≠ bytesO K'.toNat A' B' U'.toNat G'.toNat p' q' ds')
theorem bytesO_inj {K A B U G : Int} {p q : ByteArray} {ds : List Int} {K' A' B' U' G' : Int} {p' q' : ByteArray} {ds' : List Int} (h : bytesO K.toNat A B U.toNat G.toNat p q ds = bytesO K'.toNat A' B' U'.toNat G'.toNat p' q' ds') (hr : rightO K U G p q ds.length = true) (hr' : rightO K' U' G' p' q' ds'.length = true) (hA : In64 A) (hB : In64 B) (hA' : In64 A') (hB' : In64 B') :
    K = K' ∧ A = A' ∧ B = B' ∧ U = U' ∧ G = G' ∧ p = p' ∧ q = q' ∧ ds = ds' := by
  obtain ⟨b0, b1, b2, b3, b4, b5⟩ := rightO_bd hr
  obtain ⟨c0, c1, c2, c3, c4, c5⟩ := rightO_bd hr'
  have e0 := bo0 K.toNat A B U.toNat G.toNat p q ds
  have e1 := bo1 K.toNat A B U.toNat G.toNat p q ds
  have e2 := bo2 K.toNat A B U.toNat G.toNat p q ds
  have e3 := bo3 K.toNat A B U.toNat G.toNat p q ds
  have e4 := bo4 K.toNat A B U.toNat G.toNat p q ds
  have e5 := bo5 K.toNat A B U.toNat G.toNat p q ds
  rw [h] at e0 e1 e2 e3 e4 e5
  rw [bo0] at e0
  rw [bo1] at e1
  rw [bo2] at e2
  rw [bo3] at e3
  rw [bo4] at e4
  rw [bo5] at e5
  have k : ∀ n x y, x < 256 ^ n → y < 256 ^ n → le n x = le n y → x = y := fun n x y hx hy e => by
    have e2 := congrArg unle e
    rw [unleL, unleL, Nat.mod_eq_of_lt hx, Nat.mod_eq_of_lt hy] at e2
    exact e2
  have k0 := k 1 _ _ (by omega) (by omega) e0
  have k1 := k 8 _ _ (by have := s64_lt A'; omega) (by have := s64_lt A; omega) e1
  have k2 := k 8 _ _ (by have := s64_lt B'; omega) (by have := s64_lt B; omega) e2
  have k3 := k 2 _ _ (by omega) (by omega) e3
  have k4 := k 2 _ _ (by omega) (by omega) e4
  have k5 := k 2 _ _ (by omega) (by omega) e5
  have ep := bo6 K.toNat A B U.toNat G.toNat p q ds
  rw [h, ← k5, bo6] at ep
  have hp : p = p' := by rw [← strOf_strI p, ← strOf_strI p', ep]
  have e7 := bo7 K.toNat A B U.toNat G.toNat p q ds
  rw [h, ← k5, bo7] at e7
  have k6 := k 2 _ _ (by omega) (by omega) e7
  have eq := bo8 K.toNat A B U.toNat G.toNat p q ds
  rw [h, ← k5, ← k6, bo8] at eq
  have hq : q = q' := by rw [← strOf_strI q, ← strOf_strI q', eq]
  have e9 := bo9 K.toNat A B U.toNat G.toNat p q ds
  rw [h, ← k5, ← k6, bo9] at e9
  have k7 := k 4 _ _ (by omega) (by omega) e9
  have ed := bo10 K.toNat A B U.toNat G.toNat p q ds
  rw [h, ← k5, ← k6, ← k7, bo10] at ed
  refine ⟨by omega, ?_, ?_, by omega, by omega, hp, hq, ed.symm⟩
  · rw [← s64_back A hA, ← s64_back A' hA', k1]
  · rw [← s64_back B hB, ← s64_back B' hB', k2]
theorem IsDec.one {zs : List Int} {K A B U G : Int} {p q : ByteArray} {ds : List Int} {code : Int} {K' A' B' U' G' : Int} {p' q' : ByteArray} {ds' : List Int} {code' : Int} (h : IsDec zs K A B U G p q ds code) (h' : IsDec zs K' A' B' U' G' p' q' ds' code') :
    code = code' ∧ K = K' ∧ A = A' ∧ B = B' ∧ U = U' ∧ G = G' ∧ p = p' ∧ q = q' ∧ ds = ds' := by
  rcases h with ⟨h1, h2, h3, h4, h5⟩ | ⟨h1, ⟨a1, a2, a3, a4, a5, a6, a7, a8⟩, h3⟩
  · rcases h' with ⟨g1, g2, g3, g4, g5⟩ | ⟨g1, g2, g3⟩
    · exact ⟨by omega, bytesO_inj (h2.symm.trans g2) h3 g3 h4 h5 g4 g5⟩
    · exact absurd h2 (g3 _ _ _ _ _ _ _ _ h3 h4 h5)
  · rcases h' with ⟨g1, g2, g3, g4, g5⟩ | ⟨g1, ⟨c1, c2, c3, c4, c5, c6, c7, c8⟩, g3⟩
    · exact absurd g2 (h3 _ _ _ _ _ _ _ _ g3 g4 g5)
    · subst a6 a7 a8 c6 c7 c8
      exact ⟨by omega, by omega, by omega, by omega, by omega, by omega, rfl, rfl, rfl⟩
theorem isDec_len {zs : List Int} {K A B U G : Int} {p q : ByteArray} {ds : List Int} {code : Int} (h : IsDec zs K A B U G p q ds code) : p.size ≤ 512 ∧ q.size ≤ 512 ∧ ds.length ≤ 4096 := by
  rcases h with ⟨_, _, h, _⟩ | ⟨_, ⟨_, _, _, _, _, rfl, rfl, rfl⟩, _⟩
  · have := rightO_bd h; omega
  · exact ⟨by decide, by decide, by simp⟩
theorem opRd_dec {zs : List Int} {x0 x1 x2 x3 x4 x5 : Nat} {ps : List Int} {x6 : Nat} {qs : List Int} {x7 : Nat} {ds : List Int} {okr : Bool} {pr : Nat} (h : OpRd zs x0 x1 x2 x3 x4 x5 ps x6 qs x7 ds okr pr) (hbd : ∀ z ∈ zs, 0 ≤ z ∧ z < 256) :
    ((okr && decide (zs.length = pr) && rightO (x0 : Int) (x3 : Int) (x4 : Int) (strOfNums ps) (strOfNums qs) ds.length) = true → IsDec zs (x0 : Int) (wrap64 (x1 : Int)) (wrap64 (x2 : Int)) (x3 : Int) (x4 : Int) (strOfNums ps) (strOfNums qs) ds 0) ∧
    ((okr && decide (zs.length = pr) && rightO (x0 : Int) (x3 : Int) (x4 : Int) (strOfNums ps) (strOfNums qs) ds.length) = false → IsDec zs 0 0 0 0 0 ⟨#[]⟩ ⟨#[]⟩ [] 21) := by
  constructor
  · intro hk
    simp only [Bool.and_eq_true, decide_eq_true_eq] at hk
    exact .inl ⟨rfl, (opRd_ok h hbd hk.1.1 hk.1.2).1, hk.2, wrap_range _, wrap_range _⟩
  · intro hk
    refine .inr ⟨rfl, ⟨rfl, rfl, rfl, rfl, rfl, rfl, rfl, rfl⟩, fun K' A' B' U' G' p' q' ds' hr hA hB hz => ?_⟩
    obtain ⟨g1, g2, g3, g4, g5, g6, g7, g8, g9, g10⟩ := opRd_back h hr hA hB hz
    rw [g1, decide_eq_true g2, g3, g6, g7, g8, g9, g10, hr] at hk
    cases hk
end Go.Proofs.Ythkoflpcinbgeaa

namespace Go.Proofs.Ythkoflpcinbgeaa
set_option linter.unusedVariables false
set_option linter.unusedSimpArgs false
open Go.RowKit

/-- The bytes of an operation that may be laid down. -/
def IsOpB (E : List Int) : Prop := ∃ (K A B U G : Int) (p q : ByteArray) (ds : List Int), rightO K U G p q ds.length = true ∧ In64 A ∧ In64 B ∧ E = bytesO K.toNat A B U.toNat G.toNat p q ds
theorem IsOpB.len {E : List Int} (h : IsOpB E) : E.length ≤ 5149 := by
  obtain ⟨K, A, B, U, G, p, q, ds, hr, _, _, rfl⟩ := h
  have := rightO_bd hr
  rw [bytesO_len]
  omega
theorem dec_isOp {E : List Int} {K A B U G : Int} {p q : ByteArray} {ds : List Int} {code : Int} (h : IsDec E K A B U G p q ds code) : (code = 0 ↔ IsOpB E) := by
  rcases h with ⟨h1, h2, h3, h4, h5⟩ | ⟨h1, _, h3⟩
  · exact ⟨fun _ => ⟨K, A, B, U, G, p, q, ds, h3, h4, h5, h2⟩, fun _ => h1⟩
  · constructor
    · intro h; omega
    · rintro ⟨K', A', B', U', G', p', q', ds', g1, g2, g3, g4⟩
      exact absurd g4 (h3 _ _ _ _ _ _ _ _ g1 g2 g3)
/-- A record of the number n and the operation's bytes E lies at the beginning of zs, r behind it. -/
def IsRec (zs : List Int) (n : Nat) (E r : List Int) : Prop := 1 ≤ n ∧ n ≤ 1099511627776 ∧ IsOpB E ∧ zs = recO n E ++ r
theorem rec_pieces (n : Nat) (E r : List Int) (hn : n < 18446744073709551616) (hE : E.length < 4294967296) (hb : ∀ z ∈ E, 0 ≤ z ∧ z < 256) :
    unle ((recO n E ++ r).take 8) = n ∧ unle (((recO n E ++ r).drop 8).take 4) = E.length ∧ unle (((recO n E ++ r).drop 12).take 4) = sumO n E ∧ ((recO n E ++ r).drop 16).take E.length = E ∧ (recO n E ++ r).drop (16 + E.length) = r := by
  have e : recO n E ++ r = le 8 n ++ (le 4 E.length ++ (le 4 (sumO n E) ++ (E ++ r))) := by simp [recO, headO, List.append_assoc]
  have p0 : (recO n E ++ r).take 8 = le 8 n := by
    have := midL ([] : List Int) (le 8 n) (le 4 E.length ++ (le 4 (sumO n E) ++ (E ++ r))) 0 8 rfl (le_len _ _)
    rw [e]; simpa using this
  have p1 : ((recO n E ++ r).drop 8).take 4 = le 4 E.length := by rw [e]; exact midL _ _ _ 8 4 (le_len _ _) (le_len _ _)
  have p2 : ((recO n E ++ r).drop 12).take 4 = le 4 (sumO n E) := by
    have := midL (le 8 n ++ le 4 E.length) (le 4 (sumO n E)) (E ++ r) 12 4 (by simp [le_len]) (le_len _ _)
    rw [e]; simpa [List.append_assoc] using this
  have p3 : ((recO n E ++ r).drop 16).take E.length = E := by
    have := midL (le 8 n ++ (le 4 E.length ++ le 4 (sumO n E))) E r 16 E.length (by simp [le_len]) rfl
    rw [e]; simpa [List.append_assoc] using this
  have hs := sumO_lt n E hb
  refine ⟨by rw [p0, unleL, Nat.mod_eq_of_lt (by omega)], by rw [p1, unleL, Nat.mod_eq_of_lt (by omega)], by rw [p2, unleL, Nat.mod_eq_of_lt (by omega)], p3, ?_⟩
  rw [List.drop_append_of_le_length (by rw [recO_len]; omega), ← recO_len n E, List.drop_length, List.nil_append]
/-- There is but one way to cut the first record off. -/
theorem IsRec.one {zs : List Int} {n : Nat} {E r : List Int} {n' : Nat} {E' r' : List Int} (h : IsRec zs n E r) (h' : IsRec zs n' E' r') (hb : ∀ z ∈ zs, 0 ≤ z ∧ z < 256) : n = n' ∧ E = E' ∧ r = r' := by
  obtain ⟨h1, h2, h3, h4⟩ := h
  obtain ⟨g1, g2, g3, g4⟩ := h'
  have bE : ∀ z ∈ E, 0 ≤ z ∧ z < 256 := fun z hz => hb z (by rw [h4]; simp [recO, hz])
  have bE' : ∀ z ∈ E', 0 ≤ z ∧ z < 256 := fun z hz => hb z (by rw [g4]; simp [recO, hz])
  obtain ⟨a1, a2, _, a4, a5⟩ := rec_pieces n E r (by omega) (by have := h3.len; omega) bE
  obtain ⟨c1, c2, _, c4, c5⟩ := rec_pieces n' E' r' (by omega) (by have := g3.len; omega) bE'
  rw [← h4] at a1 a2 a4 a5
  rw [← g4] at c1 c2 c4 c5
  have hn : n = n' := a1.symm.trans c1
  have hl : E.length = E'.length := a2.symm.trans c2
  rw [hl] at a4 a5
  exact ⟨hn, a4.symm.trans c4, a5.symm.trans c5⟩
/-- What a reader looks at tells whether there is one. -/
theorem rec_of {zs : List Int} (hb : ∀ z ∈ zs, 0 ≤ z ∧ z < 256) (n m : Nat) (h16 : 16 + m ≤ zs.length) (hn : n = unle (zs.take 8)) (hm : m = unle ((zs.drop 8).take 4)) (h1 : 1 ≤ n) (h2 : n ≤ 1099511627776) (hO : IsOpB ((zs.drop 16).take m)) (hs : unle ((zs.drop 12).take 4) = sumO n ((zs.drop 16).take m)) : IsRec zs n ((zs.drop 16).take m) (zs.drop (16 + m)) := by
  refine ⟨h1, h2, hO, ?_⟩
  have hl : ((zs.drop 16).take m).length = m := by rw [List.length_take, List.length_drop]; omega
  have g0 := leAt hb 0 8 n (by omega) (by simpa using hn)
  have g1 := leAt hb 8 4 m (by omega) hm
  have g2 := leAt hb 12 4 (sumO n ((zs.drop 16).take m)) (by omega) hs.symm
  have e0 : zs = zs.drop 0 := by simp
  have e4 := chopL zs 16 m (16 + m) rfl
  generalize (zs.drop 16).take m = E at hl g2 e4 hO hs ⊢
  unfold recO headO
  rw [hl]
  conv => lhs; rw [e0]
  rw [chopL zs 0 8 8 (by omega), g0, chopL zs 8 4 12 (by omega), g1, chopL zs 12 4 16 (by omega), g2, e4]
  simp [List.append_assoc]
/-- The records of a log: as long as they are whole and right and their numbers follow. -/
inductive Recs : List Int → List (Nat × List Int) → Prop where
  | stop {zs : List Int} (h : ∀ n E r, ¬ IsRec zs n E r) : Recs zs []
  | last {zs r : List Int} {n : Nat} {E : List Int} (h : IsRec zs n E r) (hno : ∀ E' r', ¬ IsRec r (n + 1) E' r') : Recs zs [(n, E)]
  | more {zs r : List Int} {n : Nat} {E E' : List Int} {L : List (Nat × List Int)} (h : IsRec zs n E r) (ht : Recs r ((n + 1, E') :: L)) : Recs zs ((n, E) :: (n + 1, E') :: L)
end Go.Proofs.Ythkoflpcinbgeaa
