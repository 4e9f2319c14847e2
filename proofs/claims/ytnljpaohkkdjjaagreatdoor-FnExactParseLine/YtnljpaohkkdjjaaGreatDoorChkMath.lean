import Derived.WalkKit
import Derived.Laws.RangeAny
namespace Go.Proofs.YtnljpaohkkdjjaaGreatDoor.Chk
open Go

def isBad (b : UInt8) : Bool := b == 47 || b == 0
def anyBad (l : List UInt8) : Bool := l.any isBad
def chk (l : List UInt8) : Int := if l = [] ∨ l = [46] ∨ l = [46, 46] then 7 else if 26 < l.length then 12 else if anyBad l = true then 7 else 0

theorem isBad_iff (b : UInt8) : isBad b = true ↔ b.toNat = 47 ∨ b.toNat = 0 := by
  unfold isBad
  simp only [Bool.or_eq_true, beq_iff_eq]
  constructor
  · rintro (rfl | rfl) <;> simp
  · rintro (h | h)
    · left; exact UInt8.toNat_inj.mp (by simpa using h)
    · right; exact UInt8.toNat_inj.mp (by simpa using h)

theorem anyBad_snoc (s : ByteArray) (k : Nat) (h : k < s.size) : anyBad (s.data.toList.take (k + 1)) = (anyBad (s.data.toList.take k) || isBad s[k]) := by
  unfold anyBad
  rw [List.take_succ_eq_append_getElem (by simpa using h)]
  simp
  rfl

theorem anyBad_of_get (s : ByteArray) (k : Nat) (h : k < s.size) (hb : isBad s[k] = true) : anyBad s.data.toList = true := by
  unfold anyBad
  rw [List.any_eq_true]
  exact ⟨s[k], by simp [ByteArray.getElem_eq_getElem_data], hb⟩

theorem anyBad_end (s : ByteArray) (k : Nat) (h : ¬ k < s.size) : anyBad (s.data.toList.take k) = anyBad s.data.toList := by
  rw [List.take_of_length_le]
  simp; simpa using h

theorem get_k (s : ByteArray) (p : Nat) (h : p < s.size) : s.get! p = s[p]'h := by
  simp [ByteArray.get!, getElem!_pos, h]
  rfl

/-- Bytes that a rune of more than a byte takes are all high. -/
theorem decode_cont (s : ByteArray) (pos : Nat) (h : pos < s.size) (ha : 128 ≤ (s[pos]'h).toNat) (j : Nat) (hj : j < (Utf8.decode s pos).2) :
    ∃ hp : pos + j < s.size, 128 ≤ (s[pos + j]'hp).toNat := by
  by_cases hj0 : j = 0
  · subst hj0; exact ⟨h, ha⟩
  have key : pos + j < s.size ∧ (s.get! (pos + j)).toNat / 64 = 2 := by
    have hn : ¬ (s[pos]'h).toNat < 128 := by omega
    simp only [Utf8.decode, get_at s pos h, hn, if_false] at hj
    repeat' split at hj
    all_goals simp_all
    all_goals first | omega | skip
    · obtain rfl : j = 1 := by omega
      simp_all
    · have : j = 1 ∨ j = 2 := by omega
      rcases this with rfl | rfl <;> simp_all
    · have : j = 1 ∨ j = 2 ∨ j = 3 := by omega
      rcases this with rfl | rfl | rfl <;> simp_all
  refine ⟨key.1, ?_⟩
  have := key.2
  rw [get_k s _ key.1] at this
  omega

theorem isBad_high (b : UInt8) (h : 128 ≤ b.toNat) : isBad b = false := by
  cases hb : isBad b with
  | false => rfl
  | true => rw [isBad_iff] at hb; omega

theorem anyBad_more (s : ByteArray) (pos n : Nat) (h0 : anyBad (s.data.toList.take pos) = false) (h : ∀ j, j < n → ∃ hp : pos + j < s.size, isBad (s[pos + j]'hp) = false) :
    anyBad (s.data.toList.take (pos + n)) = false := by
  induction n with
  | zero => exact h0
  | succ n ih =>
    obtain ⟨hp, hb⟩ := h n (by omega)
    rw [← Nat.add_assoc, anyBad_snoc s (pos + n) hp, ih (fun j hj => h j (by omega)), hb]
    rfl

/-- One rune that is neither of the two leads on. -/
theorem step_rune (s : ByteArray) (pos : Nat) (hp : pos < s.size) (h0 : anyBad (s.data.toList.take pos) = false)
    (h1 : ¬ ((Utf8.decode s pos).1 : Int) = 47) (h2 : ¬ ((Utf8.decode s pos).1 : Int) = 0) : anyBad (s.data.toList.take (pos + (Utf8.decode s pos).2)) = false := by
  by_cases ha : (s[pos]'hp).toNat < 128
  · rw [decode_ascii s pos hp ha] at h1 h2 ⊢
    rw [anyBad_snoc s pos hp, h0]
    cases hb : isBad (s[pos]'hp) with
    | false => rfl
    | true => rw [isBad_iff] at hb; simp at h1 h2; omega
  · refine anyBad_more s pos _ h0 fun j hj => ?_
    obtain ⟨q, hq⟩ := decode_cont s pos hp (by omega) j hj
    exact ⟨q, isBad_high _ hq⟩

/-- One of the two is a bad byte there. -/
theorem hit_rune (s : ByteArray) (pos : Nat) (hp : pos < s.size) (h : ((Utf8.decode s pos).1 : Int) = 47 ∨ ((Utf8.decode s pos).1 : Int) = 0) : anyBad s.data.toList = true := by
  by_cases ha : (s[pos]'hp).toNat < 128
  · rw [decode_ascii s pos hp ha] at h
    refine anyBad_of_get s pos hp ?_
    rw [isBad_iff]; simp at h; omega
  · have := (decode_high s pos hp (by omega)).1; omega

theorem width_pos (s : ByteArray) (pos : Nat) (h : pos < s.size) : 1 ≤ (Utf8.decode s pos).2 := by
  by_cases ha : (s[pos]'h).toNat < 128
  · rw [decode_ascii s pos h ha]
    exact Nat.le_refl _
  · exact (decode_high s pos h (by omega)).2
end Go.Proofs.YtnljpaohkkdjjaaGreatDoor.Chk
