/- The program reads an inode: readInode. -/
import Derived.Test.YtplieplmhdfndaaGreatDoorZw07
import Derived.Test.YtplieplmhdfndaaGreatDoorZw09
import Derived.WalkKit
import Derived.Laws.RangeAny
import Derived.Test.YtplieplmhdfndaaGreatDoorRows
import Derived.WalkLawsBesides
namespace Go.Proofs.YtplieplmhdfndaaGreatDoor
set_option linter.unusedVariables false
set_option linter.unusedSimpArgs false
open Go.RowKit

theorem Flt.storeC {w : World} {lo g o : Nat} {y c : Int} {x : Value} (hy : w.cell? ⟨g, o, none⟩ = some (.int .i64 y)) (hne : y ≠ c) : ∀ {n : Nat} {v : Value}, Flt w lo n v c → Flt (w.setCell ⟨g, o, none⟩ x) lo n v c
  | 0, _, ⟨b, h, hl, hc⟩ => by
    refine ⟨b, h, hl, (World.cell?_setCell_other _ _ _ _ ?_).trans hc⟩
    intro e
    rw [e, hc] at hy
    injection hy with hy
    injection hy with _ hy
    exact hne hy.symm
  | _ + 1, _, ⟨b, v', h, hl, hc, hr⟩ => by
    refine ⟨b, v', h, hl, (World.cell?_setCell_other _ _ _ _ ?_).trans hc, Flt.storeC hy hne hr⟩
    intro e
    rw [e, hc] at hy
    obtain ⟨t, z, rfl⟩ := hr.iface
    cases hy
/-- A reader is kept behind a write to a cell that held an integer other than 21. -/
theorem Rdr.storeC {w0 w : World} {b lo : Nat} {ok : Bool} {dv : Value} {zs : List Int} {pos g o : Nat} {y : Int} (x : Value) (h : Rdr w0 w b lo ok dv zs pos) (hg : b < g) (hy : w.cell? ⟨g, o, none⟩ = some (.int .i64 y)) (hne : y ≠ 21) : Rdr w0 (w.setCell ⟨g, o, none⟩ x) b lo ok dv zs pos := by
  have hne2 : ∀ o', (⟨g, o, none⟩ : Addr) ≠ ⟨b, o', none⟩ := fun o' e => by injection e with e1 e2; omega
  have hc : ∀ o', (w.setCell ⟨g, o, none⟩ x).cell? ⟨b, o', none⟩ = w.cell? ⟨b, o', none⟩ := fun o' => World.cell?_setCell_other _ _ _ _ (hne2 o')
  obtain ⟨c1, c2, ev, c3, c4⟩ := h.ck
  refine ⟨⟨(hc 0).trans c1, by simpa using c2, ev, (hc 1).trans c3, ?_⟩, (hc 2).trans h.data, (hc 3).trans h.at_, by simpa using h.fr, h.old.setCell (p := ⟨g, o, none⟩) (Nat.le_of_lt hg) _, h.size, h.rd, h.le, h.lo1, by simpa using h.lo2⟩
  rcases c4 with c4 | ⟨c4, n, c5⟩
  · exact .inl c4
  · exact .inr ⟨c4, n, c5.storeC hy hne⟩
theorem Rdr.cellsC {w0 : World} {b lo : Nat} {ok : Bool} {dv : Value} {zs : List Int} {pos g : Nat} {t : TypeId} (hg : b < g) : ∀ (ds : List Int) {w : World} {xs : List Int} (o : Nat), Rdr w0 w b lo ok dv zs pos → Blk w g (cellsI xs) t → o + ds.length ≤ xs.length → (∀ j, o ≤ j → xs.getD j 0 ≠ 21) → Rdr w0 (w.setCells g o (ds.map (Value.int .i64))) b lo ok dv zs pos
  | [], w, xs, o, h, _, _, _ => by simpa [World.setCells] using h
  | d :: ds, w, xs, o, h, hB, hl, hx => by
    have ho : o < xs.length := by simp at hl; omega
    have hy := (hB.cell o).trans (cellsI_get xs o ho)
    have h1 := h.storeC (.int .i64 d) hg hy (hx o (Nat.le_refl _))
    have hB1 := hB.set o (.int .i64 d)
    rw [cellsI_set] at hB1
    refine Rdr.cellsC hg ds (o + 1) h1 hB1 (by simp at hl ⊢; omega) (fun j hj => ?_)
    have hne : o ≠ j := by omega
    have := hx j (by omega)
    simpa [List.getD, List.getElem?_set, hne] using this

/-- How far a reader came that began at 0: m bytes asked for, C the looks that came so far. -/
def AdvC (zs : List Int) (m : Nat) (C : Bool) (okr : Bool) (pr : Nat) : Prop := pr ≤ m ∧ (okr = true ↔ (m ≤ zs.length ∧ C = true)) ∧ (okr = true → pr = m)
theorem AdvC.start (zs : List Int) : AdvC zs 0 true true 0 := ⟨Nat.le_refl _, ⟨fun _ => ⟨Nat.zero_le _, rfl⟩, fun _ => rfl⟩, fun _ => rfl⟩
theorem AdvC.num {okr : Bool} {zs : List Int} {m pr : Nat} {C : Bool} {w0 w w' : World} {b lo : Nat} {dv : Value} {m' x : Nat} (h : AdvC zs m C okr pr) (hn : Numd w0 w w' b lo okr dv zs pr m' x) :
    ∃ ok2 p2, Rdr w0 w' b lo ok2 dv zs p2 ∧ AdvC zs (m + m') C ok2 p2 ∧ (ok2 = true → okr = true ∧ x = unle ((zs.drop m).take m')) ∧ w.grownBy w' (some b) := by
  obtain ⟨hg, hn⟩ := hn
  obtain ⟨h1, h2, h3⟩ := h
  rcases hn with ⟨ho, hle, hx, hr⟩ | ⟨hno, hx, hr⟩
  · have hpm := h3 ho
    subst hpm
    exact ⟨true, _, hr, ⟨Nat.le_refl _, ⟨fun _ => ⟨hle, (h2.1 ho).2⟩, fun _ => rfl⟩, fun _ => rfl⟩, fun _ => ⟨ho, hx⟩, hg⟩
  · refine ⟨false, _, hr, ⟨by omega, ⟨(fun h => absurd h (by decide)), fun h => ?_⟩, (fun h => absurd h (by decide))⟩, (fun h => absurd h (by decide)), hg⟩
    have ho := h2.2 ⟨by omega, h.2⟩
    have hpm := h3 ho
    exact absurd ⟨ho, by omega⟩ hno
def allz (ts : List Int) : Bool := ts.all fun z => decide (z = 0)
theorem AdvC.zeros {okr : Bool} {zs : List Int} {m pr m2 : Nat} {C : Bool} {w0 w w' : World} {b lo : Nat} {dv : Value} (h : AdvC zs m C okr pr) (hm : m ≤ m2) (hn : Zd w0 w w' b lo okr dv zs pr m2) :
    ∃ ok2 p2, Rdr w0 w' b lo ok2 dv zs p2 ∧ AdvC zs m2 (C && allz ((zs.drop m).take (m2 - m))) ok2 p2 ∧ (ok2 = true → okr = true) ∧ w.grownBy w' (some b) := by
  obtain ⟨hg, hn⟩ := hn
  obtain ⟨h1, h2, h3⟩ := h
  rcases hn with ⟨ho, hle, hr⟩ | ⟨hno, hr⟩
  · have hpm := h3 ho
    subst hpm
    have hC := (h2.1 ho).2
    exact ⟨_, _, hr, ⟨Nat.le_refl _, ⟨fun hz => ⟨hle, by rw [hC, Bool.true_and]; exact hz⟩, fun hz => by rw [hC, Bool.true_and] at hz; exact hz.2⟩, fun _ => rfl⟩, fun _ => ho, hg⟩
  · refine ⟨false, _, hr, ⟨by omega, ⟨(fun h => absurd h (by decide)), fun h => ?_⟩, (fun h => absurd h (by decide))⟩, (fun h => absurd h (by decide)), hg⟩
    rw [Bool.and_eq_true] at h
    have ho := h2.2 ⟨by omega, h.2.1⟩
    exact absurd ⟨ho, h.1⟩ hno
theorem AdvC.adv {okr ok2 : Bool} {zs : List Int} {m pr p2 m' : Nat} {C : Bool} (h : AdvC zs m C okr pr) (hn : Adv okr zs pr m' ok2 p2) : AdvC zs (m + m') C ok2 p2 ∧ (ok2 = true → okr = true ∧ pr = m) := by
  obtain ⟨h1, h2, h3⟩ := h
  rcases hn with ⟨hk, ho, hle, hp⟩ | ⟨hk, hno, hp⟩
  · have hpm := h3 ho
    subst hpm
    exact ⟨⟨by omega, ⟨fun _ => ⟨hle, (h2.1 ho).2⟩, fun _ => hk⟩, fun _ => hp⟩, fun _ => ⟨ho, rfl⟩⟩
  · refine ⟨⟨by omega, ⟨fun h => (by rw [hk] at h; cases h), fun h => ?_⟩, fun h => (by rw [hk] at h; cases h)⟩, fun h => (by rw [hk] at h; cases h)⟩
    have ho := h2.2 ⟨by omega, h.2⟩
    have hpm := h3 ho
    exact absurd ⟨ho, by omega⟩ hno

/-- What was read as an inode. -/
def InoAt (zs : List Int) (k0 k1 k2 k3 k4 k5 k6 k7 k8 s : Int) (ds : List Int) (p q : Int) : Prop :=
  k0 = ((unle ((zs.drop 0).take 1) : Nat) : Int) ∧ k1 = ((unle ((zs.drop 2).take 2) : Nat) : Int) ∧ k2 = ((unle ((zs.drop 4).take 2) : Nat) : Int) ∧ k3 = ((unle ((zs.drop 6).take 2) : Nat) : Int) ∧ k4 = ((unle ((zs.drop 8).take 2) : Nat) : Int) ∧ k5 = ((unle ((zs.drop 12).take 4) : Nat) : Int) ∧ k6 = wrap64 ((unle ((zs.drop 16).take 8) : Nat) : Int) ∧ k7 = wrap64 ((unle ((zs.drop 24).take 8) : Nat) : Int) ∧ k8 = wrap64 ((unle ((zs.drop 32).take 8) : Nat) : Int) ∧ RootAt zs 40 s ds p q
def gaps2 (zs : List Int) : Bool := true && allz ((zs.drop 1).take 1) && allz ((zs.drop 10).take 2)

/-- What the reading keeps: the result's block, the inode so far, the reader. -/
structure Ri (w0 w wr : World) (b lo : Nat) (dv : Value) (zs : List Int) (g : Nat) (xs : List Int) (okr : Bool) (pr : Nat) : Prop where
  rdr : Rdr w0 wr b lo okr dv zs pr
  res : Blk wr w.heap.size (cellsI (List.replicate 24 0)) 228
  blk : Blk wr g (cellsI xs) 228
  old : w.grownBy wr (some b)
theorem Ri.set {w0 w wr : World} {b lo : Nat} {dv : Value} {zs : List Int} {g : Nat} {xs : List Int} {okr : Bool} {pr : Nat} (h : Ri w0 w wr b lo dv zs g xs okr pr) (hg : w.heap.size < g) (hb : b < w.heap.size) (o : Nat) (x y : Int) (hy : (cellsI xs)[o]? = some (.int .i64 y)) (hne : y ≠ 21) : Ri w0 w (wr.setCell ⟨g, o, none⟩ (.int .i64 x)) b lo dv zs g (xs.set o x) okr pr := by
  refine ⟨h.rdr.storeC _ (by omega) ((h.blk.cell o).trans hy) hne, h.res.other _ _ (by show w.heap.size ≠ g; omega), ?_, grow_set h.old _ _ _ (by omega)⟩
  have h2 := h.blk.set o (.int .i64 x)
  rw [cellsI_set] at h2
  exact h2
theorem Ri.next {w0 w wr w' : World} {b lo : Nat} {dv : Value} {zs : List Int} {g : Nat} {xs : List Int} {okr ok2 : Bool} {pr p2 : Nat} (h : Ri w0 w wr b lo dv zs g xs okr pr) (hg : w.heap.size < g) (hb : b < w.heap.size) (hr : Rdr w0 w' b lo ok2 dv zs p2) (hgr : wr.grownBy w' (some b)) : Ri w0 w w' b lo dv zs g xs ok2 p2 :=
  ⟨hr, (hgr.block _ h.res.lt (by simp; omega)).trans h.res, (hgr.block _ h.blk.lt (by simp; omega)).trans h.blk, grownBy_trans h.old hgr⟩

theorem over_ino9 (k0 k1 k2 k3 k4 k5 k6 k7 k8 s : Int) (ds : List Int) (p q : Int) (hd : ds.length = 12) : over [k0, k1, k2, k3, k4, k5, k6, k7, k8, 0, 0, 0, 0, 0, 0, 0, 0, 0, 0, 0, 0, 0, 0, 0] 9 (rootI s ds p q) = inoI [k0, k1, k2, k3, k4, k5, k6, k7, k8] s ds p q := by
  have hl := rootI_len s ds p q hd
  unfold over inoI
  rw [hl]
  simp
theorem grow_cells {w w1 : World} {r : Option Nat} (h : w.grownBy w1 r) (g : Nat) : ∀ (vs : List Value) (o : Nat), w.heap.size ≤ g → w.grownBy (w1.setCells g o vs) r := by
  intro vs
  induction vs generalizing w1 with
  | nil => intro o _; exact h
  | cons v vs ih => intro o hg; exact ih (grow_set h g o v hg) (o + 1) hg

end Go.Proofs.YtplieplmhdfndaaGreatDoor

namespace Go.Proofs.YtplieplmhdfndaaGreatDoor.Chk
open Go

def isBad (b : UInt8) : Bool := b == 47 || b == 0
def anyBad (l : List UInt8) : Bool := l.any isBad
def chk (l : List UInt8) : Int := if l = [] ∨ l = [46] ∨ l = [46, 46] then 7 else if 26 < l.length then 12 else if anyBad l = true then 7 else 0

theorem isBad_iff (b : UInt8) : isBad b = true ↔ b.toNat = 47 ∨ b.toNat = 0 := by
  unfold isBad
  simp only [Bool.or_eq_true, beq_iff_eq]
  constructor
  · rintro (rfl | rfl) <;> simp
  · rintro (h | h)
    · left; exact UInt8.toNat_inj.mp (by simpa using h)
    · right; exact UInt8.toNat_inj.mp (by simpa using h)

theorem anyBad_snoc (s : ByteArray) (k : Nat) (h : k < s.size) : anyBad (s.data.toList.take (k + 1)) = (anyBad (s.data.toList.take k) || isBad s[k]) := by
  unfold anyBad
  rw [List.take_succ_eq_append_getElem (by simpa using h)]
  simp
  rfl

theorem anyBad_of_get (s : ByteArray) (k : Nat) (h : k < s.size) (hb : isBad s[k] = true) : anyBad s.data.toList = true := by
  unfold anyBad
  rw [List.any_eq_true]
  exact ⟨s[k], by simp [ByteArray.getElem_eq_getElem_data], hb⟩

theorem anyBad_end (s : ByteArray) (k : Nat) (h : ¬ k < s.size) : anyBad (s.data.toList.take k) = anyBad s.data.toList := by
  rw [List.take_of_length_le]
  simp; simpa using h

theorem get_k (s : ByteArray) (p : Nat) (h : p < s.size) : s.get! p = s[p]'h := by
  simp [ByteArray.get!, getElem!_pos, h]
  rfl

/-- Bytes that a rune of more than a byte takes are all high. -/
theorem decode_cont (s : ByteArray) (pos : Nat) (h : pos < s.size) (ha : 128 ≤ (s[pos]'h).toNat) (j : Nat) (hj : j < (Utf8.decode s pos).2) :
    ∃ hp : pos + j < s.size, 128 ≤ (s[pos + j]'hp).toNat := by
  by_cases hj0 : j = 0
  · subst hj0; exact ⟨h, ha⟩
  have key : pos + j < s.size ∧ (s.get! (pos + j)).toNat / 64 = 2 := by
    have hn : ¬ (s[pos]'h).toNat < 128 := by omega
    simp only [Utf8.decode, get_at s pos h, hn, if_false] at hj
    repeat' split at hj
    all_goals simp_all
    all_goals first | omega | skip
    · obtain rfl : j = 1 := by omega
      simp_all
    · have : j = 1 ∨ j = 2 := by omega
      rcases this with rfl | rfl <;> simp_all
    · have : j = 1 ∨ j = 2 ∨ j = 3 := by omega
      rcases this with rfl | rfl | rfl <;> simp_all
  refine ⟨key.1, ?_⟩
  have := key.2
  rw [get_k s _ key.1] at this
  omega

theorem isBad_high (b : UInt8) (h : 128 ≤ b.toNat) : isBad b = false := by
  cases hb : isBad b with
  | false => rfl
  | true => rw [isBad_iff] at hb; omega

theorem anyBad_more (s : ByteArray) (pos n : Nat) (h0 : anyBad (s.data.toList.take pos) = false) (h : ∀ j, j < n → ∃ hp : pos + j < s.size, isBad (s[pos + j]'hp) = false) :
    anyBad (s.data.toList.take (pos + n)) = false := by
  induction n with
  | zero => exact h0
  | succ n ih =>
    obtain ⟨hp, hb⟩ := h n (by omega)
    rw [← Nat.add_assoc, anyBad_snoc s (pos + n) hp, ih (fun j hj => h j (by omega)), hb]
    rfl

/-- One rune that is neither of the two leads on. -/
theorem step_rune (s : ByteArray) (pos : Nat) (hp : pos < s.size) (h0 : anyBad (s.data.toList.take pos) = false)
    (h1 : ¬ ((Utf8.decode s pos).1 : Int) = 47) (h2 : ¬ ((Utf8.decode s pos).1 : Int) = 0) : anyBad (s.data.toList.take (pos + (Utf8.decode s pos).2)) = false := by
  by_cases ha : (s[pos]'hp).toNat < 128
  · rw [decode_ascii s pos hp ha] at h1 h2 ⊢
    rw [anyBad_snoc s pos hp, h0]
    cases hb : isBad (s[pos]'hp) with
    | false => rfl
    | true => rw [isBad_iff] at hb; simp at h1 h2; omega
  · refine anyBad_more s pos _ h0 fun j hj => ?_
    obtain ⟨q, hq⟩ := decode_cont s pos hp (by omega) j hj
    exact ⟨q, isBad_high _ hq⟩

/-- One of the two is a bad byte there. -/
theorem hit_rune (s : ByteArray) (pos : Nat) (hp : pos < s.size) (h : ((Utf8.decode s pos).1 : Int) = 47 ∨ ((Utf8.decode s pos).1 : Int) = 0) : anyBad s.data.toList = true := by
  by_cases ha : (s[pos]'hp).toNat < 128
  · rw [decode_ascii s pos hp ha] at h
    refine anyBad_of_get s pos hp ?_
    rw [isBad_iff]; simp at h; omega
  · have := (decode_high s pos hp (by omega)).1; omega

theorem width_pos (s : ByteArray) (pos : Nat) (h : pos < s.size) : 1 ≤ (Utf8.decode s pos).2 := by
  by_cases ha : (s[pos]'h).toNat < 128
  · rw [decode_ascii s pos h ha]
    exact Nat.le_refl _
  · exact (decode_high s pos h (by omega)).2
end Go.Proofs.YtplieplmhdfndaaGreatDoor.Chk

namespace Go.Proofs.YtplieplmhdfndaaGreatDoor.Chk
open Go.RowKit

/-- What both give, in the walk's words. -/
def chkS (s : ByteArray) : Int := if s.toList = [] ∨ s.toList = [46] ∨ s.toList = [46, 46] then 7 else if 26 < s.size then 12 else if anyBad s.data.toList = true then 7 else 0
theorem ret_int {k : IntKind} {a b : Int} (h : a = b) : Ending.returned (.int k a) = .returned (.int k b) := by rw [h]
theorem spell1 (s : ByteArray) (h : s.toList = []) : chkS s = 7 := by simp [chkS, h]
theorem spell2 (s : ByteArray) (h : s.toList = [46]) : chkS s = 7 := by simp [chkS, h]
theorem spell3 (s : ByteArray) (h : (s.toList.isEmpty = true ∨ (s.toList == [46]) = true) ∨ (s.toList == [46, 46]) = true) : chkS s = 7 := by
  unfold chkS
  rw [if_pos]
  rcases h with (h | h) | h
  · left; simpa using h
  · right; left; simpa using h
  · right; right; simpa using h
theorem spell_no (s : ByteArray) (h : (s.toList.isEmpty = false ∧ (s.toList == [46]) = false) ∧ (s.toList == [46, 46]) = false) : ¬ (s.toList = [] ∨ s.toList = [46] ∨ s.toList = [46, 46]) := by
  obtain ⟨⟨h1, h2⟩, h3⟩ := h
  simp at h1 h2 h3
  simp [h1, h2, h3]
theorem spell4 (s : ByteArray) (h : (s.toList.isEmpty = false ∧ (s.toList == [46]) = false) ∧ (s.toList == [46, 46]) = false) (h4 : (26 : Int) < (s.size : Int)) : chkS s = 12 := by
  unfold chkS
  rw [if_neg (spell_no s h), if_pos (by omega)]
theorem spell5 (s : ByteArray) (h : (s.toList.isEmpty = false ∧ (s.toList == [46]) = false) ∧ (s.toList == [46, 46]) = false) (h4 : (s.size : Int) ≤ 26) : chkS s = if anyBad s.data.toList = true then 7 else 0 := by
  unfold chkS
  rw [if_neg (spell_no s h), if_neg (by omega)]

theorem or_beq {a b c : Int} (h : (a == b) = true ∨ (a == c) = true) : a = b ∨ a = c := by simpa using h
theorem nor_beq {a b c : Int} (h : (a == b) = false ∧ (a == c) = false) : ¬ a = b ∧ ¬ a = c := by simpa using h
theorem hit_byte (s : ByteArray) (k : Nat) (hk : k < s.size) (h : (s[k].toNat : Int) = 47 ∨ (s[k].toNat : Int) = 0) : isBad s[k] = true := by
  rw [isBad_iff]; omega
theorem hit_byte2 (s : ByteArray) (k : Nat) (hk : k < s.size) (h : ((s[k].toNat : Int) == 47) = true ∨ ((s[k].toNat : Int) == 0) = true) : isBad s[k] = true :=
  hit_byte s k hk (or_beq h)
theorem step_byte (s : ByteArray) (k : Nat) (hk : k < s.size) (h0 : anyBad (s.data.toList.take k) = false) (h : ((s[k].toNat : Int) == 47) = false ∧ ((s[k].toNat : Int) == 0) = false) :
    anyBad (s.data.toList.take (k + 1)) = false := by
  rw [anyBad_snoc s k hk, h0]
  cases hb : isBad s[k] with
  | false => rfl
  | true => rw [isBad_iff] at hb; have := nor_beq h; omega

set_option maxHeartbeats 400000 in
theorem spec_any (s : ByteArray) (w : World) (hs : s.size ≤ maxLen) :
    Calls Tryz.prog 154 #[.string s] w fun e w' => e = .returned (.int .i64 (chkS s)) ∧ w' = w := by
  unfold maxLen at hs
  go_enter Tryz.func154, Tryz.ntmps154
  go_wp2
  · go_ret; exact ⟨ret_int (spell1 s ‹_›).symm, rfl⟩
  · go_ret; exact ⟨ret_int (spell2 s ‹_›).symm, rfl⟩
  · go_ret; exact ⟨ret_int (spell3 s ‹_›).symm, rfl⟩
  · go_ret; exact ⟨ret_int (spell4 s ‹_› ‹_›).symm, rfl⟩
  · have HF : Hid (chkS s = if anyBad s.data.toList = true then 7 else 0) := spell5 s ‹_› ‹_›
    go_loop [3] (fun i => ∃ k : Nat, k ≤ s.size ∧ i = .int .i64 k ∧ anyBad (s.data.toList.take k) = false) (fun i => s.size - (intOf i).toNat)
    case atStart => exact ⟨0, Nat.zero_le _, rfl, rfl⟩
    case round =>
      obtain ⟨k, hk, rfl, hb⟩ := hrel
      have HB : Hid (anyBad (s.data.toList.take k) = false) := hb
      clear hb
      by_cases hlt : k < s.size
      · go_wp2
        · go_ret
          exact ⟨ret_int (by rw [HF.out, anyBad_of_get s k hlt (hit_byte s k hlt (.inl ‹_›))]; simp), rfl⟩
        · go_ret
          exact ⟨ret_int (by rw [HF.out, anyBad_of_get s k hlt (hit_byte2 s k hlt ‹_›)]; simp), rfl⟩
        · go_round
          case rel => exact ⟨k + 1, by omega, by go_num, step_byte s k hlt HB.out ‹_›⟩
          case measure => simp [intOf]; omega
      · go_wp2
        go_ret
        have hb := HB.out
        rw [anyBad_end s k hlt] at hb
        exact ⟨ret_int (by rw [HF.out, hb]; simp), rfl⟩

theorem frozen_iter (w : World) (s : ByteArray) (pos : Nat) (a : Addr) : (w.iter s pos).frozen? a = w.frozen? a := by
  by_cases h : a.block = w.heap.size
  · have e1 : (w.iter s pos).heap[a.block]? = some (.stringIter s pos) := by rw [h]; exact World.iter_heap w s pos
    have e2 : w.heap[a.block]? = none := by rw [h]; simp
    simp [World.frozen?, e1, e2]
  · have e1 : (w.iter s pos).heap[a.block]? = w.heap[a.block]? := by
      show (w.heap.push (Obj.stringIter s pos))[a.block]? = _
      rw [Array.getElem?_push]; simp [h]
    simp [World.frozen?, e1]
theorem grown_iter (w : World) (s : ByteArray) (pos : Nat) : Grown w (w.iter s pos) := ⟨World.keptBut_alloc w _ _, frozen_iter w s pos, by simp [World.iter]⟩

set_option maxHeartbeats 400000 in
theorem impl_any (s : ByteArray) (w : World) (hs : s.size ≤ maxLen) :
    Calls Tryz.prog 139 #[.string s] w fun e w' => e = .returned (.int .i64 (chkS s)) ∧ (w' = w ∨ ∃ pos, w' = w.iter s pos) := by
  unfold maxLen at hs
  cases e1 : s.toList.isEmpty with
  | true =>
    go_enter Tryz.func139, Tryz.ntmps139
    go_wp2
    go_ret; exact ⟨ret_int (spell3 s (.inl (.inl e1))).symm, .inl rfl⟩
  | false =>
  cases e2 : s.toList == [46] with
  | true =>
    go_enter Tryz.func139, Tryz.ntmps139
    go_wp2
    go_ret; exact ⟨ret_int (spell3 s (.inl (.inr e2))).symm, .inl rfl⟩
  | false =>
  cases e3 : s.toList == [46, 46] with
  | true =>
    go_enter Tryz.func139, Tryz.ntmps139
    go_wp2
    go_ret; exact ⟨ret_int (spell3 s (.inr e3)).symm, .inl rfl⟩
  | false =>
  by_cases h26 : (26 : Int) < (s.size : Int)
  · go_enter Tryz.func139, Tryz.ntmps139
    go_wp2
    go_ret; exact ⟨ret_int (spell4 s ⟨⟨e1, e2⟩, e3⟩ h26).symm, .inl rfl⟩
  · replace h26 : (s.size : Int) ≤ 26 := by omega
    have HF : Hid (chkS s = if anyBad s.data.toList = true then 7 else 0) := spell5 s ⟨⟨e1, e2⟩, e3⟩ h26
    go_enter Tryz.func139, Tryz.ntmps139
    go_wp2
    go_loopw [4] (fun _ w' => ∃ pos : Nat, w' = w.iter s pos ∧ anyBad (s.data.toList.take pos) = false) (fun _ w' => s.size - w'.iterPos w.heap.size)
    case atStart => exact ⟨0, rfl, rfl⟩
    case round =>
      obtain ⟨pos, rfl, hb⟩ := hrel
      have HB : Hid (anyBad (s.data.toList.take pos) = false) := hb
      clear hb
      by_cases hp : pos < s.size
      · have hnx : ∀ ty, (Instr.next (.pointer (some ⟨w.heap.size, 0, none⟩)) true ty).run Tryz.prog (w.iter s pos) = _ := fun ty => run_next_any w s pos ty hp
        go_wp2
        · go_ret
          exact ⟨ret_int (by rw [HF.out, hit_rune s pos hp (.inl ‹_›)]; simp), .inr ⟨_, rfl⟩⟩
        · go_ret
          exact ⟨ret_int (by rw [HF.out, hit_rune s pos hp (or_beq ‹_›)]; simp), .inr ⟨_, rfl⟩⟩
        · have hwd := width_pos s pos hp
          go_roundw
          case rel =>
            exact ⟨_, rfl, step_rune s pos hp HB.out (nor_beq ‹_›).1 (nor_beq ‹_›).2⟩
          case measure => simp; omega
      · have hnx : ∀ ty, (Instr.next (.pointer (some ⟨w.heap.size, 0, none⟩)) true ty).run Tryz.prog (w.iter s pos) = _ := fun ty => run_next_end w s pos ty hp
        go_wp2
        go_ret
        have hb := HB.out
        rw [anyBad_end s pos hp] at hb
        exact ⟨ret_int (by rw [HF.out, hb]; simp), .inr ⟨_, rfl⟩⟩
end Go.Proofs.YtplieplmhdfndaaGreatDoor.Chk
