/- SplitPath of the model and of the program. Names that lie anywhere in a row of strings. Walking paths in a right state: mathematics. -/
import Derived.Test.YtplieplmhdfndaaGreatDoorZa42
import Derived.Lib.IndexAny
import Derived.Test.YtplieplmhdfndaaGreatDoorZa38
import Derived.Test.YtplieplmhdfndaaGreatDoorZa39
namespace Go.Proofs.YtplieplmhdfndaaGreatDoor
set_option linter.unusedVariables false
set_option linter.unusedSimpArgs false
open Go.RowKit

theorem get_zero (s : ByteArray) (k : Nat) (h : k < s.size) : (s.get! k = 0) ↔ ((s[k].toNat : Int) = 0) := by
  rw [Chk.get_k s k h]
  constructor
  · intro e; rw [e]; rfl
  · intro e; exact UInt8.toNat_inj.1 (by have : (0 : UInt8).toNat = 0 := rfl; omega)
theorem names_refused {s : ByteArray} {c : Int} (h : Spl.codeSP s = c) (hc : c ≠ 0) : Spl.namesSP s = [] := by
  unfold Spl.namesSP
  rw [if_neg (by rw [h]; exact hc)]
theorem names_told {s : ByteArray} (h : Spl.codeSP s = 0) : Spl.namesSP s = Spl.names s := by
  unfold Spl.namesSP
  rw [if_pos h]

/-- What both answer. -/
def SpQ (s : ByteArray) (w : World) (e : Ending) (w' : World) : Prop := ∃ v, e = .returned (.tuple #[v, .int .i64 (Spl.codeSP s)]) ∧ w'.ownsRow w.heap.size 9 1 v (Spl.namesSP s).length ((Spl.namesSP s).map Value.string) ∧ Below w.heap.size w w'
theorem SpQ.no {s : ByteArray} {w w' : World} {c : Int} (h : Spl.codeSP s = c) (hc : c ≠ 0) (hb : Below w.heap.size w w') : SpQ s w (.returned (.tuple #[.slice none 0 0, .int .i64 c])) w' :=
  ⟨_, by rw [h], by rw [names_refused h hc]; exact ⟨rfl, Or.inl ⟨rfl, rfl⟩⟩, hb⟩

set_option maxHeartbeats 1000000 in
theorem specSplit_any (s : ByteArray) (w : World) (hm : s.size ≤ 9223372036854775807) :
    Calls Tryz.prog 28 #[.string s] w (SpQ s w) := by
  by_cases h0 : s.size = 0
  · have he : s.toList.isEmpty = true := by rw [isEmpty_size]; simp [h0]
    have HC := hide (show Spl.codeSP s = 7 from by simp [Spl.codeSP, h0])
    clear h0
    go_enter Tryz.func28, Tryz.ntmps28
    go_wp2
    go_ret2
    exact SpQ.no HC.out (by decide) (Below.refl _ _)
  have he : s.toList.isEmpty = false := by rw [isEmpty_size]; simp [h0]
  by_cases h512 : 512 < s.size
  · have HC := hide (show Spl.codeSP s = 12 from by simp [Spl.codeSP, h0, h512])
    go_enter Tryz.func28, Tryz.ntmps28
    go_wp2
    go_ret2
    exact SpQ.no HC.out (by decide) (Below.refl _ _)
  have hp0 : 0 < s.size := by omega
  by_cases h47 : s.get! 0 = 47
  · have hq : ((s[0].toNat : Int) != 47) = false := by have := (get_at_k s 0 hp0).1 h47; simp [this]
    have HC := hide (show Spl.codeSP s = if Spl.zeroIn s = true then 7 else if Spl.longN (Spl.names s) = true then 12 else 0 from by simp [Spl.codeSP, h0, h512, h47])
    clear h47
    go_enter Tryz.func28, Tryz.ntmps28
    go_wp2
    go_loop [4] (fun i => ∃ k : Nat, k ≤ s.size ∧ i = .int .i64 k ∧ ∀ j, j < k → s.get! j ≠ 0) (fun i => s.size - (intOf i).toNat)
    case atStart => exact ⟨0, by omega, rfl, fun j hj => by omega⟩
    case round =>
      obtain ⟨k, hk, rfl, hall⟩ := hrel
      have HA := hide hall
      clear hall
      by_cases hlt : k < s.size
      · by_cases hz : s.get! k = 0
        · have hq2 : ((s[k].toNat : Int) == 0) = true := by have := (get_zero s k hlt).1 hz; simp [this]
          have HR := hide (show Spl.codeSP s = 7 from by rw [HC.out, if_pos ((Spl.zeroIn_iff s).2 ⟨k, hlt, hz⟩)])
          clear hz
          go_wp2
          go_ret2
          exact SpQ.no HR.out (by decide) (Below.refl _ _)
        · have hq2 : ((s[k].toNat : Int) == 0) = false := by have := mt (get_zero s k hlt).2 hz; simp; omega
          have HR := hide (show ∀ j, j < k + 1 → s.get! j ≠ 0 from fun j hj => by rcases Nat.lt_succ_iff_lt_or_eq.1 hj with h1 | h1; exact HA.out j h1; subst h1; exact hz)
          clear hz
          go_wp2
          go_round
          case rel => exact ⟨k + 1, by omega, by go_num, HR.out⟩
          case measure => simp [intOf]; omega
      · obtain rfl : k = s.size := by omega
        have HZ := hide (show Spl.codeSP s = if Spl.longN (Spl.names s) = true then 12 else 0 from by
          rw [HC.out, if_neg]
          intro h
          obtain ⟨j, hj, he⟩ := (Spl.zeroIn_iff s).1 h
          exact HA.out j hj he)
        clear HA
        go_wp2_with (go_at_call 50; fail)
        refine (specCut_any s _ (by omega)).mono ?_
        rintro e w1 ⟨v1, rfl, o1, b1⟩
        have H1 := hide (And.intro o1 b1)
        have hnl := Spl.names_len s
        clear o1 b1
        go_wp2_with fail
        refine (specLong_any v1 (Spl.names s) _ (RdS.own H1.out.1) (by omega)).mono ?_
        rintro e w2 ⟨rfl, hw2⟩
        rw [hw2]
        clear hw2
        cases hlg : Spl.longN (Spl.names s) with
        | true =>
          have HR := hide (show Spl.codeSP s = 12 from by rw [HZ.out, if_pos hlg])
          clear hlg
          go_wp2
          go_ret2
          exact SpQ.no HR.out (by decide) H1.out.2
        | false =>
          have HR := hide (show Spl.codeSP s = 0 from by rw [HZ.out, if_neg (by rw [hlg]; decide)])
          clear hlg
          go_wp2
          go_ret2
          exact ⟨_, by rw [HR.out]; rfl, by rw [names_told HR.out]; exact H1.out.1, H1.out.2⟩
  · have hq : ((s[0].toNat : Int) != 47) = true := by have := mt (get_at_k s 0 hp0).2 h47; simp; omega
    have HC := hide (show Spl.codeSP s = 7 from by simp [Spl.codeSP, h0, h512, h47])
    clear h47
    go_enter Tryz.func28, Tryz.ntmps28
    go_wp2
    go_ret2
    exact SpQ.no HC.out (by decide) (Below.refl _ _)

theorem isSlash_any (x : Nat) (w : World) (hx : x ≤ 1114111) : Calls Tryz.prog 158 #[.int .i32 (x : Int)] w fun e w' => e = .returned (.bool (Spl.isSl x)) ∧ w' = w := by
  go_enter Tryz.func158, Tryz.ntmps158
  go_wp2
  go_ret
  refine ⟨ret_bool ?_, rfl⟩
  unfold Spl.isSl
  cases h : (x == 47) with
  | true => simp at h; subst h; rfl
  | false => simp at h; simp; omega
theorem slash_pred (w : World) : PredGrows Tryz.prog 158 #[] Spl.isSl w := fun W x hx hb => (isSlash_any x W hx).mono fun e w' h => ⟨h.1, by rw [h.2]; exact Below.refl _ _⟩
theorem implFields_any (s : ByteArray) (w : World) (hs : s.size ≤ 512) :
    Calls Tryz.prog 157 #[.string s, .func (.func 158) #[] #[]] w fun e w' => ∃ v, e = .returned v ∧ w'.ownsRow w.heap.size 9 1 v (Spl.names s).length ((Spl.names s).map Value.string) ∧ Below w.heap.size w w' := by
  refine (strings_FieldsFunc_grows 158 #[] (enters_of Tryz.func158 (by kernel_rfl) rfl) Spl.isSl s w (by omega) (slash_pred w)).mono ?_
  rintro e w' ⟨A, rfl, hA, ho, hb⟩
  rw [Spl.fields_names] at ho ⊢
  exact ⟨_, rfl, ho, hb⟩

def codeCN (L : List ByteArray) : Int := if Spl.longN L = true then 12 else 0
def namesCN (L : List ByteArray) : List ByteArray := if Spl.longN L = true then [] else L
theorem cn_yes {L : List ByteArray} (h : Spl.longN L = true) : codeCN L = 12 ∧ namesCN L = [] := by simp [codeCN, namesCN, h]
theorem cn_no {L : List ByteArray} (h : Spl.longN L = false) : codeCN L = 0 ∧ namesCN L = L := by simp [codeCN, namesCN, h]
theorem implCutNames_any (s : ByteArray) (w : World) (hs : s.size ≤ 512) :
    Calls Tryz.prog 114 #[.string s] w fun e w' => ∃ v, e = .returned (.tuple #[v, .int .i64 (codeCN (Spl.names s))]) ∧ w'.ownsRow w.heap.size 9 1 v (namesCN (Spl.names s)).length ((namesCN (Spl.names s)).map Value.string) ∧ Below w.heap.size w w' := by
  have hnl := Spl.names_len s
  go_enter Tryz.func114, Tryz.ntmps114
  go_wp2_with (go_at_call 157; fail)
  refine (implFields_any s _ hs).mono ?_
  rintro e w1 ⟨v1, rfl, o1, b1⟩
  have H1 := hide (And.intro o1 b1)
  have hR := RdS.own o1
  clear o1 b1
  generalize hL : Spl.names s = L at H1 hR hnl
  have HL0 := hide hL
  clear hL
  obtain ⟨a, cap, rfl, hc1, hc2, hcell⟩ := hR
  have hcap : cap ≤ 9223372036854775807 := hc2
  have HC := hide hcell
  clear hc2 hcell
  by_cases h40 : 40 < L.length
  · have HR := hide (cn_yes (show Spl.longN L = true from by simp [Spl.longN, h40]))
    go_wp2_with fail
    go_ret2
    exact ⟨_, by rw [HL0.out, HR.out.1]; rfl, by rw [HL0.out, HR.out.2]; exact ⟨rfl, Or.inl ⟨rfl, rfl⟩⟩, H1.out.2⟩
  · go_wp2_with fail
    go_loop [14] (fun i => ∃ k : Nat, k ≤ L.length ∧ i = .int .i64 k ∧ ∀ j, j < k → ¬ 26 < (L.getD j ⟨#[]⟩).size) (fun i => L.length - (intOf i).toNat)
    case atStart => exact ⟨0, by omega, rfl, fun j hj => by omega⟩
    case round =>
      obtain ⟨k, hk, rfl, hall⟩ := hrel
      have HA := hide hall
      clear hall
      by_cases hlt : k < L.length
      · obtain ⟨b, rfl, hbw, hcc⟩ := HC.out (by omega)
        have c0 := hcc k hlt
        have HL := hide (longN_yes L k hlt)
        have HM := hide (show ¬ 26 < (L.getD k ⟨#[]⟩).size → ∀ j, j < k + 1 → ¬ 26 < (L.getD j ⟨#[]⟩).size from fun h j hj => by rcases Nat.lt_succ_iff_lt_or_eq.1 hj with h1 | h1; exact HA.out j h1; subst h1; exact h)
        generalize L.getD k ⟨#[]⟩ = x at c0 HL HM
        clear hcc
        by_cases h26 : 26 < x.size
        · have HR := hide (cn_yes (HL.out h26))
          go_wp2
          go_ret2
          exact ⟨_, by rw [HL0.out, HR.out.1]; rfl, by rw [HL0.out, HR.out.2]; exact ⟨rfl, Or.inl ⟨rfl, rfl⟩⟩, H1.out.2⟩
        · have HR := hide (HM.out h26)
          go_wp2
          go_round
          case rel => exact ⟨k + 1, by omega, by go_num, HR.out⟩
          case measure => simp [intOf]; omega
      · obtain rfl : k = L.length := by omega
        have HR := hide (cn_no (longN_no L h40 HA.out))
        go_wp2
        go_ret2
        exact ⟨_, by rw [HL0.out, HR.out.1]; rfl, by rw [HL0.out, HR.out.2]; exact H1.out.1, H1.out.2⟩

theorem implSplit_any (s : ByteArray) (w : World) (hm : s.size ≤ 9223372036854775807) :
    Calls Tryz.prog 72 #[.string s] w (SpQ s w) := by
  by_cases h0 : s.size = 0
  · have he : s.toList.isEmpty = true := by rw [isEmpty_size]; simp [h0]
    have HC := hide (show Spl.codeSP s = 7 from by simp [Spl.codeSP, h0])
    clear h0
    go_enter Tryz.func72, Tryz.ntmps72
    go_wp2
    go_ret2
    exact SpQ.no HC.out (by decide) (Below.refl _ _)
  have he : s.toList.isEmpty = false := by rw [isEmpty_size]; simp [h0]
  by_cases h512 : 512 < s.size
  · have HC := hide (show Spl.codeSP s = 12 from by simp [Spl.codeSP, h0, h512])
    go_enter Tryz.func72, Tryz.ntmps72
    go_wp2
    go_ret2
    exact SpQ.no HC.out (by decide) (Below.refl _ _)
  have hp0 : 0 < s.size := by omega
  by_cases h47 : s.get! 0 = 47
  · have hq : ((s[0].toNat : Int) != 47) = false := by have := (get_at_k s 0 hp0).1 h47; simp [this]
    have HC := hide (show Spl.codeSP s = if Spl.zeroIn s = true then 7 else if Spl.longN (Spl.names s) = true then 12 else 0 from by simp [Spl.codeSP, h0, h512, h47])
    have HD := hide (show decide (0 ≤ Lib.indexByte s.data.toList 0) = Spl.zeroIn s from (Lib.contains_iff_indexByte s.data.toList 0).symm)
    clear h47
    cases hz : Spl.zeroIn s with
    | true =>
      have HR := hide (show Spl.codeSP s = 7 from by rw [HC.out, if_pos hz])
      have HZ := hide (HD.out.trans hz)
      clear hz HD HC
      go_enter Tryz.func72, Tryz.ntmps72
      go_wp2_with (go_at_call 113; refine (strings_Contains_one s 0 _).mono ?_; rintro e w1 ⟨rfl, hw1⟩; rw [HZ.out, hw1]; clear hw1)
      go_ret2
      exact SpQ.no HR.out (by decide) (Below.refl _ _)
    | false =>
      have HR := hide (show Spl.codeSP s = codeCN (Spl.names s) from by rw [HC.out, if_neg (by rw [hz]; decide)]; rfl)
      have HZ := hide (HD.out.trans hz)
      clear hz HD HC
      go_enter Tryz.func72, Tryz.ntmps72
      go_wp2_with (first
        | (go_at_call 113; refine (strings_Contains_one s 0 _).mono ?_; rintro e w1 ⟨rfl, hw1⟩; rw [HZ.out, hw1]; clear hw1)
        | (go_at_call 114; refine (implCutNames_any s _ (by omega)).mono ?_; rintro e w2 ⟨v2, rfl, o2, b2⟩; have H2 := hide (And.intro o2 b2); clear o2 b2))
      go_ret2
      refine ⟨_, by rw [HR.out]; rfl, ?_, H2.out.2⟩
      cases hlg : Spl.longN (Spl.names s) with
      | true =>
        have h := H2.out.1
        rw [(cn_yes hlg).2] at h
        rw [names_refused (c := 12) (by rw [HR.out, (cn_yes hlg).1]) (by decide)]
        exact h
      | false =>
        have h := H2.out.1
        rw [(cn_no hlg).2] at h
        rw [names_told (by rw [HR.out, (cn_no hlg).1])]
        exact h
  · have hq : ((s[0].toNat : Int) != 47) = true := by have := mt (get_at_k s 0 hp0).2 h47; simp; omega
    have HC := hide (show Spl.codeSP s = 7 from by simp [Spl.codeSP, h0, h512, h47])
    clear h47
    go_enter Tryz.func72, Tryz.ntmps72
    go_wp2
    go_ret2
    exact SpQ.no HC.out (by decide) (Below.refl _ _)
end Go.Proofs.YtplieplmhdfndaaGreatDoor

namespace Go.Proofs.YtplieplmhdfndaaGreatDoor
set_option linter.unusedVariables false
set_option linter.unusedSimpArgs false
open Go.RowKit

def RdO (w : World) (v : Value) (ns : List ByteArray) : Prop := ∃ a cap, v = .slice a ns.length cap ∧ ns.length ≤ cap ∧ cap ≤ maxLen ∧ (0 < ns.length → ∃ b off, a = some ⟨b, off, none⟩ ∧ b < w.heap.size ∧ w.rangeAt b off (ns.map Value.string))
theorem RdO.below {w w' : World} {v : Value} {ns : List ByteArray} (h : RdO w v ns) (hb : Below w.heap.size w w') : RdO w' v ns := by
  obtain ⟨a, cap, e, h1, h2, h3⟩ := h
  refine ⟨a, cap, e, h1, h2, fun hn => ?_⟩
  obtain ⟨b, off, ea, hlt, hr⟩ := h3 hn
  exact ⟨b, off, ea, Nat.lt_of_lt_of_le hlt hb.size, fun j u hu => (hb.cell (p := ⟨b, off + j, none⟩) hlt).trans (hr j u hu)⟩
theorem RdO.own {w : World} {base n : Nat} {v : Value} {ns : List ByteArray} (h : w.ownsRow base 9 1 v n (ns.map Value.string)) : RdO w v ns := by
  obtain ⟨a, cap, e, h1, h2, h3⟩ := RdS.own h
  refine ⟨a, cap, e, h1, h2, fun hn => ?_⟩
  obtain ⟨b, ea, hlt, hc⟩ := h3 hn
  refine ⟨b, 0, ea, hlt, fun j u hu => ?_⟩
  rw [List.getElem?_map] at hu
  obtain ⟨s, hs, rfl⟩ := Option.map_eq_some_iff.1 hu
  have hj : j < ns.length := (List.getElem?_eq_some_iff.1 hs).1
  rw [Nat.zero_add, hc j hj]
  simp [List.getD, hs]
/-- The first name, and where the others lie. -/
theorem RdO.cons {w : World} {v : Value} {nm : ByteArray} {r : List ByteArray} (h : RdO w v (nm :: r)) : ∃ b off cap o2, v = .slice (some ⟨b, off, none⟩) (r.length + 1) cap ∧ r.length + 1 ≤ cap ∧ cap ≤ maxLen ∧ b < w.heap.size ∧ w.cell? ⟨b, off, none⟩ = some (.string nm) ∧ (if cap = 1 then some (⟨b, off, none⟩ : Addr) else some ⟨b, off + 1, none⟩) = some ⟨b, o2, none⟩ ∧ RdO w (.slice (some ⟨b, o2, none⟩) r.length (cap - 1)) r ∧ w.rangeAt b o2 (r.map Value.string) := by
  obtain ⟨a, cap, e, h1, h2, h3⟩ := h
  obtain ⟨b, off, rfl, hlt, hr⟩ := h3 (by simp)
  simp only [List.length_cons] at e h1
  have ht : w.rangeAt b (off + 1) (r.map Value.string) := fun j u hu => by
    have := hr (j + 1) u (by simpa using hu)
    rw [show off + 1 + j = off + (j + 1) by omega]
    exact this
  by_cases hc : cap = 1
  · have hr0 : r = [] := by cases r with
      | nil => rfl
      | cons x y => simp at h1; omega
    subst hr0
    have ht0 : w.rangeAt b off (([] : List ByteArray).map Value.string) := fun j u hu => by simp at hu
    exact ⟨b, off, cap, off, e, h1, h2, hlt, hr 0 _ rfl, by rw [if_pos hc], ⟨_, _, rfl, by simp, by omega, fun h => by simp at h⟩, ht0⟩
  · exact ⟨b, off, cap, off + 1, e, h1, h2, hlt, hr 0 _ rfl, by rw [if_neg hc], ⟨_, _, rfl, by omega, by omega, fun _ => ⟨b, off + 1, rfl, hlt, ht⟩⟩, ht⟩
end Go.Proofs.YtplieplmhdfndaaGreatDoor

namespace Go.Proofs.YtplieplmhdfndaaGreatDoor
set_option linter.unusedVariables false
set_option linter.unusedSimpArgs false
open Go.RowKit

def wkDot : ByteArray := ⟨#[46]⟩
def wkUp : ByteArray := ⟨#[46, 46]⟩
/-- The number and the kind that a name has in a directory. -/
def fiN (x : Nd) (nm : ByteArray) : Option (Nat × Nat) := (firstK x.d nm (x.d.length / 32)).map fun k => (sIno (slotK x.d k), sKind (slotK x.d k))
/-- From name to name; next is what comes behind a link that is followed. -/
def goN (L : List Nd) (uid gid : Int) (fw : Bool) (next : Nat → Nat → List ByteArray → Int × Int) : List ByteArray → Nat → Int × Int
  | [], cur => ((cur : Int), 0)
  | nm :: r, cur =>
    if (ndAt L cur).k ≠ 2 then (0, 5)
    else if mayB (ndAt L cur).m (ndAt L cur).u (ndAt L cur).g uid gid 1 = false then (0, 3)
    else if nm = wkDot then goN L uid gid fw next r cur
    else if nm = wkUp then goN L uid gid fw next r (ndAt L cur).p.toNat
    else match fiN (ndAt L cur) nm with
      | none => (0, 2)
      | some e => if e.2 = 3 ∧ (fw = true ∨ r ≠ []) then next cur e.1 r else goN L uid gid fw next r e.1
/-- A link's text. -/
def tgN (L : List Nd) (i : Nat) : ByteArray := strOfNums (ndAt L i).d
/-- With so many links left to follow. -/
def goH (L : List Nd) (uid gid : Int) (fw : Bool) : Nat → List ByteArray → Nat → Int × Int
  | 0 => goN L uid gid fw (fun _ _ _ => (0, 14))
  | h + 1 => goN L uid gid fw (fun cur t r => if Spl.longN (Spl.names (tgN L t)) = true then (0, 12) else goH L uid gid fw h (Spl.names (tgN L t) ++ r) (if (ndAt L t).d[0]? = some 47 then 1 else cur))
theorem entT_in {zs : List Int} : ∀ {n : Nat} {es : List (ByteArray × Nat × Nat)}, entT zs n = some es → ∀ k, k < n → sRight (slotK zs k) = true → (sName (slotK zs k), sIno (slotK zs k), sKind (slotK zs k)) ∈ es
  | 0, es, h, k, hk, _ => by omega
  | n + 1, es, h, k, hk, hr => by
    unfold entT at h
    cases h1 : entT zs n with
    | none => rw [h1] at h; cases h
    | some fs =>
      rw [h1] at h
      simp only at h
      by_cases hkn : k < n
      · have ih := entT_in h1 k hkn hr
        split at h
        · cases h; exact ih
        · split at h
          · cases h; exact List.mem_append_left _ ih
          · cases h
      · obtain rfl : k = n := by omega
        rw [if_neg (by rw [right_notZero hr]; decide)] at h
        split at h
        · cases h; exact List.mem_append_right _ (List.mem_singleton.2 rfl)
        · cases h
/-- A number that may be stood at: a node that is there. -/
def AtN (L : List Nd) (i : Nat) : Prop := 1 ≤ i ∧ i < L.length ∧ (ndAt L i).k ≠ 0
theorem AtN.root {C : Int} {L : List Nd} (h : RightS C L) : AtN L 1 := ⟨Nat.le_refl _, by have := h.len.1; omega, by rw [h.root.1]; decide⟩
theorem fi_to {C : Int} {L : List Nd} (h : RightS C L) {i : Nat} (hi : i < L.length) (hk : (ndAt L i).k = 2) {nm : ByteArray} {e : Nat × Nat} (he : fiN (ndAt L i) nm = some e) : (∃ nm', (nm', e.1, e.2) ∈ entN (ndAt L i)) ∧ e.1 < L.length ∧ (ndAt L e.1).k = (e.2 : Int) := by
  have hd := h.dirs i hi hk
  unfold dirOk at hd
  simp only [Bool.and_eq_true] at hd
  obtain ⟨es, hes⟩ := Option.isSome_iff_exists.1 hd.2.2.1
  unfold fiN at he
  obtain ⟨k, hk1, rfl⟩ := Option.map_eq_some_iff.1 he
  obtain ⟨hkn, hat⟩ := firstK_lt hk1
  unfold atK at hat
  rw [Bool.and_eq_true] at hat
  have hm := entT_in hes k hkn hat.1
  have hE : (sName (slotK (ndAt L i).d k), sIno (slotK (ndAt L i).d k), sKind (slotK (ndAt L i).d k)) ∈ entN (ndAt L i) := by
    unfold entN
    rw [if_pos hk, hes]
    exact hm
  exact ⟨⟨_, hE⟩, (h.ents i hi _ hE).2.1, (h.ents i hi _ hE).2.2⟩
/-- A directory's parent is a directory. -/
theorem par_to {C : Int} {L : List Nd} (h : RightS C L) {i : Nat} (h1 : 1 ≤ i) (hi : i < L.length) (hk : (ndAt L i).k = 2) : ∃ j : Nat, (ndAt L i).p = (j : Int) ∧ 1 ≤ j ∧ j < L.length ∧ (ndAt L j).k = 2 := by
  by_cases hi1 : i = 1
  · subst hi1
    exact ⟨1, h.root.2, Nat.le_refl _, hi, h.root.1⟩
  · have ho := h.one i (by omega) hi hk
    unfold namesE at ho
    have hpos : 0 < ((List.range L.length).flatMap (numE L)).countP (·.1 == i) := by omega
    obtain ⟨e, he, hei⟩ := List.countP_pos_iff.1 hpos
    obtain ⟨j, hj, hej⟩ := List.mem_flatMap.1 he
    rw [List.mem_range] at hj
    unfold numE at hej
    obtain ⟨x, hx, rfl⟩ := List.mem_map.1 hej
    have hxi : x.2.1 = i := by simpa using hei
    have hkd := (h.ents j hj x hx).2.2
    rw [hxi, hk] at hkd
    have hp := h.par j hj x hx (by omega)
    rw [hxi] at hp
    have hjk : (ndAt L j).k = 2 := by
      unfold entN at hx
      split at hx
      · assumption
      · cases hx
    refine ⟨j, hp, ?_, hj, hjk⟩
    rcases Nat.eq_zero_or_pos j with rfl | hj0
    · have hz := h.zero
      have : (ndAt L 0).k = 0 := by
        unfold freeN at hz
        simp only [Bool.and_eq_true, decide_eq_true_eq] at hz
        exact hz.1.1.1.1.1.1.1.1.1
      omega
    · exact hj0
end Go.Proofs.YtplieplmhdfndaaGreatDoor
