/- SplitPath of the model and of the program. -/
import Derived.Test.YtdkdmakjkodomaaSplA
import Derived.Test.YtdkdmakjkodomaaSplS
import Derived.Lib.IndexAny
import Derived.Test.YtdkdmakjkodomaaMid
namespace Go.Proofs.Ytdkdmakjkodomaa
set_option linter.unusedVariables false
set_option linter.unusedSimpArgs false
open Go.RowKit

theorem get_zero (s : ByteArray) (k : Nat) (h : k < s.size) : (s.get! k = 0) ↔ ((s[k].toNat : Int) = 0) := by
  rw [Chk.get_k s k h]
  constructor
  · intro e; rw [e]; rfl
  · intro e; exact UInt8.toNat_inj.1 (by have : (0 : UInt8).toNat = 0 := rfl; omega)
theorem own_nil (w : World) : w.ownsRow w.heap.size 9 1 (.slice none 0 0) 0 (([] : List ByteArray).map Value.string) := ⟨rfl, Or.inl ⟨rfl, rfl⟩⟩
theorem names_refused {s : ByteArray} {c : Int} (h : Spl.codeSP s = c) (hc : c ≠ 0) : Spl.namesSP s = [] := by
  unfold Spl.namesSP
  rw [if_neg (by rw [h]; exact hc)]
theorem names_told {s : ByteArray} (h : Spl.codeSP s = 0) : Spl.namesSP s = Spl.names s := by
  unfold Spl.namesSP
  rw [if_pos h]

/-- What both answer. -/
def SpQ (s : ByteArray) (w : World) (e : Ending) (w' : World) : Prop := ∃ v, e = .returned (.tuple #[v, .int .i64 (Spl.codeSP s)]) ∧ w'.ownsRow w.heap.size 9 1 v (Spl.namesSP s).length ((Spl.namesSP s).map Value.string) ∧ Below w.heap.size w w'
theorem SpQ.no {s : ByteArray} {w w' : World} {c : Int} (h : Spl.codeSP s = c) (hc : c ≠ 0) (hb : Below w.heap.size w w') : SpQ s w (.returned (.tuple #[.slice none 0 0, .int .i64 c])) w' :=
  ⟨_, by rw [h], by rw [names_refused h hc]; exact ⟨rfl, Or.inl ⟨rfl, rfl⟩⟩, hb⟩

set_option maxHeartbeats 1000000 in
theorem specSplit_any (s : ByteArray) (w : World) (hm : s.size ≤ 9223372036854775807) :
    Calls Try.prog 14 #[.string s] w (SpQ s w) := by
  by_cases h0 : s.size = 0
  · have he : s.toList.isEmpty = true := by rw [isEmpty_size]; simp [h0]
    have HC := hide (show Spl.codeSP s = 7 from by simp [Spl.codeSP, h0])
    clear h0
    go_enter Try.func14, Try.ntmps14
    go_wp2
    go_ret2
    exact SpQ.no HC.out (by decide) (Below.refl _ _)
  have he : s.toList.isEmpty = false := by rw [isEmpty_size]; simp [h0]
  by_cases h512 : 512 < s.size
  · have HC := hide (show Spl.codeSP s = 12 from by simp [Spl.codeSP, h0, h512])
    go_enter Try.func14, Try.ntmps14
    go_wp2
    go_ret2
    exact SpQ.no HC.out (by decide) (Below.refl _ _)
  have hp0 : 0 < s.size := by omega
  by_cases h47 : s.get! 0 = 47
  · have hq : ((s[0].toNat : Int) != 47) = false := by have := (get_at_k s 0 hp0).1 h47; simp [this]
    have HC := hide (show Spl.codeSP s = if Spl.zeroIn s = true then 7 else if Spl.longN (Spl.names s) = true then 12 else 0 from by simp [Spl.codeSP, h0, h512, h47])
    clear h47
    go_enter Try.func14, Try.ntmps14
    go_wp2
    go_loop [4] (fun i => ∃ k : Nat, k ≤ s.size ∧ i = .int .i64 k ∧ ∀ j, j < k → s.get! j ≠ 0) (fun i => s.size - (intOf i).toNat)
    case atStart => exact ⟨0, by omega, rfl, fun j hj => by omega⟩
    case round =>
      obtain ⟨k, hk, rfl, hall⟩ := hrel
      have HA := hide hall
      clear hall
      by_cases hlt : k < s.size
      · by_cases hz : s.get! k = 0
        · have hq2 : ((s[k].toNat : Int) == 0) = true := by have := (get_zero s k hlt).1 hz; simp [this]
          have HR := hide (show Spl.codeSP s = 7 from by rw [HC.out, if_pos ((Spl.zeroIn_iff s).2 ⟨k, hlt, hz⟩)])
          clear hz
          go_wp2
          go_ret2
          exact SpQ.no HR.out (by decide) (Below.refl _ _)
        · have hq2 : ((s[k].toNat : Int) == 0) = false := by have := mt (get_zero s k hlt).2 hz; simp; omega
          have HR := hide (show ∀ j, j < k + 1 → s.get! j ≠ 0 from fun j hj => by rcases Nat.lt_succ_iff_lt_or_eq.1 hj with h1 | h1; exact HA.out j h1; subst h1; exact hz)
          clear hz
          go_wp2
          go_round
          case rel => exact ⟨k + 1, by omega, by go_num, HR.out⟩
          case measure => simp [intOf]; omega
      · obtain rfl : k = s.size := by omega
        have HZ := hide (show Spl.codeSP s = if Spl.longN (Spl.names s) = true then 12 else 0 from by
          rw [HC.out, if_neg]
          intro h
          obtain ⟨j, hj, he⟩ := (Spl.zeroIn_iff s).1 h
          exact HA.out j hj he)
        clear HA
        go_wp2_with (go_at_call 28; fail)
        refine (specCut_any s _ (by omega)).mono ?_
        rintro e w1 ⟨v1, rfl, o1, b1⟩
        have H1 := hide (And.intro o1 b1)
        have hnl := Spl.names_len s
        clear o1 b1
        go_wp2_with fail
        refine (specLong_any v1 (Spl.names s) _ (RdS.own H1.out.1) (by omega)).mono ?_
        rintro e w2 ⟨rfl, hw2⟩
        rw [hw2]
        clear hw2
        cases hlg : Spl.longN (Spl.names s) with
        | true =>
          have HR := hide (show Spl.codeSP s = 12 from by rw [HZ.out, if_pos hlg])
          clear hlg
          go_wp2
          go_ret2
          exact SpQ.no HR.out (by decide) H1.out.2
        | false =>
          have HR := hide (show Spl.codeSP s = 0 from by rw [HZ.out, if_neg (by rw [hlg]; decide)])
          clear hlg
          go_wp2
          go_ret2
          exact ⟨_, by rw [HR.out]; rfl, by rw [names_told HR.out]; exact H1.out.1, H1.out.2⟩
  · have hq : ((s[0].toNat : Int) != 47) = true := by have := mt (get_at_k s 0 hp0).2 h47; simp; omega
    have HC := hide (show Spl.codeSP s = 7 from by simp [Spl.codeSP, h0, h512, h47])
    clear h47
    go_enter Try.func14, Try.ntmps14
    go_wp2
    go_ret2
    exact SpQ.no HC.out (by decide) (Below.refl _ _)

theorem isSlash_any (x : Nat) (w : World) (hx : x ≤ 1114111) : Calls Try.prog 38 #[.int .i32 (x : Int)] w fun e w' => e = .returned (.bool (Spl.isSl x)) ∧ w' = w := by
  go_enter Try.func38, Try.ntmps38
  go_wp2
  go_ret
  refine ⟨ret_bool ?_, rfl⟩
  unfold Spl.isSl
  cases h : (x == 47) with
  | true => simp at h; subst h; rfl
  | false => simp at h; simp; omega
theorem slash_pred (w : World) : PredGrows Try.prog 38 #[] Spl.isSl w := fun W x hx hb => (isSlash_any x W hx).mono fun e w' h => ⟨h.1, by rw [h.2]; exact Below.refl _ _⟩
theorem implFields_any (s : ByteArray) (w : World) (hs : s.size ≤ 512) :
    Calls Try.prog 37 #[.string s, .func (.func 38) #[] #[]] w fun e w' => ∃ v, e = .returned v ∧ w'.ownsRow w.heap.size 9 1 v (Spl.names s).length ((Spl.names s).map Value.string) ∧ Below w.heap.size w w' := by
  refine (strings_FieldsFunc_grows 38 #[] (enters_of Try.func38 (by kernel_rfl) rfl) Spl.isSl s w (by omega) (slash_pred w)).mono ?_
  rintro e w' ⟨A, rfl, hA, ho, hb⟩
  rw [Spl.fields_names] at ho ⊢
  exact ⟨_, rfl, ho, hb⟩

def codeCN (L : List ByteArray) : Int := if Spl.longN L = true then 12 else 0
def namesCN (L : List ByteArray) : List ByteArray := if Spl.longN L = true then [] else L
theorem cn_yes {L : List ByteArray} (h : Spl.longN L = true) : codeCN L = 12 ∧ namesCN L = [] := by simp [codeCN, namesCN, h]
theorem cn_no {L : List ByteArray} (h : Spl.longN L = false) : codeCN L = 0 ∧ namesCN L = L := by simp [codeCN, namesCN, h]
theorem implCutNames_any (s : ByteArray) (w : World) (hs : s.size ≤ 512) :
    Calls Try.prog 31 #[.string s] w fun e w' => ∃ v, e = .returned (.tuple #[v, .int .i64 (codeCN (Spl.names s))]) ∧ w'.ownsRow w.heap.size 9 1 v (namesCN (Spl.names s)).length ((namesCN (Spl.names s)).map Value.string) ∧ Below w.heap.size w w' := by
  have hnl := Spl.names_len s
  go_enter Try.func31, Try.ntmps31
  go_wp2_with (go_at_call 37; fail)
  refine (implFields_any s _ hs).mono ?_
  rintro e w1 ⟨v1, rfl, o1, b1⟩
  have H1 := hide (And.intro o1 b1)
  have hR := RdS.own o1
  clear o1 b1
  generalize hL : Spl.names s = L at H1 hR hnl
  have HL0 := hide hL
  clear hL
  obtain ⟨a, cap, rfl, hc1, hc2, hcell⟩ := hR
  have hcap : cap ≤ 9223372036854775807 := hc2
  have HC := hide hcell
  clear hc2 hcell
  by_cases h40 : 40 < L.length
  · have HR := hide (cn_yes (show Spl.longN L = true from by simp [Spl.longN, h40]))
    go_wp2_with fail
    go_ret2
    exact ⟨_, by rw [HL0.out, HR.out.1]; rfl, by rw [HL0.out, HR.out.2]; exact ⟨rfl, Or.inl ⟨rfl, rfl⟩⟩, H1.out.2⟩
  · go_wp2_with fail
    go_loop [14] (fun i => ∃ k : Nat, k ≤ L.length ∧ i = .int .i64 k ∧ ∀ j, j < k → ¬ 26 < (L.getD j ⟨#[]⟩).size) (fun i => L.length - (intOf i).toNat)
    case atStart => exact ⟨0, by omega, rfl, fun j hj => by omega⟩
    case round =>
      obtain ⟨k, hk, rfl, hall⟩ := hrel
      have HA := hide hall
      clear hall
      by_cases hlt : k < L.length
      · obtain ⟨b, rfl, hbw, hcc⟩ := HC.out (by omega)
        have c0 := hcc k hlt
        have HL := hide (longN_yes L k hlt)
        have HM := hide (show ¬ 26 < (L.getD k ⟨#[]⟩).size → ∀ j, j < k + 1 → ¬ 26 < (L.getD j ⟨#[]⟩).size from fun h j hj => by rcases Nat.lt_succ_iff_lt_or_eq.1 hj with h1 | h1; exact HA.out j h1; subst h1; exact h)
        generalize L.getD k ⟨#[]⟩ = x at c0 HL HM
        clear hcc
        by_cases h26 : 26 < x.size
        · have HR := hide (cn_yes (HL.out h26))
          go_wp2
          go_ret2
          exact ⟨_, by rw [HL0.out, HR.out.1]; rfl, by rw [HL0.out, HR.out.2]; exact ⟨rfl, Or.inl ⟨rfl, rfl⟩⟩, H1.out.2⟩
        · have HR := hide (HM.out h26)
          go_wp2
          go_round
          case rel => exact ⟨k + 1, by omega, by go_num, HR.out⟩
          case measure => simp [intOf]; omega
      · obtain rfl : k = L.length := by omega
        have HR := hide (cn_no (longN_no L h40 HA.out))
        go_wp2
        go_ret2
        exact ⟨_, by rw [HL0.out, HR.out.1]; rfl, by rw [HL0.out, HR.out.2]; exact H1.out.1, H1.out.2⟩

theorem implSplit_any (s : ByteArray) (w : World) (hm : s.size ≤ 9223372036854775807) :
    Calls Try.prog 15 #[.string s] w (SpQ s w) := by
  by_cases h0 : s.size = 0
  · have he : s.toList.isEmpty = true := by rw [isEmpty_size]; simp [h0]
    have HC := hide (show Spl.codeSP s = 7 from by simp [Spl.codeSP, h0])
    clear h0
    go_enter Try.func15, Try.ntmps15
    go_wp2
    go_ret2
    exact SpQ.no HC.out (by decide) (Below.refl _ _)
  have he : s.toList.isEmpty = false := by rw [isEmpty_size]; simp [h0]
  by_cases h512 : 512 < s.size
  · have HC := hide (show Spl.codeSP s = 12 from by simp [Spl.codeSP, h0, h512])
    go_enter Try.func15, Try.ntmps15
    go_wp2
    go_ret2
    exact SpQ.no HC.out (by decide) (Below.refl _ _)
  have hp0 : 0 < s.size := by omega
  by_cases h47 : s.get! 0 = 47
  · have hq : ((s[0].toNat : Int) != 47) = false := by have := (get_at_k s 0 hp0).1 h47; simp [this]
    have HC := hide (show Spl.codeSP s = if Spl.zeroIn s = true then 7 else if Spl.longN (Spl.names s) = true then 12 else 0 from by simp [Spl.codeSP, h0, h512, h47])
    have HD := hide (show decide (0 ≤ Lib.indexByte s.data.toList 0) = Spl.zeroIn s from (Lib.contains_iff_indexByte s.data.toList 0).symm)
    clear h47
    cases hz : Spl.zeroIn s with
    | true =>
      have HR := hide (show Spl.codeSP s = 7 from by rw [HC.out, if_pos hz])
      have HZ := hide (HD.out.trans hz)
      clear hz HD HC
      go_enter Try.func15, Try.ntmps15
      go_wp2_with (go_at_call 30; refine (strings_Contains_one s 0 _).mono ?_; rintro e w1 ⟨rfl, hw1⟩; rw [HZ.out, hw1]; clear hw1)
      go_ret2
      exact SpQ.no HR.out (by decide) (Below.refl _ _)
    | false =>
      have HR := hide (show Spl.codeSP s = codeCN (Spl.names s) from by rw [HC.out, if_neg (by rw [hz]; decide)]; rfl)
      have HZ := hide (HD.out.trans hz)
      clear hz HD HC
      go_enter Try.func15, Try.ntmps15
      go_wp2_with (first
        | (go_at_call 30; refine (strings_Contains_one s 0 _).mono ?_; rintro e w1 ⟨rfl, hw1⟩; rw [HZ.out, hw1]; clear hw1)
        | (go_at_call 31; refine (implCutNames_any s _ (by omega)).mono ?_; rintro e w2 ⟨v2, rfl, o2, b2⟩; have H2 := hide (And.intro o2 b2); clear o2 b2))
      go_ret2
      refine ⟨_, by rw [HR.out]; rfl, ?_, H2.out.2⟩
      cases hlg : Spl.longN (Spl.names s) with
      | true =>
        have h := H2.out.1
        rw [(cn_yes hlg).2] at h
        rw [names_refused (c := 12) (by rw [HR.out, (cn_yes hlg).1]) (by decide)]
        exact h
      | false =>
        have h := H2.out.1
        rw [(cn_no hlg).2] at h
        rw [names_told (by rw [HR.out, (cn_no hlg).1])]
        exact h
  · have hq : ((s[0].toNat : Int) != 47) = true := by have := mt (get_at_k s 0 hp0).2 h47; simp; omega
    have HC := hide (show Spl.codeSP s = 7 from by simp [Spl.codeSP, h0, h512, h47])
    clear h47
    go_enter Try.func15, Try.ntmps15
    go_wp2
    go_ret2
    exact SpQ.no HC.out (by decide) (Below.refl _ _)
end Go.Proofs.Ytdkdmakjkodomaa
