/- take at no bytes and at less than none; zeros and end. Structs and arrays of integers by value: a copy of twelve, a copy of a root. A copy of a root: toRoot. -/
import Derived.Test.YtfkmnmopkblopaaDoorZk05
import Derived.Test.YtfkmnmopkblopaaDoorZk01
import Derived.Test.YtfkmnmopkblopaaDoorRows
import Derived.Test.YtfkmnmopkblopaaDoorZk06
import Derived.WalkLawsBesides
import Derived.Deep.MidRow
import Derived.Deep.WholeRow
import Derived.Laws.CopyOwn
namespace Go.Proofs.YtfkmnmopkblopaaDoor
set_option linter.unnecessarySimpa false
open Go.RowKit

set_option maxRecDepth 100000 in
set_option maxHeartbeats 1000000 in
theorem take_zero (w0 w : World) (b lo : Nat) (ok : Bool) (dv : Value) (zs : List Int) (pos : Nat) (h : Rdr w0 w b lo ok dv zs pos) (hp : 0 < pos) (hz : zs.length ≤ 140737488355328) :
    Calls Tryd.prog 65 #[.pointer (some ⟨b, 0, none⟩), .int .i64 0] w fun e w' => ∃ sv, e = .returned sv ∧ Took w0 w w' b lo ok dv zs pos 0 sv := by
  have hd := h.data
  have ha := h.at_
  have hl := h.le
  have hlt := h.ck.lt
  obtain ⟨bd, off, cap, rfl, hbd, hcl, hcm, hcell⟩ := h.read.partsC (by omega)
  have HP := hide (And.intro hcell hbd)
  have H := hide h
  unfold maxLen at hcm
  clear h hcell
  have HQ := hide (show decide ((0 : Int) ≤ IntKind.i64.wrap ((zs.length : Int) - (pos : Int))) = true from by rw [IntKind.wrap_i64]; simp; omega)
  go_enter Tryd.func65, Tryd.ntmps65
  go_wp2
  go_region_held (fun w' => w'.cell? ⟨b, 2, none⟩ = some (.slice (some ⟨bd, off, none⟩) zs.length cap) ∧ w'.cell? ⟨b, 3, none⟩ = some (.int .i64 pos)) (go_keep) ((go_at_call 47; refine (need_any b lo _ 21 ok (decide ((0 : Int) ≤ IntKind.i64.wrap ((zs.length : Int) - (pos : Int)))) _ (H.out.ck.below ((Below.refl _ _).drew)) H.out.lo1 H.out.lo2).mono ?_; rintro e w1 ⟨rfl, hc1, ht1⟩; have hd1 := (ht1.2.1 2 (by omega)).trans hd; have ha1 := (ht1.2.1 3 (by omega)).trans ha))
  rw [HQ.out, Bool.and_true] at hc1
  have ht1' : Tch b w w1 := (Tch.of_below hlt ((Below.refl _ _).drew)).trans ht1
  have R1 := hide (H.out.tch hc1 ht1')
  have G1 := hide ht1'.1
  have hf1 := R1.out.fr
  obtain ⟨c1, c2, ev, c3, c4⟩ := hc1
  clear ht1 ht1'
  rcases c4 with ⟨rfl, rfl⟩ | ⟨rfl, m, c4⟩
  · have k2 : (w1.setCell ⟨b, 3, none⟩ (.int .i64 (pos : Int))).cell? ⟨b, 2, none⟩ = some (.slice (some ⟨bd, off, none⟩) zs.length cap) := by
      rw [World.cell?_setCell_other _ _ _ _ (by intro e; injection e with e1 e2; omega)]; exact hd1
    have k3 : (w1.setCell ⟨b, 3, none⟩ (.int .i64 (pos : Int))).cell? ⟨b, 3, none⟩ = some (.int .i64 (pos : Int)) := World.cell?_setCell_same _ _ _ ha1
    go_wp2
    go_quiet (fail)
    go_wp2
    all_goals
      go_ret
      refine ⟨_, rfl, ?_, .inl ⟨rfl, by omega, by omega, ?_, ?_⟩⟩
      · exact ⟨G1.out.os, G1.out.tape, G1.out.output, by simpa using G1.out.size, fun k hk hne => (Below.heap_setCell w1 ⟨b, 3, none⟩ _ k (fun e => hne (by rw [e]))).trans (G1.out.block k hk hne)⟩
      · exact ⟨_, _, rfl, by simp, fun h => absurd (by simp) h, by simp, by unfold maxLen; omega⟩
      · have hm := R1.out.moved pos nq (by omega) (.int .i64 (pos : Int)) rfl
        first | exact hm | (simp [*]; done) | simpa [*] using hm
  · obtain ⟨t', x', rfl⟩ := c4.iface
    clear c4
    go_wp2
    go_ret
    exact ⟨_, rfl, G1.out, .inr ⟨fun h => (by cases h.1), rfl, R1.out⟩⟩

theorem take_nn (w0 w : World) (b lo : Nat) (ok : Bool) (dv : Value) (zs : List Int) (pos n : Nat) (x : Int) (hx : x = n) (h : Rdr w0 w b lo ok dv zs pos) (hn0 : 0 < n ∨ 0 < pos) (hn : n ≤ 4294967296) (hz : zs.length ≤ 140737488355328) :
    Calls Tryd.prog 65 #[.pointer (some ⟨b, 0, none⟩), .int .i64 x] w fun e w' => ∃ sv, e = .returned sv ∧ Took w0 w w' b lo ok dv zs pos n sv := by
  subst hx
  by_cases h0 : 0 < n
  · exact take_any w0 w b lo ok dv zs pos n h h0 hn hz
  · have e0 : n = 0 := by omega
    subst e0
    exact take_zero w0 w b lo ok dv zs pos h (by omega) hz

/-- What zeros leaves: a reader at the place told, with a fault where a byte up to there isn't 0; or a fault at once. -/
def Zd (w0 w w' : World) (b lo : Nat) (ok : Bool) (dv : Value) (zs : List Int) (pos at_ : Nat) : Prop :=
  w.grownBy w' (some b) ∧ ((ok = true ∧ at_ ≤ zs.length ∧ Rdr w0 w' b lo (((zs.drop pos).take (at_ - pos)).all (fun z => decide (z = 0))) dv zs at_) ∨ (¬ (ok = true ∧ at_ ≤ zs.length) ∧ Rdr w0 w' b lo false dv zs pos))

theorem all_take0 (ts : List Int) (k : Nat) (h : k < ts.length) : (ts.take (k + 1)).all (fun z => decide (z = 0)) = ((ts.take k).all (fun z => decide (z = 0)) && decide (ts.getD k 0 = 0)) := by
  rw [List.take_succ_eq_append_getElem h, List.all_append]
  simp [List.getD, h]

set_option maxRecDepth 100000 in
set_option maxHeartbeats 1000000 in
theorem zeros_any (w0 w : World) (b lo : Nat) (ok : Bool) (dv : Value) (zs : List Int) (pos at_ : Nat) (h : Rdr w0 w b lo ok dv zs pos) (hp : pos ≤ at_) (hn0 : 0 < at_) (hn : at_ ≤ 4294967296) (hz : zs.length ≤ 140737488355328) :
    Calls Tryd.prog 52 #[.pointer (some ⟨b, 0, none⟩), .int .i64 at_] w fun e w' => e = .returned (.tuple #[]) ∧ Zd w0 w w' b lo ok dv zs pos at_ := by
  have ha := h.at_
  have H := hide h
  clear h
  go_enter Tryd.func52, Tryd.ntmps52
  go_wp2_with fail
  refine (take_nn w0 _ b lo ok dv zs pos (at_ - pos) _ (by go_num) H.out (by omega) (by omega) hz).mono ?_
  rintro e w1 ⟨sv, rfl, hg, ht⟩
  rcases ht with ⟨hok, _, hle, hrd, hr⟩ | ⟨hno, rfl, hr⟩
  · rw [Int.toNat_natCast] at hrd hr
    rw [show pos + (at_ - pos) = at_ from by omega] at hr
    have hlen : ((zs.drop pos).take (at_ - pos)).length = at_ - pos := by simp; omega
    have HE := hide (show ∀ w2, w1.grownBy w2 (some b) → Rdr w0 w2 b lo (((zs.drop pos).take (at_ - pos)).all (fun z => decide (z = 0))) dv zs at_ → Zd w0 w w2 b lo ok dv zs pos at_ from
      fun w2 g2 r2 => ⟨grownBy_trans hg g2, .inl ⟨hok, by omega, r2⟩⟩)
    generalize (zs.drop pos).take (at_ - pos) = ts at hrd hlen HE
    generalize at_ - pos = m at hlen
    have HR := hide hr
    clear hg hok hle ha H hp hn0 hn
    subst hlen
    obtain ⟨a, cap, rfl, hm, hc, _⟩ := hrd
    have HC := hide hc
    clear hc
    unfold maxLen at hm
    clear hr
    go_wp2
    go_loopw [5, 15] (fun _ i wr => ∃ k : Nat, k ≤ ts.length ∧ i = .int .i64 k ∧ w1.grownBy wr (some b) ∧ Rdr w0 wr b lo ((ts.take k).all (fun z => decide (z = 0))) dv zs at_) (fun _ i _ => ts.length - (intOf i).toNat)
    case atStart => exact ⟨0, by omega, rfl, World.grownBy.refl _ _, HR.out⟩
    case round =>
      obtain ⟨k, hk, rfl, hgr, hrr⟩ := hrel
      have HK := hide (And.intro hgr hrr)
      clear hgr hrr HR
      by_cases hlt : k < ts.length
      · obtain ⟨bd, off, rfl, hbd, hcell⟩ := HC.out (fun e => by rw [e] at hlt; simp at hlt)
        have c1 : wr.cell? ⟨bd, off + k, none⟩ = some (.int .u8 (ts.getD k 0)) := (HK.out.2.old.cell (p := ⟨bd, off + k, none⟩) (by rw [← HK.out.2.size]; exact hbd)).trans (hcell k hlt)
        have HT := hide (all_take0 ts k hlt)
        clear hcell HC hbd
        generalize ts.getD k 0 = z at c1 HT
        go_wp2_with (go_at_call 47; fail)
        refine (need_any b lo _ 21 _ _ _ HK.out.2.ck HK.out.2.lo1 HK.out.2.lo2).mono ?_
        rintro e w2 ⟨rfl, hc2, ht2⟩
        have HW := hide (show w1.grownBy w2 (some b) ∧ Rdr w0 w2 b lo ((ts.take (k + 1)).all (fun z => decide (z = 0))) dv zs at_ from by
          rw [HT.out]
          exact ⟨grownBy_trans HK.out.1 ht2.1, HK.out.2.tch hc2 ht2⟩)
        clear hc2 ht2 c1
        go_wp2
        go_roundw
        case rel => exact ⟨k + 1, by omega, by go_num, HW.out.1, HW.out.2⟩
        case measure => simp [intOf]; omega
      · have ek : k = ts.length := by omega
        subst ek
        have HF := hide (HE.out wr HK.out.1 (by have h2 := HK.out.2; rw [List.take_of_length_le (Nat.le_refl _)] at h2; exact h2))
        clear hlt
        go_wp2
        go_end0
        exact ⟨rfl, HF.out⟩
  · have HE := hide (show Zd w0 w w1 b lo ok dv zs pos at_ from ⟨hg, .inr ⟨fun h => hno ⟨h.1, by omega, by omega⟩, hr⟩⟩)
    clear hr hg hno ha H
    go_wp2
    refine wp_loop_rounds 1 ?_
    rw [rounds_succ]
    go_wp2
    go_end0
    exact ⟨rfl, HE.out⟩

/-- What end leaves: no fault where none was, the bytes up to the place told are 0 and nothing lies behind it. -/
def Ed (w0 w w' : World) (b lo : Nat) (ok : Bool) (dv : Value) (zs : List Int) (pos at_ : Nat) : Prop :=
  w.grownBy w' (some b) ∧ ∃ p, Rdr w0 w' b lo (ok && (((zs.drop pos).take (at_ - pos)).all (fun z => decide (z = 0)) && decide (zs.length = at_))) dv zs p

set_option maxRecDepth 100000 in
set_option maxHeartbeats 1000000 in
theorem end_any (w0 w : World) (b lo : Nat) (ok : Bool) (dv : Value) (zs : List Int) (pos at_ : Nat) (h : Rdr w0 w b lo ok dv zs pos) (hp : pos ≤ at_) (hn0 : 0 < at_) (hn : at_ ≤ 4294967296) (hz : zs.length ≤ 140737488355328) :
    Calls Tryd.prog 31 #[.pointer (some ⟨b, 0, none⟩), .int .i64 at_] w fun e w' => e = .returned (.tuple #[]) ∧ Ed w0 w w' b lo ok dv zs pos at_ := by
  have H := hide h
  obtain ⟨a, cap, rfl⟩ : ∃ a cap, dv = .slice a zs.length cap := by obtain ⟨a, cap, h1, _⟩ := h.rd; exact ⟨a, cap, h1⟩
  clear h
  go_enter Tryd.func31, Tryd.ntmps31
  go_wp2_with fail
  refine (zeros_any w0 _ b lo ok _ zs pos at_ H.out hp hn0 hn hz).mono ?_
  rintro e w1 ⟨rfl, hg, hzd⟩
  obtain ⟨ok1, p1, hr, HE⟩ : ∃ ok1 p1, Rdr w0 w1 b lo ok1 (.slice a zs.length cap) zs p1 ∧ Hid ((ok1 && decide ((p1 : Int) = (zs.length : Int))) = (ok && (((zs.drop pos).take (at_ - pos)).all (fun z => decide (z = 0)) && decide (zs.length = at_)))) := by
    rcases hzd with ⟨rfl, hle, hr⟩ | ⟨hno, hr⟩
    · refine ⟨_, _, hr, ?_⟩
      show _ = _
      rw [Bool.true_and]
      congr 1
      rw [decide_eq_decide]
      omega
    · refine ⟨_, _, hr, ?_⟩
      show _ = _
      rw [Bool.false_and]
      cases ok with
      | false => rfl
      | true =>
        have : ¬ zs.length = at_ := fun e => hno ⟨rfl, by omega⟩
        simp [this]
  have HR := hide hr
  have HG := hide hg
  have hd1 := hr.data
  have ha1 := hr.at_
  have hlt1 := hr.ck.lt
  clear hr hg hzd H
  go_wp2
  go_region_held (fun w' => w'.cell? ⟨b, 2, none⟩ = some (.slice a zs.length cap) ∧ w'.cell? ⟨b, 3, none⟩ = some (.int .i64 p1)) (go_keep) ((go_at_call 47; refine (need_any b lo _ 21 ok1 _ _ (HR.out.ck.below ((Below.refl _ _).drew)) HR.out.lo1 HR.out.lo2).mono ?_; rintro e w2 ⟨rfl, hc2, ht2⟩; have hd2 := (ht2.2.1 2 (by omega)).trans hd1; have ha2 := (ht2.2.1 3 (by omega)).trans ha1))
  have ht2' : Tch b w1 w2 := (Tch.of_below hlt1 ((Below.refl _ _).drew)).trans ht2
  have HW := hide (show Ed w0 w w2 b lo ok (.slice a zs.length cap) zs pos at_ from by
    refine ⟨grownBy_trans HG.out ht2'.1, p1, ?_⟩
    rw [← HE]
    exact HR.out.tch hc2 ht2')
  clear hc2 ht2 ht2' hd2 ha2
  go_wp2
  go_end0
  exact ⟨rfl, HW.out⟩
end Go.Proofs.YtfkmnmopkblopaaDoor

namespace Go.Proofs.YtfkmnmopkblopaaDoor
set_option linter.unusedVariables false
set_option linter.unusedSimpArgs false
open Go.RowKit

theorem info12 : (Tryd.prog.info? 23).map (·.size) = some 12 := by kernel_rfl
theorem info15 : (Tryd.prog.info? 25).map (·.size) = some 15 := by kernel_rfl

end Go.Proofs.YtfkmnmopkblopaaDoor

namespace Go.Proofs.YtfkmnmopkblopaaDoor
set_option linter.unusedVariables false
set_option linter.unusedSimpArgs false
open Go.RowKit

/-- The fifteen integers of a root. -/
def rootI (s : Int) (ds : List Int) (p q : Int) : List Int := s :: (ds ++ [p, q])
theorem rootI_len (s : Int) (ds : List Int) (p q : Int) (hd : ds.length = 12) : (rootI s ds p q).length = 15 := by simp [rootI, hd]
theorem rootI_get13 (s : Int) (ds : List Int) (p q : Int) (hd : ds.length = 12) : (cellsI (rootI s ds p q))[13]? = some (.int .i64 p) := by
  rw [cellsI_get _ _ (by rw [rootI_len s ds p q hd]; omega)]
  match ds, hd with | [_, _, _, _, _, _, _, _, _, _, _, _], _ => rfl
theorem rootI_get14 (s : Int) (ds : List Int) (p q : Int) (hd : ds.length = 12) : (cellsI (rootI s ds p q))[14]? = some (.int .i64 q) := by
  rw [cellsI_get _ _ (by rw [rootI_len s ds p q hd]; omega)]
  match ds, hd with | [_, _, _, _, _, _, _, _, _, _, _, _], _ => rfl
theorem root_build (s : Int) (ds : List Int) (p q : Int) (hd : ds.length = 12) : ((over (s :: List.replicate 14 0) 1 ds).set 13 p).set 14 q = rootI s ds p q := by
  match ds, hd with | [_, _, _, _, _, _, _, _, _, _, _, _], _ => rfl
theorem root_range (s : Int) (ds : List Int) (p q : Int) (hd : ds.length = 12) : ((rootI s ds p q).drop 1).take 12 = ds := by
  match ds, hd with | [_, _, _, _, _, _, _, _, _, _, _, _], _ => rfl

theorem over_at {w2 : World} {b : Nat} {t : TypeId} (s : Int) (ds : List Int) (hd : ds.length = 12) (h : Blk w2 b (cellsI (over (s :: List.replicate 14 0) 1 ds)) t) (k : Nat) (hk : k < 15) : ∃ u, w2.cell? ⟨b, k, none⟩ = some u := by
  rw [h.cell k]
  exact ⟨_, Array.getElem?_eq_getElem (by rw [cellsI_size, over_len _ _ _ (by simp [hd])]; simpa using hk)⟩

end Go.Proofs.YtfkmnmopkblopaaDoor
